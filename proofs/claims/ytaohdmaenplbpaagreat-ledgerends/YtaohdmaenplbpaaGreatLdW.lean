import Derived.Test.YtaohdmaenplbpaaGreatLdP
import Derived.Deep.RegionHeld
set_option linter.all false
namespace Go.Proofs.YtaohdmaenplbpaaGreat
open Go.RowKit Go.QK Quota Go.Maps Go.QM
set_option maxRecDepth 100000

theorem any_run {P : Program} {t k e : TypeId} (K : Keyed P k) (ht : P.underlying t = some (.map k e)) {z : Value} (hz : ∀ u : World, (zeroValue e).run P u = .ok z u) {w : World} {m : Nat} {L : Prs Value} (h : AnyAt P k w m L) {x : Int} (hk : keyOf P k (.int .i64 x) = some (.int .i64 x)) :
    (Instr.lookup t (.map (some m)) (.int .i64 x) false).run P w = .ok ((getM L x).getD z) w := by
  obtain ⟨v, ps, hrun, hv⟩ := World.ownsMap.lookup h K ht (hz w) (show anyElem z = some (.held z, []) from rfl) hk
  rw [any_look hv] at hrun
  exact hrun
theorem getC (l : Led) (id : Int) : getM l.ctrs id = (getM l.K id).map Lm.c := getM_map Lm.c l.K id
theorem there_of {C : Ctrs} {id : Int} {c : Ctr} (h : getM C id = some c) : thereG C c.grp = true := by
  unfold thereG
  rw [List.any_eq_true]
  exact ⟨_, getM_mem h, by simp⟩
/-- The sum without a net lies in the worst case without it. -/
theorem without_sum (C : Ctrs) {id : Int} {c : Ctr} (hu : Up C) (hc : getM C id = some c) (ok : c.e.Ok) (tx : Int) :
    lowG C c.grp - neg0 (netV c.e.nets tx) ≤ sumG C c.grp - netV c.e.nets tx ∧ sumG C c.grp - netV c.e.nets tx ≤ highG C c.grp - pos0 (netV c.e.nets tx) := by
  have t0 := turn_sum hu hc (relN c.e tx) c.grp
  have t1 := turn_low hu hc (relN c.e tx) c.grp
  have t2 := turn_high hu hc (relN c.e tx) c.grp
  rw [if_pos rfl] at t0 t1 t2
  have key : (relN c.e tx).low = c.e.low - neg0 (netV c.e.nets tx) ∧ (relN c.e tx).high = c.e.high - pos0 (netV c.e.nets tx) ∧ (relN c.e tx).val = c.e.val - netV c.e.nets tx := by
    cases q : holdB c.e.nets tx
    · have e0 : netV c.e.nets tx = 0 := netV_none (holdB_false q)
      rw [relN_no q, e0]
      simp [neg0, pos0]
    · exact ⟨(relN_low ok q).1, (relN_low ok q).2, rel_val ok q⟩
  have hb := sumG_in (putM id ⟨c.grp, relN c.e tx⟩ C) c.grp
  rw [t0, t1, t2, key.1, key.2.1, key.2.2] at hb
  omega
theorem mayL_mv {C : Ctrs} {id tx d : Int} {c : Ctr} (ht : ¬ (tx < 1 ∨ 2147483647 < tx)) (hc : getM C id = some c) (h : mayE c.e tx d = 0) : mayL C tx id d = mvE (lowG C c.grp) (highG C c.grp) (netV c.e.nets tx) (netV c.e.nets tx + d) := by
  unfold mayL
  rw [if_neg ht, hc]
  simp only
  rw [if_pos h]
  unfold mvE shE mLow mHigh neg0 pos0
  have e1 : lowG C c.grp + (c.e.low - min (netV c.e.nets tx) 0 + min (netV c.e.nets tx + d) 0) - c.e.low = lowG C c.grp - min (netV c.e.nets tx) 0 + min (netV c.e.nets tx + d) 0 := by omega
  have e2 : highG C c.grp + (c.e.high - max (netV c.e.nets tx) 0 + max (netV c.e.nets tx + d) 0) - c.e.high = highG C c.grp - max (netV c.e.nets tx) 0 + max (netV c.e.nets tx + d) 0 := by omega
  rw [e1, e2]
/-- What the group comes to behind the delta. -/
def wgV (l : Led) (tx id d : Int) : Value :=
  match getM l.K id with
  | none => tot 0 0 0
  | some x => if (tx < 1 ∨ 2147483647 < tx) ∨ mayE x.c.e tx d ≠ 0 then tot 0 0 0 else mvV (sumG l.ctrs x.c.grp) (lowG l.ctrs x.c.grp) (highG l.ctrs x.c.grp) (netV x.c.e.nets tx) (netV x.c.e.nets tx + d)

set_option maxHeartbeats 4000000 in
theorem weighL_any (lab : Nat → Nat) (B : Nat) (l : Led) (tx id d : Int) (w : World) (h : PL lab B w l) (hx : I64 tx) (hi : I64 id) (hd : I64 d) :
    Calls Tryz.prog 62 #[ptr l.lb, .int .i64 tx, .int .i64 id, .int .i64 d] w fun r w' => r = .returned (.tuple #[wgV l tx id d, .int .i64 (mayL l.ctrs tx id d)]) ∧ Below w.heap.size w w' := by
  by_cases ht : tx < 1 ∨ 2147483647 < tx
  · have e1 : mayL l.ctrs tx id d = 130 := by unfold mayL; rw [if_pos ht]
    have e2 : wgV l tx id d = tot 0 0 0 := by
      unfold wgV
      cases getM l.K id with
      | none => rfl
      | some x => simp only; rw [if_pos (.inl ht)]
    rw [e1, e2]
    clear e1 e2 h
    by_cases hx : tx < 1
    · clear ht
      go_enter Tryz.func62, Tryz.ntmps62
      go_wp2_with fail
      refine bodyPost_ret (v := .tuple #[tot 0 0 0, .int .i64 130]) (by simp [results, Tryz.results62, go_sem]) rfl ⟨rfl, alloc_below _ _⟩
    · have hy : 2147483647 < tx := by omega
      clear ht
      go_enter Tryz.func62, Tryz.ntmps62
      go_wp2_with fail
      refine bodyPost_ret (v := .tuple #[tot 0 0 0, .int .i64 130]) (by simp [results, Tryz.results62, go_sem]) rfl ⟨rfl, alloc_below _ _⟩
  · have t1 : ¬ tx < 1 := fun q => ht (.inl q)
    have t2 : ¬ 2147483647 < tx := fun q => ht (.inr q)
    obtain ⟨k1, k1f⟩ := h.box.get 0 _ rfl
    have hlt := h.box.1
    have hm := h.cm
    have hat : getM (l.K.map (fun p => (p.1, entV p.2))) id = (getM l.K id).map entV := getM_mapV entV l.K id
    unfold AnyAt at hm
    have a0 := alloc_below w (.cells #[.int .i64 0, .int .i64 0, .int .i64 0] 125)
    have hm1 := World.ownsMap.alloc hm (.cells #[.int .i64 0, .int .i64 0, .int .i64 0] 125)
    have k2 := (a0.cell (p := ⟨l.lb, 0, none⟩) hlt).trans k1
    clear hm k1 k1f
    cases hk : getM l.K id with
    | none =>
      have e1 : mayL l.ctrs tx id d = 120 := by unfold mayL; rw [if_neg ht, getC, hk]; rfl
      have e2 : wgV l tx id d = tot 0 0 0 := by unfold wgV; rw [hk]
      rw [e1, e2]
      have HG := hide hk
      have HA := hide hat
      clear hat hk h e1 e2 ht
      go_enter Tryz.func62, Tryz.ntmps62
      go_wp2_with (at_lookup; refine wpList_lookup_own_ok _ rfl _ _ 104 rfl 3 110 lawK Tryz.underlying104 anyElem (zeroE _) (.held (.agg #[.int .i64 0, .pointer none])) [] rfl l.mc _ _ rfl hm1 _ _ rfl (keyI hi) ?_; intro v ps hv; obtain rfl := any_look hv; rw [mapE_has, hasM_get, HA.out, HG.out]; simp only [Option.map_none, Option.getD_none, Option.isSome_none])
      refine bodyPost_ret (v := .tuple #[tot 0 0 0, .int .i64 120]) (by simp [results, Tryz.results62, go_sem]) rfl ⟨rfl, ?_⟩
      exact (alloc_below _ _).alloc (by simp) _
    | some x =>
      have hcc : getM l.ctrs id = some x.c := by rw [getC, hk]; rfl
      have hp := h.esc _ (getM_mem hk)
      simp only at hp
      have KY := fun w' (h : PE w' x.b x.m x.c.e) => may_any x.b x.m x.c.e tx d w' h hx hd
      have KN := fun w' (h : PE w' x.b x.m x.c.e) => net_any x.b x.m x.c.e tx w' h hx
      have HP := hide hp
      have HPL := hide h
      have HG := hide hk
      have HA := hide hat
      by_cases hz : mayE x.c.e tx d = 0
      · have e1 : mayL l.ctrs tx id d = mvE (lowG l.ctrs x.c.grp) (highG l.ctrs x.c.grp) (netV x.c.e.nets tx) (netV x.c.e.nets tx + d) := mayL_mv ht hcc hz
        have e2 : wgV l tx id d = mvV (sumG l.ctrs x.c.grp) (lowG l.ctrs x.c.grp) (highG l.ctrs x.c.grp) (netV x.c.e.nets tx) (netV x.c.e.nets tx + d) := by unfold wgV; rw [hk]; simp only; rw [if_neg (by rintro (q | q); exact ht q; exact q hz)]
        rw [e1, e2]
        have okE := h.ok.all _ (getM_mem hcc)
        have wi := without_in l.ctrs h.ok.up hcc okE tx
        have ws := without_sum l.ctrs h.ok.up hcc okE tx
        have gl := h.ok.lo x.c.grp
        have gh := h.ok.hi x.c.grp
        have hn := (mayE_zero hz).2.2.2.2
        have hgI : I64 x.c.grp := by have := (h.ok.ids _ (getM_mem hcc)).2; unfold I64; simp only at this; omega
        have HAT := hide (show (getM (l.G.map (fun p => (p.1, totV p.2))) x.c.grp).getD (tot 0 0 0) = tot (sumG l.ctrs x.c.grp) (lowG l.ctrs x.c.grp) (highG l.ctrs x.c.grp) from by rw [getM_mapV totV l.G x.c.grp, h.grp, there_of hcc]; rfl)
        unfold neg0 pos0 at wi ws
        have KM := fun w' => moved_any (sumG l.ctrs x.c.grp) (lowG l.ctrs x.c.grp) (highG l.ctrs x.c.grp) (netV x.c.e.nets tx) (netV x.c.e.nets tx + d) w' (by unfold I64 at *; omega) (by unfold I64 at *; omega) (by unfold I64 at *; omega) hn ws.1 ws.2
        have ew : IntKind.i64.wrap (netV x.c.e.nets tx + d) = netV x.c.e.nets tx + d := by rw [IntKind.wrap_i64]; unfold I64 at hn; omega
        have lt1 : l.mg < w.heap.size := World.ownsMap.lt h.gm
        rw [hz] at KY
        generalize sumG l.ctrs x.c.grp = s at *
        generalize lowG l.ctrs x.c.grp = lo at *
        generalize highG l.ctrs x.c.grp = hi' at *
        generalize netV x.c.e.nets tx = o at *
        generalize mvE lo hi' o (o + d) = ME at *
        obtain ⟨VV, hVV⟩ : ∃ VV, VV = mvV s lo hi' o (o + d) := ⟨_, rfl⟩
        obtain ⟨v0, v1, v2, hv3⟩ : ∃ v0 v1 v2, VV = tot v0 v1 v2 := by
          rw [hVV]; unfold mvV
          split
          · exact ⟨_, _, _, rfl⟩
          · exact ⟨0, 0, 0, rfl⟩
        rw [← hVV] at KM ⊢
        rw [hv3] at KM ⊢
        clear hat hk h e1 e2 ht hcc hp hz okE wi ws gl gh hn hVV hv3
        go_enter Tryz.func62, Tryz.ntmps62
        go_wp2_with (at_lookup; refine wpList_lookup_own_ok _ rfl _ _ 104 rfl 3 110 lawK Tryz.underlying104 anyElem (zeroE _) (.held (.agg #[.int .i64 0, .pointer none])) [] rfl l.mc _ _ rfl hm1 _ _ rfl (keyI hi) ?_; intro v ps hv; obtain rfl := any_look hv; rw [mapE_has, hasM_get, HA.out, HG.out]; simp only [Option.map_some, Option.getD_some, Option.isSome_some])
        refine (KY _ ((HP.out.below (alloc_below _ _)).below (alloc_below _ _))).mono ?_
        rintro r w1 ⟨rfl, h1⟩
        have bb := (alloc_below w (.cells #[.int .i64 0, .int .i64 0, .int .i64 0] 125)).alloc (by simp) (.cells #[.int .i64 x.c.grp, ptr x.b] 110)
        have P1 := hide ((HPL.out.below bb).below h1)
        have Q1 := hide ((HP.out.below bb).below h1)
        have Z1 := hide (((Cells.new w #[.int .i64 0, .int .i64 0, .int .i64 0] 125).below (alloc_below _ (.cells #[.int .i64 x.c.grp, ptr x.b] 110))).below h1)
        have E1 := hide (show Box w1 (w.heap.size + 1) (.int .i64 x.c.grp) (ptr x.b) from by
          have := (Box.new (w.alloc (.cells #[.int .i64 0, .int .i64 0, .int .i64 0] 125)) (.int .i64 x.c.grp) (ptr x.b) 110).below h1
          simpa using this)
        have B1 := hide (below2 h1)
        have u0 := E1.out.2.2.1
        clear h1 bb HP HPL KY hm1 k2 a0
        go_wp2_with fail
        refine (KN _ Q1.out).mono ?_
        rintro r w2 ⟨rfl, h2⟩
        have P2 := hide (P1.out.below h2)
        have Z2 := hide (Z1.out.below h2)
        have E2 := hide (E1.out.below h2)
        have B2 := hide (B1.out.trans (h2.mono B1.out.size))
        clear h2 P1 Q1 Z1 E1 B1 u0 KN
        go_upto_region 10 with fail
        refine wp_region_held_drew (S := fun wq => wq.cell? ⟨l.lb, 1, none⟩ = some (.map (some l.mg)) ∧ wq.cell? ⟨w.heap.size + 1, 0, none⟩ = some (.int .i64 x.c.grp) ∧ AnyAt Tryz.prog 3 wq l.mg (l.G.map (fun (p : Int × Int × Int × Int) => (p.1, totV p.2)))) (by kernel_rfl) ⟨(P2.out.box.get 1 _ rfl).1, E2.out.2.1, (P2.out.below (Below.refl _ _).drew).gm⟩ (fun hS => ?_)
        have P6 := hide (P2.out.below (Below.refl _ _).drew)
        have Z6 := hide (Z2.out.below (Below.refl _ _).drew)
        have E6 := hide (E2.out.below (Below.refl _ _).drew)
        have B6 := hide B2.out.drew
        clear P2 Z2 E2 B2
        generalize w2.drew = x6 at *
        refine take_at 0 (some 50) (v := ?_) rfl rfl (by kernel_rfl) (by kernel_rfl) (by kernel_rfl) (fun _ _ _ h => h) ⟨by rfl, ?_⟩ hS ?_
        rotate_left
        · intro wq hSw; go_simp; try rfl
        simp only [Act.put, List.setIfInBounds_toArray, List.set_cons_zero, List.set_cons_succ]
        refine take_at 1 (some 51) (v := ?_) rfl rfl (by kernel_rfl) (by kernel_rfl) (by kernel_rfl) (fun _ _ _ h => h) ⟨by rfl, ?_⟩ hS ?_
        rotate_left
        · intro wq hSw; go_simp; try rfl
        simp only [Act.put, List.setIfInBounds_toArray, List.set_cons_zero, List.set_cons_succ]
        refine take_at 2 (some 52) (v := ?_) rfl rfl (by kernel_rfl) (by kernel_rfl) (by kernel_rfl) (fun _ _ _ h => h) ⟨by rfl, ?_⟩ hS ?_
        rotate_left
        · intro wq hSw; go_simp; try rfl
        simp only [Act.put, List.setIfInBounds_toArray, List.set_cons_zero, List.set_cons_succ]
        refine take_at 3 (some 53) (v := ?_) rfl rfl (by kernel_rfl) (by kernel_rfl) (by kernel_rfl) (fun _ _ _ h => h) ⟨by rfl, ?_⟩ hS ?_
        rotate_left
        · intro wq hSw; obtain ⟨r0, r1, r2⟩ := hSw; go_simp; try rfl
        simp only [Act.put, List.setIfInBounds_toArray, List.set_cons_zero, List.set_cons_succ]
        refine take_at 4 (some 54) (v := ?_) rfl rfl (by kernel_rfl) (by kernel_rfl) (by kernel_rfl) (fun _ _ _ h => h) ⟨by rfl, ?_⟩ hS ?_
        rotate_left
        · intro wq hSw; go_simp; try rfl
        simp only [Act.put, List.setIfInBounds_toArray, List.set_cons_zero, List.set_cons_succ]
        refine take_at 5 (some 55) (v := ?_) rfl rfl (by kernel_rfl) (by kernel_rfl) (by kernel_rfl) (fun _ _ _ h => h) ⟨by rfl, ?_⟩ hS ?_
        rotate_left
        · intro wq hSw; obtain ⟨r0, r1, r2⟩ := hSw; go_simp; try rfl
        simp only [Act.put, List.setIfInBounds_toArray, List.set_cons_zero, List.set_cons_succ]
        refine take_at 6 (some 56) (v := ?_) rfl rfl (by kernel_rfl) (by kernel_rfl) (by kernel_rfl) (fun _ _ _ h => h) ⟨by rfl, ?_⟩ hS ?_
        rotate_left
        · intro wq hSw; obtain ⟨r0, r1, r2⟩ := hSw; have hr := any_run lawK Tryz.underlying105 zeroT r2 (keyI hgI); rw [HAT.out] at hr; go_simp; try rfl
        simp only [Act.put, List.setIfInBounds_toArray, List.set_cons_zero, List.set_cons_succ]
        refine take_at 7 (some 57) (v := ?_) rfl rfl (by kernel_rfl) (by kernel_rfl) (by kernel_rfl) (fun _ _ _ h => h) ⟨by rfl, ?_⟩ hS ?_
        rotate_left
        · intro wq hSw; go_simp; try rfl
        simp only [Act.put, List.setIfInBounds_toArray, List.set_cons_zero, List.set_cons_succ]
        refine take_at 8 (some 58) (v := ?_) rfl rfl (by kernel_rfl) (by kernel_rfl) (by kernel_rfl) (fun _ _ _ h => h) ⟨by rfl, ?_⟩ hS ?_
        rotate_left
        · intro wq hSw; go_simp; try rfl
        simp only [Act.put, List.setIfInBounds_toArray, List.set_cons_zero, List.set_cons_succ]
        refine take_at 9 (some 59) (v := ?_) rfl rfl (by kernel_rfl) (by kernel_rfl) (by kernel_rfl) (fun _ _ _ h => h) ⟨by rfl, ?_⟩ hS ?_
        rotate_left
        · intro wq hSw; go_simp; try rfl
        simp only [Act.put, List.setIfInBounds_toArray, List.set_cons_zero, List.set_cons_succ]
        refine take_at 10 (some 60) (v := ?_) rfl rfl (by kernel_rfl) (by kernel_rfl) (by kernel_rfl) (fun _ _ _ h => h) ⟨by rfl, ?_⟩ hS ?_
        rotate_left
        · intro wq hSw; go_simp; try rfl
        simp only [Act.put, List.setIfInBounds_toArray, List.set_cons_zero, List.set_cons_succ]
        refine wpAnyH_ready (rs := [11]) (by kernel_rfl) (by simp) ?_
        refine AllReadyH.cons rfl (fun K hK => ?_) AllReadyH.nil
        go_simp
        go_wp2_with fail
        refine (KM _).mono ?_
        rintro r x7 ⟨rfl, hh⟩
        have P7 := hide (P6.out.below hh)
        have E7 := hide (E6.out.below hh)
        have Z7 := hide (Z6.out.below hh)
        have B7 := hide (B6.out.trans (hh.mono B6.out.size))
        clear hh P6 E6 Z6 B6
        obtain ⟨z0, z0f⟩ := Z7.out.get 0 _ rfl
        obtain ⟨z1, z1f⟩ := Z7.out.get 1 _ rfl
        obtain ⟨z2, z2f⟩ := Z7.out.get 2 _ rfl
        go_wp2_with fail
        refine hK.out _ _ ⟨(P7.out.box.get 1 _ rfl).1, E7.out.2.1, P7.out.gm⟩ (fun hS => ?_)
        clear hK K
        (try simp only [Act.put, List.setIfInBounds_toArray, List.set_cons_zero, List.set_cons_succ])
        refine take_at 12 (some 62) (v := ?_) rfl rfl (by kernel_rfl) (by kernel_rfl) (by kernel_rfl) (fun _ _ _ h => h) ⟨by rfl, ?_⟩ hS ?_
        rotate_left
        · intro wq hSw; go_simp; try rfl
        simp only [Act.put, List.setIfInBounds_toArray, List.set_cons_zero, List.set_cons_succ]
        refine take_at 13 (some 63) (v := ?_) rfl rfl (by kernel_rfl) (by kernel_rfl) (by kernel_rfl) (fun _ _ _ h => h) ⟨by rfl, ?_⟩ hS ?_
        rotate_left
        · intro wq hSw; go_simp; try rfl
        simp only [Act.put, List.setIfInBounds_toArray, List.set_cons_zero, List.set_cons_succ]
        have K8 := (((Keep.refl (fun z => z = w.heap.size) x7).setCell (g := w.heap.size) (j := 0) (fun _ => rfl) (.int .i64 v0)).setCell (g := w.heap.size) (j := 1) (fun _ => rfl) (.int .i64 v1)).setCell (g := w.heap.size) (j := 2) (fun _ => rfl) (.int .i64 v2)
        have q1 := (K8.cell (p := ⟨l.lb, 1, none⟩) P7.out.box.1 (by show ¬ l.lb = w.heap.size; omega)).trans (P7.out.box.get 1 _ rfl).1
        have q2 := (K8.cell (p := ⟨w.heap.size + 1, 0, none⟩) E7.out.1 (by show ¬ w.heap.size + 1 = w.heap.size; omega)).trans E7.out.2.1
        have q3 := anyAt_keep P7.out.gm K8 (by omega)
        refine wpAnyH_ready (rs := [14]) (by kernel_rfl) (by simp) ?_
        refine AllReadyH.cons rfl (fun K hK => ?_) AllReadyH.nil
        go_simp
        go_wp2_with fail
        refine hK.out _ _ ⟨q1, q2, q3⟩ (fun hS => ?_)
        clear hK K
        (try simp only [Act.put, List.setIfInBounds_toArray, List.set_cons_zero, List.set_cons_succ])
        refine take_at 15 (some 9) (v := ?_) rfl rfl (by kernel_rfl) (by kernel_rfl) (by kernel_rfl) (fun _ _ _ h => h) ⟨by rfl, ?_⟩ hS ?_
        rotate_left
        · intro wq hSw; go_simp; try rfl
        simp only [Act.put, List.setIfInBounds_toArray, List.set_cons_zero, List.set_cons_succ]
        refine wpAnyH_done (by kernel_rfl) ?_ _
        go_wp2_with fail
        refine bodyPost_ret (v := .tuple #[tot v0 v1 v2, .int .i64 ME]) (by simp [results, Tryz.results62, go_sem, z0, z1, z2]) rfl ⟨rfl, ?_⟩
        exact B7.out.trans (K8.below B7.out.size (fun z hz q => by omega))
      · have e1 : mayL l.ctrs tx id d = mayE x.c.e tx d := by unfold mayL; rw [if_neg ht, hcc]; simp only; rw [if_neg hz]
        have e2 : wgV l tx id d = tot 0 0 0 := by unfold wgV; rw [hk]; simp only; rw [if_pos (.inr hz)]
        rw [e1, e2]
        have hz2 : (mayE x.c.e tx d != 0) = true := by simpa using hz
        generalize mayE x.c.e tx d = MV at *
        clear hat hk h e1 e2 ht hcc hp hz KN HPL
        go_enter Tryz.func62, Tryz.ntmps62
        go_wp2_with (at_lookup; refine wpList_lookup_own_ok _ rfl _ _ 104 rfl 3 110 lawK Tryz.underlying104 anyElem (zeroE _) (.held (.agg #[.int .i64 0, .pointer none])) [] rfl l.mc _ _ rfl hm1 _ _ rfl (keyI hi) ?_; intro v ps hv; obtain rfl := any_look hv; rw [mapE_has, hasM_get, HA.out, HG.out]; simp only [Option.map_some, Option.getD_some, Option.isSome_some])
        refine (KY _ ((HP.out.below (alloc_below _ _)).below (alloc_below _ _))).mono ?_
        rintro r w1 ⟨rfl, h1⟩
        have Z1 := hide (((Cells.new w #[.int .i64 0, .int .i64 0, .int .i64 0] 125).below (alloc_below _ _)).below h1)
        have B1 := hide (below2 h1)
        obtain ⟨z0, z0f⟩ := Z1.out.get 0 _ rfl
        obtain ⟨z1, z1f⟩ := Z1.out.get 1 _ rfl
        obtain ⟨z2, z2f⟩ := Z1.out.get 2 _ rfl
        clear h1 HP KY hm1 k2 a0
        go_wp2_with fail
        refine bodyPost_ret (v := .tuple #[tot 0 0 0, .int .i64 MV]) (by simp [results, Tryz.results62, go_sem, z0, z1, z2]) rfl ⟨rfl, ?_⟩
        exact B1.out.trans (((((Keep.refl (fun z => z = w.heap.size) w1).setCell (g := w.heap.size) (j := 0) (fun _ => rfl) (.int .i64 0)).setCell (g := w.heap.size) (j := 1) (fun _ => rfl) (.int .i64 0)).setCell (g := w.heap.size) (j := 2) (fun _ => rfl) (.int .i64 0)).below B1.out.size (fun z hz q => by omega))

theorem wgV_tot (l : Led) (tx id d : Int) : ∃ a b c, wgV l tx id d = tot a b c := by
  unfold wgV
  cases getM l.K id with
  | none => exact ⟨0, 0, 0, rfl⟩
  | some x =>
    simp only
    split
    · exact ⟨0, 0, 0, rfl⟩
    · unfold mvV
      split
      · exact ⟨_, _, _, rfl⟩
      · exact ⟨0, 0, 0, rfl⟩
set_option maxHeartbeats 1000000 in
theorem mayL_any (lab : Nat → Nat) (B : Nat) (l : Led) (tx id d : Int) (w : World) (h : PL lab B w l) (hx : I64 tx) (hi : I64 id) (hd : I64 d) :
    Calls Tryz.prog 27 #[ptr l.lb, .int .i64 tx, .int .i64 id, .int .i64 d] w fun r w' => r = .returned (.int .i64 (mayL l.ctrs tx id d)) ∧ Below w.heap.size w w' := by
  have K := weighL_any lab B l tx id d w h hx hi hd
  obtain ⟨a, b, c, e⟩ := wgV_tot l tx id d
  rw [e] at K
  generalize mayL l.ctrs tx id d = M at *
  clear h hx hi hd e
  go_enter Tryz.func27, Tryz.ntmps27
  go_wp2_with fail
  refine K.mono ?_
  rintro r w1 ⟨rfl, h1⟩
  have B1 := hide h1
  clear h1 K
  go_wp2_with fail
  go_ret
  exact ⟨rfl, B1.out.alloc B1.out.size _⟩
end Go.Proofs.YtaohdmaenplbpaaGreat
