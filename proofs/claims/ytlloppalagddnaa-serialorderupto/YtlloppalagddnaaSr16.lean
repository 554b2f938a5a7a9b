import Derived.Test.YtlloppalagddnaaSr15
set_option linter.all false
namespace Go.Proofs.Ytlloppalagddnaa
open Go.RowKit Go.QK Quota Go.Maps Go.QM Go.QS
set_option maxRecDepth 100000
/-! ledger.Load: only whether it lets the counters go. -/
theorem check_all (lb mc : Nat) (KK : Prs Lm) (C : Cs) (x : Cn) (w : World) (hlt : lb < w.heap.size) (k1 : w.cell? ⟨lb, 0, none⟩ = some (.map (some mc))) (hm : AnyAt Try.prog 3 w mc (KK.map (fun p => (p.1, entV p.2)))) (hs : ∀ id, (getM KK id).isSome = (getM C id).isSome) (ok : x.Ok) :
    Calls Try.prog 64 #[ptr lb, cnV x] w fun r w' => (∃ g b, r = .returned (.tuple #[.agg #[.int .i64 g, .pointer b], .int .i64 (stE C x)]) ∧ (stE C x = 0 → g = x.grp ∧ ∃ bb, b = some ⟨bb, 0, none⟩)) ∧ Below w.heap.size w w' := by
  obtain ⟨id, grp, lo, hi, val⟩ := x
  obtain ⟨o1, o2, o3, o4, o5⟩ := ok
  simp only at o1 o2 o3 o4 o5
  unfold stE
  simp only
  by_cases h1 : id < 1 ∨ 1048576 < id ∨ grp < 1 ∨ 1048576 < grp
  · rw [if_pos h1]
    refine (check_place lb id grp lo hi val w h1).mono ?_
    rintro r w' ⟨rfl, hb⟩
    exact ⟨⟨0, none, rfl, fun q => by cases q⟩, hb⟩
  · rw [if_neg h1]
    cases h2 : getM C id with
    | some y =>
      refine (check_twice lb mc KK id grp lo hi val w h1 hlt k1 hm (by rw [hs, h2]; rfl)).mono ?_
      rintro r w' ⟨rfl, hb⟩
      exact ⟨⟨0, none, rfl, fun q => by cases q⟩, hb⟩
    | none =>
      have h3 : getM KK id = none := by
        have := hs id
        rw [h2] at this
        cases q : getM KK id with
        | none => rfl
        | some z => rw [q] at this; cases this
      simp only [Option.isSome_none, Bool.false_eq_true, if_false]
      by_cases h4 : newE lo hi val = 0
      · rw [h4]
        refine (check_yes lb mc KK id grp lo hi val w h1 hlt k1 hm h3 h4 o2 o3).mono ?_
        rintro r w' ⟨b, m, rfl, hb, _, _⟩
        exact ⟨⟨grp, some ⟨b, 0, none⟩, rfl, fun _ => ⟨rfl, b, rfl⟩⟩, hb⟩
      · refine (check_no lb mc KK id grp lo hi val w h1 hlt k1 hm h3 h4).mono ?_
        rintro r w' ⟨rfl, hb⟩
        exact ⟨⟨0, none, rfl, fun q => absurd q h4⟩, hb⟩
set_option maxHeartbeats 2000000 in
theorem newL_any (w : World) : Calls Try.prog 63 #[] w fun r w' => r = .returned (ptr (w.heap.size + 3)) ∧ Cells w' (w.heap.size + 3) [.map (some w.heap.size), .map (some (w.heap.size + 1)), .map (some (w.heap.size + 2))] ∧ AnyAt Try.prog 3 w' w.heap.size [] ∧ AnyAt Try.prog 3 w' (w.heap.size + 1) [] ∧ Below w.heap.size w w' ∧ w'.heap.size = w.heap.size + 4 := by
  have hmm := @run_makeMap Try.prog
  go_enter Try.func63, Try.ntmps63
  go_wp2_with fail
  go_ret
  refine ⟨rfl, ?_, ?_, ?_, ?_, by simp⟩
  · have := Cells.new (((w.alloc (.map #[] 0)).alloc (.map #[] 0)).alloc (.map #[] 0)) #[.map (some w.heap.size), .map (some (w.heap.size + 1)), .map (some (w.heap.size + 1 + 1))] 136
    simpa using this
  · exact anyAt_below (anyAt_below (anyAt_below (AnyAt.made Try.prog 3 w) (alloc_below _ _)) (alloc_below _ _)) (alloc_below _ _)
  · have := anyAt_below (anyAt_below (AnyAt.made Try.prog 3 (w.alloc (.map #[] 0))) (alloc_below _ (.map #[] 0))) (alloc_below _ (.cells #[.map (some w.heap.size), .map (some (w.heap.size + 1)), .map (some (w.heap.size + 1 + 1))] 136))
    simpa using this
  · exact (((alloc_below _ _).alloc (by simp) _).alloc (by simp; omega) _).alloc (by simp; omega) _
theorem cn_at {w : World} {a : Option Addr} {l : List Cn} (h : Lies w a (cns l)) (k : Nat) (hk : k < l.length) : ∃ b off, a = some ⟨b, off, none⟩ ∧ b < w.heap.size ∧ w.cell? ⟨b, off + k * 5, none⟩ = some (.int .i64 l[k].id) ∧ w.cell? ⟨b, off + k * 5 + 1, none⟩ = some (.int .i64 l[k].grp) ∧ w.cell? ⟨b, off + k * 5 + 2, none⟩ = some (.int .i64 l[k].lo) ∧ w.cell? ⟨b, off + k * 5 + 3, none⟩ = some (.int .i64 l[k].hi) ∧ w.cell? ⟨b, off + k * 5 + 4, none⟩ = some (.int .i64 l[k].val) := by
  obtain ⟨b, off, e, hb, hc⟩ := Lies.rowAt cnC 5 (fun _ => rfl) h k hk (by omega)
  exact ⟨b, off, e, hb, by have := hc 0 _ rfl; rwa [Nat.add_zero] at this, hc 1 _ rfl, hc 2 _ rfl, hc 3 _ rfl, hc 4 _ rfl⟩
/-- What the first loop has made: the ledger at b0 + 3 over its maps, the values by group. -/
structure Ld1 (w0 wr : World) (b0 : Nat) (C : Cs) (k : Nat) (lab : Nat → Nat) (KK : Prs Lm) (D : Hd) : Prop where
  bel : Below b0 w0 wr
  box : Cells wr (b0 + 3) [.map (some b0), .map (some (b0 + 1)), .map (some (b0 + 2))]
  cm : AnyAt Try.prog 3 wr b0 (KK.map (fun p => (p.1, entV p.2)))
  up : Up KK
  same : ∀ id, (getM KK id).isSome = (getM C id).isSome
  gm : AnyAt Try.prog 3 wr (b0 + 1) []
  rm : RM lab (b0 + 4) wr (b0 + 4) D
  len : ∀ key, (idsD D key).length ≤ k
  fit : ∀ key, All (idsD D key)
  grp : ∀ p ∈ D, p.1 ≤ 1048576
theorem Ld1.below {w0 wr wr' : World} {b0 : Nat} {C : Cs} {k : Nat} {lab : Nat → Nat} {KK : Prs Lm} {D : Hd} (h : Ld1 w0 wr b0 C k lab KK D) (b : Below wr.heap.size wr wr') : Ld1 w0 wr' b0 C k lab KK D :=
  ⟨h.bel.trans (b.mono (by have := h.box.1; omega)), h.box.below b, anyAt_below h.cm b, h.up, h.same, anyAt_below h.gm b, h.rm.below b, h.len, h.fit, h.grp⟩
theorem Ld1.lenD {w0 wr : World} {b0 : Nat} {C : Cs} {k : Nat} {lab : Nat → Nat} {KK : Prs Lm} {D : Hd} (h : Ld1 w0 wr b0 C k lab KK D) : D.length ≤ 1048576 := by
  have := up_len h.rm.up (a := 1) (b := 1048576) (fun p hp => ⟨h.rm.ids p hp, h.grp p hp⟩)
  omega
theorem Ld1.lenK {w0 wr : World} {b0 : Nat} {C : Cs} {k : Nat} {lab : Nat → Nat} {KK : Prs Lm} {D : Hd} (h : Ld1 w0 wr b0 C k lab KK D) (hC : CsOk C) : KK.length ≤ 1048576 := by
  have := up_len h.up (a := 1) (b := 1048576) (fun p hp => by
    have h1 := h.same p.1
    rw [getM_of_mem h.up hp] at h1
    cases q : getM C p.1 with
    | none => rw [q] at h1; cases h1
    | some x => exact (hC.ids _ (getM_mem q)).2)
  omega
set_option maxHeartbeats 16000000 in
theorem load_any (a : Option Addr) (cap : Nat) (l : List Cn) (w : World) (h : Lies w a (cns l)) (hok : ∀ x ∈ l, x.Ok) (hl : l.length * 40 ≤ 140737488355328) :
    Calls Try.prog 54 #[.slice a l.length cap] w fun r w' => (∃ p e, r = .returned (.tuple #[.pointer p, .int .i64 e]) ∧ (staE [] l ≠ 0 → e = staE [] l) ∧ (staE [] l = 0 → e = 0 ∨ e = 10)) ∧ Below w.heap.size w w' := by
  have hmm := @run_makeMap Try.prog
  have HL := hide h
  have HOK := hide hok
  clear h hok
  go_enter Try.func54, Try.ntmps54
  go_wp2_with fail
  refine (newL_any w).mono ?_
  rintro e x0 ⟨rfl, bx0, cm0, gm0, b0, sz0⟩
  have rm0 := RM.made' (w.heap.size + 4) x0 (by omega)
  have ab := alloc_below x0 (.map #[] 0)
  rw [sz0] at rm0
  have L0 := hide (show Ld1 w (x0.alloc (.map #[] 0)) w.heap.size [] 0 (fun _ => 1) [] [] from ⟨b0.trans (ab.mono (by omega)), bx0.below ab, anyAt_below cm0 ab, List.Pairwise.nil, fun _ => rfl, anyAt_below gm0 ab, rm0, fun key => Nat.le_refl _, (fun key x hx => by cases hx), (fun p hp => by cases hp)⟩)
  have SZ0 := hide sz0
  clear bx0 cm0 gm0 b0 rm0 ab sz0
  generalize hN : w.heap.size = N at *
  have HN := hide hN
  clear hN
  go_wp2_with fail
  rw [show x0.heap.size = N + 4 from SZ0.out]
  go_loopw [18] (fun i wr => ∃ k : Nat, k ≤ l.length ∧ i = .int .i64 k ∧ staE [] (l.take k) = 0 ∧ ∃ lab KK D, Ld1 w wr N (staC [] (l.take k)) k lab KK D) (fun i _ => l.length - (intOf i).toNat)
  case atStart => exact ⟨0, Nat.zero_le _, rfl, rfl, _, _, _, L0.out⟩
  case round =>
    obtain ⟨k, hk, rfl, he, lab, KK, D, hld⟩ := hrel
    by_cases hlt : k < l.length
    · have HEE := hide (staE_take (C := []) k hlt he)
      have HCC := hide (staC_take (C := []) k hlt)
      have HCO := hide (CsOk.sta CsOk.nil (l := l.take k) (fun x hx => HOK.out x (List.mem_of_mem_take hx)) he)
      have HST := fun (h : staE [] (l.take (k + 1)) ≠ 0) => staE_stop (k + 1) h
      have hxo := HOK.out _ (List.getElem_mem hlt)
      have LD := hide hld
      have lw : Lies wr a (cns l) := HL.out.below (by rw [HN.out]; exact hld.bel)
      obtain ⟨ab, ao, e2, hbl, c0, c1, c2, c3, c4⟩ := cn_at lw k hlt
      subst e2
      rw [HEE.out] at HST
      have HRG := hide (show ∀ g z, (hldV D g).ownBlock = some z → z < wr.heap.size from fun g z hz => (hld.rm.heldL hz).2.2)
      have swr : N + 4 < wr.heap.size := by have := hld.rm.lt; omega
      generalize staC [] (l.take k) = C at *
      generalize l[k] = x at *
      have HSTH := hide HST
      clear HST hld lw he
      have hkl : k + 1 ≤ l.length := hlt
      obtain ⟨xi, xg, xl, xh, xv⟩ := x
      simp only at c0 c1 c2 c3 c4
      obtain ⟨o1, o2, o3, o4, o5⟩ := hxo
      simp only at o1 o2 o3 o4 o5
      have bA := alloc_below wr (.cells #[.int .i64 xi, .int .i64 xg, .int .i64 xl, .int .i64 xh, .int .i64 xv] 65)
      have LA := LD.out.below bA
      have KC := check_all (N + 3) N KK C ⟨xi, xg, xl, xh, xv⟩ _ LA.box.1 (LA.box.get 0 _ rfl).1 LA.cm LD.out.same ⟨o1, o2, o3, o4, o5⟩
      have CX := Cells.new wr #[.int .i64 xi, .int .i64 xg, .int .i64 xl, .int .i64 xh, .int .i64 xv] 65
      have HLA := hide LA
      have HBA := hide bA
      have HCX := hide CX
      clear LA bA CX LD
      generalize hx1 : wr.alloc (.cells #[.int .i64 xi, .int .i64 xg, .int .i64 xl, .int .i64 xh, .int .i64 xv] 65) = x1 at *
      have HX1 := hide hx1
      generalize hG : wr.heap.size = G at *
      have HG := hide hG
      clear hx1 hG
      go_upto_region 6 with fail
      rw [show wr.alloc (.cells #[.int .i64 xi, .int .i64 xg, .int .i64 xl, .int .i64 xh, .int .i64 xv] 65) = x1 from HX1.out, show wr.heap.size = G from HG.out]
      obtain ⟨g0, _⟩ := HCX.out.get 0 _ rfl
      obtain ⟨g1, _⟩ := HCX.out.get 1 _ rfl
      obtain ⟨g2, _⟩ := HCX.out.get 2 _ rfl
      obtain ⟨g3, _⟩ := HCX.out.get 3 _ rfl
      obtain ⟨g4, _⟩ := HCX.out.get 4 _ rfl
      go_wp2_with fail
      refine KC.mono ?_
      rintro e x2 ⟨⟨eg, eb, rfl, hyes⟩, b2⟩
      have L2 := HLA.out.below b2
      have C2 := HCX.out.below b2
      clear KC HLA HCX g0 g1 g2 g3 g4 c0 c1 c2 c3 c4
      by_cases hz : stE C ⟨xi, xg, xl, xh, xv⟩ = 0
      · obtain ⟨rfl, bb, rfl⟩ := hyes hz
        rw [hz]
        have b3 := alloc_below x2 (.cells #[.int .i64 eg, ptr bb] 130)
        have L3 := hide (L2.below b3)
        have C3 := hide (C2.below b3)
        have E3 := hide (Cells.new x2 #[.int .i64 eg, ptr bb] 130)
        have HZ := hide hz
        have HCS := hide (HCO.out.put hz ⟨o1, o2, o3, o4, o5⟩)
        have hpl : 1 ≤ xi ∧ xi ≤ 1048576 ∧ 1 ≤ eg ∧ eg ≤ 1048576 := by
          unfold stE at hz
          simp only at hz
          split at hz
          · cases hz
          · omega
        have gE : G < x2.heap.size := C2.1
        generalize hE : x2.heap.size = E at *
        have HE := hide hE
        clear hE hyes L2 C2 b2 b3 hz
        go_upto_region 9 with fail
        rw [show x2.heap.size = E from HE.out]
        generalize x2.alloc (.cells #[.int .i64 eg, ptr bb] 130) = x3 at *
        refine wp_region_held_drew (S := fun wq => Cells wq (N + 3) [.map (some N), .map (some (N + 1)), .map (some (N + 2))] ∧ Cells wq G [.int .i64 xi, .int .i64 eg, .int .i64 xl, .int .i64 xh, .int .i64 xv] ∧ Cells wq E [.int .i64 eg, ptr bb]) (by kernel_rfl) ⟨L3.out.box, C3.out, E3.out⟩ (fun hS => ?_)
        have L4 := hide (L3.out.below (Below.refl _ _).drew)
        have C4 := hide (C3.out.below (Below.refl _ _).drew)
        have E4 := hide (E3.out.below (Below.refl _ _).drew)
        clear L3 C3 E3
        generalize x3.drew = x4 at *
        refine take_at 0 (some 31) (v := ?_) rfl rfl (by kernel_rfl) (by kernel_rfl) (by kernel_rfl) (fun _ _ _ h => h) ⟨by rfl, ?_⟩ hS ?_
        rotate_left
        · intro wq hSw; go_simp; try rfl
        simp only [Act.put, List.setIfInBounds_toArray, List.set_cons_zero, List.set_cons_succ]
        refine take_at 1 (some 32) (v := ?_) rfl rfl (by kernel_rfl) (by kernel_rfl) (by kernel_rfl) (fun _ _ _ h => h) ⟨by rfl, ?_⟩ hS ?_
        rotate_left
        · intro wq hSw; go_simp; try rfl
        simp only [Act.put, List.setIfInBounds_toArray, List.set_cons_zero, List.set_cons_succ]
        refine take_at 2 (some 33) (v := ?_) rfl rfl (by kernel_rfl) (by kernel_rfl) (by kernel_rfl) (fun _ _ _ h => h) ⟨by rfl, ?_⟩ hS ?_
        rotate_left
        · intro wq hSw; go_simp; try rfl
        simp only [Act.put, List.setIfInBounds_toArray, List.set_cons_zero, List.set_cons_succ]
        refine take_at 3 (some 34) (v := ?_) rfl rfl (by kernel_rfl) (by kernel_rfl) (by kernel_rfl) (fun _ _ _ h => h) ⟨by rfl, ?_⟩ hS ?_
        rotate_left
        · intro wq hSw; have q := (hSw.1.get 0 _ rfl).1; go_simp; try rfl
        simp only [Act.put, List.setIfInBounds_toArray, List.set_cons_zero, List.set_cons_succ]
        refine take_at 4 (some 35) (v := ?_) rfl rfl (by kernel_rfl) (by kernel_rfl) (by kernel_rfl) (fun _ _ _ h => h) ⟨by rfl, ?_⟩ hS ?_
        rotate_left
        · intro wq hSw; go_simp; try rfl
        simp only [Act.put, List.setIfInBounds_toArray, List.set_cons_zero, List.set_cons_succ]
        refine take_at 5 (some 36) (v := ?_) rfl rfl (by kernel_rfl) (by kernel_rfl) (by kernel_rfl) (fun _ _ _ h => h) ⟨by rfl, ?_⟩ hS ?_
        rotate_left
        · intro wq hSw; have q := (hSw.2.1.get 0 _ rfl).1; go_simp; try rfl
        simp only [Act.put, List.setIfInBounds_toArray, List.set_cons_zero, List.set_cons_succ]
        refine take_at 6 (some 37) (v := ?_) rfl rfl (by kernel_rfl) (by kernel_rfl) (by kernel_rfl) (fun _ _ _ h => h) ⟨by rfl, ?_⟩ hS ?_
        rotate_left
        · intro wq hSw; have q := (hSw.2.2.get 0 _ rfl).1; have q1 := (hSw.2.2.get 1 _ rfl).1; go_simp; try rfl
        simp only [Act.put, List.setIfInBounds_toArray, List.set_cons_zero, List.set_cons_succ]
        have xi64 : I64 xi := by unfold I64; omega
        have eg64 : I64 eg := by unfold I64; omega
        obtain ⟨x5, hu5, cm5, hg5⟩ := any_upd lawK Try.underlying133 L4.out.cm ((up_map entV).2 L4.out.up) (keyI xi64) (by rw [List.length_map]; have := L4.out.lenK HCO.out; omega) (.agg #[.int .i64 eg, ptr bb])
        have k45 := grown_m hg5
        have bx5 := L4.out.box.keep k45 (by omega)
        have c5 := C4.out.keep k45 (by have := HG.out; omega)
        have e5 := E4.out.keep k45 (by omega)
        have gm5 := anyAt_keep L4.out.gm k45 (by omega)
        have rm5 := L4.out.rm.keep k45 (fun z hz _ hB q => by omega)
        have cm6 : AnyAt Try.prog 3 x5 N ((putM xi (⟨⟨eg⟩, bb⟩ : Lm) KK).map (fun p => (p.1, entV p.2))) := by rw [putM_map entV]; exact cm5
        have bel5 := L4.out.bel.trans (k45.below (B := N) (by have := L4.out.box.1; omega) (fun z hz q => by omega))
        have sm5 : ∀ id, (getM (putM xi (⟨⟨eg⟩, bb⟩ : Lm) KK) id).isSome = (getM (putM xi (⟨xi, eg, xl, xh, xv⟩ : Cn) C) id).isSome := fun id => by rw [getM_put L4.out.up, getM_put HCO.out.up]; split; rfl; exact L4.out.same id
        have L5 := hide (show Ld1 w x5 N (putM xi (⟨xi, eg, xl, xh, xv⟩ : Cn) C) k lab (putM xi (⟨⟨eg⟩, bb⟩ : Lm) KK) D from ⟨bel5, bx5, cm6, L4.out.up.put _ _, sm5, gm5, rm5, L4.out.len, L4.out.fit, L4.out.grp⟩)
        have HU5 := hide hu5
        have C5 := hide c5
        have E5 := hide e5
        clear hu5 cm5 hg5 k45 bx5 c5 e5 gm5 rm5 cm6 bel5 sm5
        refine wpAnyH_ready (rs := [7]) (by kernel_rfl) (by simp) ?_
        refine AllReadyH.cons rfl (fun K hK => ?_) AllReadyH.nil
        refine wp_upd (.tmp 34) (.tmp 36) (.tmp 37) rfl rfl rfl rfl rfl HU5.out ?_
        refine hK.out _ _ ⟨L5.out.box, C5.out, E5.out⟩ (fun hS => ?_)
        clear hK K hS HU5 L4 C4 E4
        (try simp only [Act.put, List.setIfInBounds_toArray, List.set_cons_zero, List.set_cons_succ])
        refine wpAnyH_done (by kernel_rfl) ?_ _
        go_upto_region 10 with fail
        refine wp_region_held_drew (S := fun wq => Cells wq G [.int .i64 xi, .int .i64 eg, .int .i64 xl, .int .i64 xh, .int .i64 xv]) (by kernel_rfl) C5.out (fun hS => ?_)
        have L6 := hide (L5.out.below (Below.refl _ _).drew)
        have C6 := hide (C5.out.below (Below.refl _ _).drew)
        clear L5 C5 E5
        generalize x5.drew = x6 at *
        refine take_at 0 (some 38) (v := ?_) rfl rfl (by kernel_rfl) (by kernel_rfl) (by kernel_rfl) (fun _ _ _ h => h) ⟨by rfl, ?_⟩ hS ?_
        rotate_left
        · intro wq hSw; go_simp; try rfl
        simp only [Act.put, List.setIfInBounds_toArray, List.set_cons_zero, List.set_cons_succ]
        refine take_at 1 (some 39) (v := ?_) rfl rfl (by kernel_rfl) (by kernel_rfl) (by kernel_rfl) (fun _ _ _ h => h) ⟨by rfl, ?_⟩ hS ?_
        rotate_left
        · intro wq hSw; go_simp; try rfl
        simp only [Act.put, List.setIfInBounds_toArray, List.set_cons_zero, List.set_cons_succ]
        refine take_at 2 (some 40) (v := ?_) rfl rfl (by kernel_rfl) (by kernel_rfl) (by kernel_rfl) (fun _ _ _ h => h) ⟨by rfl, ?_⟩ hS ?_
        rotate_left
        · intro wq hSw; have q := (hSw.get 1 _ rfl).1; go_simp; try rfl
        simp only [Act.put, List.setIfInBounds_toArray, List.set_cons_zero, List.set_cons_succ]
        refine take_at 3 (some 41) (v := ?_) rfl rfl (by kernel_rfl) (by kernel_rfl) (by kernel_rfl) (fun _ _ _ h => h) ⟨by rfl, ?_⟩ hS ?_
        rotate_left
        · intro wq hSw; go_simp; try rfl
        simp only [Act.put, List.setIfInBounds_toArray, List.set_cons_zero, List.set_cons_succ]
        refine take_at 4 (some 42) (v := ?_) rfl rfl (by kernel_rfl) (by kernel_rfl) (by kernel_rfl) (fun _ _ _ h => h) ⟨by rfl, ?_⟩ hS ?_
        rotate_left
        · intro wq hSw; go_simp; try rfl
        simp only [Act.put, List.setIfInBounds_toArray, List.set_cons_zero, List.set_cons_succ]
        refine take_at 5 (some 43) (v := ?_) rfl rfl (by kernel_rfl) (by kernel_rfl) (by kernel_rfl) (fun _ _ _ h => h) ⟨by rfl, ?_⟩ hS ?_
        rotate_left
        · intro wq hSw; have q := (hSw.get 1 _ rfl).1; go_simp; try rfl
        simp only [Act.put, List.setIfInBounds_toArray, List.set_cons_zero, List.set_cons_succ]
        refine take_at 7 (some 45) (v := ?_) rfl rfl (by kernel_rfl) (by kernel_rfl) (by kernel_rfl) (fun _ _ _ h => h) ⟨by rfl, ?_⟩ hS ?_
        rotate_left
        · intro wq hSw; go_simp; try rfl
        simp only [Act.put, List.setIfInBounds_toArray, List.set_cons_zero, List.set_cons_succ]
        refine take_at 8 (some 46) (v := ?_) rfl rfl (by kernel_rfl) (by kernel_rfl) (by kernel_rfl) (fun _ _ _ h => h) ⟨by rfl, ?_⟩ hS ?_
        rotate_left
        · intro wq hSw; have q := (hSw.get 4 _ rfl).1; go_simp; try rfl
        simp only [Act.put, List.setIfInBounds_toArray, List.set_cons_zero, List.set_cons_succ]
        obtain ⟨u, x7, x8, h1, h2, h3, h4, rm8, k7, k8⟩ := L6.out.rm.app (d := xv) Try.underlying86 (k := eg) hpl.2.2.1 eg64 (by have := L6.out.len eg; omega) (by have := L6.out.lenD; omega) (by have := L6.out.rm.lt; omega)
        have hl6 := fun z (hz : (hldV D eg).ownBlock = some z) => L6.out.rm.heldL hz
        have ab6 := alloc_below x6 (.cells #[.int .i64 xv] 2)
        have nG : G ≠ N + 4 := by have := HG.out; omega
        have hrow : ∀ z, (hldV D eg).ownBlock = some z → N + 4 ≤ z := fun z hz => (hl6 z hz).2.1
        have hrG : ∀ z, (hldV D eg).ownBlock = some z → z ≠ G := fun z hz => by have := HRG.out eg z hz; omega
        have cA := hide (C6.out.below ab6)
        have cB := hide (C6.out.keep k7 (fun q => hrG _ q rfl))
        have cD := hide (C6.out.keep k8 (by rintro (q | q); exact nG q; exact hrG _ q rfl))
        have lS : ∀ z, z < N + 4 → ¬ (z = N + 4 ∨ (hldV D eg).ownBlock = some z) := fun z hz q => by rcases q with q | q; omega; have := hrow z q; omega
        have bx8 := L6.out.box.keep k8 (lS _ (by omega))
        have cm8 := anyAt_keep L6.out.cm k8 (lS _ (by omega))
        have gm8 := anyAt_keep L6.out.gm k8 (lS _ (by omega))
        have bel8 := L6.out.bel.trans (k8.below (B := N) (by have := L6.out.box.1; omega) (fun z hz q => lS z (by omega) q))
        have hput := fun key => (hld_put L6.out.rm.up eg key u (idsD D eg ++ [xv])).2
        have L8 := hide (show Ld1 w x8 N _ (k + 1) _ _ (putM eg (u, idsD D eg ++ [xv]) D) from ⟨bel8, bx8, cm8, L6.out.up, L6.out.same, gm8, rm8, fun key => ?_, fun key => ?_, fun p hp => ?_⟩)
        rotate_left
        · rw [hput key]; split
          · have := L6.out.len eg; simp; omega
          · have := L6.out.len key; omega
        · rw [hput key]; split
          · intro y hy; rcases List.mem_append.1 hy with q | q; exact L6.out.fit eg y q; simp at q; rw [q]; exact o4
          · exact L6.out.fit key
        · rcases mem_putM hp with q | q
          · rw [q]; exact hpl.2.2.2
          · exact L6.out.grp p q
        have H1 := hide h1
        have H2 := hide h2
        have H3 := hide h3
        have H4 := hide h4
        have F1 := C6
        clear h1 h2 h3 h4 rm8 k7 k8 bx8 cm8 gm8 bel8 hput ab6 lS hl6
        refine wpAnyH_ready (rs := [6, 9]) (by kernel_rfl) (by simp) ?_
        refine AllReadyH.cons rfl (fun K hK => ?_) (AllReadyH.cons rfl (fun K hK => ?_) AllReadyH.nil)
        · refine wp_look 44 (.tmp 41) (.tmp 43) rfl rfl rfl rfl rfl H1.out ?_
          refine hK.out _ _ F1.out (fun hS => ?_)
          clear hK K
          (try simp only [Act.put, List.setIfInBounds_toArray, List.set_cons_zero, List.set_cons_succ])
          refine wpAnyH_ready (rs := [9]) (by kernel_rfl) (by simp) ?_
          refine AllReadyH.cons rfl (fun K hK => ?_) AllReadyH.nil
          go_simp
          go_wp2_with fail
          refine hK.out _ _ cA.out (fun hS => ?_)
          clear hK K
          (try simp only [Act.put, List.setIfInBounds_toArray, List.set_cons_zero, List.set_cons_succ])
          refine wpAnyH_ready (rs := [10]) (by kernel_rfl) (by simp) ?_
          refine AllReadyH.cons rfl (fun K hK => ?_) AllReadyH.nil
          refine wp_run 48 (.tmp 44) (.tmp 47) rfl rfl rfl rfl rfl H3.out ?_
          refine hK.out _ _ cB.out (fun hS => ?_)
          clear hK K
          (try simp only [Act.put, List.setIfInBounds_toArray, List.set_cons_zero, List.set_cons_succ])
          refine wpAnyH_ready (rs := [11]) (by kernel_rfl) (by simp) ?_
          refine AllReadyH.cons rfl (fun K hK => ?_) AllReadyH.nil
          refine wp_upd (.tmp 38) (.tmp 40) (.tmp 48) rfl rfl rfl rfl rfl H4.out ?_
          refine hK.out _ _ cD.out (fun hS => ?_)
          clear hK K hS
          (try simp only [Act.put, List.setIfInBounds_toArray, List.set_cons_zero, List.set_cons_succ])
          refine wpAnyH_done (by kernel_rfl) ?_ _
          clear H1 H2 H3 H4 cA cB cD F1 C6 L6
          go_wp2_with fail
          go_roundw
          case rel =>
            exact ⟨k + 1, hkl, by go_num, by rw [HEE.out]; exact HZ.out, _, _, _, by rw [HCC.out]; exact L8.out⟩
          case measure => simp [intOf]; omega
        · go_simp
          go_wp2_with fail
          refine hK.out _ _ cA.out (fun hS => ?_)
          clear hK K
          (try simp only [Act.put, List.setIfInBounds_toArray, List.set_cons_zero, List.set_cons_succ])
          refine wpAnyH_ready (rs := [6]) (by kernel_rfl) (by simp) ?_
          refine AllReadyH.cons rfl (fun K hK => ?_) AllReadyH.nil
          refine wp_look 44 (.tmp 41) (.tmp 43) rfl rfl rfl rfl rfl H2.out ?_
          refine hK.out _ _ cA.out (fun hS => ?_)
          clear hK K
          (try simp only [Act.put, List.setIfInBounds_toArray, List.set_cons_zero, List.set_cons_succ])
          refine wpAnyH_ready (rs := [10]) (by kernel_rfl) (by simp) ?_
          refine AllReadyH.cons rfl (fun K hK => ?_) AllReadyH.nil
          refine wp_run 48 (.tmp 44) (.tmp 47) rfl rfl rfl rfl rfl H3.out ?_
          refine hK.out _ _ cB.out (fun hS => ?_)
          clear hK K
          (try simp only [Act.put, List.setIfInBounds_toArray, List.set_cons_zero, List.set_cons_succ])
          refine wpAnyH_ready (rs := [11]) (by kernel_rfl) (by simp) ?_
          refine AllReadyH.cons rfl (fun K hK => ?_) AllReadyH.nil
          refine wp_upd (.tmp 38) (.tmp 40) (.tmp 48) rfl rfl rfl rfl rfl H4.out ?_
          refine hK.out _ _ cD.out (fun hS => ?_)
          clear hK K hS
          (try simp only [Act.put, List.setIfInBounds_toArray, List.set_cons_zero, List.set_cons_succ])
          refine wpAnyH_done (by kernel_rfl) ?_ _
          clear H1 H2 H3 H4 cA cB cD F1 C6 L6
          go_wp2_with fail
          go_roundw
          case rel =>
            exact ⟨k + 1, hkl, by go_num, by rw [HEE.out]; exact HZ.out, _, _, _, by rw [HCC.out]; exact L8.out⟩
          case measure => simp [intOf]; omega
      · have hz2 : (stE C ⟨xi, xg, xl, xh, xv⟩ != 0) = true := by simpa using hz
        have HV := hide (HSTH.out hz)
        have HZ := hide hz
        have BB := hide L2.bel
        generalize stE C ⟨xi, xg, xl, xh, xv⟩ = E at *
        clear hz hyes L2 C2 b2
        go_wp2_with fail
        go_ret2
        refine ⟨⟨none, E, rfl, fun _ => HV.out.symm, fun q => absurd (HV.out.symm.trans q) HZ.out⟩, ?_⟩
        rw [HN.out]
        exact BB.out.alloc (by have := BB.out.size; have := HN.out; omega) _
    · have hek : k = l.length := by omega
      subst hek
      rw [List.take_length] at he hld
      have HE := hide he
      have LD := hide hld
      clear he hld L0
      have rml := LD.out.rm
      go_wp2_with (at_range; refine wpList_range_own _ rfl _ 86 rfl 3 89 lawK Try.underlying86 anyElem (N + 4) _ _ rfl rml.hm ?_; intro w0 hrg0 hg0 hs0)
      have K0 : Keep (fun _ => False) wr w0 := (Keep.refl (fun _ => False) wr).grown hg0 (by nofun)
      have R0 := hide hrg0
      have O0 := hide (show ∀ p ∈ D, Owns .i64 2 w0 (N + 4) p.2.1 p.2.2 from fun p hp => (rml.own p hp).keep K0 (fun _ _ q => q))
      have G0 := hide (anyAt_keep LD.out.gm K0 id)
      have X0 := hide (LD.out.box.keep K0 id)
      have B0 := hide (LD.out.bel.trans (K0.below (B := N) (by have := LD.out.box.1; omega) (fun z hz q => q)))
      have HLT := hide (show ∀ p ∈ D, ∀ g, p.2.1.ownBlock = some g → N + 4 ≤ g ∧ g < wr.heap.size from fun p hp g hg => World.ownsRow.lt (rml.own p hp) g hg)
      have hupM : Up (mapD D) := (up_map Prod.fst).2 rml.up
      have hlenD := LD.out.lenD
      have HFIT := hide LD.out.fit
      have HLEN := hide LD.out.len
      have lM := rml.lt
      generalize hR : wr.heap.size = R at *
      clear hrg0 hg0 K0 LD rml hR
      go_frame
      go_loopw [10] (fun _ wr => ∃ (left : Lit → Bool) (cnt : Nat) (G : Prs Value), wr.ranges Try.prog 3 anyElem (N + 4) R D.length (mapE .held (mapD D)) left cnt ∧ AnyAt Try.prog 3 wr (N + 1) G ∧ Up G ∧ G.length + cnt ≤ D.length ∧ Cells wr (N + 3) [.map (some N), .map (some (N + 1)), .map (some (N + 2))] ∧ (∀ p ∈ D, Owns .i64 2 wr (N + 4) p.2.1 p.2.2) ∧ Below N w wr) (fun _ wr => wr.rangeLeft (N + 4) R)
      case atStart =>
        refine ⟨_, _, [], by have := R0.out; simp only [List.length_map] at this; exact this, G0.out, List.Pairwise.nil, by rw [mapE_size]; simp, X0.out, O0.out, B0.out⟩
      case round =>
        obtain ⟨left, cnt, G, hrg, hgm, hgu, hgl, hbx, hoo, hbl⟩ := hrel
        have GM := hide hgm
        have GU := hide hgu
        have BX := hide hbx
        have OO := hide hoo
        have BL := hide hbl
        clear hgm hgu hbx hoo hbl R0 O0 G0 X0 B0
        go_wp2_with (at_next; refine wpList_next_ranges _ rfl _ rfl 3 lawK anyElem (Value.int .i64) idV (fun key kl hkey => by obtain ⟨x, rfl, _⟩ := Maps.keyOf_int_inv Try.underlying3 hkey; exact ⟨x, rfl⟩) (fun v y _ => ⟨v, rfl⟩) (N + 4) R _ _ _ _ rfl hrg ?_ ?_)
        · intro _ hl0
          go_wp2_with fail
          go_ret2
          refine ⟨⟨some ⟨N + 3, 0, none⟩, 0, rfl, fun q => absurd HE.out q, fun _ => .inl rfl⟩, ?_⟩
          rw [HN.out]
          exact BL.out
        · intro x c kl y ps w1 cnt1 hkey hlx hy hps hat hrg1 hlt hg1 hs1 hen
          obtain ⟨x', ex, rfl, hwx⟩ := Maps.keyOf_int_inv Try.underlying3 hkey
          cases ex
          obtain ⟨c', hg, hd, _⟩ := visitE hupM left hlx (d := .held c) (fun zd => (hat zd).trans hy.symm)
          have ec : c = c' := by injection hd
          subst ec
          simp only [idV] at hen
          have eg : getM (mapD D) x = (getM D x).map Prod.fst := getM_map (fun (x : Value × List Int) => x.1) D x
          rw [eg] at hg
          cases hgD : getM D x with
          | none => rw [hgD] at hg; cases hg
          | some u =>
            obtain ⟨uv, us⟩ := u
            rw [hgD] at hg
            cases hg
            have hmem := getM_mem hgD
            have hids : idsD D x = us := by unfold idsD; rw [hgD]; rfl
            have hall : All us := by have := HFIT.out x; rw [hids] at this; exact this
            have hul : us.length ≤ l.length := by have := HLEN.out x; rw [hids] at this; exact this
            have k01 : Keep (fun z => z = R) wr w1 := (Keep.refl (fun z => z = R) wr).grown hg1 (by rintro g ⟨⟩ _; rfl)
            have lR : R < w1.heap.size := hrg1.lt
            have oo1 := hide (show ∀ p ∈ D, Owns .i64 2 w1 (N + 4) p.2.1 p.2.2 from fun p hp => (OO.out p hp).keep k01 (fun g hg q => by have := (HLT.out p hp g hg).2; omega))
            have gm1 := hide (anyAt_keep GM.out k01 (by omega))
            have bx1 := hide (BX.out.keep k01 (by omega))
            have bl1 := hide (BL.out.trans (k01.below (B := N) (by have := BX.out.1; omega) (fun z hz q => by omega)))
            have RG := hide hrg1
            have LT := hide hlt
            have ow := oo1.out _ hmem
            simp only at ow
            obtain ⟨va, vc, hve, hse, _, _, _⟩ := ow.seen
            subst hve
            have KG := gathered_any us va vc w1 hse hall (by omega)
            clear hrg1 hd hat hy hids hlt hlx k01 OO GM BX BL hg1 eg hse ow
            have hEN := hen
            by_cases hf : fitB (isum us) = true
            · obtain ⟨f1, f2⟩ := fit_yes hf
              rw [f1, f2] at KG
              generalize isum us = sm at *
              clear hf f1 f2
              go_wp2_with fail
              refine KG.mono ?_
              rintro e w2 ⟨rfl, b12⟩
              have b23 := alloc_below w2 (.cells #[.int .i64 sm, .int .i64 sm, .int .i64 sm] 138)
              have b13 := hide (b12.trans (b23.mono b12.size))
              have C3 := hide (Cells.new w2 #[.int .i64 sm, .int .i64 sm, .int .i64 sm] 138)
              have gE : w1.heap.size ≤ w2.heap.size := b12.size
              clear KG hen hEN b12 b23
              go_upto_region 18 with fail
              generalize hE : w2.heap.size = E at *
              generalize w2.alloc (.cells #[.int .i64 sm, .int .i64 sm, .int .i64 sm] 138) = w3 at *
              have HEE := hide hE
              clear hE
              have gm3 := anyAt_below gm1.out b13.out
              have bx3 := bx1.out.below b13.out
              refine wp_region_held_drew (S := fun wq => Cells wq (N + 3) [.map (some N), .map (some (N + 1)), .map (some (N + 2))] ∧ Cells wq E [.int .i64 sm, .int .i64 sm, .int .i64 sm]) (by kernel_rfl) ⟨bx3, C3.out⟩ (fun hS => ?_)
              have b14 := hide b13.out.drew
              have gm4 := hide (anyAt_below gm3 (Below.refl _ _).drew)
              have bx4 := hide (bx3.below (Below.refl _ _).drew)
              have C4 := hide (C3.out.below (Below.refl _ _).drew)
              clear b13 gm3 bx3 C3
              generalize w3.drew = w4 at *
              refine take_at 0 (some 65) (v := ?_) rfl rfl (by kernel_rfl) (by kernel_rfl) (by kernel_rfl) (fun _ _ _ h => h) ⟨by rfl, ?_⟩ hS ?_
              rotate_left
              · intro wq hSw; go_simp; try rfl
              simp only [Act.put, List.setIfInBounds_toArray, List.set_cons_zero, List.set_cons_succ]
              refine take_at 1 (some 66) (v := ?_) rfl rfl (by kernel_rfl) (by kernel_rfl) (by kernel_rfl) (fun _ _ _ h => h) ⟨by rfl, ?_⟩ hS ?_
              rotate_left
              · intro wq hSw; go_simp; try rfl
              simp only [Act.put, List.setIfInBounds_toArray, List.set_cons_zero, List.set_cons_succ]
              refine take_at 2 (some 67) (v := ?_) rfl rfl (by kernel_rfl) (by kernel_rfl) (by kernel_rfl) (fun _ _ _ h => h) ⟨by rfl, ?_⟩ hS ?_
              rotate_left
              · intro wq hSw; go_simp; try rfl
              simp only [Act.put, List.setIfInBounds_toArray, List.set_cons_zero, List.set_cons_succ]
              refine take_at 3 (some 68) (v := ?_) rfl rfl (by kernel_rfl) (by kernel_rfl) (by kernel_rfl) (fun _ _ _ h => h) ⟨by rfl, ?_⟩ hS ?_
              rotate_left
              · intro wq hSw; have q := (hSw.1.get 1 _ rfl).1; go_simp; try rfl
              simp only [Act.put, List.setIfInBounds_toArray, List.set_cons_zero, List.set_cons_succ]
              refine take_at 4 (some 69) (v := ?_) rfl rfl (by kernel_rfl) (by kernel_rfl) (by kernel_rfl) (fun _ _ _ h => h) ⟨by rfl, ?_⟩ hS ?_
              rotate_left
              · intro wq hSw; go_simp; try rfl
              simp only [Act.put, List.setIfInBounds_toArray, List.set_cons_zero, List.set_cons_succ]
              refine take_at 5 (some 70) (v := ?_) rfl rfl (by kernel_rfl) (by kernel_rfl) (by kernel_rfl) (fun _ _ _ h => h) ⟨by rfl, ?_⟩ hS ?_
              rotate_left
              · intro wq hSw; have q := (hSw.2.get 0 _ rfl).1; have q1 := (hSw.2.get 1 _ rfl).1; have q2 := (hSw.2.get 2 _ rfl).1; go_simp; try rfl
              simp only [Act.put, List.setIfInBounds_toArray, List.set_cons_zero, List.set_cons_succ]
              obtain ⟨w5, hu5, gm5, hg5⟩ := any_upd lawK Try.underlying134 gm4.out GU.out hkey (by omega) (tot sm sm sm)
              have k45 := grown_m hg5
              have lw1 : N + 4 < w1.heap.size := by omega
              have s14 := b14.out.size
              have r5 := hide ((RG.out.kept (w' := w4) (row := none) ⟨b14.out.os, b14.out.tape, b14.out.output, b14.out.size, fun i hi _ => b14.out.block i hi⟩ (by nofun) (by nofun)).kept hg5 (by intro q; injection q with q; omega) (by intro q; injection q with q; omega))
              have bx5 := hide (bx4.out.keep k45 (by omega))
              have c5 := hide (C4.out.keep k45 (by omega))
              have oo5 := hide (show ∀ p ∈ D, Owns .i64 2 w5 (N + 4) p.2.1 p.2.2 from fun p hp => ((oo1.out p hp).below b14.out).keep k45 (fun g hg q => by have := (HLT.out p hp g hg).1; omega))
              have bl5 := hide ((bl1.out.trans (b14.out.mono (by have := bl1.out.size; have := HN.out; omega))).trans (k45.below (B := N) (by omega) (fun z hz q => by omega)))
              have GM5 := hide gm5
              have HU5 := hide hu5
              have gl5 := length_putM x (tot sm sm sm) G
              clear gm5 hu5 hg5 k45 s14
              refine wpAnyH_ready (rs := [6]) (by kernel_rfl) (by simp) ?_
              refine AllReadyH.cons rfl (fun K hK => ?_) AllReadyH.nil
              refine wp_upd (.tmp 68) (.tmp 69) (.tmp 70) rfl rfl rfl rfl rfl HU5.out ?_
              refine hK.out _ _ ⟨bx5.out, c5.out⟩ (fun hS => ?_)
              clear hK K hS HU5
              (try simp only [Act.put, List.setIfInBounds_toArray, List.set_cons_zero, List.set_cons_succ])
              refine wpAnyH_done (by kernel_rfl) ?_ _
              go_wp2_with fail
              go_roundw
              case rel =>
                exact ⟨_, cnt1, _, r5.out, GM5.out, GU.out.put _ _, by have := LT.out; omega, bx5.out, oo5.out, bl5.out⟩
              case measure => rw [r5.out.left_eq, hrg.left_eq]; exact LT.out
            · obtain ⟨f1, f2⟩ := fit_no (by simpa using hf)
              rw [f1, f2] at KG
              clear hf f1 f2
              go_wp2_with fail
              refine KG.mono ?_
              rintro e w2 ⟨rfl, b12⟩
              have b13 := hide (bl1.out.trans (b12.mono (by have := bl1.out.size; have := HN.out; omega)))
              clear b12 KG hen hEN
              go_wp2_with fail
              go_ret2
              refine ⟨⟨none, 10, rfl, fun q => absurd HE.out q, fun _ => .inr rfl⟩, ?_⟩
              rw [HN.out]
              exact b13.out.alloc (by have := b13.out.size; have := HN.out; omega) _
end Go.Proofs.Ytlloppalagddnaa
