import Derived.Test.YtaohdmaenplbpaaGreatLdS
set_option linter.all false
namespace Go.Proofs.YtaohdmaenplbpaaGreat
open Go.RowKit Go.QK Quota Go.Maps Go.QM
set_option maxRecDepth 100000

theorem wp_look {o : Oper} {a : Act} {x x' : World} {K : Act → World → Prop} {Q : Exit → Act → World → Prop} {cond : Bool} {t : TypeId} {v u v' : Value} (d : Nat) (s r : Operand) (hc : cond = true) (hd : o.dst = some d)
    (ho : o.op = .lookup t s r false) (hs : a.eval s = v) (hr : a.eval r = u) (hrun : (Instr.lookup t v u false).run Tryz.prog x = .ok v' x')
    (h : K (a.put (some d) v') x') : if cond = true then Oper.wp Tryz.prog o a x K Q else K (a.put o.dst undef) x := by
  rw [if_pos hc]
  unfold Oper.wp
  simp [execOp, ho, hs, hr, hrun, Result.andThen]
  rw [Oper.upon_value, hd]
  exact h
theorem wp_upd {o : Oper} {a : Act} {x x' : World} {K : Act → World → Prop} {Q : Exit → Act → World → Prop} {cond : Bool} {t : TypeId} {v u y : Value} (s r z : Operand) (hc : cond = true)
    (ho : o.op = .mapUpdate t s r z) (hs : a.eval s = v) (hr : a.eval r = u) (hz : a.eval z = y) (hrun : (Instr.mapUpdate t v u y).run Tryz.prog x = .ok () x')
    (h : K (a.put o.dst undef) x') : if cond = true then Oper.wp Tryz.prog o a x K Q else K (a.put o.dst undef) x := by
  rw [if_pos hc]
  unfold Oper.wp
  simp [execOp, ho, hs, hr, hz, hrun, Result.andThen]
  rw [Oper.upon_skip]
  exact h
theorem any_upd {P : Program} {t k e : TypeId} (K : Keyed P k) (ht : P.underlying t = some (.map k e)) {w : World} {m : Nat} {L : Prs Value} (h : AnyAt P k w m L) (hu : Up L) {x : Int} (hk : keyOf P k (.int .i64 x) = some (.int .i64 x)) (hl : L.length < 4000000000) (v : Value) :
    ∃ w', (Instr.mapUpdate t (.map (some m)) (.int .i64 x) v).run P w = .ok () w' ∧ AnyAt P k w' m (putM x v L) ∧ w.grownBy w' (some m) := by
  obtain ⟨w', h1, h2, h3⟩ := World.ownsMap.update h K ht (by unfold maxLen; omega) hk (show anyElem v = some (.held v, []) from rfl)
  exact ⟨w', h1, AnyAt.put hu h2, h3⟩
theorem lies_val (w : World) (v : Value) (t : TypeId) : Lies (w.alloc (.cells #[v] t)) (some ⟨w.heap.size, 0, none⟩) [v] := by
  have h := Cells.new w #[v] t
  refine .inr ⟨w.heap.size, 0, rfl, h.1, fun i hi => ?_⟩
  have q := (h.2 i (by simpa using hi)).1
  rw [Nat.zero_add]
  exact q
theorem zeroS (w : World) : (zeroValue 117).run Tryz.prog w = .ok (.slice none 0 0) w := by kernel_rfl
theorem PL.heldD {lab : Nat → Nat} {B : Nat} {w : World} {l : Led} (_ : PL lab B w l) (tx : Int) : (getM (l.D.map (fun (p : Int × Value × List Int) => (p.1, p.2.1))) tx).getD (.slice none 0 0) = l.heldV tx := by
  rw [getM_mapV Prod.fst l.D tx]
  rfl
/-- One more in a list of counters. -/
theorem run_held (x : World) (B : Nat) (v : Value) (xs : List Int) (hown : Owns .i64 3 x B v xs) (id : Int) (hl : xs.length ≤ 1048576) (hB : B ≤ x.heap.size) :
    ∃ v' x', (Builtin.append_ #[117, 117] 117 #[v, .slice (some ⟨x.heap.size, 0, none⟩) 1 1]).run Tryz.prog (x.alloc (.cells #[.int .i64 id] 3)) = .ok v' x' ∧ Owns .i64 3 x' B v' (xs ++ [id]) ∧ Keep (fun z => v.ownBlock = some z) x x' ∧ (v'.ownBlock = v.ownBlock ∨ ∃ g, v'.ownBlock = some g ∧ x.heap.size ≤ g) := by
  obtain ⟨v', x', h1, h2, h3, h4⟩ := run_pushR Tryz.underlying117 info3 rfl (by decide) (by decide) 117 (x.alloc (.cells #[.int .i64 id] 3)) B v xs.length (xs.map (Value.int .i64)) (hown.alloc _) ⟨x.heap.size, 0, none⟩ 1 1 [.int .i64 id] rfl (lies_val x _ 3) (by intro u hu; simp at hu; subst hu; rfl) (by omega) (by simp; omega)
  refine ⟨v', x', h1, ?_, ((Keep.refl (fun z => v.ownBlock = some z) x).alloc _).grown h3 (fun g hg _ => hg), ?_⟩
  · unfold Owns
    rw [List.length_append, List.map_append]
    exact h2
  · rcases h4 with h | h
    · exact .inl h
    · exact .inr ⟨_, h, by simp⟩
set_option maxHeartbeats 4000000 in
theorem addL_no (lab : Nat → Nat) (B : Nat) (l : Led) (tx id d : Int) (w : World) (h : PL lab B w l) (hx : I64 tx) (hi : I64 id) (hd : I64 d) (hE : mayL l.ctrs tx id d ≠ 0) :
    Calls Tryz.prog 48 #[ptr l.lb, .int .i64 tx, .int .i64 id, .int .i64 d] w fun r w' => r = .returned (.int .i64 (mayL l.ctrs tx id d)) ∧ Below w.heap.size w w' := by
  have KW := weighL_any lab B l tx id d w h hx hi hd
  obtain ⟨a, b, c, e⟩ := wgV_tot l tx id d
  rw [e] at KW
  have hE2 : (mayL l.ctrs tx id d != 0) = true := by simpa using hE
  generalize mayL l.ctrs tx id d = EE at *
  clear h e hE
  go_enter Tryz.func48, Tryz.ntmps48
  go_wp2_with fail
  refine KW.mono ?_
  rintro r x1 ⟨rfl, h1⟩
  have B1 := hide h1
  clear h1 KW
  go_wp2_with fail
  go_ret
  exact ⟨rfl, B1.out.alloc B1.out.size _⟩
set_option maxHeartbeats 8000000 in
theorem addL_new (lab : Nat → Nat) (B : Nat) (l : Led) (tx id d : Int) (x : Lm) (w : World) (h : PL lab B w l) (hx : I64 tx) (hi : I64 id) (hd : I64 d) (hk : getM l.K id = some x) (e0 : mayL l.ctrs tx id d = 0) (hlen : x.c.e.nets.length < 1000000000) (hlD : l.D.length < 3000000000) (hold : holdB x.c.e.nets tx = false) :
    Calls Tryz.prog 48 #[ptr l.lb, .int .i64 tx, .int .i64 id, .int .i64 d] w fun r w' => r = .returned (.int .i64 0) ∧ ∃ v, PL (labH lab w.heap.size tx) B w' (l.added tx id d x v) ∧ Keep (addS l tx x) w w' := by
  have hc : getM l.ctrs id = some x.c := by rw [getC, hk]; rfl
  have hnx : ¬ (tx < 1 ∨ 2147483647 < tx) := by
    intro q
    unfold mayL at e0
    rw [if_pos q] at e0
    cases e0
  have hz := (mayL_zero hc e0).1
  have KW := weighL_any lab B l tx id d w h hx hi hd
  have ew : wgV l tx id d = tot (sumG l.ctrs x.c.grp - netV x.c.e.nets tx + (netV x.c.e.nets tx + d)) (lowG l.ctrs x.c.grp - min (netV x.c.e.nets tx) 0 + min (netV x.c.e.nets tx + d) 0) (highG l.ctrs x.c.grp - max (netV x.c.e.nets tx) 0 + max (netV x.c.e.nets tx + d) 0) := by
    unfold wgV
    rw [hk]
    simp only
    rw [if_neg (by rintro (q | q); exact hnx q; exact q hz)]
    unfold mvV
    rw [← mayL_mv hnx hc hz, e0]
    rfl
  rw [ew, e0] at KW
  have KN := fun w' (h : PE w' x.b x.m x.c.e) => net_any x.b x.m x.c.e tx w' h hx
  have KA := fun w' (h : PE w' x.b x.m x.c.e) => add_any' x.b x.m x.c.e tx d w' h hx hd hlen
  rw [hold] at KN
  rw [hz] at KA
  have hgI : I64 x.c.grp := by have := (h.ok.ids _ (getM_mem hc)).2; unfold I64; simp only at this; omega
  have HL := hide h.lt
  have PA := fun (xa y : World) (v : Value) (h0 : PL lab B xa l) => PL.add (y := y) (v := v) h0 HL.out hk e0
  rw [hold] at PA
  have LX := h.lt.2.2.2.2.1 _ (getM_mem hk)
  have l5 := h.l5 _ (getM_mem hk)
  simp only at LX l5
  obtain ⟨LX1, LX2⟩ := LX
  obtain ⟨l51, l52⟩ := l5
  have q1 := h.l1
  have q2 := h.l2
  have q3 := h.l3
  have q4 := h.l4
  obtain ⟨L1, L2, L3, L4, _, _⟩ := h.lt
  have HV : ∀ g, (l.heldV tx).ownBlock = some g → g < w.heap.size ∧ lab g = 11 + 2 * tx.toNat := fun g hg => ⟨(World.ownsRow.lt (h.heldO tx) g hg).2, h.heldL hg⟩
  have dn : ∀ {a b : Nat}, lab a ≠ lab b → a ≠ b := fun q r => q (by rw [r])
  have d1 : l.lb ≠ l.mh := dn (by omega)
  have d2 : l.lb ≠ l.mg := dn (by omega)
  have d3 : l.mg ≠ l.mh := dn (by omega)
  have d4 : x.b ≠ l.mg := dn (by omega)
  have d5 : x.b ≠ l.mh := dn (by omega)
  have d6 : x.m ≠ l.mg := dn (by omega)
  have d7 : x.m ≠ l.mh := dn (by omega)
  have dv : ∀ g, (l.heldV tx).ownBlock = some g → g ≠ l.lb ∧ g ≠ l.mg ∧ g ≠ l.mh ∧ g ≠ x.b ∧ g ≠ x.m := fun g hg => by
    have := (HV g hg).2
    exact ⟨dn (by omega), dn (by omega), dn (by omega), dn (by omega), dn (by omega)⟩
  have HA := hide (getM_mapV entV l.K id)
  have HG := hide hk
  have hBn : B ≤ w.heap.size := by have := h.low.1; omega
  have hmem := getM_mem hk
  clear dn q1 q2 q3 q4 l51 l52 e0 ew hc hz hold
  generalize sumG l.ctrs x.c.grp - netV x.c.e.nets tx + (netV x.c.e.nets tx + d) = v0 at *
  generalize lowG l.ctrs x.c.grp - min (netV x.c.e.nets tx) 0 + min (netV x.c.e.nets tx + d) 0 = v1 at *
  generalize highG l.ctrs x.c.grp - max (netV x.c.e.nets tx) 0 + max (netV x.c.e.nets tx + d) 0 = v2 at *
  have HP := hide h
  clear h hk hnx
  go_enter Tryz.func48, Tryz.ntmps48
  go_wp2_with fail
  refine KW.mono ?_
  rintro r x1 ⟨rfl, h1⟩
  have b2 := alloc_below x1 (.cells #[.int .i64 v0, .int .i64 v1, .int .i64 v2] 125)
  have P1 := HP.out.below h1
  have P2 := P1.below b2
  have k2 := (P2.box.get 0 _ rfl).1
  have hr := any_run lawK Tryz.underlying104 zeroE P2.cm (keyI hi)
  rw [HA.out, HG.out] at hr
  simp only [Option.map_some, Option.getD_some] at hr
  have HP2 := hide P2
  have B1 := hide h1
  have sz1 := h1.size
  clear h1 KW P1 P2 b2 HP HA HG
  go_wp2_with fail
  have b3 := alloc_below (x1.alloc (.cells #[.int .i64 v0, .int .i64 v1, .int .i64 v2] 125)) (.cells #[.int .i64 x.c.grp, ptr x.b] 110)
  have P3 := HP2.out.below b3
  refine (KN _ (P3.esc _ hmem)).mono ?_
  rintro r x4 ⟨rfl, h4⟩
  have P4 := hide (P3.below h4)
  have T4 := hide (((Cells.new x1 #[.int .i64 v0, .int .i64 v1, .int .i64 v2] 125).below b3).below h4)
  have E4 := hide (show Cells x4 (x1.heap.size + 1) [.int .i64 x.c.grp, ptr x.b] from by
    have := (Cells.new (x1.alloc (.cells #[.int .i64 v0, .int .i64 v1, .int .i64 v2] 125)) #[.int .i64 x.c.grp, ptr x.b] 110).below h4
    simpa using this)
  have B4 := hide (B1.out.trans ((below2 h4).mono sz1))
  have sz4 : x1.heap.size + 2 ≤ x4.heap.size := by have := h4.size; simp at this; omega
  generalize x1.heap.size = tb at *
  clear h4 b3 P3 HP2 B1 k2 hr KN x1
  go_upto_region 7 with fail
  refine wp_region_held_drew (S := fun wq => Cells wq l.lb [.map (some l.mc), .map (some l.mg), .map (some l.mh)]) (by kernel_rfl) P4.out.box (fun hS => ?_)
  have Pa := hide (P4.out.below (Below.refl _ _).drew)
  have Ea := hide (E4.out.below (Below.refl _ _).drew)
  have Ta := hide (T4.out.below (Below.refl _ _).drew)
  have Ba := hide B4.out.drew
  have sza : tb + 2 ≤ x4.drew.heap.size := sz4
  clear P4 E4 T4 B4 sz4
  generalize x4.drew = xa at *
  refine take_at 0 (some 40) (v := ?_) rfl rfl (by kernel_rfl) (by kernel_rfl) (by kernel_rfl) (fun _ _ _ h => h) ⟨by rfl, ?_⟩ hS ?_
  rotate_left
  · intro wq hSw; go_simp; try rfl
  simp only [Act.put, List.setIfInBounds_toArray, List.set_cons_zero, List.set_cons_succ]
  refine take_at 1 (some 41) (v := ?_) rfl rfl (by kernel_rfl) (by kernel_rfl) (by kernel_rfl) (fun _ _ _ h => h) ⟨by rfl, ?_⟩ hS ?_
  rotate_left
  · intro wq hSw; go_simp; try rfl
  simp only [Act.put, List.setIfInBounds_toArray, List.set_cons_zero, List.set_cons_succ]
  refine take_at 2 (some 42) (v := ?_) rfl rfl (by kernel_rfl) (by kernel_rfl) (by kernel_rfl) (fun _ _ _ h => h) ⟨by rfl, ?_⟩ hS ?_
  rotate_left
  · intro wq hSw; go_simp; try rfl
  simp only [Act.put, List.setIfInBounds_toArray, List.set_cons_zero, List.set_cons_succ]
  refine take_at 3 (some 43) (v := ?_) rfl rfl (by kernel_rfl) (by kernel_rfl) (by kernel_rfl) (fun _ _ _ h => h) ⟨by rfl, ?_⟩ hS ?_
  rotate_left
  · intro wq hSw; have q := (hSw.get 2 _ rfl).1; go_simp; try rfl
  simp only [Act.put, List.setIfInBounds_toArray, List.set_cons_zero, List.set_cons_succ]
  refine take_at 4 (some 44) (v := ?_) rfl rfl (by kernel_rfl) (by kernel_rfl) (by kernel_rfl) (fun _ _ _ h => h) ⟨by rfl, ?_⟩ hS ?_
  rotate_left
  · intro wq hSw; go_simp; try rfl
  simp only [Act.put, List.setIfInBounds_toArray, List.set_cons_zero, List.set_cons_succ]
  refine take_at 5 (some 45) (v := ?_) rfl rfl (by kernel_rfl) (by kernel_rfl) (by kernel_rfl) (fun _ _ _ h => h) ⟨by rfl, ?_⟩ hS ?_
  rotate_left
  · intro wq hSw; go_simp; try rfl
  simp only [Act.put, List.setIfInBounds_toArray, List.set_cons_zero, List.set_cons_succ]
  refine take_at 6 (some 46) (v := ?_) rfl rfl (by kernel_rfl) (by kernel_rfl) (by kernel_rfl) (fun _ _ _ h => h) ⟨by rfl, ?_⟩ hS ?_
  rotate_left
  · intro wq hSw; go_simp; try rfl
  simp only [Act.put, List.setIfInBounds_toArray, List.set_cons_zero, List.set_cons_succ]
  refine take_at 7 (some 47) (v := ?_) rfl rfl (by kernel_rfl) (by kernel_rfl) (by kernel_rfl) (fun _ _ _ h => h) ⟨by rfl, ?_⟩ hS ?_
  rotate_left
  · intro wq hSw; go_simp; try rfl
  simp only [Act.put, List.setIfInBounds_toArray, List.set_cons_zero, List.set_cons_succ]
  refine take_at 8 (some 48) (v := ?_) rfl rfl (by kernel_rfl) (by kernel_rfl) (by kernel_rfl) (fun _ _ _ h => h) ⟨by rfl, ?_⟩ hS ?_
  rotate_left
  · intro wq hSw; have q := (hSw.get 2 _ rfl).1; go_simp; try rfl
  simp only [Act.put, List.setIfInBounds_toArray, List.set_cons_zero, List.set_cons_succ]
  refine take_at 9 (some 49) (v := ?_) rfl rfl (by kernel_rfl) (by kernel_rfl) (by kernel_rfl) (fun _ _ _ h => h) ⟨by rfl, ?_⟩ hS ?_
  rotate_left
  · intro wq hSw; go_simp; try rfl
  simp only [Act.put, List.setIfInBounds_toArray, List.set_cons_zero, List.set_cons_succ]
  refine take_at 11 (some 51) (v := ?_) rfl rfl (by kernel_rfl) (by kernel_rfl) (by kernel_rfl) (fun _ _ _ h => h) ⟨by rfl, ?_⟩ hS ?_
  rotate_left
  · intro wq hSw; go_simp; try rfl
  simp only [Act.put, List.setIfInBounds_toArray, List.set_cons_zero, List.set_cons_succ]
  have la := any_run lawK Tryz.underlying106 zeroS Pa.out.hm (keyI hx)
  rw [Pa.out.heldD tx] at la
  have ab := alloc_below xa (.cells #[.int .i64 id] 3)
  have lb := any_run lawK Tryz.underlying106 zeroS (Pa.out.below ab).hm (keyI hx)
  rw [(Pa.out.below ab).heldD tx] at lb
  obtain ⟨v, xc, hr, hO, hkc, hvb⟩ := run_held xa B (l.heldV tx) (idsOf l.helds tx) (Pa.out.heldO tx) id (Pa.out.lenI tx) (by omega)
  have hmc := anyAt_keep Pa.out.hm hkc (fun q => (dv _ q).2.2.1 rfl)
  obtain ⟨xd, hu, hmd, hg⟩ := any_upd lawK Tryz.underlying106 hmc ((up_map Prod.fst).2 Pa.out.upD) (keyI hx) (by simp; omega) v
  have kcd : Keep (fun z => z = l.mh) xc xd := (Keep.refl (fun z => z = l.mh) xc).grown hg (by rintro g ⟨⟩ _; rfl)
  have kd : Keep (fun z => z = l.mh ∨ (l.heldV tx).ownBlock = some z) xa xd := (hkc.mono (T := fun z => z = l.mh ∨ (l.heldV tx).ownBlock = some z) (fun _ _ q => .inr q)).trans kcd (fun _ _ q => .inl q)
  have Od := hO.keep kcd (fun g hg q => by rcases hvb with r | ⟨g2, r, r2⟩; exact (dv g (by rw [← r]; exact hg)).2.2.1 q; rw [r] at hg; cases hg; omega)
  have lS : ∀ y, Keep (fun z => z = l.mh ∨ (l.heldV tx).ownBlock = some z) xa y → Cells y l.lb [.map (some l.mc), .map (some l.mg), .map (some l.mh)] := fun y k => Pa.out.box.keep k (by rintro (q | q); exact d1 q; exact (dv _ q).1 rfl)
  have s1 := Pa.out.box
  have s2 := (Pa.out.below ab).box
  have s3 := lS xc (hkc.mono (fun _ _ q => .inr q))
  have s4 := lS xd kd
  have H1 := hide la
  have H2 := hide lb
  have H3 := hide hr
  have H4 := hide hu
  clear la lb hr hu ab hO hkc hmc hg kcd
  refine wpAnyH_ready (rs := [10, 12]) (by kernel_rfl) (by simp) ?_
  refine AllReadyH.cons rfl (fun K hK => ?_) (AllReadyH.cons rfl (fun K hK => ?_) AllReadyH.nil)
  · refine wp_look 50 (.tmp 48) (.tmp 49) rfl rfl rfl rfl rfl H1.out ?_
    refine hK.out _ _ s1 (fun hS => ?_)
    clear hK K
    (try simp only [Act.put, List.setIfInBounds_toArray, List.set_cons_zero, List.set_cons_succ])
    refine wpAnyH_ready (rs := [12]) (by kernel_rfl) (by simp) ?_
    refine AllReadyH.cons rfl (fun K hK => ?_) AllReadyH.nil
    go_simp
    go_wp2_with fail
    refine hK.out _ _ s2 (fun hS => ?_)
    clear hK K
    (try simp only [Act.put, List.setIfInBounds_toArray, List.set_cons_zero, List.set_cons_succ])
    refine wpAnyH_ready (rs := [13]) (by kernel_rfl) (by simp) ?_
    refine AllReadyH.cons rfl (fun K hK => ?_) AllReadyH.nil
    refine wp_run 53 (.tmp 50) (.tmp 52) rfl rfl rfl rfl rfl H3.out ?_
    refine hK.out _ _ s3 (fun hS => ?_)
    clear hK K
    (try simp only [Act.put, List.setIfInBounds_toArray, List.set_cons_zero, List.set_cons_succ])
    refine wpAnyH_ready (rs := [14]) (by kernel_rfl) (by simp) ?_
    refine AllReadyH.cons rfl (fun K hK => ?_) AllReadyH.nil
    refine wp_upd (.tmp 43) (.tmp 44) (.tmp 53) rfl rfl rfl rfl rfl H4.out ?_
    refine hK.out _ _ s4 (fun hS => ?_)
    clear hK K
    (try simp only [Act.put, List.setIfInBounds_toArray, List.set_cons_zero, List.set_cons_succ])
    refine wpAnyH_done (by kernel_rfl) ?_ _
    clear s1 s2 s3 s4 H1 H2 H3 H4 hS
    have OB : ∀ g, v.ownBlock = some g → (g ≠ l.lb ∧ g ≠ l.mg ∧ g ≠ l.mh ∧ g ≠ x.b ∧ g ≠ x.m) ∨ w.heap.size ≤ g := fun g hg => by rcases hvb with r | ⟨g2, r, r2⟩; exact .inl (dv g (by rw [← r]; exact hg)); rw [r] at hg; cases hg; exact .inr (by omega)
    have VB := hide (show v.ownBlock = (l.heldV tx).ownBlock ∨ ∃ g, v.ownBlock = some g ∧ w.heap.size ≤ g from by rcases hvb with r | ⟨g2, r, r2⟩; exact .inl r; exact .inr ⟨g2, r, by omega⟩)
    have Ld := hide (lS xd kd)
    have Ed := hide (Ea.out.keep kd (by rintro (q | q); omega; have := (HV _ q).1; omega))
    have Td := hide (Ta.out.keep kd (by rintro (q | q); omega; have := (HV _ q).1; omega))
    have szd : tb + 2 ≤ xd.heap.size := by have := kd.size; omega
    have HMd := hide hmd
    have kd := hide kd
    have Od := hide Od
    clear hmd lS hvb Ea Ta
    go_upto_region 8 with fail
    refine wp_region_held_drew (S := fun wq => Cells wq l.lb [.map (some l.mc), .map (some l.mg), .map (some l.mh)] ∧ Cells wq (tb + 1) [.int .i64 x.c.grp, ptr x.b] ∧ Cells wq tb [.int .i64 v0, .int .i64 v1, .int .i64 v2]) (by kernel_rfl) ⟨Ld.out, Ed.out, Td.out⟩ (fun hS => ?_)
    have ke := hide kd.out.drew
    have He := hide (anyAt_below HMd.out (Below.refl _ _).drew)
    have Oe := hide (Od.out.below (Below.refl _ _).drew)
    have Le := hide (Ld.out.below (Below.refl _ _).drew)
    have Ee := hide (Ed.out.below (Below.refl _ _).drew)
    have Te := hide (Td.out.below (Below.refl _ _).drew)
    have sze : tb + 2 ≤ xd.drew.heap.size := szd
    clear kd HMd Od Ld Ed Td szd
    generalize xd.drew = xe at *
    refine take_at 0 (some 54) (v := ?_) rfl rfl (by kernel_rfl) (by kernel_rfl) (by kernel_rfl) (fun _ _ _ h => h) ⟨by rfl, ?_⟩ hS ?_
    rotate_left
    · intro wq hSw; go_simp; try rfl
    simp only [Act.put, List.setIfInBounds_toArray, List.set_cons_zero, List.set_cons_succ]
    refine take_at 1 (some 55) (v := ?_) rfl rfl (by kernel_rfl) (by kernel_rfl) (by kernel_rfl) (fun _ _ _ h => h) ⟨by rfl, ?_⟩ hS ?_
    rotate_left
    · intro wq hSw; go_simp; try rfl
    simp only [Act.put, List.setIfInBounds_toArray, List.set_cons_zero, List.set_cons_succ]
    refine take_at 2 (some 56) (v := ?_) rfl rfl (by kernel_rfl) (by kernel_rfl) (by kernel_rfl) (fun _ _ _ h => h) ⟨by rfl, ?_⟩ hS ?_
    rotate_left
    · intro wq hSw; go_simp; try rfl
    simp only [Act.put, List.setIfInBounds_toArray, List.set_cons_zero, List.set_cons_succ]
    refine take_at 3 (some 57) (v := ?_) rfl rfl (by kernel_rfl) (by kernel_rfl) (by kernel_rfl) (fun _ _ _ h => h) ⟨by rfl, ?_⟩ hS ?_
    rotate_left
    · intro wq hSw; obtain ⟨r0, r1, r2⟩ := hSw; have q := (r0.get 1 _ rfl).1; go_simp; try rfl
    simp only [Act.put, List.setIfInBounds_toArray, List.set_cons_zero, List.set_cons_succ]
    refine take_at 4 (some 58) (v := ?_) rfl rfl (by kernel_rfl) (by kernel_rfl) (by kernel_rfl) (fun _ _ _ h => h) ⟨by rfl, ?_⟩ hS ?_
    rotate_left
    · intro wq hSw; go_simp; try rfl
    simp only [Act.put, List.setIfInBounds_toArray, List.set_cons_zero, List.set_cons_succ]
    refine take_at 5 (some 59) (v := ?_) rfl rfl (by kernel_rfl) (by kernel_rfl) (by kernel_rfl) (fun _ _ _ h => h) ⟨by rfl, ?_⟩ hS ?_
    rotate_left
    · intro wq hSw; obtain ⟨r0, r1, r2⟩ := hSw; have q := (r1.get 0 _ rfl).1; go_simp; try rfl
    simp only [Act.put, List.setIfInBounds_toArray, List.set_cons_zero, List.set_cons_succ]
    refine take_at 6 (some 60) (v := ?_) rfl rfl (by kernel_rfl) (by kernel_rfl) (by kernel_rfl) (fun _ _ _ h => h) ⟨by rfl, ?_⟩ hS ?_
    rotate_left
    · intro wq hSw; obtain ⟨r0, r1, r2⟩ := hSw; have q := (r2.get 0 _ rfl).1; have q1 := (r2.get 1 _ rfl).1; have q2 := (r2.get 2 _ rfl).1; go_simp; try rfl
    simp only [Act.put, List.setIfInBounds_toArray, List.set_cons_zero, List.set_cons_succ]
    have gme := anyAt_keep Pa.out.gm ke.out (by rintro (q | q); exact d3 q; exact (dv _ q).2.1 rfl)
    obtain ⟨xf, hu, hmf, hg⟩ := any_upd lawK Tryz.underlying105 gme ((up_map totV).2 Pa.out.gup) (keyI hgI) (by have := Pa.out.lenG; simp; omega) (tot v0 v1 v2)
    have kef : Keep (fun z => z = l.mg) xe xf := (Keep.refl (fun z => z = l.mg) xe).grown hg (by rintro g ⟨⟩ _; rfl)
    have kf : Keep (fun z => z = l.mg ∨ z = l.mh ∨ (l.heldV tx).ownBlock = some z) xa xf := (ke.out.mono (T := fun z => z = l.mg ∨ z = l.mh ∨ (l.heldV tx).ownBlock = some z) (fun _ _ q => .inr q)).trans kef (fun _ _ q => .inl q)
    have Hf := anyAt_keep He.out kef (fun q => d3 q.symm)
    have Of := Oe.out.keep kef (fun g hg q => by rcases OB g hg with r | r; exact r.2.1 q; omega)
    have Lf := Le.out.keep kef (by omega)
    have Ef := hide (Ee.out.keep kef (by omega))
    have Tf := Te.out.keep kef (by omega)
    have Qf := (Pa.out.esc _ hmem).keep kf (by rintro (q | q | q); exact d4 q; exact d5 q; exact (dv _ q).2.2.2.1 rfl) (by rintro (q | q | q); exact d6 q; exact d7 q; exact (dv _ q).2.2.2.2 rfl)
    have szf : tb + 2 ≤ xf.heap.size := by have := kef.size; omega
    have H8 := hide hu
    have KF := hide kf
    have GF := hide hmf
    have HF := hide Hf
    have OF := hide Of
    clear hu hg kef kf hmf Hf Of gme ke He Oe Le Ee Te
    refine wpAnyH_ready (rs := [7]) (by kernel_rfl) (by simp) ?_
    refine AllReadyH.cons rfl (fun K hK => ?_) AllReadyH.nil
    refine wp_upd (.tmp 57) (.tmp 59) (.tmp 60) rfl rfl rfl rfl rfl H8.out ?_
    refine hK.out _ _ ⟨Lf, Ef.out, Tf⟩ (fun hS => ?_)
    clear hK K hS
    (try simp only [Act.put, List.setIfInBounds_toArray, List.set_cons_zero, List.set_cons_succ])
    refine wpAnyH_done (by kernel_rfl) ?_ _
    obtain ⟨u1, _⟩ := Ef.out.get 1 _ rfl
    have QF := hide Qf
    clear Lf Tf Qf H8
    go_wp2_with fail
    refine (KA _ QF.out).mono ?_
    rintro r xz ⟨rfl, hkz, hpz⟩
    have KZ := hide hkz
    have PZ := hide hpz
    clear hkz hpz KA QF u1
    go_wp2_with fail
    go_ret
    have fk : Keep (addS l tx x) xa xz := (KF.out.mono (T := addS l tx x) (fun z _ q => by rcases q with q | q | q; exact .inl q; exact .inr (.inl q); exact .inr (.inr (.inr (.inr q))))).trans KZ.out (fun z _ q => by rcases q with q | q; exact .inr (.inr (.inl q)); exact .inr (.inr (.inr (.inl q))))
    have g1 := anyAt_keep GF.out KZ.out (by rintro (q | q); exact d4 q.symm; exact d6 q.symm)
    have g2 := anyAt_keep HF.out KZ.out (by rintro (q | q); exact d5 q.symm; exact d7 q.symm)
    have g3 := OF.out.keep KZ.out (fun g hg q => by rcases OB g hg with r | r; rcases q with q | q; exact r.2.2.2.1 q; exact r.2.2.2.2 q; rcases q with q | q <;> omega)
    exact ⟨rfl, v, PA xa xz v Pa.out PZ.out fk g1 g2 (fun _ => ⟨g3, VB.out⟩) (fun q => by cases q), (Keep.of_below (S := addS l tx x) Ba.out).trans fk (fun _ _ q => q)⟩
  · go_simp
    go_wp2_with fail
    refine hK.out _ _ s2 (fun hS => ?_)
    clear hK K
    (try simp only [Act.put, List.setIfInBounds_toArray, List.set_cons_zero, List.set_cons_succ])
    refine wpAnyH_ready (rs := [10]) (by kernel_rfl) (by simp) ?_
    refine AllReadyH.cons rfl (fun K hK => ?_) AllReadyH.nil
    refine wp_look 50 (.tmp 48) (.tmp 49) rfl rfl rfl rfl rfl H2.out ?_
    refine hK.out _ _ s2 (fun hS => ?_)
    clear hK K
    (try simp only [Act.put, List.setIfInBounds_toArray, List.set_cons_zero, List.set_cons_succ])
    refine wpAnyH_ready (rs := [13]) (by kernel_rfl) (by simp) ?_
    refine AllReadyH.cons rfl (fun K hK => ?_) AllReadyH.nil
    refine wp_run 53 (.tmp 50) (.tmp 52) rfl rfl rfl rfl rfl H3.out ?_
    refine hK.out _ _ s3 (fun hS => ?_)
    clear hK K
    (try simp only [Act.put, List.setIfInBounds_toArray, List.set_cons_zero, List.set_cons_succ])
    refine wpAnyH_ready (rs := [14]) (by kernel_rfl) (by simp) ?_
    refine AllReadyH.cons rfl (fun K hK => ?_) AllReadyH.nil
    refine wp_upd (.tmp 43) (.tmp 44) (.tmp 53) rfl rfl rfl rfl rfl H4.out ?_
    refine hK.out _ _ s4 (fun hS => ?_)
    clear hK K
    (try simp only [Act.put, List.setIfInBounds_toArray, List.set_cons_zero, List.set_cons_succ])
    refine wpAnyH_done (by kernel_rfl) ?_ _
    clear s1 s2 s3 s4 H1 H2 H3 H4 hS
    have OB : ∀ g, v.ownBlock = some g → (g ≠ l.lb ∧ g ≠ l.mg ∧ g ≠ l.mh ∧ g ≠ x.b ∧ g ≠ x.m) ∨ w.heap.size ≤ g := fun g hg => by rcases hvb with r | ⟨g2, r, r2⟩; exact .inl (dv g (by rw [← r]; exact hg)); rw [r] at hg; cases hg; exact .inr (by omega)
    have VB := hide (show v.ownBlock = (l.heldV tx).ownBlock ∨ ∃ g, v.ownBlock = some g ∧ w.heap.size ≤ g from by rcases hvb with r | ⟨g2, r, r2⟩; exact .inl r; exact .inr ⟨g2, r, by omega⟩)
    have Ld := hide (lS xd kd)
    have Ed := hide (Ea.out.keep kd (by rintro (q | q); omega; have := (HV _ q).1; omega))
    have Td := hide (Ta.out.keep kd (by rintro (q | q); omega; have := (HV _ q).1; omega))
    have szd : tb + 2 ≤ xd.heap.size := by have := kd.size; omega
    have HMd := hide hmd
    have kd := hide kd
    have Od := hide Od
    clear hmd lS hvb Ea Ta
    go_upto_region 8 with fail
    refine wp_region_held_drew (S := fun wq => Cells wq l.lb [.map (some l.mc), .map (some l.mg), .map (some l.mh)] ∧ Cells wq (tb + 1) [.int .i64 x.c.grp, ptr x.b] ∧ Cells wq tb [.int .i64 v0, .int .i64 v1, .int .i64 v2]) (by kernel_rfl) ⟨Ld.out, Ed.out, Td.out⟩ (fun hS => ?_)
    have ke := hide kd.out.drew
    have He := hide (anyAt_below HMd.out (Below.refl _ _).drew)
    have Oe := hide (Od.out.below (Below.refl _ _).drew)
    have Le := hide (Ld.out.below (Below.refl _ _).drew)
    have Ee := hide (Ed.out.below (Below.refl _ _).drew)
    have Te := hide (Td.out.below (Below.refl _ _).drew)
    have sze : tb + 2 ≤ xd.drew.heap.size := szd
    clear kd HMd Od Ld Ed Td szd
    generalize xd.drew = xe at *
    refine take_at 0 (some 54) (v := ?_) rfl rfl (by kernel_rfl) (by kernel_rfl) (by kernel_rfl) (fun _ _ _ h => h) ⟨by rfl, ?_⟩ hS ?_
    rotate_left
    · intro wq hSw; go_simp; try rfl
    simp only [Act.put, List.setIfInBounds_toArray, List.set_cons_zero, List.set_cons_succ]
    refine take_at 1 (some 55) (v := ?_) rfl rfl (by kernel_rfl) (by kernel_rfl) (by kernel_rfl) (fun _ _ _ h => h) ⟨by rfl, ?_⟩ hS ?_
    rotate_left
    · intro wq hSw; go_simp; try rfl
    simp only [Act.put, List.setIfInBounds_toArray, List.set_cons_zero, List.set_cons_succ]
    refine take_at 2 (some 56) (v := ?_) rfl rfl (by kernel_rfl) (by kernel_rfl) (by kernel_rfl) (fun _ _ _ h => h) ⟨by rfl, ?_⟩ hS ?_
    rotate_left
    · intro wq hSw; go_simp; try rfl
    simp only [Act.put, List.setIfInBounds_toArray, List.set_cons_zero, List.set_cons_succ]
    refine take_at 3 (some 57) (v := ?_) rfl rfl (by kernel_rfl) (by kernel_rfl) (by kernel_rfl) (fun _ _ _ h => h) ⟨by rfl, ?_⟩ hS ?_
    rotate_left
    · intro wq hSw; obtain ⟨r0, r1, r2⟩ := hSw; have q := (r0.get 1 _ rfl).1; go_simp; try rfl
    simp only [Act.put, List.setIfInBounds_toArray, List.set_cons_zero, List.set_cons_succ]
    refine take_at 4 (some 58) (v := ?_) rfl rfl (by kernel_rfl) (by kernel_rfl) (by kernel_rfl) (fun _ _ _ h => h) ⟨by rfl, ?_⟩ hS ?_
    rotate_left
    · intro wq hSw; go_simp; try rfl
    simp only [Act.put, List.setIfInBounds_toArray, List.set_cons_zero, List.set_cons_succ]
    refine take_at 5 (some 59) (v := ?_) rfl rfl (by kernel_rfl) (by kernel_rfl) (by kernel_rfl) (fun _ _ _ h => h) ⟨by rfl, ?_⟩ hS ?_
    rotate_left
    · intro wq hSw; obtain ⟨r0, r1, r2⟩ := hSw; have q := (r1.get 0 _ rfl).1; go_simp; try rfl
    simp only [Act.put, List.setIfInBounds_toArray, List.set_cons_zero, List.set_cons_succ]
    refine take_at 6 (some 60) (v := ?_) rfl rfl (by kernel_rfl) (by kernel_rfl) (by kernel_rfl) (fun _ _ _ h => h) ⟨by rfl, ?_⟩ hS ?_
    rotate_left
    · intro wq hSw; obtain ⟨r0, r1, r2⟩ := hSw; have q := (r2.get 0 _ rfl).1; have q1 := (r2.get 1 _ rfl).1; have q2 := (r2.get 2 _ rfl).1; go_simp; try rfl
    simp only [Act.put, List.setIfInBounds_toArray, List.set_cons_zero, List.set_cons_succ]
    have gme := anyAt_keep Pa.out.gm ke.out (by rintro (q | q); exact d3 q; exact (dv _ q).2.1 rfl)
    obtain ⟨xf, hu, hmf, hg⟩ := any_upd lawK Tryz.underlying105 gme ((up_map totV).2 Pa.out.gup) (keyI hgI) (by have := Pa.out.lenG; simp; omega) (tot v0 v1 v2)
    have kef : Keep (fun z => z = l.mg) xe xf := (Keep.refl (fun z => z = l.mg) xe).grown hg (by rintro g ⟨⟩ _; rfl)
    have kf : Keep (fun z => z = l.mg ∨ z = l.mh ∨ (l.heldV tx).ownBlock = some z) xa xf := (ke.out.mono (T := fun z => z = l.mg ∨ z = l.mh ∨ (l.heldV tx).ownBlock = some z) (fun _ _ q => .inr q)).trans kef (fun _ _ q => .inl q)
    have Hf := anyAt_keep He.out kef (fun q => d3 q.symm)
    have Of := Oe.out.keep kef (fun g hg q => by rcases OB g hg with r | r; exact r.2.1 q; omega)
    have Lf := Le.out.keep kef (by omega)
    have Ef := hide (Ee.out.keep kef (by omega))
    have Tf := Te.out.keep kef (by omega)
    have Qf := (Pa.out.esc _ hmem).keep kf (by rintro (q | q | q); exact d4 q; exact d5 q; exact (dv _ q).2.2.2.1 rfl) (by rintro (q | q | q); exact d6 q; exact d7 q; exact (dv _ q).2.2.2.2 rfl)
    have szf : tb + 2 ≤ xf.heap.size := by have := kef.size; omega
    have H8 := hide hu
    have KF := hide kf
    have GF := hide hmf
    have HF := hide Hf
    have OF := hide Of
    clear hu hg kef kf hmf Hf Of gme ke He Oe Le Ee Te
    refine wpAnyH_ready (rs := [7]) (by kernel_rfl) (by simp) ?_
    refine AllReadyH.cons rfl (fun K hK => ?_) AllReadyH.nil
    refine wp_upd (.tmp 57) (.tmp 59) (.tmp 60) rfl rfl rfl rfl rfl H8.out ?_
    refine hK.out _ _ ⟨Lf, Ef.out, Tf⟩ (fun hS => ?_)
    clear hK K hS
    (try simp only [Act.put, List.setIfInBounds_toArray, List.set_cons_zero, List.set_cons_succ])
    refine wpAnyH_done (by kernel_rfl) ?_ _
    obtain ⟨u1, _⟩ := Ef.out.get 1 _ rfl
    have QF := hide Qf
    clear Lf Tf Qf H8
    go_wp2_with fail
    refine (KA _ QF.out).mono ?_
    rintro r xz ⟨rfl, hkz, hpz⟩
    have KZ := hide hkz
    have PZ := hide hpz
    clear hkz hpz KA QF u1
    go_wp2_with fail
    go_ret
    have fk : Keep (addS l tx x) xa xz := (KF.out.mono (T := addS l tx x) (fun z _ q => by rcases q with q | q | q; exact .inl q; exact .inr (.inl q); exact .inr (.inr (.inr (.inr q))))).trans KZ.out (fun z _ q => by rcases q with q | q; exact .inr (.inr (.inl q)); exact .inr (.inr (.inr (.inl q))))
    have g1 := anyAt_keep GF.out KZ.out (by rintro (q | q); exact d4 q.symm; exact d6 q.symm)
    have g2 := anyAt_keep HF.out KZ.out (by rintro (q | q); exact d5 q.symm; exact d7 q.symm)
    have g3 := OF.out.keep KZ.out (fun g hg q => by rcases OB g hg with r | r; rcases q with q | q; exact r.2.2.2.1 q; exact r.2.2.2.2 q; rcases q with q | q <;> omega)
    exact ⟨rfl, v, PA xa xz v Pa.out PZ.out fk g1 g2 (fun _ => ⟨g3, VB.out⟩) (fun q => by cases q), (Keep.of_below (S := addS l tx x) Ba.out).trans fk (fun _ _ q => q)⟩
set_option maxHeartbeats 8000000 in
theorem addL_old (lab : Nat → Nat) (B : Nat) (l : Led) (tx id d : Int) (x : Lm) (w : World) (h : PL lab B w l) (hx : I64 tx) (hi : I64 id) (hd : I64 d) (hk : getM l.K id = some x) (e0 : mayL l.ctrs tx id d = 0) (hlen : x.c.e.nets.length < 1000000000) (hlD : l.D.length < 3000000000) (hold : holdB x.c.e.nets tx = true) :
    Calls Tryz.prog 48 #[ptr l.lb, .int .i64 tx, .int .i64 id, .int .i64 d] w fun r w' => r = .returned (.int .i64 0) ∧ ∃ v, PL (labH lab w.heap.size tx) B w' (l.added tx id d x v) ∧ Keep (addS l tx x) w w' := by
  have hc : getM l.ctrs id = some x.c := by rw [getC, hk]; rfl
  have hnx : ¬ (tx < 1 ∨ 2147483647 < tx) := by
    intro q
    unfold mayL at e0
    rw [if_pos q] at e0
    cases e0
  have hz := (mayL_zero hc e0).1
  have KW := weighL_any lab B l tx id d w h hx hi hd
  have ew : wgV l tx id d = tot (sumG l.ctrs x.c.grp - netV x.c.e.nets tx + (netV x.c.e.nets tx + d)) (lowG l.ctrs x.c.grp - min (netV x.c.e.nets tx) 0 + min (netV x.c.e.nets tx + d) 0) (highG l.ctrs x.c.grp - max (netV x.c.e.nets tx) 0 + max (netV x.c.e.nets tx + d) 0) := by
    unfold wgV
    rw [hk]
    simp only
    rw [if_neg (by rintro (q | q); exact hnx q; exact q hz)]
    unfold mvV
    rw [← mayL_mv hnx hc hz, e0]
    rfl
  rw [ew, e0] at KW
  have KN := fun w' (h : PE w' x.b x.m x.c.e) => net_any x.b x.m x.c.e tx w' h hx
  have KA := fun w' (h : PE w' x.b x.m x.c.e) => add_any' x.b x.m x.c.e tx d w' h hx hd hlen
  rw [hold] at KN
  rw [hz] at KA
  have hgI : I64 x.c.grp := by have := (h.ok.ids _ (getM_mem hc)).2; unfold I64; simp only at this; omega
  have HL := hide h.lt
  have PA := fun (xa y : World) (v : Value) (h0 : PL lab B xa l) => PL.add (y := y) (v := v) h0 HL.out hk e0
  rw [hold] at PA
  have LX := h.lt.2.2.2.2.1 _ (getM_mem hk)
  have l5 := h.l5 _ (getM_mem hk)
  simp only at LX l5
  obtain ⟨LX1, LX2⟩ := LX
  obtain ⟨l51, l52⟩ := l5
  have q1 := h.l1
  have q2 := h.l2
  have q3 := h.l3
  have q4 := h.l4
  obtain ⟨L1, L2, L3, L4, _, _⟩ := h.lt
  have HV : ∀ g, (l.heldV tx).ownBlock = some g → g < w.heap.size ∧ lab g = 11 + 2 * tx.toNat := fun g hg => ⟨(World.ownsRow.lt (h.heldO tx) g hg).2, h.heldL hg⟩
  have dn : ∀ {a b : Nat}, lab a ≠ lab b → a ≠ b := fun q r => q (by rw [r])
  have d1 : l.lb ≠ l.mh := dn (by omega)
  have d2 : l.lb ≠ l.mg := dn (by omega)
  have d3 : l.mg ≠ l.mh := dn (by omega)
  have d4 : x.b ≠ l.mg := dn (by omega)
  have d5 : x.b ≠ l.mh := dn (by omega)
  have d6 : x.m ≠ l.mg := dn (by omega)
  have d7 : x.m ≠ l.mh := dn (by omega)
  have dv : ∀ g, (l.heldV tx).ownBlock = some g → g ≠ l.lb ∧ g ≠ l.mg ∧ g ≠ l.mh ∧ g ≠ x.b ∧ g ≠ x.m := fun g hg => by
    have := (HV g hg).2
    exact ⟨dn (by omega), dn (by omega), dn (by omega), dn (by omega), dn (by omega)⟩
  have HA := hide (getM_mapV entV l.K id)
  have HG := hide hk
  have hBn : B ≤ w.heap.size := by have := h.low.1; omega
  have hmem := getM_mem hk
  clear dn q1 q2 q3 q4 l51 l52 e0 ew hc hz hold
  generalize sumG l.ctrs x.c.grp - netV x.c.e.nets tx + (netV x.c.e.nets tx + d) = v0 at *
  generalize lowG l.ctrs x.c.grp - min (netV x.c.e.nets tx) 0 + min (netV x.c.e.nets tx + d) 0 = v1 at *
  generalize highG l.ctrs x.c.grp - max (netV x.c.e.nets tx) 0 + max (netV x.c.e.nets tx + d) 0 = v2 at *
  have HP := hide h
  clear h hk hnx
  go_enter Tryz.func48, Tryz.ntmps48
  go_wp2_with fail
  refine KW.mono ?_
  rintro r x1 ⟨rfl, h1⟩
  have b2 := alloc_below x1 (.cells #[.int .i64 v0, .int .i64 v1, .int .i64 v2] 125)
  have P1 := HP.out.below h1
  have P2 := P1.below b2
  have k2 := (P2.box.get 0 _ rfl).1
  have hr := any_run lawK Tryz.underlying104 zeroE P2.cm (keyI hi)
  rw [HA.out, HG.out] at hr
  simp only [Option.map_some, Option.getD_some] at hr
  have HP2 := hide P2
  have B1 := hide h1
  have sz1 := h1.size
  clear h1 KW P1 P2 b2 HP HA HG
  go_wp2_with fail
  have b3 := alloc_below (x1.alloc (.cells #[.int .i64 v0, .int .i64 v1, .int .i64 v2] 125)) (.cells #[.int .i64 x.c.grp, ptr x.b] 110)
  have P3 := HP2.out.below b3
  refine (KN _ (P3.esc _ hmem)).mono ?_
  rintro r x4 ⟨rfl, h4⟩
  have P4 := hide (P3.below h4)
  have T4 := hide (((Cells.new x1 #[.int .i64 v0, .int .i64 v1, .int .i64 v2] 125).below b3).below h4)
  have E4 := hide (show Cells x4 (x1.heap.size + 1) [.int .i64 x.c.grp, ptr x.b] from by
    have := (Cells.new (x1.alloc (.cells #[.int .i64 v0, .int .i64 v1, .int .i64 v2] 125)) #[.int .i64 x.c.grp, ptr x.b] 110).below h4
    simpa using this)
  have B4 := hide (B1.out.trans ((below2 h4).mono sz1))
  have sz4 : x1.heap.size + 2 ≤ x4.heap.size := by have := h4.size; simp at this; omega
  generalize x1.heap.size = tb at *
  clear h4 b3 P3 HP2 B1 k2 hr KN x1
  have Pa := P4
  have Ba := B4
  obtain ⟨xd, hxd⟩ : ∃ xd, xd = x4 := ⟨_, rfl⟩
  have kd := hide (show Keep (fun z => z = l.mh ∨ (l.heldV tx).ownBlock = some z) x4 xd from by rw [hxd]; exact Keep.refl _ _)
  have Ld := hide (show Cells xd l.lb [.map (some l.mc), .map (some l.mg), .map (some l.mh)] from by rw [hxd]; exact P4.out.box)
  have Ed := hide (show Cells xd (tb + 1) [.int .i64 x.c.grp, ptr x.b] from by rw [hxd]; exact E4.out)
  have Td := hide (show Cells xd tb [.int .i64 v0, .int .i64 v1, .int .i64 v2] from by rw [hxd]; exact T4.out)
  have szd : tb + 2 ≤ xd.heap.size := by rw [hxd]; exact sz4
  have HMd := hide (show AnyAt Tryz.prog 3 xd l.mh (l.D.map (fun (p : Int × Value × List Int) => (p.1, p.2.1))) from by rw [hxd]; exact P4.out.hm)
  have Od := hide (show Owns .i64 3 xd B (l.heldV tx) (idsOf l.helds tx) from by rw [hxd]; exact P4.out.heldO tx)
  have OB : ∀ g, (l.heldV tx).ownBlock = some g → (g ≠ l.lb ∧ g ≠ l.mg ∧ g ≠ l.mh ∧ g ≠ x.b ∧ g ≠ x.m) ∨ w.heap.size ≤ g := fun g hg => .inl (dv g hg)
  obtain ⟨xa, hxa⟩ : ∃ xa, xa = x4 := ⟨_, rfl⟩
  rw [← hxa] at Pa Ba kd
  clear P4 B4 E4 T4 sz4
  rw [← hxd]
  clear hxd hxa
  go_upto_region 8 with fail
  refine wp_region_held_drew (S := fun wq => Cells wq l.lb [.map (some l.mc), .map (some l.mg), .map (some l.mh)] ∧ Cells wq (tb + 1) [.int .i64 x.c.grp, ptr x.b] ∧ Cells wq tb [.int .i64 v0, .int .i64 v1, .int .i64 v2]) (by kernel_rfl) ⟨Ld.out, Ed.out, Td.out⟩ (fun hS => ?_)
  have ke := hide kd.out.drew
  have He := hide (anyAt_below HMd.out (Below.refl _ _).drew)
  have Oe := hide (Od.out.below (Below.refl _ _).drew)
  have Le := hide (Ld.out.below (Below.refl _ _).drew)
  have Ee := hide (Ed.out.below (Below.refl _ _).drew)
  have Te := hide (Td.out.below (Below.refl _ _).drew)
  have sze : tb + 2 ≤ xd.drew.heap.size := szd
  clear kd HMd Od Ld Ed Td szd
  generalize xd.drew = xe at *
  refine take_at 0 (some 54) (v := ?_) rfl rfl (by kernel_rfl) (by kernel_rfl) (by kernel_rfl) (fun _ _ _ h => h) ⟨by rfl, ?_⟩ hS ?_
  rotate_left
  · intro wq hSw; go_simp; try rfl
  simp only [Act.put, List.setIfInBounds_toArray, List.set_cons_zero, List.set_cons_succ]
  refine take_at 1 (some 55) (v := ?_) rfl rfl (by kernel_rfl) (by kernel_rfl) (by kernel_rfl) (fun _ _ _ h => h) ⟨by rfl, ?_⟩ hS ?_
  rotate_left
  · intro wq hSw; go_simp; try rfl
  simp only [Act.put, List.setIfInBounds_toArray, List.set_cons_zero, List.set_cons_succ]
  refine take_at 2 (some 56) (v := ?_) rfl rfl (by kernel_rfl) (by kernel_rfl) (by kernel_rfl) (fun _ _ _ h => h) ⟨by rfl, ?_⟩ hS ?_
  rotate_left
  · intro wq hSw; go_simp; try rfl
  simp only [Act.put, List.setIfInBounds_toArray, List.set_cons_zero, List.set_cons_succ]
  refine take_at 3 (some 57) (v := ?_) rfl rfl (by kernel_rfl) (by kernel_rfl) (by kernel_rfl) (fun _ _ _ h => h) ⟨by rfl, ?_⟩ hS ?_
  rotate_left
  · intro wq hSw; obtain ⟨r0, r1, r2⟩ := hSw; have q := (r0.get 1 _ rfl).1; go_simp; try rfl
  simp only [Act.put, List.setIfInBounds_toArray, List.set_cons_zero, List.set_cons_succ]
  refine take_at 4 (some 58) (v := ?_) rfl rfl (by kernel_rfl) (by kernel_rfl) (by kernel_rfl) (fun _ _ _ h => h) ⟨by rfl, ?_⟩ hS ?_
  rotate_left
  · intro wq hSw; go_simp; try rfl
  simp only [Act.put, List.setIfInBounds_toArray, List.set_cons_zero, List.set_cons_succ]
  refine take_at 5 (some 59) (v := ?_) rfl rfl (by kernel_rfl) (by kernel_rfl) (by kernel_rfl) (fun _ _ _ h => h) ⟨by rfl, ?_⟩ hS ?_
  rotate_left
  · intro wq hSw; obtain ⟨r0, r1, r2⟩ := hSw; have q := (r1.get 0 _ rfl).1; go_simp; try rfl
  simp only [Act.put, List.setIfInBounds_toArray, List.set_cons_zero, List.set_cons_succ]
  refine take_at 6 (some 60) (v := ?_) rfl rfl (by kernel_rfl) (by kernel_rfl) (by kernel_rfl) (fun _ _ _ h => h) ⟨by rfl, ?_⟩ hS ?_
  rotate_left
  · intro wq hSw; obtain ⟨r0, r1, r2⟩ := hSw; have q := (r2.get 0 _ rfl).1; have q1 := (r2.get 1 _ rfl).1; have q2 := (r2.get 2 _ rfl).1; go_simp; try rfl
  simp only [Act.put, List.setIfInBounds_toArray, List.set_cons_zero, List.set_cons_succ]
  have gme := anyAt_keep Pa.out.gm ke.out (by rintro (q | q); exact d3 q; exact (dv _ q).2.1 rfl)
  obtain ⟨xf, hu, hmf, hg⟩ := any_upd lawK Tryz.underlying105 gme ((up_map totV).2 Pa.out.gup) (keyI hgI) (by have := Pa.out.lenG; simp; omega) (tot v0 v1 v2)
  have kef : Keep (fun z => z = l.mg) xe xf := (Keep.refl (fun z => z = l.mg) xe).grown hg (by rintro g ⟨⟩ _; rfl)
  have kf : Keep (fun z => z = l.mg ∨ z = l.mh ∨ (l.heldV tx).ownBlock = some z) xa xf := (ke.out.mono (T := fun z => z = l.mg ∨ z = l.mh ∨ (l.heldV tx).ownBlock = some z) (fun _ _ q => .inr q)).trans kef (fun _ _ q => .inl q)
  have Hf := anyAt_keep He.out kef (fun q => d3 q.symm)
  have Of := Oe.out.keep kef (fun g hg q => by rcases OB g hg with r | r; exact r.2.1 q; omega)
  have Lf := Le.out.keep kef (by omega)
  have Ef := hide (Ee.out.keep kef (by omega))
  have Tf := Te.out.keep kef (by omega)
  have Qf := (Pa.out.esc _ hmem).keep kf (by rintro (q | q | q); exact d4 q; exact d5 q; exact (dv _ q).2.2.2.1 rfl) (by rintro (q | q | q); exact d6 q; exact d7 q; exact (dv _ q).2.2.2.2 rfl)
  have szf : tb + 2 ≤ xf.heap.size := by have := kef.size; omega
  have H8 := hide hu
  have KF := hide kf
  have GF := hide hmf
  have HF := hide Hf
  have OF := hide Of
  clear hu hg kef kf hmf Hf Of gme ke He Oe Le Ee Te
  refine wpAnyH_ready (rs := [7]) (by kernel_rfl) (by simp) ?_
  refine AllReadyH.cons rfl (fun K hK => ?_) AllReadyH.nil
  refine wp_upd (.tmp 57) (.tmp 59) (.tmp 60) rfl rfl rfl rfl rfl H8.out ?_
  refine hK.out _ _ ⟨Lf, Ef.out, Tf⟩ (fun hS => ?_)
  clear hK K hS
  (try simp only [Act.put, List.setIfInBounds_toArray, List.set_cons_zero, List.set_cons_succ])
  refine wpAnyH_done (by kernel_rfl) ?_ _
  obtain ⟨u1, _⟩ := Ef.out.get 1 _ rfl
  have QF := hide Qf
  clear Lf Tf Qf H8
  go_wp2_with fail
  refine (KA _ QF.out).mono ?_
  rintro r xz ⟨rfl, hkz, hpz⟩
  have KZ := hide hkz
  have PZ := hide hpz
  clear hkz hpz KA QF u1
  go_wp2_with fail
  go_ret
  have fk : Keep (addS l tx x) xa xz := (KF.out.mono (T := addS l tx x) (fun z _ q => by rcases q with q | q | q; exact .inl q; exact .inr (.inl q); exact .inr (.inr (.inr (.inr q))))).trans KZ.out (fun z _ q => by rcases q with q | q; exact .inr (.inr (.inl q)); exact .inr (.inr (.inr (.inl q))))
  have g1 := anyAt_keep GF.out KZ.out (by rintro (q | q); exact d4 q.symm; exact d6 q.symm)
  have g2 := anyAt_keep HF.out KZ.out (by rintro (q | q); exact d5 q.symm; exact d7 q.symm)
  have g3 := OF.out.keep KZ.out (fun g hg q => by rcases OB g hg with r | r; rcases q with q | q; exact r.2.2.2.1 q; exact r.2.2.2.2 q; rcases q with q | q <;> omega)
  exact ⟨rfl, .slice none 0 0, PA xa xz _ Pa.out PZ.out fk g1 g2 (fun q => by cases q) (fun _ _ _ => g3), (Keep.of_below (S := addS l tx x) Ba.out).trans fk (fun _ _ q => q)⟩
end Go.Proofs.YtaohdmaenplbpaaGreat
