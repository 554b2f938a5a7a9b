import Derived.Test.YtaohdmaenplbpaaGreatLdM
set_option linter.all false
namespace Go.Proofs.YtaohdmaenplbpaaGreat
open Go.RowKit Go.QK Quota Go.Maps Go.QM
set_option maxRecDepth 100000

/-! A group's totals: three numbers. -/
abbrev tot (s l h : Int) : Value := .agg #[.int .i64 s, .int .i64 l, .int .i64 h]
theorem alloc_below (w : World) (o : Obj) : Below w.heap.size w (w.alloc o) := (Below.refl _ _).alloc (Nat.le_refl _) _

set_option maxHeartbeats 1000000 in
theorem treleased_any (s l h n : Int) (w : World) (h1 : I64 (s - n)) (h2 : I64 (l - min n 0)) (h3 : I64 (h - max n 0)) :
    Calls Tryz.prog 68 #[tot s l h, .int .i64 n] w fun r w' => r = .returned (tot (s - n) (l - min n 0) (h - max n 0)) ∧ Below w.heap.size w w' := by
  have e1 := wrapI h1
  have e2 := wrapI h2
  have e3 := wrapI h3
  clear h1 h2 h3
  go_enter Tryz.func68, Tryz.ntmps68
  go_wp2_with fail
  refine bodyPost_ret (v := tot (s - n) (l - min n 0) (h - max n 0)) (by simp [results, Tryz.results68, go_sem, e1, e2, e3]) rfl ⟨rfl, ?_⟩
  exact (alloc_below _ _).alloc (by simp) _

set_option maxHeartbeats 1000000 in
theorem tsettled_any (s l h n : Int) (w : World) (h2 : I64 (l + max n 0)) (h3 : I64 (h + min n 0)) :
    Calls Tryz.prog 73 #[tot s l h, .int .i64 n] w fun r w' => r = .returned (tot s (l + max n 0) (h + min n 0)) ∧ Below w.heap.size w w' := by
  have e2 := wrapI h2
  have e3 := wrapI h3
  clear h2 h3
  go_enter Tryz.func73, Tryz.ntmps73
  go_wp2_with fail
  refine bodyPost_ret (v := tot s (l + max n 0) (h + min n 0)) (by simp [results, Tryz.results73, go_sem, e2, e3]) rfl ⟨rfl, ?_⟩
  exact (alloc_below _ _).alloc (by simp) _

/-- Both ends moved; 10, if one of them leaves 64 bits. -/
def shE (l h a b : Int) : Int := if fitB (l + a) && fitB (h + b) then 0 else 10
def shV (l h a b : Int) : Value := if fitB (l + a) && fitB (h + b) then rng (l + a) (h + b) else rng 0 0
theorem fit_yes {z : Int} (h : fitB z = true) : fitV z = z ∧ fitE z = 0 := by unfold fitV fitE; rw [h]; exact ⟨rfl, rfl⟩
theorem fit_no {z : Int} (h : fitB z = false) : fitV z = 0 ∧ fitE z = 10 := by unfold fitV fitE; rw [h]; exact ⟨rfl, rfl⟩
set_option maxHeartbeats 2000000 in
theorem shifted_any (l h a b : Int) (w : World) (i1 : I64 l) (i2 : I64 h) (i3 : I64 a) (i4 : I64 b) :
    Calls Tryz.prog 94 #[rng l h, .int .i64 a, .int .i64 b] w fun r w' => r = .returned (.tuple #[shV l h a b, .int .i64 (shE l h a b)]) ∧ Below w.heap.size w w' := by
  have K1 := fun w' => add_any l a w' i1 i3
  have K2 := fun w' => add_any h b w' i2 i4
  clear i1 i2 i3 i4
  unfold shV shE
  have SET := fun (w1 : World) (x y : Int) (hb : Below w.heap.size w w1) => show Below w.heap.size w ((w1.setCell ⟨w.heap.size + 1, 0, none⟩ (.int .i64 x)).setCell ⟨w.heap.size + 1, 1, none⟩ (.int .i64 y)) from hb.trans ((((Keep.refl (fun z => z = w.heap.size + 1) w1).setCell (g := w.heap.size + 1) (j := 0) (fun _ => rfl) _).setCell (g := w.heap.size + 1) (j := 1) (fun _ => rfl) _).below hb.size (fun z hz q => by omega))
  cases q1 : fitB (l + a)
  · rw [(fit_no q1).1, (fit_no q1).2] at K1
    clear q1 K2
    simp only [Bool.false_and, Bool.false_eq_true, if_false]
    go_enter Tryz.func94, Tryz.ntmps94
    go_wp2_with fail
    refine (K1 _).mono ?_
    rintro r w1 ⟨rfl, h1⟩
    obtain ⟨c0, c1, c2, c3, f0, f1, z0, z1⟩ := keep2 h1
    have B1 := hide (below2 h1)
    clear h1
    go_wp2_with fail
    refine bodyPost_ret (v := .tuple #[rng 0 0, .int .i64 10]) (by simp [results, Tryz.results94, go_sem, c2, c3]) rfl ⟨rfl, ?_⟩
    exact SET w1 0 0 B1.out
  · rw [(fit_yes q1).1, (fit_yes q1).2] at K1
    cases q2 : fitB (h + b)
    · rw [(fit_no q2).1, (fit_no q2).2] at K2
      clear q1 q2
      simp only [Bool.and_false, Bool.false_eq_true, if_false]
      go_enter Tryz.func94, Tryz.ntmps94
      go_wp2_with fail
      refine (K1 _).mono ?_
      rintro r w1 ⟨rfl, h1⟩
      obtain ⟨c0, c1, c2, c3, f0, f1, z0, z1⟩ := keep2 h1
      have B1 := hide (below2 h1)
      clear h1
      go_wp2_with fail
      refine (K2 _).mono ?_
      rintro r w2 ⟨rfl, h2⟩
      have d2 := (h2.cell (p := ⟨w.heap.size + 1, 0, none⟩) z1).trans c2
      have d3 := (h2.cell (p := ⟨w.heap.size + 1, 1, none⟩) z1).trans c3
      have g0 := (h2.frozen (p := ⟨w.heap.size + 1, 0, none⟩) z1).trans f0
      have g1 := (h2.frozen (p := ⟨w.heap.size + 1, 1, none⟩) z1).trans f1
      have B2 := hide (B1.out.trans (h2.mono B1.out.size))
      clear h2 c0 c1 c2 c3 f0 f1 B1
      go_wp2_with fail
      refine bodyPost_ret (v := .tuple #[rng 0 0, .int .i64 10]) (by simp [results, Tryz.results94, go_sem, d2, d3]) rfl ⟨rfl, ?_⟩
      exact SET w2 0 0 B2.out
    · rw [(fit_yes q2).1, (fit_yes q2).2] at K2
      clear q1 q2
      simp only [Bool.and_self, if_true]
      generalize l + a = x at *
      generalize h + b = y at *
      go_enter Tryz.func94, Tryz.ntmps94
      go_wp2_with fail
      refine (K1 _).mono ?_
      rintro r w1 ⟨rfl, h1⟩
      obtain ⟨c0, c1, c2, c3, f0, f1, z0, z1⟩ := keep2 h1
      have B1 := hide (below2 h1)
      clear h1
      go_wp2_with fail
      refine (K2 _).mono ?_
      rintro r w2 ⟨rfl, h2⟩
      have d2 := (h2.cell (p := ⟨w.heap.size + 1, 0, none⟩) z1).trans c2
      have d3 := (h2.cell (p := ⟨w.heap.size + 1, 1, none⟩) z1).trans c3
      have g0 := (h2.frozen (p := ⟨w.heap.size + 1, 0, none⟩) z1).trans f0
      have g1 := (h2.frozen (p := ⟨w.heap.size + 1, 1, none⟩) z1).trans f1
      have B2 := hide (B1.out.trans (h2.mono B1.out.size))
      clear h2 c0 c1 c2 c3 f0 f1 B1
      go_wp2_with fail
      refine bodyPost_ret (v := .tuple #[rng x y, .int .i64 0]) (by simp [results, Tryz.results94, go_sem, d2, d3]) rfl ⟨rfl, ?_⟩
      exact SET w2 x y B2.out

/-- A settled value more. -/
def grV (s l h v : Int) : Value := if shE l h v v = 0 then tot (s + v) (l + v) (h + v) else tot 0 0 0
theorem shE_yes {l h a b : Int} (q : shE l h a b = 0) : shV l h a b = rng (l + a) (h + b) := by
  unfold shE at q
  unfold shV
  split at q
  · rename_i c; rw [if_pos c]
  · cases q
theorem shE_no {l h a b : Int} (q : shE l h a b ≠ 0) : shE l h a b = 10 ∧ shV l h a b = rng 0 0 := by
  unfold shE shV at *
  split at q
  · exact absurd rfl q
  · rename_i c; rw [if_neg c, if_neg c]; exact ⟨rfl, rfl⟩
set_option maxHeartbeats 2000000 in
theorem grown_any (s l h v : Int) (w : World) (i1 : I64 l) (i2 : I64 h) (i3 : I64 v) (i4 : l ≤ s) (i5 : s ≤ h) :
    Calls Tryz.prog 60 #[tot s l h, .int .i64 v] w fun r w' => r = .returned (.tuple #[grV s l h v, .int .i64 (shE l h v v)]) ∧ Below w.heap.size w w' := by
  have K1 := fun w' => shifted_any l h v v w' i1 i2 i3 i3
  obtain ⟨x2, hx2⟩ : ∃ x2, x2 = (w.alloc (.cells #[.int .i64 s, .int .i64 l, .int .i64 h] 125)).alloc (.cells #[.int .i64 0, .int .i64 0, .int .i64 0] 125) := ⟨_, rfl⟩
  have b2 : Below w.heap.size w x2 := by rw [hx2]; exact (alloc_below _ _).alloc (by simp) _
  have cs : Cells x2 w.heap.size [.int .i64 s, .int .i64 l, .int .i64 h] := by rw [hx2]; exact (Cells.new w _ _).below (alloc_below _ _)
  have cz : Cells x2 (w.heap.size + 1) [.int .i64 0, .int .i64 0, .int .i64 0] := by
    have := Cells.new (w.alloc (.cells #[.int .i64 s, .int .i64 l, .int .i64 h] 125)) #[.int .i64 0, .int .i64 0, .int .i64 0] 125
    rw [hx2]
    simpa using this
  have SET := fun (w1 : World) (x y z : Int) (hb : Below w.heap.size w w1) => show Below w.heap.size w (((w1.setCell ⟨w.heap.size + 1, 0, none⟩ (.int .i64 x)).setCell ⟨w.heap.size + 1, 1, none⟩ (.int .i64 y)).setCell ⟨w.heap.size + 1, 2, none⟩ (.int .i64 z)) from hb.trans (((((Keep.refl (fun z => z = w.heap.size + 1) w1).setCell (g := w.heap.size + 1) (j := 0) (fun _ => rfl) _).setCell (g := w.heap.size + 1) (j := 1) (fun _ => rfl) _).setCell (g := w.heap.size + 1) (j := 2) (fun _ => rfl) _).below hb.size (fun z hz q => by omega))
  have B2 := hide b2
  have CS := hide cs
  have CZ := hide cz
  have HX := hide hx2
  clear hx2 b2 cs cz
  unfold grV
  by_cases q : shE l h v v = 0
  · rw [if_pos q, q]
    rw [shE_yes q, q] at K1
    have hs : I64 (s + v) := by
      unfold shE at q
      split at q
      · rename_i c
        rw [Bool.and_eq_true] at c
        have a1 := fitB_true.1 c.1
        have a2 := fitB_true.1 c.2
        unfold I64 at *
        omega
      · cases q
    have e1 := wrapI hs
    clear q hs i1 i2 i3 i4 i5
    generalize l + v = x at *
    generalize h + v = y at *
    obtain ⟨g1, g1f⟩ := CS.out.get 1 _ rfl
    obtain ⟨g2, g2f⟩ := CS.out.get 2 _ rfl
    go_enter Tryz.func60, Tryz.ntmps60
    go_upto_region 1 with fail
    rw [← HX.out]
    clear HX
    go_wp2_with fail
    refine (K1 _).mono ?_
    rintro r w3 ⟨rfl, h3⟩
    have o3 := h3.alloc h3.size (.cells #[.int .i64 x, .int .i64 y] 38)
    have CS3 := hide (CS.out.below o3)
    have CZ3 := hide (CZ.out.below o3)
    have B3 := hide (B2.out.trans (o3.mono B2.out.size))
    have X3 := hide (Box.new w3 (.int .i64 x) (.int .i64 y) 38)
    clear h3 o3 CS CZ B2 g1 g1f g2 g2f K1
    obtain ⟨k0, k0f⟩ := CS3.out.get 0 _ rfl
    obtain ⟨z0, z0f⟩ := CZ3.out.get 0 _ rfl
    obtain ⟨z1, z1f⟩ := CZ3.out.get 1 _ rfl
    obtain ⟨z2, z2f⟩ := CZ3.out.get 2 _ rfl
    obtain ⟨t0, t1, t2, t3, t4⟩ := X3.out
    obtain ⟨x4, hx4⟩ : ∃ x4, x4 = w3.alloc (.cells #[.int .i64 x, .int .i64 y] 38) := ⟨_, rfl⟩
    go_upto_region 2 with fail
    rw [← hx4] at B3 k0 k0f z0 z0f z1 z1f z2 z2f t0 t1 t2 t3 t4 ⊢
    clear hx4 CS3 CZ3 X3
    go_wp2_with fail
    refine bodyPost_ret (v := .tuple #[tot (s + v) x y, .int .i64 0]) (by simp [results, Tryz.results60, go_sem, z0, z1, z2]) rfl ⟨rfl, ?_⟩
    exact SET _ _ _ _ B3.out
  · have q10 : shE l h v v = 10 ∧ shV l h v v = rng 0 0 := shE_no q
    rw [if_neg q, q10.1]
    rw [q10.1, q10.2] at K1
    clear q q10 i1 i2 i3 i4 i5
    obtain ⟨g1, g1f⟩ := CS.out.get 1 _ rfl
    obtain ⟨g2, g2f⟩ := CS.out.get 2 _ rfl
    go_enter Tryz.func60, Tryz.ntmps60
    go_upto_region 1 with fail
    rw [← HX.out]
    clear HX
    go_wp2_with fail
    refine (K1 _).mono ?_
    rintro r w3 ⟨rfl, h3⟩
    have o3 := h3.alloc h3.size (.cells #[.int .i64 0, .int .i64 0] 38)
    have CZ3 := hide (CZ.out.below o3)
    have B3 := hide (B2.out.trans (o3.mono B2.out.size))
    clear h3 o3 CS CZ B2 g1 g1f g2 g2f K1
    obtain ⟨z0, z0f⟩ := CZ3.out.get 0 _ rfl
    obtain ⟨z1, z1f⟩ := CZ3.out.get 1 _ rfl
    obtain ⟨z2, z2f⟩ := CZ3.out.get 2 _ rfl
    obtain ⟨x4, hx4⟩ : ∃ x4, x4 = w3.alloc (.cells #[.int .i64 0, .int .i64 0] 38) := ⟨_, rfl⟩
    go_upto_region 2 with fail
    rw [← hx4] at B3 z0 z0f z1 z1f z2 z2f ⊢
    clear hx4 CZ3
    go_wp2_with fail
    refine bodyPost_ret (v := .tuple #[tot 0 0 0, .int .i64 10]) (by simp [results, Tryz.results60, go_sem, z0, z1, z2]) rfl ⟨rfl, ?_⟩
    exact SET _ _ _ _ B3.out

/-- The net in the old one's place. -/
def mvE (l h o n : Int) : Int := shE (l - min o 0) (h - max o 0) (min n 0) (max n 0)
def mvV (s l h o n : Int) : Value := if mvE l h o n = 0 then tot (s - o + n) (l - min o 0 + min n 0) (h - max o 0 + max n 0) else tot 0 0 0
set_option maxHeartbeats 2000000 in
theorem moved_any (s l h o n : Int) (w : World) (i1 : I64 (s - o)) (i2 : I64 (l - min o 0)) (i3 : I64 (h - max o 0)) (i4 : I64 n) (i5 : l - min o 0 ≤ s - o) (i6 : s - o ≤ h - max o 0) :
    Calls Tryz.prog 98 #[tot s l h, .int .i64 o, .int .i64 n] w fun r w' => r = .returned (.tuple #[mvV s l h o n, .int .i64 (mvE l h o n)]) ∧ Below w.heap.size w w' := by
  have K0 := fun w' => treleased_any s l h o w' i1 i2 i3
  have K1 := fun w' => shifted_any (l - min o 0) (h - max o 0) (min n 0) (max n 0) w' i2 i3 (by unfold I64 at *; omega) (by unfold I64 at *; omega)
  obtain ⟨x2, hx2⟩ : ∃ x2, x2 = (w.alloc (.cells #[.int .i64 s, .int .i64 l, .int .i64 h] 125)).alloc (.cells #[.int .i64 0, .int .i64 0, .int .i64 0] 125) := ⟨_, rfl⟩
  have b2 : Below w.heap.size w x2 := by rw [hx2]; exact (alloc_below _ _).alloc (by simp) _
  have cs : Cells x2 w.heap.size [.int .i64 s, .int .i64 l, .int .i64 h] := by rw [hx2]; exact (Cells.new w _ _).below (alloc_below _ _)
  have cz : Cells x2 (w.heap.size + 1) [.int .i64 0, .int .i64 0, .int .i64 0] := by
    have := Cells.new (w.alloc (.cells #[.int .i64 s, .int .i64 l, .int .i64 h] 125)) #[.int .i64 0, .int .i64 0, .int .i64 0] 125
    rw [hx2]
    simpa using this
  have SET := fun (w1 : World) (x y z : Int) (hb : Below w.heap.size w w1) => show Below w.heap.size w (((w1.setCell ⟨w.heap.size + 1, 0, none⟩ (.int .i64 x)).setCell ⟨w.heap.size + 1, 1, none⟩ (.int .i64 y)).setCell ⟨w.heap.size + 1, 2, none⟩ (.int .i64 z)) from hb.trans (((((Keep.refl (fun z => z = w.heap.size + 1) w1).setCell (g := w.heap.size + 1) (j := 0) (fun _ => rfl) _).setCell (g := w.heap.size + 1) (j := 1) (fun _ => rfl) _).setCell (g := w.heap.size + 1) (j := 2) (fun _ => rfl) _).below hb.size (fun z hz q => by omega))
  have B2 := hide b2
  have CS := hide cs
  have CZ := hide cz
  have HX := hide hx2
  have HS := hide (show mvE l h o n = 0 → I64 (s - o + n) from by
    intro q
    unfold mvE shE at q
    split at q
    · rename_i c
      rw [Bool.and_eq_true] at c
      have a1 := fitB_true.1 c.1
      have a2 := fitB_true.1 c.2
      unfold I64 at *
      omega
    · cases q)
  have HV := hide (show mvE l h o n = 0 → shV (l - min o 0) (h - max o 0) (min n 0) (max n 0) = rng (l - min o 0 + min n 0) (h - max o 0 + max n 0) from fun q => shE_yes q)
  have HN := hide (show mvE l h o n ≠ 0 → mvE l h o n = 10 ∧ shV (l - min o 0) (h - max o 0) (min n 0) (max n 0) = rng 0 0 from fun q => shE_no q)
  have HE := hide (show shE (l - min o 0) (h - max o 0) (min n 0) (max n 0) = mvE l h o n from rfl)
  rw [HE.out] at K1
  unfold mvV
  generalize mvE l h o n = E at *
  generalize shV (l - min o 0) (h - max o 0) (min n 0) (max n 0) = V at *
  generalize l - min o 0 + min n 0 = X at *
  generalize h - max o 0 + max n 0 = Y at *
  generalize l - min o 0 = l1 at *
  generalize h - max o 0 = h1 at *
  generalize s - o = s1 at *
  clear hx2 b2 cs cz HE i1 i2 i3 i4 i5 i6
  obtain ⟨g0, g0f⟩ := CS.out.get 0 _ rfl
  obtain ⟨g1, g1f⟩ := CS.out.get 1 _ rfl
  obtain ⟨g2, g2f⟩ := CS.out.get 2 _ rfl
  by_cases q : E = 0
  · have e1 := wrapI (HS.out q)
    rw [HV.out q] at K1
    subst q
    simp only [if_true]
    clear HS HV HN
    go_enter Tryz.func98, Tryz.ntmps98
    go_upto_region 1 with fail
    rw [← HX.out]
    clear HX
    go_wp2_with fail
    refine (K0 _).mono ?_
    rintro r w3 ⟨rfl, h3⟩
    have o3 := h3.alloc h3.size (.cells #[.int .i64 s1, .int .i64 l1, .int .i64 h1] 125)
    have CZ3 := hide (CZ.out.below o3)
    have C3 := hide (Cells.new w3 #[.int .i64 s1, .int .i64 l1, .int .i64 h1] 125)
    have B3 := hide (B2.out.trans (o3.mono B2.out.size))
    clear h3 o3 CS CZ B2 g0 g0f g1 g1f g2 g2f K0
    obtain ⟨x4, hx4⟩ : ∃ x4, x4 = w3.alloc (.cells #[.int .i64 s1, .int .i64 l1, .int .i64 h1] 125) := ⟨_, rfl⟩
    go_upto_region 2 with fail
    rw [← hx4] at CZ3 C3 B3 ⊢
    clear hx4
    obtain ⟨k1, k1f⟩ := C3.out.get 1 _ rfl
    obtain ⟨k2, k2f⟩ := C3.out.get 2 _ rfl
    go_wp2_with fail
    refine (K1 _).mono ?_
    rintro r w5 ⟨rfl, h5⟩
    have o5 := h5.alloc h5.size (.cells #[.int .i64 X, .int .i64 Y] 38)
    have CZ5 := hide (CZ3.out.below o5)
    have C5 := hide (C3.out.below o5)
    have B5 := hide (B3.out.trans (o5.mono B3.out.size))
    have X5 := hide (Box.new w5 (.int .i64 X) (.int .i64 Y) 38)
    clear h5 o5 CZ3 C3 B3 k1 k1f k2 k2f K1
    obtain ⟨k0, k0f⟩ := C5.out.get 0 _ rfl
    obtain ⟨z0, z0f⟩ := CZ5.out.get 0 _ rfl
    obtain ⟨z1, z1f⟩ := CZ5.out.get 1 _ rfl
    obtain ⟨z2, z2f⟩ := CZ5.out.get 2 _ rfl
    obtain ⟨t0, t1, t2, t3, t4⟩ := X5.out
    obtain ⟨x6, hx6⟩ : ∃ x6, x6 = w5.alloc (.cells #[.int .i64 X, .int .i64 Y] 38) := ⟨_, rfl⟩
    go_upto_region 3 with fail
    rw [← hx6] at B5 k0 k0f z0 z0f z1 z1f z2 z2f t0 t1 t2 t3 t4 ⊢
    clear hx6 C5 CZ5 X5
    go_wp2_with fail
    refine bodyPost_ret (v := .tuple #[tot (s1 + n) X Y, .int .i64 0]) (by simp [results, Tryz.results98, go_sem, z0, z1, z2]) rfl ⟨rfl, ?_⟩
    exact SET _ _ _ _ B5.out
  · obtain ⟨e10, ev⟩ := HN.out q
    rw [ev] at K1
    subst e10
    simp only [show ¬ (10 : Int) = 0 by omega, if_false]
    clear HS HV HN q ev
    go_enter Tryz.func98, Tryz.ntmps98
    go_upto_region 1 with fail
    rw [← HX.out]
    clear HX
    go_wp2_with fail
    refine (K0 _).mono ?_
    rintro r w3 ⟨rfl, h3⟩
    have o3 := h3.alloc h3.size (.cells #[.int .i64 s1, .int .i64 l1, .int .i64 h1] 125)
    have CZ3 := hide (CZ.out.below o3)
    have C3 := hide (Cells.new w3 #[.int .i64 s1, .int .i64 l1, .int .i64 h1] 125)
    have B3 := hide (B2.out.trans (o3.mono B2.out.size))
    clear h3 o3 CS CZ B2 g0 g0f g1 g1f g2 g2f K0
    obtain ⟨x4, hx4⟩ : ∃ x4, x4 = w3.alloc (.cells #[.int .i64 s1, .int .i64 l1, .int .i64 h1] 125) := ⟨_, rfl⟩
    go_upto_region 2 with fail
    rw [← hx4] at CZ3 C3 B3 ⊢
    clear hx4
    obtain ⟨k1, k1f⟩ := C3.out.get 1 _ rfl
    obtain ⟨k2, k2f⟩ := C3.out.get 2 _ rfl
    go_wp2_with fail
    refine (K1 _).mono ?_
    rintro r w5 ⟨rfl, h5⟩
    have o5 := h5.alloc h5.size (.cells #[.int .i64 0, .int .i64 0] 38)
    have CZ5 := hide (CZ3.out.below o5)
    have B5 := hide (B3.out.trans (o5.mono B3.out.size))
    clear h5 o5 CZ3 C3 B3 k1 k1f k2 k2f K1
    obtain ⟨z0, z0f⟩ := CZ5.out.get 0 _ rfl
    obtain ⟨z1, z1f⟩ := CZ5.out.get 1 _ rfl
    obtain ⟨z2, z2f⟩ := CZ5.out.get 2 _ rfl
    obtain ⟨x6, hx6⟩ : ∃ x6, x6 = w5.alloc (.cells #[.int .i64 0, .int .i64 0] 38) := ⟨_, rfl⟩
    go_upto_region 3 with fail
    rw [← hx6] at B5 z0 z0f z1 z1f z2 z2f ⊢
    clear hx6 CZ5
    go_wp2_with fail
    refine bodyPost_ret (v := .tuple #[tot 0 0 0, .int .i64 10]) (by simp [results, Tryz.results98, go_sem, z0, z1, z2]) rfl ⟨rfl, ?_⟩
    exact SET _ _ _ _ B5.out
end Go.Proofs.YtaohdmaenplbpaaGreat
