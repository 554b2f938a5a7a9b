import Derived.Test.YtimakfnlcgedkaaRg30
namespace Go.Proofs.Ytimakfnlcgedkaa
open Go.RowKit Go.QK Go.Maps Go.QM Go.QR
set_option maxRecDepth 100000
set_option maxHeartbeats 8000000 in
theorem play8_any (lab : Nat → Nat) (B : Nat) (T : Tab) (i : Nat) (o : OpM) (w : World) (h : Tb lab w B T) (hi : i < 2) (hw : i = if o.which then 1 else 0) (he : ∀ j, j < 2 → T.rp j = T.rq j) (hk : o.kind = 8) : Calls Try.prog 20 #[ptr T.t, opV o] w (TPost 4 w B T) := by
  unfold TPost
  have HBS := hide (show B ≤ w.heap.size by have := h.low.1; have := h.box.1; omega)
  have HQ := hide he
  have HT00 := hide h
  clear h he
  have HK := hide hk
  clear hk
  cases hb : o.which
  · obtain rfl : i = 0 := by rw [hb] at hw; exact hw
    have HWc := hide hb
    clear hb hw
    go_enter Try.func20, Try.ntmps20
    go_upto_region 1 with fail
    refine named (P := Code.wp _ _ _ _) ?_
    intro w1 hw1
    obtain ⟨bx, hbx⟩ : ∃ b, b = w.heap.size := ⟨_, rfl⟩
    obtain ⟨lb, hlb⟩ : ∃ l, l = ext lab w.heap.size 9 := ⟨_, rfl⟩
    have HT := hide (show Tb lb w1 B T by rw [hw1, hlb]; exact (HT00.out.relab (lab' := ext lab w.heap.size 9) (fun x hx => ext_old hx)).below (alloc_below _ _))
    have HLX := hide (show lb bx = 9 by rw [hlb, hbx]; exact ext_new (Nat.le_refl _))
    have HX := hide (show Cells w1 bx (opL o) by rw [hw1, hbx]; exact box_op w o)
    have HB := hide (show Below B w w1 by rw [hw1]; exact (alloc_below _ _).mono HBS.out)
    rw [← hbx]
    clear hw1 hbx hlb HT00
    obtain ⟨v0, -⟩ := HX.out.get 0 _ rfl
    obtain ⟨v1, -⟩ := HX.out.get 1 _ rfl
    obtain ⟨v2, -⟩ := HX.out.get 2 _ rfl
    obtain ⟨v3, -⟩ := HX.out.get 3 _ rfl
    have KP : ∀ w' , Tb lb w' B T → _ := fun w' h => many_any lb B T _ o w' h hi HQ.out
    unfold TPost at KP
    rw [HK.out] at v0
    rw [HWc.out] at v1
    obtain ⟨v4, -⟩ := HX.out.get 4 _ rfl
    obtain ⟨v5, -⟩ := HX.out.get 5 _ rfl
    obtain ⟨v6, -⟩ := HX.out.get 6 _ rfl
    obtain ⟨v7, -⟩ := HX.out.get 7 _ rfl
    obtain ⟨v8, -⟩ := HX.out.get 8 _ rfl
    have hov : opV o = .agg #[.int .i64 8, .bool false, .int .i64 o.cn, .int .i64 o.gn, .int .i64 o.wh.1, .int .i64 o.wh.2, .int .i64 o.su.1, .int .i64 o.su.2, .int .i64 o.many] := by unfold opV; rw [HK.out, HWc.out]
    rw [hov] at KP
    clear hov
    go_wp2_with fail
    refine (KP _ HT.out).mono ?_
    rintro e w2 ⟨rfl, lb', T', g1, g2, g3, g4, g5⟩
    go_wp2_with fail
    go_ret
    exact ⟨rfl, lb', T', g1, g2, g3, HB.out.trans g4, by omega⟩
  · obtain rfl : i = 1 := by rw [hb] at hw; exact hw
    have HWc := hide hb
    clear hb hw
    go_enter Try.func20, Try.ntmps20
    go_upto_region 1 with fail
    refine named (P := Code.wp _ _ _ _) ?_
    intro w1 hw1
    obtain ⟨bx, hbx⟩ : ∃ b, b = w.heap.size := ⟨_, rfl⟩
    obtain ⟨lb, hlb⟩ : ∃ l, l = ext lab w.heap.size 9 := ⟨_, rfl⟩
    have HT := hide (show Tb lb w1 B T by rw [hw1, hlb]; exact (HT00.out.relab (lab' := ext lab w.heap.size 9) (fun x hx => ext_old hx)).below (alloc_below _ _))
    have HLX := hide (show lb bx = 9 by rw [hlb, hbx]; exact ext_new (Nat.le_refl _))
    have HX := hide (show Cells w1 bx (opL o) by rw [hw1, hbx]; exact box_op w o)
    have HB := hide (show Below B w w1 by rw [hw1]; exact (alloc_below _ _).mono HBS.out)
    rw [← hbx]
    clear hw1 hbx hlb HT00
    obtain ⟨v0, -⟩ := HX.out.get 0 _ rfl
    obtain ⟨v1, -⟩ := HX.out.get 1 _ rfl
    obtain ⟨v2, -⟩ := HX.out.get 2 _ rfl
    obtain ⟨v3, -⟩ := HX.out.get 3 _ rfl
    have KP : ∀ w' , Tb lb w' B T → _ := fun w' h => many_any lb B T _ o w' h hi HQ.out
    unfold TPost at KP
    rw [HK.out] at v0
    rw [HWc.out] at v1
    obtain ⟨v4, -⟩ := HX.out.get 4 _ rfl
    obtain ⟨v5, -⟩ := HX.out.get 5 _ rfl
    obtain ⟨v6, -⟩ := HX.out.get 6 _ rfl
    obtain ⟨v7, -⟩ := HX.out.get 7 _ rfl
    obtain ⟨v8, -⟩ := HX.out.get 8 _ rfl
    have hov : opV o = .agg #[.int .i64 8, .bool true, .int .i64 o.cn, .int .i64 o.gn, .int .i64 o.wh.1, .int .i64 o.wh.2, .int .i64 o.su.1, .int .i64 o.su.2, .int .i64 o.many] := by unfold opV; rw [HK.out, HWc.out]
    rw [hov] at KP
    clear hov
    go_wp2_with fail
    refine (KP _ HT.out).mono ?_
    rintro e w2 ⟨rfl, lb', T', g1, g2, g3, g4, g5⟩
    go_wp2_with fail
    go_ret
    exact ⟨rfl, lb', T', g1, g2, g3, HB.out.trans g4, by omega⟩
set_option maxHeartbeats 8000000 in
theorem play1_any (lab : Nat → Nat) (B : Nat) (T : Tab) (i : Nat) (o : OpM) (w : World) (h : Tb lab w B T) (hi : i < 2) (hw : i = if o.which then 1 else 0) (he : ∀ j, j < 2 → T.rp j = T.rq j) (hk : o.kind = 1) : Calls Try.prog 20 #[ptr T.t, opV o] w (TPost 4 w B T) := by
  unfold TPost
  have HBS := hide (show B ≤ w.heap.size by have := h.low.1; have := h.box.1; omega)
  have HQ := hide he
  have HT00 := hide h
  clear h he
  have HK := hide hk
  clear hk
  cases hb : o.which
  · obtain rfl : i = 0 := by rw [hb] at hw; exact hw
    have HWc := hide hb
    clear hb hw
    go_enter Try.func20, Try.ntmps20
    go_upto_region 1 with fail
    refine named (P := Code.wp _ _ _ _) ?_
    intro w1 hw1
    obtain ⟨bx, hbx⟩ : ∃ b, b = w.heap.size := ⟨_, rfl⟩
    obtain ⟨lb, hlb⟩ : ∃ l, l = ext lab w.heap.size 9 := ⟨_, rfl⟩
    have HT := hide (show Tb lb w1 B T by rw [hw1, hlb]; exact (HT00.out.relab (lab' := ext lab w.heap.size 9) (fun x hx => ext_old hx)).below (alloc_below _ _))
    have HLX := hide (show lb bx = 9 by rw [hlb, hbx]; exact ext_new (Nat.le_refl _))
    have HX := hide (show Cells w1 bx (opL o) by rw [hw1, hbx]; exact box_op w o)
    have HB := hide (show Below B w w1 by rw [hw1]; exact (alloc_below _ _).mono HBS.out)
    rw [← hbx]
    clear hw1 hbx hlb HT00
    obtain ⟨v0, -⟩ := HX.out.get 0 _ rfl
    obtain ⟨v1, -⟩ := HX.out.get 1 _ rfl
    obtain ⟨v2, -⟩ := HX.out.get 2 _ rfl
    obtain ⟨v3, -⟩ := HX.out.get 3 _ rfl
    rw [HK.out] at v0
    rw [HWc.out] at v1
    by_cases hr : o.cn < 2 ∨ 64 < o.cn
    · have KP := fun w' => begins_no T.t 0 o.cn w' hr
      clear hr
      go_wp2_with fail
      refine (KP _).mono ?_
      rintro e w2 ⟨rfl, rfl⟩
      go_wp2_with fail
      go_ret
      exact ⟨rfl, lb, T, HT.out, HQ.out, rfl, HB.out, by omega⟩
    · obtain ⟨p, hp⟩ : ∃ p : Nat, o.cn = (p : Int) := ⟨o.cn.toNat, by omega⟩
      have KP := fun w' (h : Tb lb w' B T) => begins_yes T.t 0 p _ _ _ _ _ _ w' h.box hi (by omega) (by omega)
      unfold BegPost at KP
      have HCN := hide hp
      rw [hp] at v2
      clear hr hp
      go_wp2_with fail
      refine (KP _ HT.out).mono ?_
      rintro e w2 ⟨rfl, w3, nb, nm, ng, nc, b3, p3, r3, l1, l2, l3, hw2⟩
      have hB0 : B ≤ w1.heap.size := Nat.le_trans HBS.out HB.out.size
      have TB := hide (HT.out.begun hi b3 p3 (r3.mono (Nat.le_trans hB0 l3)) l1 l2 l3 rfl rfl hw2)
      have BF := hide (show Below B w w2 by
        have k2 : Keep (fun z => z = T.t) w3 w2 := by rw [hw2]; exact ((Keep.refl (fun z => z = T.t) w3).setCell (g := T.t) (fun _ => rfl) _).setCell (g := T.t) (fun _ => rfl) _
        exact (HB.out.trans (b3.mono hB0)).trans (k2.below (Nat.le_trans hB0 b3.size) (fun z hz q => by have := HT.out.low.1; omega)))
      have HQ2 := hide (eqs (T := T) (i := 0) (r := ⟨p, [], []⟩) HQ.out)
      clear hw2 b3 p3 r3 l1 l2 l3 KP
      go_wp2_with fail
      go_ret
      exact ⟨rfl, _, _, TB.out, HQ2.out, rfl, BF.out, by show T.ls.length ≤ T.ls.length + 4; omega⟩
  · obtain rfl : i = 1 := by rw [hb] at hw; exact hw
    have HWc := hide hb
    clear hb hw
    go_enter Try.func20, Try.ntmps20
    go_upto_region 1 with fail
    refine named (P := Code.wp _ _ _ _) ?_
    intro w1 hw1
    obtain ⟨bx, hbx⟩ : ∃ b, b = w.heap.size := ⟨_, rfl⟩
    obtain ⟨lb, hlb⟩ : ∃ l, l = ext lab w.heap.size 9 := ⟨_, rfl⟩
    have HT := hide (show Tb lb w1 B T by rw [hw1, hlb]; exact (HT00.out.relab (lab' := ext lab w.heap.size 9) (fun x hx => ext_old hx)).below (alloc_below _ _))
    have HLX := hide (show lb bx = 9 by rw [hlb, hbx]; exact ext_new (Nat.le_refl _))
    have HX := hide (show Cells w1 bx (opL o) by rw [hw1, hbx]; exact box_op w o)
    have HB := hide (show Below B w w1 by rw [hw1]; exact (alloc_below _ _).mono HBS.out)
    rw [← hbx]
    clear hw1 hbx hlb HT00
    obtain ⟨v0, -⟩ := HX.out.get 0 _ rfl
    obtain ⟨v1, -⟩ := HX.out.get 1 _ rfl
    obtain ⟨v2, -⟩ := HX.out.get 2 _ rfl
    obtain ⟨v3, -⟩ := HX.out.get 3 _ rfl
    rw [HK.out] at v0
    rw [HWc.out] at v1
    by_cases hr : o.cn < 2 ∨ 64 < o.cn
    · have KP := fun w' => begins_no T.t 1 o.cn w' hr
      clear hr
      go_wp2_with fail
      refine (KP _).mono ?_
      rintro e w2 ⟨rfl, rfl⟩
      go_wp2_with fail
      go_ret
      exact ⟨rfl, lb, T, HT.out, HQ.out, rfl, HB.out, by omega⟩
    · obtain ⟨p, hp⟩ : ∃ p : Nat, o.cn = (p : Int) := ⟨o.cn.toNat, by omega⟩
      have KP := fun w' (h : Tb lb w' B T) => begins_yes T.t 1 p _ _ _ _ _ _ w' h.box hi (by omega) (by omega)
      unfold BegPost at KP
      have HCN := hide hp
      rw [hp] at v2
      clear hr hp
      go_wp2_with fail
      refine (KP _ HT.out).mono ?_
      rintro e w2 ⟨rfl, w3, nb, nm, ng, nc, b3, p3, r3, l1, l2, l3, hw2⟩
      have hB0 : B ≤ w1.heap.size := Nat.le_trans HBS.out HB.out.size
      have TB := hide (HT.out.begun hi b3 p3 (r3.mono (Nat.le_trans hB0 l3)) l1 l2 l3 rfl rfl hw2)
      have BF := hide (show Below B w w2 by
        have k2 : Keep (fun z => z = T.t) w3 w2 := by rw [hw2]; exact ((Keep.refl (fun z => z = T.t) w3).setCell (g := T.t) (fun _ => rfl) _).setCell (g := T.t) (fun _ => rfl) _
        exact (HB.out.trans (b3.mono hB0)).trans (k2.below (Nat.le_trans hB0 b3.size) (fun z hz q => by have := HT.out.low.1; omega)))
      have HQ2 := hide (eqs (T := T) (i := 1) (r := ⟨p, [], []⟩) HQ.out)
      clear hw2 b3 p3 r3 l1 l2 l3 KP
      go_wp2_with fail
      go_ret
      exact ⟨rfl, _, _, TB.out, HQ2.out, rfl, BF.out, by show T.ls.length ≤ T.ls.length + 4; omega⟩
set_option maxHeartbeats 8000000 in
theorem play3_any (lab : Nat → Nat) (B : Nat) (T : Tab) (i : Nat) (o : OpM) (w : World) (h : Tb lab w B T) (hi : i < 2) (hw : i = if o.which then 1 else 0) (he : ∀ j, j < 2 → T.rp j = T.rq j) (hk : o.kind = 3) : Calls Try.prog 20 #[ptr T.t, opV o] w (TPost 4 w B T) := by
  unfold TPost
  have HBS := hide (show B ≤ w.heap.size by have := h.low.1; have := h.box.1; omega)
  have HQ := hide he
  have HT00 := hide h
  clear h he
  have HK := hide hk
  clear hk
  cases hb : o.which
  · obtain rfl : i = 0 := by rw [hb] at hw; exact hw
    have HWc := hide hb
    clear hb hw
    go_enter Try.func20, Try.ntmps20
    go_upto_region 1 with fail
    refine named (P := Code.wp _ _ _ _) ?_
    intro w1 hw1
    obtain ⟨bx, hbx⟩ : ∃ b, b = w.heap.size := ⟨_, rfl⟩
    obtain ⟨lb, hlb⟩ : ∃ l, l = ext lab w.heap.size 9 := ⟨_, rfl⟩
    have HT := hide (show Tb lb w1 B T by rw [hw1, hlb]; exact (HT00.out.relab (lab' := ext lab w.heap.size 9) (fun x hx => ext_old hx)).below (alloc_below _ _))
    have HLX := hide (show lb bx = 9 by rw [hlb, hbx]; exact ext_new (Nat.le_refl _))
    have HX := hide (show Cells w1 bx (opL o) by rw [hw1, hbx]; exact box_op w o)
    have HB := hide (show Below B w w1 by rw [hw1]; exact (alloc_below _ _).mono HBS.out)
    rw [← hbx]
    clear hw1 hbx hlb HT00
    obtain ⟨v0, -⟩ := HX.out.get 0 _ rfl
    obtain ⟨v1, -⟩ := HX.out.get 1 _ rfl
    obtain ⟨v2, -⟩ := HX.out.get 2 _ rfl
    obtain ⟨v3, -⟩ := HX.out.get 3 _ rfl
    rw [HK.out] at v0
    rw [HWc.out] at v1
    have ok := (HT.out.pr 0 hi).ok
    have ei := HQ.out 0 hi
    have KT := fun w' (h : Tb lb w' B T) => take_any (T.b 0) (T.m 0) (T.g 0) (T.rp 0) o.cn o.gn o.wh o.su w' (h.pr 0 hi)
    have KU := fun w' (h : Tb lb w' B { T with rp := upd T.rp 0 ((T.rp 0).take o.cn o.gn o.wh o.su) }) => rtake_any B (T.c 0) (T.vC 0) (T.vG 0) (T.rq 0) o.cn o.gn o.wh o.su w' (h.rr 0 hi) (by rw [← ei]; exact ok)
    unfold TakePost at KT
    unfold RTake at KU
    rw [← ei] at KU
    obtain ⟨TE, hTE⟩ : ∃ x, x = (T.rp 0).takeE o.cn o.gn o.wh o.su := ⟨_, rfl⟩
    obtain ⟨RN, hRN⟩ : ∃ x, x = (T.rp 0).take o.cn o.gn o.wh o.su := ⟨_, rfl⟩
    rw [← hTE, ← hRN] at KT
    rw [← hTE, ← hRN] at KU
    have HQ2 := hide (eqs (T := T) (i := 0) (r := RN) HQ.out)
    clear ok ei hTE hRN
    go_upto_region 10 with fail
    clear v0 v1 v2 v3
    refine wp_region_held_drew (S := fun wq => wq.cell? ⟨T.t, 0, none⟩ = some (ptr (T.b 0)) ∧ wq.cell? ⟨T.t, 2, none⟩ = some (ptr (T.c 0)) ∧ wq.cell? ⟨bx, 2, none⟩ = some (.int .i64 o.cn) ∧ wq.cell? ⟨bx, 3, none⟩ = some (.int .i64 o.gn) ∧ wq.cell? ⟨bx, 4, none⟩ = some (.int .i64 o.wh.1) ∧ wq.cell? ⟨bx, 5, none⟩ = some (.int .i64 o.wh.2) ∧ wq.cell? ⟨bx, 6, none⟩ = some (.int .i64 o.su.1) ∧ wq.cell? ⟨bx, 7, none⟩ = some (.int .i64 o.su.2)) (by kernel_rfl) ⟨(HT.out.cP hi).1, (HT.out.cR hi).1, (HX.out.get 2 _ rfl).1, (HX.out.get 3 _ rfl).1, (HX.out.get 4 _ rfl).1, (HX.out.get 5 _ rfl).1, (HX.out.get 6 _ rfl).1, (HX.out.get 7 _ rfl).1⟩ (fun hS => ?_)
    have HT0 := hide (HT.out.below (Below.refl _ _).drew)
    have HB0 := hide HB.out.drew
    have HX0 := hide HX.out.drew
    clear HT HB HX
    generalize w1.drew = x0 at *
    refine take_at 0 (some 28) (v := ?_) rfl rfl (by kernel_rfl) (by kernel_rfl) (by kernel_rfl) (fun _ _ _ h => h) ⟨by rfl, ?_⟩ hS ?_
    rotate_left
    · intro wq hSw; go_simp; try rfl
    simp only [Act.put, List.setIfInBounds_toArray, List.set_cons_zero, List.set_cons_succ]
    refine take_at 1 (some 29) (v := ?_) rfl rfl (by kernel_rfl) (by kernel_rfl) (by kernel_rfl) (fun _ _ _ h => h) ⟨by rfl, ?_⟩ hS ?_
    rotate_left
    · intro wq hSw; go_simp; try rfl
    simp only [Act.put, List.setIfInBounds_toArray, List.set_cons_zero, List.set_cons_succ]
    refine take_at 2 (some 30) (v := ?_) rfl rfl (by kernel_rfl) (by kernel_rfl) (by kernel_rfl) (fun _ _ _ h => h) ⟨by rfl, ?_⟩ hS ?_
    rotate_left
    · intro wq hSw; go_simp; try rfl
    simp only [Act.put, List.setIfInBounds_toArray, List.set_cons_zero, List.set_cons_succ]
    refine take_at 3 (some 31) (v := ?_) rfl rfl (by kernel_rfl) (by kernel_rfl) (by kernel_rfl) (fun _ _ _ h => h) ⟨by rfl, ?_⟩ hS ?_
    rotate_left
    · intro wq hSw; go_simp; try rfl
    simp only [Act.put, List.setIfInBounds_toArray, List.set_cons_zero, List.set_cons_succ]
    refine take_at 4 (some 32) (v := ?_) rfl rfl (by kernel_rfl) (by kernel_rfl) (by kernel_rfl) (fun _ _ _ h => h) ⟨by rfl, ?_⟩ hS ?_
    rotate_left
    · intro wq hSw; go_simp; try rfl
    simp only [Act.put, List.setIfInBounds_toArray, List.set_cons_zero, List.set_cons_succ]
    refine take_at 5 (some 33) (v := ?_) rfl rfl (by kernel_rfl) (by kernel_rfl) (by kernel_rfl) (fun _ _ _ h => h) ⟨by rfl, ?_⟩ hS ?_
    rotate_left
    · intro wq hSw; obtain ⟨s0, s1, s2, s3, s4, s5, s6, s7⟩ := hSw; go_simp; try rfl
    simp only [Act.put, List.setIfInBounds_toArray, List.set_cons_zero, List.set_cons_succ]
    refine take_at 6 (some 34) (v := ?_) rfl rfl (by kernel_rfl) (by kernel_rfl) (by kernel_rfl) (fun _ _ _ h => h) ⟨by rfl, ?_⟩ hS ?_
    rotate_left
    · intro wq hSw; go_simp; try rfl
    simp only [Act.put, List.setIfInBounds_toArray, List.set_cons_zero, List.set_cons_succ]
    refine take_at 7 (some 35) (v := ?_) rfl rfl (by kernel_rfl) (by kernel_rfl) (by kernel_rfl) (fun _ _ _ h => h) ⟨by rfl, ?_⟩ hS ?_
    rotate_left
    · intro wq hSw; obtain ⟨s0, s1, s2, s3, s4, s5, s6, s7⟩ := hSw; go_simp; try rfl
    simp only [Act.put, List.setIfInBounds_toArray, List.set_cons_zero, List.set_cons_succ]
    refine take_at 8 (some 36) (v := ?_) rfl rfl (by kernel_rfl) (by kernel_rfl) (by kernel_rfl) (fun _ _ _ h => h) ⟨by rfl, ?_⟩ hS ?_
    rotate_left
    · intro wq hSw; go_simp; try rfl
    simp only [Act.put, List.setIfInBounds_toArray, List.set_cons_zero, List.set_cons_succ]
    refine take_at 9 (some 37) (v := ?_) rfl rfl (by kernel_rfl) (by kernel_rfl) (by kernel_rfl) (fun _ _ _ h => h) ⟨by rfl, ?_⟩ hS ?_
    rotate_left
    · intro wq hSw; obtain ⟨s0, s1, s2, s3, s4, s5, s6, s7⟩ := hSw; go_simp; try rfl
    simp only [Act.put, List.setIfInBounds_toArray, List.set_cons_zero, List.set_cons_succ]
    refine take_at 10 (some 38) (v := ?_) rfl rfl (by kernel_rfl) (by kernel_rfl) (by kernel_rfl) (fun _ _ _ h => h) ⟨by rfl, ?_⟩ hS ?_
    rotate_left
    · intro wq hSw; go_simp; try rfl
    simp only [Act.put, List.setIfInBounds_toArray, List.set_cons_zero, List.set_cons_succ]
    refine take_at 11 (some 39) (v := ?_) rfl rfl (by kernel_rfl) (by kernel_rfl) (by kernel_rfl) (fun _ _ _ h => h) ⟨by rfl, ?_⟩ hS ?_
    rotate_left
    · intro wq hSw; obtain ⟨s0, s1, s2, s3, s4, s5, s6, s7⟩ := hSw; go_simp; try rfl
    simp only [Act.put, List.setIfInBounds_toArray, List.set_cons_zero, List.set_cons_succ]
    refine take_at 12 (some 40) (v := ?_) rfl rfl (by kernel_rfl) (by kernel_rfl) (by kernel_rfl) (fun _ _ _ h => h) ⟨by rfl, ?_⟩ hS ?_
    rotate_left
    · intro wq hSw; go_simp; try rfl
    simp only [Act.put, List.setIfInBounds_toArray, List.set_cons_zero, List.set_cons_succ]
    refine take_at 13 (some 41) (v := ?_) rfl rfl (by kernel_rfl) (by kernel_rfl) (by kernel_rfl) (fun _ _ _ h => h) ⟨by rfl, ?_⟩ hS ?_
    rotate_left
    · intro wq hSw; obtain ⟨s0, s1, s2, s3, s4, s5, s6, s7⟩ := hSw; go_simp; try rfl
    simp only [Act.put, List.setIfInBounds_toArray, List.set_cons_zero, List.set_cons_succ]
    refine take_at 16 (some 44) (v := ?_) rfl rfl (by kernel_rfl) (by kernel_rfl) (by kernel_rfl) (fun _ _ _ h => h) ⟨by rfl, ?_⟩ hS ?_
    rotate_left
    · intro wq hSw; go_simp; try rfl
    simp only [Act.put, List.setIfInBounds_toArray, List.set_cons_zero, List.set_cons_succ]
    refine take_at 17 (some 45) (v := ?_) rfl rfl (by kernel_rfl) (by kernel_rfl) (by kernel_rfl) (fun _ _ _ h => h) ⟨by rfl, ?_⟩ hS ?_
    rotate_left
    · intro wq hSw; go_simp; try rfl
    simp only [Act.put, List.setIfInBounds_toArray, List.set_cons_zero, List.set_cons_succ]
    refine take_at 18 (some 46) (v := ?_) rfl rfl (by kernel_rfl) (by kernel_rfl) (by kernel_rfl) (fun _ _ _ h => h) ⟨by rfl, ?_⟩ hS ?_
    rotate_left
    · intro wq hSw; go_simp; try rfl
    simp only [Act.put, List.setIfInBounds_toArray, List.set_cons_zero, List.set_cons_succ]
    refine take_at 19 (some 47) (v := ?_) rfl rfl (by kernel_rfl) (by kernel_rfl) (by kernel_rfl) (fun _ _ _ h => h) ⟨by rfl, ?_⟩ hS ?_
    rotate_left
    · intro wq hSw; go_simp; try rfl
    simp only [Act.put, List.setIfInBounds_toArray, List.set_cons_zero, List.set_cons_succ]
    refine take_at 20 (some 48) (v := ?_) rfl rfl (by kernel_rfl) (by kernel_rfl) (by kernel_rfl) (fun _ _ _ h => h) ⟨by rfl, ?_⟩ hS ?_
    rotate_left
    · intro wq hSw; go_simp; try rfl
    simp only [Act.put, List.setIfInBounds_toArray, List.set_cons_zero, List.set_cons_succ]
    refine take_at 21 (some 49) (v := ?_) rfl rfl (by kernel_rfl) (by kernel_rfl) (by kernel_rfl) (fun _ _ _ h => h) ⟨by rfl, ?_⟩ hS ?_
    rotate_left
    · intro wq hSw; obtain ⟨s0, s1, s2, s3, s4, s5, s6, s7⟩ := hSw; go_simp; try rfl
    simp only [Act.put, List.setIfInBounds_toArray, List.set_cons_zero, List.set_cons_succ]
    refine take_at 22 (some 50) (v := ?_) rfl rfl (by kernel_rfl) (by kernel_rfl) (by kernel_rfl) (fun _ _ _ h => h) ⟨by rfl, ?_⟩ hS ?_
    rotate_left
    · intro wq hSw; go_simp; try rfl
    simp only [Act.put, List.setIfInBounds_toArray, List.set_cons_zero, List.set_cons_succ]
    refine take_at 23 (some 51) (v := ?_) rfl rfl (by kernel_rfl) (by kernel_rfl) (by kernel_rfl) (fun _ _ _ h => h) ⟨by rfl, ?_⟩ hS ?_
    rotate_left
    · intro wq hSw; obtain ⟨s0, s1, s2, s3, s4, s5, s6, s7⟩ := hSw; go_simp; try rfl
    simp only [Act.put, List.setIfInBounds_toArray, List.set_cons_zero, List.set_cons_succ]
    refine take_at 24 (some 52) (v := ?_) rfl rfl (by kernel_rfl) (by kernel_rfl) (by kernel_rfl) (fun _ _ _ h => h) ⟨by rfl, ?_⟩ hS ?_
    rotate_left
    · intro wq hSw; go_simp; try rfl
    simp only [Act.put, List.setIfInBounds_toArray, List.set_cons_zero, List.set_cons_succ]
    refine take_at 25 (some 53) (v := ?_) rfl rfl (by kernel_rfl) (by kernel_rfl) (by kernel_rfl) (fun _ _ _ h => h) ⟨by rfl, ?_⟩ hS ?_
    rotate_left
    · intro wq hSw; obtain ⟨s0, s1, s2, s3, s4, s5, s6, s7⟩ := hSw; go_simp; try rfl
    simp only [Act.put, List.setIfInBounds_toArray, List.set_cons_zero, List.set_cons_succ]
    refine take_at 26 (some 54) (v := ?_) rfl rfl (by kernel_rfl) (by kernel_rfl) (by kernel_rfl) (fun _ _ _ h => h) ⟨by rfl, ?_⟩ hS ?_
    rotate_left
    · intro wq hSw; go_simp; try rfl
    simp only [Act.put, List.setIfInBounds_toArray, List.set_cons_zero, List.set_cons_succ]
    refine take_at 27 (some 55) (v := ?_) rfl rfl (by kernel_rfl) (by kernel_rfl) (by kernel_rfl) (fun _ _ _ h => h) ⟨by rfl, ?_⟩ hS ?_
    rotate_left
    · intro wq hSw; obtain ⟨s0, s1, s2, s3, s4, s5, s6, s7⟩ := hSw; go_simp; try rfl
    simp only [Act.put, List.setIfInBounds_toArray, List.set_cons_zero, List.set_cons_succ]
    refine take_at 28 (some 56) (v := ?_) rfl rfl (by kernel_rfl) (by kernel_rfl) (by kernel_rfl) (fun _ _ _ h => h) ⟨by rfl, ?_⟩ hS ?_
    rotate_left
    · intro wq hSw; go_simp; try rfl
    simp only [Act.put, List.setIfInBounds_toArray, List.set_cons_zero, List.set_cons_succ]
    refine take_at 29 (some 57) (v := ?_) rfl rfl (by kernel_rfl) (by kernel_rfl) (by kernel_rfl) (fun _ _ _ h => h) ⟨by rfl, ?_⟩ hS ?_
    rotate_left
    · intro wq hSw; obtain ⟨s0, s1, s2, s3, s4, s5, s6, s7⟩ := hSw; go_simp; try rfl
    simp only [Act.put, List.setIfInBounds_toArray, List.set_cons_zero, List.set_cons_succ]
    refine wpAnyH_ready (rs := [14]) (by kernel_rfl) (by simp) ?_
    refine AllReadyH.cons rfl (fun K hK => ?_) AllReadyH.nil
    go_simp
    go_wp2_with fail
    refine (KT _ HT0.out).mono ?_
    rintro e x1 ⟨rfl, hpq, kp1⟩
    have HT1 := hide (HT0.out.took hi hpq kp1)
    have HX1 := hide (HX0.out.keep kp1 (fun q => by have := HT0.out.l2 0 hi; have := HLX.out; rcases q with q | q <;> (rw [q] at this; omega)))
    have HB1 := hide (HB0.out.trans (kp1.below (Nat.le_trans HBS.out HB0.out.size) (fun z hz q => by have := HT0.out.low.2 0 hi; rcases q with q | q <;> (rw [q] at hz; omega))))
    have hS1 : (fun wq => wq.cell? ⟨T.t, 0, none⟩ = some (ptr (T.b 0)) ∧ wq.cell? ⟨T.t, 2, none⟩ = some (ptr (T.c 0)) ∧ wq.cell? ⟨bx, 2, none⟩ = some (.int .i64 o.cn) ∧ wq.cell? ⟨bx, 3, none⟩ = some (.int .i64 o.gn) ∧ wq.cell? ⟨bx, 4, none⟩ = some (.int .i64 o.wh.1) ∧ wq.cell? ⟨bx, 5, none⟩ = some (.int .i64 o.wh.2) ∧ wq.cell? ⟨bx, 6, none⟩ = some (.int .i64 o.su.1) ∧ wq.cell? ⟨bx, 7, none⟩ = some (.int .i64 o.su.2)) x1 := ⟨(HT1.out.cP hi).1, (HT1.out.cR hi).1, (HX1.out.get 2 _ rfl).1, (HX1.out.get 3 _ rfl).1, (HX1.out.get 4 _ rfl).1, (HX1.out.get 5 _ rfl).1, (HX1.out.get 6 _ rfl).1, (HX1.out.get 7 _ rfl).1⟩
    clear hpq kp1 HT0 HX0 HB0
    go_wp2_with fail
    refine hK.out _ _ hS1 (fun hS => ?_)
    clear hK K
    (try simp only [Act.put, List.setIfInBounds_toArray, List.set_cons_zero, List.set_cons_succ])
    refine wpAnyH_ready (rs := [15]) (by kernel_rfl) (by simp) ?_
    refine AllReadyH.cons rfl (fun K hK => ?_) AllReadyH.nil
    go_simp
    go_wp2_with fail
    refine (num_eq _ _).mono ?_
    rintro e wz ⟨rfl, rfl⟩
    go_wp2_with fail
    refine hK.out _ _ hS (fun hS => ?_)
    clear hK K
    (try simp only [Act.put, List.setIfInBounds_toArray, List.set_cons_zero, List.set_cons_succ])
    refine wpAnyH_ready (rs := [30]) (by kernel_rfl) (by simp) ?_
    refine AllReadyH.cons rfl (fun K hK => ?_) AllReadyH.nil
    go_simp
    go_wp2_with fail
    refine (KU _ HT1.out).mono ?_
    rintro e x2 ⟨rfl, vC2, vG2, hpq, sm1, sm2, kp2⟩
    have HT2 := hide (HT1.out.rtook hi hpq sm1 sm2 kp2)
    have HX2 := hide (HX1.out.keep kp2 (fun q => by have l4 : lb (T.c 0) = 4 + 0 ∧ (∀ x, (T.vC 0).ownBlock = some x → lb x = 4 + 0) ∧ (∀ x, (T.vG 0).ownBlock = some x → lb x = 4 + 0) := HT1.out.l4 0 hi; have := HLX.out; rcases q with q | q | q; (rw [q] at this; omega); (have := l4.2.1 _ q; omega); (have := l4.2.2 _ q; omega)))
    have HB2 := hide (HB1.out.trans (kp2.below (Nat.le_trans HBS.out HB1.out.size) (fun z hz q => by have this : RR x1 B (T.c 0) (T.vC 0) (T.vG 0) (T.rq 0) := HT1.out.rr 0 hi; rcases q with q | q | q; (have := this.low; omega); (have := (World.ownsRow.lt this.rc z q).1; omega); (have := (World.ownsRow.lt this.rg z q).1; omega))))
    have hS2 : (fun wq => wq.cell? ⟨T.t, 0, none⟩ = some (ptr (T.b 0)) ∧ wq.cell? ⟨T.t, 2, none⟩ = some (ptr (T.c 0)) ∧ wq.cell? ⟨bx, 2, none⟩ = some (.int .i64 o.cn) ∧ wq.cell? ⟨bx, 3, none⟩ = some (.int .i64 o.gn) ∧ wq.cell? ⟨bx, 4, none⟩ = some (.int .i64 o.wh.1) ∧ wq.cell? ⟨bx, 5, none⟩ = some (.int .i64 o.wh.2) ∧ wq.cell? ⟨bx, 6, none⟩ = some (.int .i64 o.su.1) ∧ wq.cell? ⟨bx, 7, none⟩ = some (.int .i64 o.su.2)) x2 := ⟨(HT2.out.cP hi).1, (HT2.out.cR hi).1, (HX2.out.get 2 _ rfl).1, (HX2.out.get 3 _ rfl).1, (HX2.out.get 4 _ rfl).1, (HX2.out.get 5 _ rfl).1, (HX2.out.get 6 _ rfl).1, (HX2.out.get 7 _ rfl).1⟩
    clear hpq sm1 sm2 kp2 HX1 HB1
    go_wp2_with fail
    refine hK.out _ _ hS2 (fun hS => ?_)
    clear hK K
    (try simp only [Act.put, List.setIfInBounds_toArray, List.set_cons_zero, List.set_cons_succ])
    refine take_at 31 (some 59) (v := ?_) rfl rfl (by kernel_rfl) (by kernel_rfl) (by kernel_rfl) (fun _ _ _ h => h) ⟨by rfl, ?_⟩ hS ?_
    rotate_left
    · intro wq hSw; go_simp; try rfl
    simp only [Act.put, List.setIfInBounds_toArray, List.set_cons_zero, List.set_cons_succ]
    refine take_at 32 (some 4) (v := ?_) rfl rfl (by kernel_rfl) (by kernel_rfl) (by kernel_rfl) (fun _ _ _ h => h) ⟨by rfl, ?_⟩ hS ?_
    rotate_left
    · intro wq hSw; go_simp; try rfl
    simp only [Act.put, List.setIfInBounds_toArray, List.set_cons_zero, List.set_cons_succ]
    refine wpAnyH_done (by kernel_rfl) ?_ _
    go_wp2_with fail
    go_ret
    exact ⟨rfl, _, _, HT2.out, HQ2.out, rfl, HB2.out, by show T.ls.length ≤ T.ls.length + 4; omega⟩
  · obtain rfl : i = 1 := by rw [hb] at hw; exact hw
    have HWc := hide hb
    clear hb hw
    go_enter Try.func20, Try.ntmps20
    go_upto_region 1 with fail
    refine named (P := Code.wp _ _ _ _) ?_
    intro w1 hw1
    obtain ⟨bx, hbx⟩ : ∃ b, b = w.heap.size := ⟨_, rfl⟩
    obtain ⟨lb, hlb⟩ : ∃ l, l = ext lab w.heap.size 9 := ⟨_, rfl⟩
    have HT := hide (show Tb lb w1 B T by rw [hw1, hlb]; exact (HT00.out.relab (lab' := ext lab w.heap.size 9) (fun x hx => ext_old hx)).below (alloc_below _ _))
    have HLX := hide (show lb bx = 9 by rw [hlb, hbx]; exact ext_new (Nat.le_refl _))
    have HX := hide (show Cells w1 bx (opL o) by rw [hw1, hbx]; exact box_op w o)
    have HB := hide (show Below B w w1 by rw [hw1]; exact (alloc_below _ _).mono HBS.out)
    rw [← hbx]
    clear hw1 hbx hlb HT00
    obtain ⟨v0, -⟩ := HX.out.get 0 _ rfl
    obtain ⟨v1, -⟩ := HX.out.get 1 _ rfl
    obtain ⟨v2, -⟩ := HX.out.get 2 _ rfl
    obtain ⟨v3, -⟩ := HX.out.get 3 _ rfl
    rw [HK.out] at v0
    rw [HWc.out] at v1
    have ok := (HT.out.pr 1 hi).ok
    have ei := HQ.out 1 hi
    have KT := fun w' (h : Tb lb w' B T) => take_any (T.b 1) (T.m 1) (T.g 1) (T.rp 1) o.cn o.gn o.wh o.su w' (h.pr 1 hi)
    have KU := fun w' (h : Tb lb w' B { T with rp := upd T.rp 1 ((T.rp 1).take o.cn o.gn o.wh o.su) }) => rtake_any B (T.c 1) (T.vC 1) (T.vG 1) (T.rq 1) o.cn o.gn o.wh o.su w' (h.rr 1 hi) (by rw [← ei]; exact ok)
    unfold TakePost at KT
    unfold RTake at KU
    rw [← ei] at KU
    obtain ⟨TE, hTE⟩ : ∃ x, x = (T.rp 1).takeE o.cn o.gn o.wh o.su := ⟨_, rfl⟩
    obtain ⟨RN, hRN⟩ : ∃ x, x = (T.rp 1).take o.cn o.gn o.wh o.su := ⟨_, rfl⟩
    rw [← hTE, ← hRN] at KT
    rw [← hTE, ← hRN] at KU
    have HQ2 := hide (eqs (T := T) (i := 1) (r := RN) HQ.out)
    clear ok ei hTE hRN
    go_upto_region 10 with fail
    clear v0 v1 v2 v3
    refine wp_region_held_drew (S := fun wq => wq.cell? ⟨T.t, 1, none⟩ = some (ptr (T.b 1)) ∧ wq.cell? ⟨T.t, 3, none⟩ = some (ptr (T.c 1)) ∧ wq.cell? ⟨bx, 2, none⟩ = some (.int .i64 o.cn) ∧ wq.cell? ⟨bx, 3, none⟩ = some (.int .i64 o.gn) ∧ wq.cell? ⟨bx, 4, none⟩ = some (.int .i64 o.wh.1) ∧ wq.cell? ⟨bx, 5, none⟩ = some (.int .i64 o.wh.2) ∧ wq.cell? ⟨bx, 6, none⟩ = some (.int .i64 o.su.1) ∧ wq.cell? ⟨bx, 7, none⟩ = some (.int .i64 o.su.2)) (by kernel_rfl) ⟨(HT.out.cP hi).1, (HT.out.cR hi).1, (HX.out.get 2 _ rfl).1, (HX.out.get 3 _ rfl).1, (HX.out.get 4 _ rfl).1, (HX.out.get 5 _ rfl).1, (HX.out.get 6 _ rfl).1, (HX.out.get 7 _ rfl).1⟩ (fun hS => ?_)
    have HT0 := hide (HT.out.below (Below.refl _ _).drew)
    have HB0 := hide HB.out.drew
    have HX0 := hide HX.out.drew
    clear HT HB HX
    generalize w1.drew = x0 at *
    refine take_at 0 (some 28) (v := ?_) rfl rfl (by kernel_rfl) (by kernel_rfl) (by kernel_rfl) (fun _ _ _ h => h) ⟨by rfl, ?_⟩ hS ?_
    rotate_left
    · intro wq hSw; go_simp; try rfl
    simp only [Act.put, List.setIfInBounds_toArray, List.set_cons_zero, List.set_cons_succ]
    refine take_at 1 (some 29) (v := ?_) rfl rfl (by kernel_rfl) (by kernel_rfl) (by kernel_rfl) (fun _ _ _ h => h) ⟨by rfl, ?_⟩ hS ?_
    rotate_left
    · intro wq hSw; go_simp; try rfl
    simp only [Act.put, List.setIfInBounds_toArray, List.set_cons_zero, List.set_cons_succ]
    refine take_at 2 (some 30) (v := ?_) rfl rfl (by kernel_rfl) (by kernel_rfl) (by kernel_rfl) (fun _ _ _ h => h) ⟨by rfl, ?_⟩ hS ?_
    rotate_left
    · intro wq hSw; go_simp; try rfl
    simp only [Act.put, List.setIfInBounds_toArray, List.set_cons_zero, List.set_cons_succ]
    refine take_at 3 (some 31) (v := ?_) rfl rfl (by kernel_rfl) (by kernel_rfl) (by kernel_rfl) (fun _ _ _ h => h) ⟨by rfl, ?_⟩ hS ?_
    rotate_left
    · intro wq hSw; go_simp; try rfl
    simp only [Act.put, List.setIfInBounds_toArray, List.set_cons_zero, List.set_cons_succ]
    refine take_at 4 (some 32) (v := ?_) rfl rfl (by kernel_rfl) (by kernel_rfl) (by kernel_rfl) (fun _ _ _ h => h) ⟨by rfl, ?_⟩ hS ?_
    rotate_left
    · intro wq hSw; go_simp; try rfl
    simp only [Act.put, List.setIfInBounds_toArray, List.set_cons_zero, List.set_cons_succ]
    refine take_at 5 (some 33) (v := ?_) rfl rfl (by kernel_rfl) (by kernel_rfl) (by kernel_rfl) (fun _ _ _ h => h) ⟨by rfl, ?_⟩ hS ?_
    rotate_left
    · intro wq hSw; obtain ⟨s0, s1, s2, s3, s4, s5, s6, s7⟩ := hSw; go_simp; try rfl
    simp only [Act.put, List.setIfInBounds_toArray, List.set_cons_zero, List.set_cons_succ]
    refine take_at 6 (some 34) (v := ?_) rfl rfl (by kernel_rfl) (by kernel_rfl) (by kernel_rfl) (fun _ _ _ h => h) ⟨by rfl, ?_⟩ hS ?_
    rotate_left
    · intro wq hSw; go_simp; try rfl
    simp only [Act.put, List.setIfInBounds_toArray, List.set_cons_zero, List.set_cons_succ]
    refine take_at 7 (some 35) (v := ?_) rfl rfl (by kernel_rfl) (by kernel_rfl) (by kernel_rfl) (fun _ _ _ h => h) ⟨by rfl, ?_⟩ hS ?_
    rotate_left
    · intro wq hSw; obtain ⟨s0, s1, s2, s3, s4, s5, s6, s7⟩ := hSw; go_simp; try rfl
    simp only [Act.put, List.setIfInBounds_toArray, List.set_cons_zero, List.set_cons_succ]
    refine take_at 8 (some 36) (v := ?_) rfl rfl (by kernel_rfl) (by kernel_rfl) (by kernel_rfl) (fun _ _ _ h => h) ⟨by rfl, ?_⟩ hS ?_
    rotate_left
    · intro wq hSw; go_simp; try rfl
    simp only [Act.put, List.setIfInBounds_toArray, List.set_cons_zero, List.set_cons_succ]
    refine take_at 9 (some 37) (v := ?_) rfl rfl (by kernel_rfl) (by kernel_rfl) (by kernel_rfl) (fun _ _ _ h => h) ⟨by rfl, ?_⟩ hS ?_
    rotate_left
    · intro wq hSw; obtain ⟨s0, s1, s2, s3, s4, s5, s6, s7⟩ := hSw; go_simp; try rfl
    simp only [Act.put, List.setIfInBounds_toArray, List.set_cons_zero, List.set_cons_succ]
    refine take_at 10 (some 38) (v := ?_) rfl rfl (by kernel_rfl) (by kernel_rfl) (by kernel_rfl) (fun _ _ _ h => h) ⟨by rfl, ?_⟩ hS ?_
    rotate_left
    · intro wq hSw; go_simp; try rfl
    simp only [Act.put, List.setIfInBounds_toArray, List.set_cons_zero, List.set_cons_succ]
    refine take_at 11 (some 39) (v := ?_) rfl rfl (by kernel_rfl) (by kernel_rfl) (by kernel_rfl) (fun _ _ _ h => h) ⟨by rfl, ?_⟩ hS ?_
    rotate_left
    · intro wq hSw; obtain ⟨s0, s1, s2, s3, s4, s5, s6, s7⟩ := hSw; go_simp; try rfl
    simp only [Act.put, List.setIfInBounds_toArray, List.set_cons_zero, List.set_cons_succ]
    refine take_at 12 (some 40) (v := ?_) rfl rfl (by kernel_rfl) (by kernel_rfl) (by kernel_rfl) (fun _ _ _ h => h) ⟨by rfl, ?_⟩ hS ?_
    rotate_left
    · intro wq hSw; go_simp; try rfl
    simp only [Act.put, List.setIfInBounds_toArray, List.set_cons_zero, List.set_cons_succ]
    refine take_at 13 (some 41) (v := ?_) rfl rfl (by kernel_rfl) (by kernel_rfl) (by kernel_rfl) (fun _ _ _ h => h) ⟨by rfl, ?_⟩ hS ?_
    rotate_left
    · intro wq hSw; obtain ⟨s0, s1, s2, s3, s4, s5, s6, s7⟩ := hSw; go_simp; try rfl
    simp only [Act.put, List.setIfInBounds_toArray, List.set_cons_zero, List.set_cons_succ]
    refine take_at 16 (some 44) (v := ?_) rfl rfl (by kernel_rfl) (by kernel_rfl) (by kernel_rfl) (fun _ _ _ h => h) ⟨by rfl, ?_⟩ hS ?_
    rotate_left
    · intro wq hSw; go_simp; try rfl
    simp only [Act.put, List.setIfInBounds_toArray, List.set_cons_zero, List.set_cons_succ]
    refine take_at 17 (some 45) (v := ?_) rfl rfl (by kernel_rfl) (by kernel_rfl) (by kernel_rfl) (fun _ _ _ h => h) ⟨by rfl, ?_⟩ hS ?_
    rotate_left
    · intro wq hSw; go_simp; try rfl
    simp only [Act.put, List.setIfInBounds_toArray, List.set_cons_zero, List.set_cons_succ]
    refine take_at 18 (some 46) (v := ?_) rfl rfl (by kernel_rfl) (by kernel_rfl) (by kernel_rfl) (fun _ _ _ h => h) ⟨by rfl, ?_⟩ hS ?_
    rotate_left
    · intro wq hSw; go_simp; try rfl
    simp only [Act.put, List.setIfInBounds_toArray, List.set_cons_zero, List.set_cons_succ]
    refine take_at 19 (some 47) (v := ?_) rfl rfl (by kernel_rfl) (by kernel_rfl) (by kernel_rfl) (fun _ _ _ h => h) ⟨by rfl, ?_⟩ hS ?_
    rotate_left
    · intro wq hSw; go_simp; try rfl
    simp only [Act.put, List.setIfInBounds_toArray, List.set_cons_zero, List.set_cons_succ]
    refine take_at 20 (some 48) (v := ?_) rfl rfl (by kernel_rfl) (by kernel_rfl) (by kernel_rfl) (fun _ _ _ h => h) ⟨by rfl, ?_⟩ hS ?_
    rotate_left
    · intro wq hSw; go_simp; try rfl
    simp only [Act.put, List.setIfInBounds_toArray, List.set_cons_zero, List.set_cons_succ]
    refine take_at 21 (some 49) (v := ?_) rfl rfl (by kernel_rfl) (by kernel_rfl) (by kernel_rfl) (fun _ _ _ h => h) ⟨by rfl, ?_⟩ hS ?_
    rotate_left
    · intro wq hSw; obtain ⟨s0, s1, s2, s3, s4, s5, s6, s7⟩ := hSw; go_simp; try rfl
    simp only [Act.put, List.setIfInBounds_toArray, List.set_cons_zero, List.set_cons_succ]
    refine take_at 22 (some 50) (v := ?_) rfl rfl (by kernel_rfl) (by kernel_rfl) (by kernel_rfl) (fun _ _ _ h => h) ⟨by rfl, ?_⟩ hS ?_
    rotate_left
    · intro wq hSw; go_simp; try rfl
    simp only [Act.put, List.setIfInBounds_toArray, List.set_cons_zero, List.set_cons_succ]
    refine take_at 23 (some 51) (v := ?_) rfl rfl (by kernel_rfl) (by kernel_rfl) (by kernel_rfl) (fun _ _ _ h => h) ⟨by rfl, ?_⟩ hS ?_
    rotate_left
    · intro wq hSw; obtain ⟨s0, s1, s2, s3, s4, s5, s6, s7⟩ := hSw; go_simp; try rfl
    simp only [Act.put, List.setIfInBounds_toArray, List.set_cons_zero, List.set_cons_succ]
    refine take_at 24 (some 52) (v := ?_) rfl rfl (by kernel_rfl) (by kernel_rfl) (by kernel_rfl) (fun _ _ _ h => h) ⟨by rfl, ?_⟩ hS ?_
    rotate_left
    · intro wq hSw; go_simp; try rfl
    simp only [Act.put, List.setIfInBounds_toArray, List.set_cons_zero, List.set_cons_succ]
    refine take_at 25 (some 53) (v := ?_) rfl rfl (by kernel_rfl) (by kernel_rfl) (by kernel_rfl) (fun _ _ _ h => h) ⟨by rfl, ?_⟩ hS ?_
    rotate_left
    · intro wq hSw; obtain ⟨s0, s1, s2, s3, s4, s5, s6, s7⟩ := hSw; go_simp; try rfl
    simp only [Act.put, List.setIfInBounds_toArray, List.set_cons_zero, List.set_cons_succ]
    refine take_at 26 (some 54) (v := ?_) rfl rfl (by kernel_rfl) (by kernel_rfl) (by kernel_rfl) (fun _ _ _ h => h) ⟨by rfl, ?_⟩ hS ?_
    rotate_left
    · intro wq hSw; go_simp; try rfl
    simp only [Act.put, List.setIfInBounds_toArray, List.set_cons_zero, List.set_cons_succ]
    refine take_at 27 (some 55) (v := ?_) rfl rfl (by kernel_rfl) (by kernel_rfl) (by kernel_rfl) (fun _ _ _ h => h) ⟨by rfl, ?_⟩ hS ?_
    rotate_left
    · intro wq hSw; obtain ⟨s0, s1, s2, s3, s4, s5, s6, s7⟩ := hSw; go_simp; try rfl
    simp only [Act.put, List.setIfInBounds_toArray, List.set_cons_zero, List.set_cons_succ]
    refine take_at 28 (some 56) (v := ?_) rfl rfl (by kernel_rfl) (by kernel_rfl) (by kernel_rfl) (fun _ _ _ h => h) ⟨by rfl, ?_⟩ hS ?_
    rotate_left
    · intro wq hSw; go_simp; try rfl
    simp only [Act.put, List.setIfInBounds_toArray, List.set_cons_zero, List.set_cons_succ]
    refine take_at 29 (some 57) (v := ?_) rfl rfl (by kernel_rfl) (by kernel_rfl) (by kernel_rfl) (fun _ _ _ h => h) ⟨by rfl, ?_⟩ hS ?_
    rotate_left
    · intro wq hSw; obtain ⟨s0, s1, s2, s3, s4, s5, s6, s7⟩ := hSw; go_simp; try rfl
    simp only [Act.put, List.setIfInBounds_toArray, List.set_cons_zero, List.set_cons_succ]
    refine wpAnyH_ready (rs := [14]) (by kernel_rfl) (by simp) ?_
    refine AllReadyH.cons rfl (fun K hK => ?_) AllReadyH.nil
    go_simp
    go_wp2_with fail
    refine (KT _ HT0.out).mono ?_
    rintro e x1 ⟨rfl, hpq, kp1⟩
    have HT1 := hide (HT0.out.took hi hpq kp1)
    have HX1 := hide (HX0.out.keep kp1 (fun q => by have := HT0.out.l2 1 hi; have := HLX.out; rcases q with q | q <;> (rw [q] at this; omega)))
    have HB1 := hide (HB0.out.trans (kp1.below (Nat.le_trans HBS.out HB0.out.size) (fun z hz q => by have := HT0.out.low.2 1 hi; rcases q with q | q <;> (rw [q] at hz; omega))))
    have hS1 : (fun wq => wq.cell? ⟨T.t, 1, none⟩ = some (ptr (T.b 1)) ∧ wq.cell? ⟨T.t, 3, none⟩ = some (ptr (T.c 1)) ∧ wq.cell? ⟨bx, 2, none⟩ = some (.int .i64 o.cn) ∧ wq.cell? ⟨bx, 3, none⟩ = some (.int .i64 o.gn) ∧ wq.cell? ⟨bx, 4, none⟩ = some (.int .i64 o.wh.1) ∧ wq.cell? ⟨bx, 5, none⟩ = some (.int .i64 o.wh.2) ∧ wq.cell? ⟨bx, 6, none⟩ = some (.int .i64 o.su.1) ∧ wq.cell? ⟨bx, 7, none⟩ = some (.int .i64 o.su.2)) x1 := ⟨(HT1.out.cP hi).1, (HT1.out.cR hi).1, (HX1.out.get 2 _ rfl).1, (HX1.out.get 3 _ rfl).1, (HX1.out.get 4 _ rfl).1, (HX1.out.get 5 _ rfl).1, (HX1.out.get 6 _ rfl).1, (HX1.out.get 7 _ rfl).1⟩
    clear hpq kp1 HT0 HX0 HB0
    go_wp2_with fail
    refine hK.out _ _ hS1 (fun hS => ?_)
    clear hK K
    (try simp only [Act.put, List.setIfInBounds_toArray, List.set_cons_zero, List.set_cons_succ])
    refine wpAnyH_ready (rs := [15]) (by kernel_rfl) (by simp) ?_
    refine AllReadyH.cons rfl (fun K hK => ?_) AllReadyH.nil
    go_simp
    go_wp2_with fail
    refine (num_eq _ _).mono ?_
    rintro e wz ⟨rfl, rfl⟩
    go_wp2_with fail
    refine hK.out _ _ hS (fun hS => ?_)
    clear hK K
    (try simp only [Act.put, List.setIfInBounds_toArray, List.set_cons_zero, List.set_cons_succ])
    refine wpAnyH_ready (rs := [30]) (by kernel_rfl) (by simp) ?_
    refine AllReadyH.cons rfl (fun K hK => ?_) AllReadyH.nil
    go_simp
    go_wp2_with fail
    refine (KU _ HT1.out).mono ?_
    rintro e x2 ⟨rfl, vC2, vG2, hpq, sm1, sm2, kp2⟩
    have HT2 := hide (HT1.out.rtook hi hpq sm1 sm2 kp2)
    have HX2 := hide (HX1.out.keep kp2 (fun q => by have l4 : lb (T.c 1) = 4 + 1 ∧ (∀ x, (T.vC 1).ownBlock = some x → lb x = 4 + 1) ∧ (∀ x, (T.vG 1).ownBlock = some x → lb x = 4 + 1) := HT1.out.l4 1 hi; have := HLX.out; rcases q with q | q | q; (rw [q] at this; omega); (have := l4.2.1 _ q; omega); (have := l4.2.2 _ q; omega)))
    have HB2 := hide (HB1.out.trans (kp2.below (Nat.le_trans HBS.out HB1.out.size) (fun z hz q => by have this : RR x1 B (T.c 1) (T.vC 1) (T.vG 1) (T.rq 1) := HT1.out.rr 1 hi; rcases q with q | q | q; (have := this.low; omega); (have := (World.ownsRow.lt this.rc z q).1; omega); (have := (World.ownsRow.lt this.rg z q).1; omega))))
    have hS2 : (fun wq => wq.cell? ⟨T.t, 1, none⟩ = some (ptr (T.b 1)) ∧ wq.cell? ⟨T.t, 3, none⟩ = some (ptr (T.c 1)) ∧ wq.cell? ⟨bx, 2, none⟩ = some (.int .i64 o.cn) ∧ wq.cell? ⟨bx, 3, none⟩ = some (.int .i64 o.gn) ∧ wq.cell? ⟨bx, 4, none⟩ = some (.int .i64 o.wh.1) ∧ wq.cell? ⟨bx, 5, none⟩ = some (.int .i64 o.wh.2) ∧ wq.cell? ⟨bx, 6, none⟩ = some (.int .i64 o.su.1) ∧ wq.cell? ⟨bx, 7, none⟩ = some (.int .i64 o.su.2)) x2 := ⟨(HT2.out.cP hi).1, (HT2.out.cR hi).1, (HX2.out.get 2 _ rfl).1, (HX2.out.get 3 _ rfl).1, (HX2.out.get 4 _ rfl).1, (HX2.out.get 5 _ rfl).1, (HX2.out.get 6 _ rfl).1, (HX2.out.get 7 _ rfl).1⟩
    clear hpq sm1 sm2 kp2 HX1 HB1
    go_wp2_with fail
    refine hK.out _ _ hS2 (fun hS => ?_)
    clear hK K
    (try simp only [Act.put, List.setIfInBounds_toArray, List.set_cons_zero, List.set_cons_succ])
    refine take_at 31 (some 59) (v := ?_) rfl rfl (by kernel_rfl) (by kernel_rfl) (by kernel_rfl) (fun _ _ _ h => h) ⟨by rfl, ?_⟩ hS ?_
    rotate_left
    · intro wq hSw; go_simp; try rfl
    simp only [Act.put, List.setIfInBounds_toArray, List.set_cons_zero, List.set_cons_succ]
    refine take_at 32 (some 4) (v := ?_) rfl rfl (by kernel_rfl) (by kernel_rfl) (by kernel_rfl) (fun _ _ _ h => h) ⟨by rfl, ?_⟩ hS ?_
    rotate_left
    · intro wq hSw; go_simp; try rfl
    simp only [Act.put, List.setIfInBounds_toArray, List.set_cons_zero, List.set_cons_succ]
    refine wpAnyH_done (by kernel_rfl) ?_ _
    go_wp2_with fail
    go_ret
    exact ⟨rfl, _, _, HT2.out, HQ2.out, rfl, HB2.out, by show T.ls.length ≤ T.ls.length + 4; omega⟩
end Go.Proofs.Ytimakfnlcgedkaa
