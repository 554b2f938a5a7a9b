import Derived.Test.YtimakfnlcgedkaaRg29
namespace Go.Proofs.Ytimakfnlcgedkaa
open Go.RowKit Go.QK Go.Maps Go.QM Go.QR
set_option maxRecDepth 100000
set_option maxHeartbeats 8000000 in
theorem play2_any (lab : Nat → Nat) (B : Nat) (T : Tab) (i : Nat) (o : OpM) (w : World) (h : Tb lab w B T) (hi : i < 2) (hw : i = if o.which then 1 else 0) (he : ∀ j, j < 2 → T.rp j = T.rq j) (hk : o.kind = 2) : Calls Try.prog 20 #[ptr T.t, opV o] w (TPost 4 w B T) := by
  unfold TPost
  have HBS := hide (show B ≤ w.heap.size by have := h.low.1; have := h.box.1; omega)
  have HQ := hide he
  have HT00 := hide h
  clear h he
  have HK := hide hk
  clear hk
  cases hb : o.which
  · obtain rfl : i = 0 := by rw [hb] at hw; exact hw
    have HWc := hide hb
    clear hb hw
    go_enter Try.func20, Try.ntmps20
    go_upto_region 1 with fail
    refine named (P := Code.wp _ _ _ _) ?_
    intro w1 hw1
    obtain ⟨bx, hbx⟩ : ∃ b, b = w.heap.size := ⟨_, rfl⟩
    obtain ⟨lb, hlb⟩ : ∃ l, l = ext lab w.heap.size 9 := ⟨_, rfl⟩
    have HT := hide (show Tb lb w1 B T by rw [hw1, hlb]; exact (HT00.out.relab (lab' := ext lab w.heap.size 9) (fun x hx => ext_old hx)).below (alloc_below _ _))
    have HLX := hide (show lb bx = 9 by rw [hlb, hbx]; exact ext_new (Nat.le_refl _))
    have HX := hide (show Cells w1 bx (opL o) by rw [hw1, hbx]; exact box_op w o)
    have HB := hide (show Below B w w1 by rw [hw1]; exact (alloc_below _ _).mono HBS.out)
    rw [← hbx]
    clear hw1 hbx hlb HT00
    obtain ⟨v0, -⟩ := HX.out.get 0 _ rfl
    obtain ⟨v1, -⟩ := HX.out.get 1 _ rfl
    obtain ⟨v2, -⟩ := HX.out.get 2 _ rfl
    obtain ⟨v3, -⟩ := HX.out.get 3 _ rfl
    have KP : ∀ w' , Tb lb w' B T → _ := fun w' h => plans_any lb B T _ o.cn o.gn w' h hi (HQ.out _ hi)
    rw [HK.out] at v0
    rw [HWc.out] at v1
    go_wp2_with fail
    refine (KP _ HT.out).mono ?_
    rintro e w2 ⟨rfl, hh⟩
    have HTz := hide (HT.out.below hh)
    have HBz := hide (HB.out.trans (hh.mono (Nat.le_trans HBS.out HB.out.size)))
    clear hh
    go_wp2_with fail
    go_ret
    exact ⟨rfl, lb, T, HTz.out, HQ.out, rfl, HBz.out, by omega⟩
  · obtain rfl : i = 1 := by rw [hb] at hw; exact hw
    have HWc := hide hb
    clear hb hw
    go_enter Try.func20, Try.ntmps20
    go_upto_region 1 with fail
    refine named (P := Code.wp _ _ _ _) ?_
    intro w1 hw1
    obtain ⟨bx, hbx⟩ : ∃ b, b = w.heap.size := ⟨_, rfl⟩
    obtain ⟨lb, hlb⟩ : ∃ l, l = ext lab w.heap.size 9 := ⟨_, rfl⟩
    have HT := hide (show Tb lb w1 B T by rw [hw1, hlb]; exact (HT00.out.relab (lab' := ext lab w.heap.size 9) (fun x hx => ext_old hx)).below (alloc_below _ _))
    have HLX := hide (show lb bx = 9 by rw [hlb, hbx]; exact ext_new (Nat.le_refl _))
    have HX := hide (show Cells w1 bx (opL o) by rw [hw1, hbx]; exact box_op w o)
    have HB := hide (show Below B w w1 by rw [hw1]; exact (alloc_below _ _).mono HBS.out)
    rw [← hbx]
    clear hw1 hbx hlb HT00
    obtain ⟨v0, -⟩ := HX.out.get 0 _ rfl
    obtain ⟨v1, -⟩ := HX.out.get 1 _ rfl
    obtain ⟨v2, -⟩ := HX.out.get 2 _ rfl
    obtain ⟨v3, -⟩ := HX.out.get 3 _ rfl
    have KP : ∀ w' , Tb lb w' B T → _ := fun w' h => plans_any lb B T _ o.cn o.gn w' h hi (HQ.out _ hi)
    rw [HK.out] at v0
    rw [HWc.out] at v1
    go_wp2_with fail
    refine (KP _ HT.out).mono ?_
    rintro e w2 ⟨rfl, hh⟩
    have HTz := hide (HT.out.below hh)
    have HBz := hide (HB.out.trans (hh.mono (Nat.le_trans HBS.out HB.out.size)))
    clear hh
    go_wp2_with fail
    go_ret
    exact ⟨rfl, lb, T, HTz.out, HQ.out, rfl, HBz.out, by omega⟩
set_option maxHeartbeats 8000000 in
theorem play4_any (lab : Nat → Nat) (B : Nat) (T : Tab) (i : Nat) (o : OpM) (w : World) (h : Tb lab w B T) (hi : i < 2) (hw : i = if o.which then 1 else 0) (he : ∀ j, j < 2 → T.rp j = T.rq j) (hk : o.kind = 4) : Calls Try.prog 20 #[ptr T.t, opV o] w (TPost 4 w B T) := by
  unfold TPost
  have HBS := hide (show B ≤ w.heap.size by have := h.low.1; have := h.box.1; omega)
  have HQ := hide he
  have HT00 := hide h
  clear h he
  have HK := hide hk
  clear hk
  cases hb : o.which
  · obtain rfl : i = 0 := by rw [hb] at hw; exact hw
    have HWc := hide hb
    clear hb hw
    go_enter Try.func20, Try.ntmps20
    go_upto_region 1 with fail
    refine named (P := Code.wp _ _ _ _) ?_
    intro w1 hw1
    obtain ⟨bx, hbx⟩ : ∃ b, b = w.heap.size := ⟨_, rfl⟩
    obtain ⟨lb, hlb⟩ : ∃ l, l = ext lab w.heap.size 9 := ⟨_, rfl⟩
    have HT := hide (show Tb lb w1 B T by rw [hw1, hlb]; exact (HT00.out.relab (lab' := ext lab w.heap.size 9) (fun x hx => ext_old hx)).below (alloc_below _ _))
    have HLX := hide (show lb bx = 9 by rw [hlb, hbx]; exact ext_new (Nat.le_refl _))
    have HX := hide (show Cells w1 bx (opL o) by rw [hw1, hbx]; exact box_op w o)
    have HB := hide (show Below B w w1 by rw [hw1]; exact (alloc_below _ _).mono HBS.out)
    rw [← hbx]
    clear hw1 hbx hlb HT00
    obtain ⟨v0, -⟩ := HX.out.get 0 _ rfl
    obtain ⟨v1, -⟩ := HX.out.get 1 _ rfl
    obtain ⟨v2, -⟩ := HX.out.get 2 _ rfl
    obtain ⟨v3, -⟩ := HX.out.get 3 _ rfl
    have KP : ∀ w' , Tb lb w' B T → _ := fun w' h => (puts_any lb B T _ o.cn o.gn w' h hi HQ.out).mono (fun _ _ q => q.t)
    unfold TPost at KP
    rw [HK.out] at v0
    rw [HWc.out] at v1
    go_wp2_with fail
    refine (KP _ HT.out).mono ?_
    rintro e w2 ⟨rfl, lb', T', g1, g2, g3, g4, g5⟩
    go_wp2_with fail
    go_ret
    exact ⟨rfl, lb', T', g1, g2, g3, HB.out.trans g4, by omega⟩
  · obtain rfl : i = 1 := by rw [hb] at hw; exact hw
    have HWc := hide hb
    clear hb hw
    go_enter Try.func20, Try.ntmps20
    go_upto_region 1 with fail
    refine named (P := Code.wp _ _ _ _) ?_
    intro w1 hw1
    obtain ⟨bx, hbx⟩ : ∃ b, b = w.heap.size := ⟨_, rfl⟩
    obtain ⟨lb, hlb⟩ : ∃ l, l = ext lab w.heap.size 9 := ⟨_, rfl⟩
    have HT := hide (show Tb lb w1 B T by rw [hw1, hlb]; exact (HT00.out.relab (lab' := ext lab w.heap.size 9) (fun x hx => ext_old hx)).below (alloc_below _ _))
    have HLX := hide (show lb bx = 9 by rw [hlb, hbx]; exact ext_new (Nat.le_refl _))
    have HX := hide (show Cells w1 bx (opL o) by rw [hw1, hbx]; exact box_op w o)
    have HB := hide (show Below B w w1 by rw [hw1]; exact (alloc_below _ _).mono HBS.out)
    rw [← hbx]
    clear hw1 hbx hlb HT00
    obtain ⟨v0, -⟩ := HX.out.get 0 _ rfl
    obtain ⟨v1, -⟩ := HX.out.get 1 _ rfl
    obtain ⟨v2, -⟩ := HX.out.get 2 _ rfl
    obtain ⟨v3, -⟩ := HX.out.get 3 _ rfl
    have KP : ∀ w' , Tb lb w' B T → _ := fun w' h => (puts_any lb B T _ o.cn o.gn w' h hi HQ.out).mono (fun _ _ q => q.t)
    unfold TPost at KP
    rw [HK.out] at v0
    rw [HWc.out] at v1
    go_wp2_with fail
    refine (KP _ HT.out).mono ?_
    rintro e w2 ⟨rfl, lb', T', g1, g2, g3, g4, g5⟩
    go_wp2_with fail
    go_ret
    exact ⟨rfl, lb', T', g1, g2, g3, HB.out.trans g4, by omega⟩
set_option maxHeartbeats 8000000 in
theorem play5_any (lab : Nat → Nat) (B : Nat) (T : Tab) (i : Nat) (o : OpM) (w : World) (h : Tb lab w B T) (hi : i < 2) (hw : i = if o.which then 1 else 0) (he : ∀ j, j < 2 → T.rp j = T.rq j) (hk : o.kind = 5 ∨ o.kind = 6) (hc : I64 o.cn) (hd : I64 o.gn) : Calls Try.prog 20 #[ptr T.t, opV o] w (TPost 4 w B T) := by
  unfold TPost
  have HBS := hide (show B ≤ w.heap.size by have := h.low.1; have := h.box.1; omega)
  have HQ := hide he
  have HT00 := hide h
  clear h he
  have HK := hide hk
  clear hk
  cases hb : o.which
  · obtain rfl : i = 0 := by rw [hb] at hw; exact hw
    have HWc := hide hb
    clear hb hw
    go_enter Try.func20, Try.ntmps20
    go_upto_region 1 with fail
    refine named (P := Code.wp _ _ _ _) ?_
    intro w1 hw1
    obtain ⟨bx, hbx⟩ : ∃ b, b = w.heap.size := ⟨_, rfl⟩
    obtain ⟨lb, hlb⟩ : ∃ l, l = ext lab w.heap.size 9 := ⟨_, rfl⟩
    have HT := hide (show Tb lb w1 B T by rw [hw1, hlb]; exact (HT00.out.relab (lab' := ext lab w.heap.size 9) (fun x hx => ext_old hx)).below (alloc_below _ _))
    have HLX := hide (show lb bx = 9 by rw [hlb, hbx]; exact ext_new (Nat.le_refl _))
    have HX := hide (show Cells w1 bx (opL o) by rw [hw1, hbx]; exact box_op w o)
    have HB := hide (show Below B w w1 by rw [hw1]; exact (alloc_below _ _).mono HBS.out)
    rw [← hbx]
    clear hw1 hbx hlb HT00
    obtain ⟨v0, -⟩ := HX.out.get 0 _ rfl
    obtain ⟨v1, -⟩ := HX.out.get 1 _ rfl
    obtain ⟨v2, -⟩ := HX.out.get 2 _ rfl
    obtain ⟨v3, -⟩ := HX.out.get 3 _ rfl
    have KP : ∀ w' , Tb lb w' B T → _ := fun w' h => finds_any lb B T _ o.cn o.gn w' h hi (HQ.out _ hi) hc hd
    rw [HWc.out] at v1
    rcases HK.out with hk | hk
    all_goals
      rw [hk] at v0
      clear hk
      go_wp2_with fail
      refine (KP _ HT.out).mono ?_
      rintro e w2 ⟨rfl, hh⟩
      have HTz := hide (HT.out.below hh)
      have HBz := hide (HB.out.trans (hh.mono (Nat.le_trans HBS.out HB.out.size)))
      clear hh
      go_wp2_with fail
      go_ret
      exact ⟨rfl, lb, T, HTz.out, HQ.out, rfl, HBz.out, by omega⟩
  · obtain rfl : i = 1 := by rw [hb] at hw; exact hw
    have HWc := hide hb
    clear hb hw
    go_enter Try.func20, Try.ntmps20
    go_upto_region 1 with fail
    refine named (P := Code.wp _ _ _ _) ?_
    intro w1 hw1
    obtain ⟨bx, hbx⟩ : ∃ b, b = w.heap.size := ⟨_, rfl⟩
    obtain ⟨lb, hlb⟩ : ∃ l, l = ext lab w.heap.size 9 := ⟨_, rfl⟩
    have HT := hide (show Tb lb w1 B T by rw [hw1, hlb]; exact (HT00.out.relab (lab' := ext lab w.heap.size 9) (fun x hx => ext_old hx)).below (alloc_below _ _))
    have HLX := hide (show lb bx = 9 by rw [hlb, hbx]; exact ext_new (Nat.le_refl _))
    have HX := hide (show Cells w1 bx (opL o) by rw [hw1, hbx]; exact box_op w o)
    have HB := hide (show Below B w w1 by rw [hw1]; exact (alloc_below _ _).mono HBS.out)
    rw [← hbx]
    clear hw1 hbx hlb HT00
    obtain ⟨v0, -⟩ := HX.out.get 0 _ rfl
    obtain ⟨v1, -⟩ := HX.out.get 1 _ rfl
    obtain ⟨v2, -⟩ := HX.out.get 2 _ rfl
    obtain ⟨v3, -⟩ := HX.out.get 3 _ rfl
    have KP : ∀ w' , Tb lb w' B T → _ := fun w' h => finds_any lb B T _ o.cn o.gn w' h hi (HQ.out _ hi) hc hd
    rw [HWc.out] at v1
    rcases HK.out with hk | hk
    all_goals
      rw [hk] at v0
      clear hk
      go_wp2_with fail
      refine (KP _ HT.out).mono ?_
      rintro e w2 ⟨rfl, hh⟩
      have HTz := hide (HT.out.below hh)
      have HBz := hide (HB.out.trans (hh.mono (Nat.le_trans HBS.out HB.out.size)))
      clear hh
      go_wp2_with fail
      go_ret
      exact ⟨rfl, lb, T, HTz.out, HQ.out, rfl, HBz.out, by omega⟩
set_option maxHeartbeats 8000000 in
theorem play7_any (lab : Nat → Nat) (B : Nat) (T : Tab) (i : Nat) (o : OpM) (w : World) (h : Tb lab w B T) (hi : i < 2) (hw : i = if o.which then 1 else 0) (he : ∀ j, j < 2 → T.rp j = T.rq j) (hk : o.kind = 7) (hm : T.ls.length + 4 ≤ 100000) : Calls Try.prog 20 #[ptr T.t, opV o] w (TPost 4 w B T) := by
  unfold TPost
  have HBS := hide (show B ≤ w.heap.size by have := h.low.1; have := h.box.1; omega)
  have HQ := hide he
  have HT00 := hide h
  clear h he
  have HK := hide hk
  clear hk
  cases hb : o.which
  · obtain rfl : i = 0 := by rw [hb] at hw; exact hw
    have HWc := hide hb
    clear hb hw
    go_enter Try.func20, Try.ntmps20
    go_upto_region 1 with fail
    refine named (P := Code.wp _ _ _ _) ?_
    intro w1 hw1
    obtain ⟨bx, hbx⟩ : ∃ b, b = w.heap.size := ⟨_, rfl⟩
    obtain ⟨lb, hlb⟩ : ∃ l, l = ext lab w.heap.size 9 := ⟨_, rfl⟩
    have HT := hide (show Tb lb w1 B T by rw [hw1, hlb]; exact (HT00.out.relab (lab' := ext lab w.heap.size 9) (fun x hx => ext_old hx)).below (alloc_below _ _))
    have HLX := hide (show lb bx = 9 by rw [hlb, hbx]; exact ext_new (Nat.le_refl _))
    have HX := hide (show Cells w1 bx (opL o) by rw [hw1, hbx]; exact box_op w o)
    have HB := hide (show Below B w w1 by rw [hw1]; exact (alloc_below _ _).mono HBS.out)
    rw [← hbx]
    clear hw1 hbx hlb HT00
    obtain ⟨v0, -⟩ := HX.out.get 0 _ rfl
    obtain ⟨v1, -⟩ := HX.out.get 1 _ rfl
    obtain ⟨v2, -⟩ := HX.out.get 2 _ rfl
    obtain ⟨v3, -⟩ := HX.out.get 3 _ rfl
    have KP : ∀ w' , Tb lb w' B T → _ := fun w' h => lists_any lb B T _ w' h hi HQ.out hm
    unfold TPost at KP
    rw [HK.out] at v0
    rw [HWc.out] at v1
    go_wp2_with fail
    refine (KP _ HT.out).mono ?_
    rintro e w2 ⟨rfl, lb', T', g1, g2, g3, g4, g5⟩
    go_wp2_with fail
    go_ret
    exact ⟨rfl, lb', T', g1, g2, g3, HB.out.trans g4, by omega⟩
  · obtain rfl : i = 1 := by rw [hb] at hw; exact hw
    have HWc := hide hb
    clear hb hw
    go_enter Try.func20, Try.ntmps20
    go_upto_region 1 with fail
    refine named (P := Code.wp _ _ _ _) ?_
    intro w1 hw1
    obtain ⟨bx, hbx⟩ : ∃ b, b = w.heap.size := ⟨_, rfl⟩
    obtain ⟨lb, hlb⟩ : ∃ l, l = ext lab w.heap.size 9 := ⟨_, rfl⟩
    have HT := hide (show Tb lb w1 B T by rw [hw1, hlb]; exact (HT00.out.relab (lab' := ext lab w.heap.size 9) (fun x hx => ext_old hx)).below (alloc_below _ _))
    have HLX := hide (show lb bx = 9 by rw [hlb, hbx]; exact ext_new (Nat.le_refl _))
    have HX := hide (show Cells w1 bx (opL o) by rw [hw1, hbx]; exact box_op w o)
    have HB := hide (show Below B w w1 by rw [hw1]; exact (alloc_below _ _).mono HBS.out)
    rw [← hbx]
    clear hw1 hbx hlb HT00
    obtain ⟨v0, -⟩ := HX.out.get 0 _ rfl
    obtain ⟨v1, -⟩ := HX.out.get 1 _ rfl
    obtain ⟨v2, -⟩ := HX.out.get 2 _ rfl
    obtain ⟨v3, -⟩ := HX.out.get 3 _ rfl
    have KP : ∀ w' , Tb lb w' B T → _ := fun w' h => lists_any lb B T _ w' h hi HQ.out hm
    unfold TPost at KP
    rw [HK.out] at v0
    rw [HWc.out] at v1
    go_wp2_with fail
    refine (KP _ HT.out).mono ?_
    rintro e w2 ⟨rfl, lb', T', g1, g2, g3, g4, g5⟩
    go_wp2_with fail
    go_ret
    exact ⟨rfl, lb', T', g1, g2, g3, HB.out.trans g4, by omega⟩
set_option maxHeartbeats 8000000 in
theorem play9_any (lab : Nat → Nat) (B : Nat) (T : Tab) (i : Nat) (o : OpM) (w : World) (h : Tb lab w B T) (hi : i < 2) (hw : i = if o.which then 1 else 0) (he : ∀ j, j < 2 → T.rp j = T.rq j) (hk : ¬ (1 ≤ o.kind ∧ o.kind ≤ 8)) : Calls Try.prog 20 #[ptr T.t, opV o] w (TPost 4 w B T) := by
  unfold TPost
  have HBS := hide (show B ≤ w.heap.size by have := h.low.1; have := h.box.1; omega)
  have HQ := hide he
  have HT00 := hide h
  clear h he
  have HK := hide hk
  clear hk
  cases hb : o.which
  · obtain rfl : i = 0 := by rw [hb] at hw; exact hw
    have HWc := hide hb
    clear hb hw
    go_enter Try.func20, Try.ntmps20
    go_upto_region 1 with fail
    refine named (P := Code.wp _ _ _ _) ?_
    intro w1 hw1
    obtain ⟨bx, hbx⟩ : ∃ b, b = w.heap.size := ⟨_, rfl⟩
    obtain ⟨lb, hlb⟩ : ∃ l, l = ext lab w.heap.size 9 := ⟨_, rfl⟩
    have HT := hide (show Tb lb w1 B T by rw [hw1, hlb]; exact (HT00.out.relab (lab' := ext lab w.heap.size 9) (fun x hx => ext_old hx)).below (alloc_below _ _))
    have HLX := hide (show lb bx = 9 by rw [hlb, hbx]; exact ext_new (Nat.le_refl _))
    have HX := hide (show Cells w1 bx (opL o) by rw [hw1, hbx]; exact box_op w o)
    have HB := hide (show Below B w w1 by rw [hw1]; exact (alloc_below _ _).mono HBS.out)
    rw [← hbx]
    clear hw1 hbx hlb HT00
    obtain ⟨v0, -⟩ := HX.out.get 0 _ rfl
    obtain ⟨v1, -⟩ := HX.out.get 1 _ rfl
    obtain ⟨v2, -⟩ := HX.out.get 2 _ rfl
    obtain ⟨v3, -⟩ := HX.out.get 3 _ rfl
    have hk := HK.out
    have n1 : (o.kind == 1) = false := by simp; omega
    have n2 : (o.kind == 2) = false := by simp; omega
    have n3 : (o.kind == 3) = false := by simp; omega
    have n4 : (o.kind == 4) = false := by simp; omega
    have n5 : (o.kind == 5) = false := by simp; omega
    have n6 : (o.kind == 6) = false := by simp; omega
    have n7 : (o.kind == 7) = false := by simp; omega
    have n8 : (o.kind == 8) = false := by simp; omega
    clear hk
    rw [HWc.out] at v1
    go_wp2_with fail
    go_ret
    exact ⟨rfl, lb, T, HT.out, HQ.out, rfl, HB.out, by omega⟩
  · obtain rfl : i = 1 := by rw [hb] at hw; exact hw
    have HWc := hide hb
    clear hb hw
    go_enter Try.func20, Try.ntmps20
    go_upto_region 1 with fail
    refine named (P := Code.wp _ _ _ _) ?_
    intro w1 hw1
    obtain ⟨bx, hbx⟩ : ∃ b, b = w.heap.size := ⟨_, rfl⟩
    obtain ⟨lb, hlb⟩ : ∃ l, l = ext lab w.heap.size 9 := ⟨_, rfl⟩
    have HT := hide (show Tb lb w1 B T by rw [hw1, hlb]; exact (HT00.out.relab (lab' := ext lab w.heap.size 9) (fun x hx => ext_old hx)).below (alloc_below _ _))
    have HLX := hide (show lb bx = 9 by rw [hlb, hbx]; exact ext_new (Nat.le_refl _))
    have HX := hide (show Cells w1 bx (opL o) by rw [hw1, hbx]; exact box_op w o)
    have HB := hide (show Below B w w1 by rw [hw1]; exact (alloc_below _ _).mono HBS.out)
    rw [← hbx]
    clear hw1 hbx hlb HT00
    obtain ⟨v0, -⟩ := HX.out.get 0 _ rfl
    obtain ⟨v1, -⟩ := HX.out.get 1 _ rfl
    obtain ⟨v2, -⟩ := HX.out.get 2 _ rfl
    obtain ⟨v3, -⟩ := HX.out.get 3 _ rfl
    have hk := HK.out
    have n1 : (o.kind == 1) = false := by simp; omega
    have n2 : (o.kind == 2) = false := by simp; omega
    have n3 : (o.kind == 3) = false := by simp; omega
    have n4 : (o.kind == 4) = false := by simp; omega
    have n5 : (o.kind == 5) = false := by simp; omega
    have n6 : (o.kind == 6) = false := by simp; omega
    have n7 : (o.kind == 7) = false := by simp; omega
    have n8 : (o.kind == 8) = false := by simp; omega
    clear hk
    rw [HWc.out] at v1
    go_wp2_with fail
    go_ret
    exact ⟨rfl, lb, T, HT.out, HQ.out, rfl, HB.out, by omega⟩
end Go.Proofs.Ytimakfnlcgedkaa
