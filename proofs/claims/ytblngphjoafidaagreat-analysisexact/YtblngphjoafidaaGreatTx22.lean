import Derived.Test.YtblngphjoafidaaGreatTx21
namespace Go.Proofs.YtblngphjoafidaaGreat
open Go.RowKit Go.QK Go.Maps Go.QM Go.QT
set_option maxRecDepth 100000
def RNPost (B c : Nat) (v : Value) (t : TbM) (lsn k tx prev : Int) (w : World) (e : Ending) (w' : World) : Prop := e = .returned (.int .i64 (t.noteE lsn k tx prev)) ∧ RPost B c v (t.noteT lsn k tx prev) w w'
set_option maxHeartbeats 4000000 in
theorem rnote_place (B c : Nat) (v : Value) (t : TbM) (rc : Array Value) (lsn k tx prev : Int) (w : World) (h : RT w B c v t) (hr : RecA rc lsn k tx prev) (hl : isLsn lsn = false) : Calls Tryz.prog 22 #[ptr c, .agg rc] w (RNPost B c v t lsn k tx prev w) := by
  unfold RNPost
  have e1 : t.noteE lsn k tx prev = 4 := by unfold TbM.noteE; rw [hl]; rfl
  rw [note_stay (by rw [e1]; decide), e1]
  obtain ⟨y0, y1, y2, -⟩ := hr.box (RBox.new w rc 55)
  have HP := hide (RPost.belowL (alloc_below w (.cells rc 55)) (RPost.stay (h.below (alloc_below w (.cells rc 55)))))
  unfold isLsn at hl
  by_cases q1 : lsn < 1
  · have d1 : decide (lsn < 1) = true := by simpa using q1
    clear hl e1 h hr
    go_enter Tryz.func22, Tryz.ntmps22
    go_wp2_with fail
    go_ret
    exact ⟨rfl, HP.out⟩
  · have d1 : decide (lsn < 1) = false := by simpa using q1
    have d2 : decide (2147483647 < lsn) = true := by simp at hl ⊢; omega
    clear hl e1 h hr
    go_enter Tryz.func22, Tryz.ntmps22
    go_wp2_with fail
    go_ret
    exact ⟨rfl, HP.out⟩
set_option maxHeartbeats 4000000 in
theorem rnote_kind (B c : Nat) (v : Value) (t : TbM) (rc : Array Value) (lsn k tx prev : Int) (w : World) (h : RT w B c v t) (hr : RecA rc lsn k tx prev) (hl : isLsn lsn = true) (hk : k < 1 ∨ 8 < k) : Calls Tryz.prog 22 #[ptr c, .agg rc] w (RNPost B c v t lsn k tx prev w) := by
  unfold RNPost
  have e1 : t.noteE lsn k tx prev = 70 := by unfold TbM.noteE; rw [hl, if_pos rfl, if_pos hk]
  rw [note_stay (by rw [e1]; decide), e1]
  have d1 : decide (lsn < 1) = false := by unfold isLsn at hl; simp at hl ⊢; omega
  have d2 : decide (2147483647 < lsn) = false := by unfold isLsn at hl; simp at hl ⊢; omega
  obtain ⟨y0, y1, y2, -⟩ := hr.box (RBox.new w rc 55)
  have HP := hide (RPost.belowL (alloc_below w (.cells rc 55)) (RPost.stay (h.below (alloc_below w (.cells rc 55)))))
  have n1 : (k == 1) = false := by simp; omega
  have n2 : (k == 2) = false := by simp; omega
  have n3 : (k == 3) = false := by simp; omega
  have n4 : (k == 4) = false := by simp; omega
  have n5 : (k == 5) = false := by simp; omega
  have n6 : (k == 6) = false := by simp; omega
  have n7 : (k == 7) = false := by simp; omega
  have n8 : (k == 8) = false := by simp; omega
  clear hl hk e1 h hr
  go_enter Tryz.func22, Tryz.ntmps22
  go_wp2_with fail
  go_ret
  exact ⟨rfl, HP.out⟩
set_option maxHeartbeats 4000000 in
theorem rnote2 (B c : Nat) (v : Value) (t : TbM) (rc : Array Value) (lsn k tx prev : Int) (w : World) (h : RT w B c v t) (hr : RecA rc lsn k tx prev) (hl : isLsn lsn = true) (hk : k = 2) : Calls Tryz.prog 22 #[ptr c, .agg rc] w (RNPost B c v t lsn k tx prev w) := by
  unfold RNPost
  subst hk
  have e1 : t.noteE lsn 2 tx prev = 0 := by unfold TbM.noteE; rw [hl]; rfl
  have e2 : t.noteT lsn 2 tx prev = t := by rw [note_go e1]; rfl
  rw [e1, e2]
  have d1 : decide (lsn < 1) = false := by unfold isLsn at hl; simp at hl ⊢; omega
  have d2 : decide (2147483647 < lsn) = false := by unfold isLsn at hl; simp at hl ⊢; omega
  obtain ⟨y0, y1, y2, -⟩ := hr.box (RBox.new w rc 55)
  have HP := hide (RPost.belowL (alloc_below w (.cells rc 55)) (RPost.stay (h.below (alloc_below w (.cells rc 55)))))
  clear hl e1 e2 h hr
  go_enter Tryz.func22, Tryz.ntmps22
  go_wp2_with fail
  go_ret
  exact ⟨rfl, HP.out⟩
set_option maxHeartbeats 4000000 in
theorem rnote8 (B c : Nat) (v : Value) (t : TbM) (rc : Array Value) (lsn k tx prev : Int) (w : World) (h : RT w B c v t) (hr : RecA rc lsn k tx prev) (hl : isLsn lsn = true) (hk : k = 8) : Calls Tryz.prog 22 #[ptr c, .agg rc] w (RNPost B c v t lsn k tx prev w) := by
  unfold RNPost
  subst hk
  have e1 : t.noteE lsn 8 tx prev = 0 := by unfold TbM.noteE; rw [hl]; rfl
  have e2 : t.noteT lsn 8 tx prev = t := by rw [note_go e1]; rfl
  rw [e1, e2]
  have d1 : decide (lsn < 1) = false := by unfold isLsn at hl; simp at hl ⊢; omega
  have d2 : decide (2147483647 < lsn) = false := by unfold isLsn at hl; simp at hl ⊢; omega
  obtain ⟨y0, y1, y2, -⟩ := hr.box (RBox.new w rc 55)
  have HP := hide (RPost.belowL (alloc_below w (.cells rc 55)) (RPost.stay (h.below (alloc_below w (.cells rc 55)))))
  clear hl e1 e2 h hr
  go_enter Tryz.func22, Tryz.ntmps22
  go_wp2_with fail
  go_ret
  exact ⟨rfl, HP.out⟩
set_option maxHeartbeats 4000000 in
theorem rnote3 (B c : Nat) (v : Value) (t : TbM) (rc : Array Value) (lsn k tx prev : Int) (w : World) (h : RT w B c v t) (hr : RecA rc lsn k tx prev) (hl : isLsn lsn = true) (hk : k = 3) : Calls Tryz.prog 22 #[ptr c, .agg rc] w (RNPost B c v t lsn k tx prev w) := by
  unfold RNPost
  subst hk
  have e1 := note_pass (t := t) (tx := tx) (prev := prev) hl (show (3 : Int) ≤ 3 by omega) (show (3 : Int) ≤ 7 by omega)
  have K := goes_any B c v t rc lsn 3 tx prev (w.alloc (.cells rc 55)) (h.below (alloc_below _ _)) hr hl (by omega) (by omega)
  unfold GoPost at K
  have e2 : (if t.chainE lsn 3 tx prev = 0 then t.went lsn 3 tx else t) = t.noteT lsn 3 tx prev := by unfold TbM.noteT; rw [e1]
  rw [e2] at K
  rw [e1]
  generalize t.chainE lsn 3 tx prev = E at *
  have d1 : decide (lsn < 1) = false := by unfold isLsn at hl; simp at hl ⊢; omega
  have d2 : decide (2147483647 < lsn) = false := by unfold isLsn at hl; simp at hl ⊢; omega
  obtain ⟨y0, y1, y2, -⟩ := hr.box (RBox.new w rc 55)
  have HX := hide (RBox.new w rc 55)
  have HS := hide hr.sz
  have HB := hide (alloc_below w (.cells rc 55))
  clear hl e1 e2 h hr
  go_enter Tryz.func22, Tryz.ntmps22
  go_wp2_with (refine wpList_load51 HX.out HS.out rfl ?_)
  refine K.mono ?_
  rintro e w2 ⟨rfl, hp⟩
  have HP := hide (RPost.belowL HB.out hp)
  clear hp K
  go_wp2_with fail
  go_ret
  exact ⟨rfl, HP.out⟩
set_option maxHeartbeats 4000000 in
theorem rnote4 (B c : Nat) (v : Value) (t : TbM) (rc : Array Value) (lsn k tx prev : Int) (w : World) (h : RT w B c v t) (hr : RecA rc lsn k tx prev) (hl : isLsn lsn = true) (hk : k = 4) : Calls Tryz.prog 22 #[ptr c, .agg rc] w (RNPost B c v t lsn k tx prev w) := by
  unfold RNPost
  subst hk
  have e1 := note_pass (t := t) (tx := tx) (prev := prev) hl (show (3 : Int) ≤ 4 by omega) (show (4 : Int) ≤ 7 by omega)
  have K := goes_any B c v t rc lsn 4 tx prev (w.alloc (.cells rc 55)) (h.below (alloc_below _ _)) hr hl (by omega) (by omega)
  unfold GoPost at K
  have e2 : (if t.chainE lsn 4 tx prev = 0 then t.went lsn 4 tx else t) = t.noteT lsn 4 tx prev := by unfold TbM.noteT; rw [e1]
  rw [e2] at K
  rw [e1]
  generalize t.chainE lsn 4 tx prev = E at *
  have d1 : decide (lsn < 1) = false := by unfold isLsn at hl; simp at hl ⊢; omega
  have d2 : decide (2147483647 < lsn) = false := by unfold isLsn at hl; simp at hl ⊢; omega
  obtain ⟨y0, y1, y2, -⟩ := hr.box (RBox.new w rc 55)
  have HX := hide (RBox.new w rc 55)
  have HS := hide hr.sz
  have HB := hide (alloc_below w (.cells rc 55))
  clear hl e1 e2 h hr
  go_enter Tryz.func22, Tryz.ntmps22
  go_wp2_with (refine wpList_load51 HX.out HS.out rfl ?_)
  refine K.mono ?_
  rintro e w2 ⟨rfl, hp⟩
  have HP := hide (RPost.belowL HB.out hp)
  clear hp K
  go_wp2_with fail
  go_ret
  exact ⟨rfl, HP.out⟩
set_option maxHeartbeats 4000000 in
theorem rnote5 (B c : Nat) (v : Value) (t : TbM) (rc : Array Value) (lsn k tx prev : Int) (w : World) (h : RT w B c v t) (hr : RecA rc lsn k tx prev) (hl : isLsn lsn = true) (hk : k = 5) : Calls Tryz.prog 22 #[ptr c, .agg rc] w (RNPost B c v t lsn k tx prev w) := by
  unfold RNPost
  subst hk
  have e1 := note_pass (t := t) (tx := tx) (prev := prev) hl (show (3 : Int) ≤ 5 by omega) (show (5 : Int) ≤ 7 by omega)
  have K := goes_any B c v t rc lsn 5 tx prev (w.alloc (.cells rc 55)) (h.below (alloc_below _ _)) hr hl (by omega) (by omega)
  unfold GoPost at K
  have e2 : (if t.chainE lsn 5 tx prev = 0 then t.went lsn 5 tx else t) = t.noteT lsn 5 tx prev := by unfold TbM.noteT; rw [e1]
  rw [e2] at K
  rw [e1]
  generalize t.chainE lsn 5 tx prev = E at *
  have d1 : decide (lsn < 1) = false := by unfold isLsn at hl; simp at hl ⊢; omega
  have d2 : decide (2147483647 < lsn) = false := by unfold isLsn at hl; simp at hl ⊢; omega
  obtain ⟨y0, y1, y2, -⟩ := hr.box (RBox.new w rc 55)
  have HX := hide (RBox.new w rc 55)
  have HS := hide hr.sz
  have HB := hide (alloc_below w (.cells rc 55))
  clear hl e1 e2 h hr
  go_enter Tryz.func22, Tryz.ntmps22
  go_wp2_with (refine wpList_load51 HX.out HS.out rfl ?_)
  refine K.mono ?_
  rintro e w2 ⟨rfl, hp⟩
  have HP := hide (RPost.belowL HB.out hp)
  clear hp K
  go_wp2_with fail
  go_ret
  exact ⟨rfl, HP.out⟩
set_option maxHeartbeats 4000000 in
theorem rnote6 (B c : Nat) (v : Value) (t : TbM) (rc : Array Value) (lsn k tx prev : Int) (w : World) (h : RT w B c v t) (hr : RecA rc lsn k tx prev) (hl : isLsn lsn = true) (hk : k = 6) : Calls Tryz.prog 22 #[ptr c, .agg rc] w (RNPost B c v t lsn k tx prev w) := by
  unfold RNPost
  subst hk
  have e1 := note_pass (t := t) (tx := tx) (prev := prev) hl (show (3 : Int) ≤ 6 by omega) (show (6 : Int) ≤ 7 by omega)
  have K := goes_any B c v t rc lsn 6 tx prev (w.alloc (.cells rc 55)) (h.below (alloc_below _ _)) hr hl (by omega) (by omega)
  unfold GoPost at K
  have e2 : (if t.chainE lsn 6 tx prev = 0 then t.went lsn 6 tx else t) = t.noteT lsn 6 tx prev := by unfold TbM.noteT; rw [e1]
  rw [e2] at K
  rw [e1]
  generalize t.chainE lsn 6 tx prev = E at *
  have d1 : decide (lsn < 1) = false := by unfold isLsn at hl; simp at hl ⊢; omega
  have d2 : decide (2147483647 < lsn) = false := by unfold isLsn at hl; simp at hl ⊢; omega
  obtain ⟨y0, y1, y2, -⟩ := hr.box (RBox.new w rc 55)
  have HX := hide (RBox.new w rc 55)
  have HS := hide hr.sz
  have HB := hide (alloc_below w (.cells rc 55))
  clear hl e1 e2 h hr
  go_enter Tryz.func22, Tryz.ntmps22
  go_wp2_with (refine wpList_load51 HX.out HS.out rfl ?_)
  refine K.mono ?_
  rintro e w2 ⟨rfl, hp⟩
  have HP := hide (RPost.belowL HB.out hp)
  clear hp K
  go_wp2_with fail
  go_ret
  exact ⟨rfl, HP.out⟩
set_option maxHeartbeats 4000000 in
theorem rnote7 (B c : Nat) (v : Value) (t : TbM) (rc : Array Value) (lsn k tx prev : Int) (w : World) (h : RT w B c v t) (hr : RecA rc lsn k tx prev) (hl : isLsn lsn = true) (hk : k = 7) : Calls Tryz.prog 22 #[ptr c, .agg rc] w (RNPost B c v t lsn k tx prev w) := by
  unfold RNPost
  subst hk
  have e1 := note_pass (t := t) (tx := tx) (prev := prev) hl (show (3 : Int) ≤ 7 by omega) (show (7 : Int) ≤ 7 by omega)
  have K := goes_any B c v t rc lsn 7 tx prev (w.alloc (.cells rc 55)) (h.below (alloc_below _ _)) hr hl (by omega) (by omega)
  unfold GoPost at K
  have e2 : (if t.chainE lsn 7 tx prev = 0 then t.went lsn 7 tx else t) = t.noteT lsn 7 tx prev := by unfold TbM.noteT; rw [e1]
  rw [e2] at K
  rw [e1]
  generalize t.chainE lsn 7 tx prev = E at *
  have d1 : decide (lsn < 1) = false := by unfold isLsn at hl; simp at hl ⊢; omega
  have d2 : decide (2147483647 < lsn) = false := by unfold isLsn at hl; simp at hl ⊢; omega
  obtain ⟨y0, y1, y2, -⟩ := hr.box (RBox.new w rc 55)
  have HX := hide (RBox.new w rc 55)
  have HS := hide hr.sz
  have HB := hide (alloc_below w (.cells rc 55))
  clear hl e1 e2 h hr
  go_enter Tryz.func22, Tryz.ntmps22
  go_wp2_with (refine wpList_load51 HX.out HS.out rfl ?_)
  refine K.mono ?_
  rintro e w2 ⟨rfl, hp⟩
  have HP := hide (RPost.belowL HB.out hp)
  clear hp K
  go_wp2_with fail
  go_ret
  exact ⟨rfl, HP.out⟩
set_option maxHeartbeats 4000000 in
theorem rnote1 (B c : Nat) (v : Value) (t : TbM) (rc : Array Value) (lsn k tx prev : Int) (w : World) (h : RT w B c v t) (hr : RecA rc lsn k tx prev) (hl : isLsn lsn = true) (hk : k = 1) : Calls Tryz.prog 22 #[ptr c, .agg rc] w (RNPost B c v t lsn k tx prev w) := by
  unfold RNPost
  subst hk
  have e1 : t.noteE lsn 1 tx prev = t.nextE tx := by unfold TbM.noteE; rw [hl]; rfl
  have KB := fun w' (h : RT w' B c v t) => rBegin_any B c v t lsn w' h
  have d1 : decide (lsn < 1) = false := by unfold isLsn at hl; simp at hl ⊢; omega
  have d2 : decide (2147483647 < lsn) = false := by unfold isLsn at hl; simp at hl ⊢; omega
  have HA := hide hr
  by_cases hq : tx = t.next
  · have e2 : t.noteE lsn 1 tx prev = t.beginE lsn := by rw [e1]; unfold TbM.nextE TbM.beginE; rw [if_pos hq, if_pos hl]
    have e3 : t.noteT lsn 1 tx prev = t.beginT lsn := by unfold TbM.noteT TbM.beginT; rw [e2]; rfl
    rw [e2, e3]
    have HD := hide (show (tx != t.next) = false by simpa using hq)
    clear e1 e2 e3 hq hl hr
    go_enter Tryz.func22, Tryz.ntmps22
    obtain ⟨y0, y1, -, -⟩ := HA.out.box (RBox.new w rc 55)
    go_upto_region 8 with fail
    refine named (P := Code.wp _ _ _ _) ?_
    intro w1 hw1
    obtain ⟨rb, hrb⟩ : ∃ rb, rb = w.heap.size := ⟨_, rfl⟩
    have P1 := hide (show RT w1 B c v t by rw [hw1]; exact h.below (alloc_below _ _))
    have HX := hide (show RBox w1 rb 55 rc by rw [hw1, hrb]; exact RBox.new _ _ _)
    have HB := hide (show Below w.heap.size w w1 by rw [hw1]; exact alloc_below _ _)
    rw [← hrb]
    clear hw1 hrb h y0 y1
    refine wp_region_held_drew (S := fun wq => Below w1.heap.size w1 wq) (by kernel_rfl) (Below.refl _ _).drew (fun hS => ?_)
    refine take_at 0 (some 22) (v := ?_) rfl rfl (by kernel_rfl) (by kernel_rfl) (by kernel_rfl) (fun _ _ _ h => h) ⟨by rfl, ?_⟩ hS ?_
    rotate_left
    · intro wq hSw; go_simp; try rfl
    simp only [Act.put, List.setIfInBounds_toArray, List.set_cons_zero, List.set_cons_succ]
    refine take_at 1 (some 23) (v := ?_) rfl rfl (by kernel_rfl) (by kernel_rfl) (by kernel_rfl) (fun _ _ _ h => h) ⟨by rfl, ?_⟩ hS ?_
    rotate_left
    · intro wq hSw; obtain ⟨-, -, q, -⟩ := HA.out.box (HX.out.below hSw); go_simp; try rfl
    simp only [Act.put, List.setIfInBounds_toArray, List.set_cons_zero, List.set_cons_succ]
    refine take_at 2 (some 24) (v := ?_) rfl rfl (by kernel_rfl) (by kernel_rfl) (by kernel_rfl) (fun _ _ _ h => h) ⟨by rfl, ?_⟩ hS ?_
    rotate_left
    · intro wq hSw; go_simp; try rfl
    simp only [Act.put, List.setIfInBounds_toArray, List.set_cons_zero, List.set_cons_succ]
    refine take_at 3 (some 25) (v := ?_) rfl rfl (by kernel_rfl) (by kernel_rfl) (by kernel_rfl) (fun _ _ _ h => h) ⟨by rfl, ?_⟩ hS ?_
    rotate_left
    · intro wq hSw; go_simp; try rfl
    simp only [Act.put, List.setIfInBounds_toArray, List.set_cons_zero, List.set_cons_succ]
    refine take_at 4 (some 26) (v := ?_) rfl rfl (by kernel_rfl) (by kernel_rfl) (by kernel_rfl) (fun _ _ _ h => h) ⟨by rfl, ?_⟩ hS ?_
    rotate_left
    · intro wq hSw; go_simp; try rfl
    simp only [Act.put, List.setIfInBounds_toArray, List.set_cons_zero, List.set_cons_succ]
    refine take_at 5 (some 27) (v := ?_) rfl rfl (by kernel_rfl) (by kernel_rfl) (by kernel_rfl) (fun _ _ _ h => h) ⟨by rfl, ?_⟩ hS ?_
    rotate_left
    · intro wq hSw; have q := ((P1.out.box.below hSw).get 1 _ rfl).1; go_simp; try rfl
    simp only [Act.put, List.setIfInBounds_toArray, List.set_cons_zero, List.set_cons_succ]
    refine take_at 6 (some 28) (v := ?_) rfl rfl (by kernel_rfl) (by kernel_rfl) (by kernel_rfl) (fun _ _ _ h => h) ⟨by rfl, ?_⟩ hS ?_
    rotate_left
    · intro wq hSw; have q := HD.out; go_simp; try rfl
    simp only [Act.put, List.setIfInBounds_toArray, List.set_cons_zero, List.set_cons_succ]
    refine wpAnyH_done (by kernel_rfl) ?_ _
    have HBx := hide (HB.out.trans (hS.mono HB.out.size))
    have P2 := hide (P1.out.below hS)
    obtain ⟨z0, -, -, -⟩ := HA.out.box (HX.out.below hS)
    clear hS
    go_wp2_with fail
    refine (KB _ P2.out).mono ?_
    rintro e w2 ⟨rfl, hp⟩
    have HP := hide (RPost.belowL HBx.out hp)
    clear hp
    go_wp2_with fail
    go_ret
    exact ⟨rfl, HP.out⟩
  · have e2 : t.noteE lsn 1 tx prev = 130 := by rw [e1]; unfold TbM.nextE; rw [if_neg hq]
    rw [note_stay (by rw [e2]; decide), e2]
    have HD := hide (show (tx != t.next) = true by simpa using hq)
    clear e1 e2 hq hl hr KB
    go_enter Tryz.func22, Tryz.ntmps22
    obtain ⟨y0, y1, -, -⟩ := HA.out.box (RBox.new w rc 55)
    go_upto_region 8 with fail
    refine named (P := Code.wp _ _ _ _) ?_
    intro w1 hw1
    obtain ⟨rb, hrb⟩ : ∃ rb, rb = w.heap.size := ⟨_, rfl⟩
    have P1 := hide (show RT w1 B c v t by rw [hw1]; exact h.below (alloc_below _ _))
    have HX := hide (show RBox w1 rb 55 rc by rw [hw1, hrb]; exact RBox.new _ _ _)
    have HB := hide (show Below w.heap.size w w1 by rw [hw1]; exact alloc_below _ _)
    rw [← hrb]
    clear hw1 hrb h y0 y1
    refine wp_region_held_drew (S := fun wq => Below w1.heap.size w1 wq) (by kernel_rfl) (Below.refl _ _).drew (fun hS => ?_)
    refine take_at 0 (some 22) (v := ?_) rfl rfl (by kernel_rfl) (by kernel_rfl) (by kernel_rfl) (fun _ _ _ h => h) ⟨by rfl, ?_⟩ hS ?_
    rotate_left
    · intro wq hSw; go_simp; try rfl
    simp only [Act.put, List.setIfInBounds_toArray, List.set_cons_zero, List.set_cons_succ]
    refine take_at 1 (some 23) (v := ?_) rfl rfl (by kernel_rfl) (by kernel_rfl) (by kernel_rfl) (fun _ _ _ h => h) ⟨by rfl, ?_⟩ hS ?_
    rotate_left
    · intro wq hSw; obtain ⟨-, -, q, -⟩ := HA.out.box (HX.out.below hSw); go_simp; try rfl
    simp only [Act.put, List.setIfInBounds_toArray, List.set_cons_zero, List.set_cons_succ]
    refine take_at 2 (some 24) (v := ?_) rfl rfl (by kernel_rfl) (by kernel_rfl) (by kernel_rfl) (fun _ _ _ h => h) ⟨by rfl, ?_⟩ hS ?_
    rotate_left
    · intro wq hSw; go_simp; try rfl
    simp only [Act.put, List.setIfInBounds_toArray, List.set_cons_zero, List.set_cons_succ]
    refine take_at 3 (some 25) (v := ?_) rfl rfl (by kernel_rfl) (by kernel_rfl) (by kernel_rfl) (fun _ _ _ h => h) ⟨by rfl, ?_⟩ hS ?_
    rotate_left
    · intro wq hSw; go_simp; try rfl
    simp only [Act.put, List.setIfInBounds_toArray, List.set_cons_zero, List.set_cons_succ]
    refine take_at 4 (some 26) (v := ?_) rfl rfl (by kernel_rfl) (by kernel_rfl) (by kernel_rfl) (fun _ _ _ h => h) ⟨by rfl, ?_⟩ hS ?_
    rotate_left
    · intro wq hSw; go_simp; try rfl
    simp only [Act.put, List.setIfInBounds_toArray, List.set_cons_zero, List.set_cons_succ]
    refine take_at 5 (some 27) (v := ?_) rfl rfl (by kernel_rfl) (by kernel_rfl) (by kernel_rfl) (fun _ _ _ h => h) ⟨by rfl, ?_⟩ hS ?_
    rotate_left
    · intro wq hSw; have q := ((P1.out.box.below hSw).get 1 _ rfl).1; go_simp; try rfl
    simp only [Act.put, List.setIfInBounds_toArray, List.set_cons_zero, List.set_cons_succ]
    refine take_at 6 (some 28) (v := ?_) rfl rfl (by kernel_rfl) (by kernel_rfl) (by kernel_rfl) (fun _ _ _ h => h) ⟨by rfl, ?_⟩ hS ?_
    rotate_left
    · intro wq hSw; have q := HD.out; go_simp; try rfl
    simp only [Act.put, List.setIfInBounds_toArray, List.set_cons_zero, List.set_cons_succ]
    refine wpAnyH_done (by kernel_rfl) ?_ _
    have HBx := hide (HB.out.trans (hS.mono HB.out.size))
    have P2 := hide (P1.out.below hS)
    clear hS
    go_wp2_with fail
    go_ret
    exact ⟨rfl, RPost.belowL HBx.out (RPost.stay P2.out)⟩
theorem rnote_any (B c : Nat) (v : Value) (t : TbM) (rc : Array Value) (lsn k tx prev : Int) (w : World) (h : RT w B c v t) (hr : RecA rc lsn k tx prev) : Calls Tryz.prog 22 #[ptr c, .agg rc] w (RNPost B c v t lsn k tx prev w) := by
  cases hl : isLsn lsn with
  | false => exact rnote_place B c v t rc lsn k tx prev w h hr hl
  | true =>
    by_cases hk : k < 1 ∨ 8 < k
    · exact rnote_kind B c v t rc lsn k tx prev w h hr hl hk
    · rcases (show k = 1 ∨ k = 2 ∨ k = 3 ∨ k = 4 ∨ k = 5 ∨ k = 6 ∨ k = 7 ∨ k = 8 by omega) with q | q | q | q | q | q | q | q
      · exact rnote1 B c v t rc lsn k tx prev w h hr hl q
      · exact rnote2 B c v t rc lsn k tx prev w h hr hl q
      · exact rnote3 B c v t rc lsn k tx prev w h hr hl q
      · exact rnote4 B c v t rc lsn k tx prev w h hr hl q
      · exact rnote5 B c v t rc lsn k tx prev w h hr hl q
      · exact rnote6 B c v t rc lsn k tx prev w h hr hl q
      · exact rnote7 B c v t rc lsn k tx prev w h hr hl q
      · exact rnote8 B c v t rc lsn k tx prev w h hr hl q
set_option maxHeartbeats 1000000 in
theorem within13_any (a b d : Int) (w : World) : Calls Tryz.prog 51 #[.int .i64 a, .int .i64 b, .int .i64 d] w fun r w' => r = .returned (.bool (decide (b ≤ a) && decide (a ≤ d))) ∧ w = w' := by
  by_cases h1 : b ≤ a
  · have d1 : decide (b ≤ a) = true := by simpa using h1
    rw [d1, Bool.true_and]
    go_enter Tryz.func51, Tryz.ntmps51
    go_wp2
    go_ret
    exact ⟨rfl, rfl⟩
  · have d1 : decide (b ≤ a) = false := by simpa using h1
    rw [d1, Bool.false_and]
    go_enter Tryz.func51, Tryz.ntmps51
    go_wp2
    go_ret
    exact ⟨rfl, rfl⟩
end Go.Proofs.YtblngphjoafidaaGreat
