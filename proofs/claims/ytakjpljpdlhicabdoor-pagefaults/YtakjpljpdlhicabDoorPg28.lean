import Derived.Test.YtakjpljpdlhicabDoorPg27
namespace Go.Proofs.YtakjpljpdlhicabDoor
open Go.RowKit Go.QK Go.Pg
set_option maxRecDepth 100000
theorem fromB1 (l : List Nat) (k : Nat) (h : k < l.length) : QK.fromB ((l.drop k).take 1) = l.getD k 0 := by
  rw [List.drop_eq_getElem_cons h, List.take_succ_cons, List.take_zero]
  show l[k] + 256 * 0 = _
  simp [h]
theorem fromB2 (l : List Nat) (k : Nat) (h : k + 1 < l.length) : QK.fromB ((l.drop k).take 2) = l.getD k 0 + 256 * l.getD (k + 1) 0 := by
  rw [List.drop_eq_getElem_cons (show k < l.length by omega), List.drop_eq_getElem_cons h, List.take_succ_cons, List.take_succ_cons, List.take_zero]
  show l[k] + 256 * (l[k + 1] + 256 * 0) = _
  simp [h, show k < l.length by omega]
theorem heads {l : List Nat} {n0 n1 n2 n3 n4 n5 n6 : Nat} (hl : l.length = 1024) (hh : takeN headS l = [n0, n1, n2, n3, n4, n5, n6]) :
    l.getD 0 0 = n0 ∧ l.getD 1 0 = n1 ∧ QK.fromB ((l.drop 2).take 2) = n2 ∧ QK.fromB ((l.drop 4).take 2) = n3 ∧ l.getD 6 0 + 256 * l.getD 7 0 = n4 ∧ QK.fromB ((l.drop 8).take 4) = n5 ∧ QK.fromB ((l.drop 12).take 4) = n6 := by
  have h0 := fromB1 l 0 (by omega)
  have h1 := fromB1 l 1 (by omega)
  have h6 := fromB2 l 6 (by omega)
  simp only [takeN, headS, List.drop_drop, List.cons.injEq, List.drop_zero] at hh h0
  obtain ⟨a0, a1, a2, a3, a4, a5, a6, _⟩ := hh
  exact ⟨h0.symm.trans a0, h1.symm.trans a1, a2, a3, h6.symm.trans a4, a5, a6⟩
def RPost (w : World) (l : List Nat) (number : Int) : Ending → World → Prop := fun e w' => ∃ v, e = .returned (.tuple #[v, .int .i64 (decE l number)]) ∧ PageOut w' w.heap.size v (decP l number) ∧ Below w.heap.size w w'
set_option maxHeartbeats 4000000 in
theorem rdec_place (a : Option Addr) (c : Nat) (l : List Nat) (number : Int) (w : World) (hn : number < 0 ∨ 63 < number) :
    Calls Tryd.prog 14 #[.slice a l.length c, .int .i64 number] w (RPost w l number) := by
  unfold RPost
  have hE : decE l number = 4 := by unfold decE; rw [if_pos hn]
  have hP : decP l number = zeroP := by unfold decP; rw [hE]; simp
  rw [hE, hP]
  clear hE hP
  generalize l.length = n
  by_cases h1 : number < 0
  · have d1 : decide (number < 0) = true := by simp [h1]
    go_enter Tryd.func14, Tryd.ntmps14
    go_wp2_with fail
    exact bodyPost_ret (v := .tuple #[.agg #[.int .i64 0, .int .i64 0, .slice none 0 0, .slice none 0 0], .int .i64 4]) (by simp [results, Tryd.results14, go_sem]) rfl ⟨_, rfl, PageOut.nil _ _ _, alloc_below _ _⟩
  · have d1 : decide (number < 0) = false := by simp [h1]
    have d2 : decide (64 ≤ number) = true := by simp; omega
    have d3 : decide (number ≥ 64) = true := by simp; omega
    go_enter Tryd.func14, Tryd.ntmps14
    go_wp2_with fail
    exact bodyPost_ret (v := .tuple #[.agg #[.int .i64 0, .int .i64 0, .slice none 0 0, .slice none 0 0], .int .i64 4]) (by simp [results, Tryd.results14, go_sem]) rfl ⟨_, rfl, PageOut.nil _ _ _, alloc_below _ _⟩
set_option maxHeartbeats 4000000 in
theorem rdec_data (a : Option Addr) (c : Nat) (l : List Nat) (number : Int) (w : World) (hn : ¬ (number < 0 ∨ 63 < number)) (hl : l.length ≠ 1024) :
    Calls Tryd.prog 14 #[.slice a l.length c, .int .i64 number] w (RPost w l number) := by
  unfold RPost
  have hE : decE l number = 42 := by unfold decE; rw [if_neg hn, if_pos hl]
  have hP : decP l number = zeroP := by unfold decP; rw [hE]; simp
  rw [hE, hP]
  clear hE hP
  have d1 : decide (number < 0) = false := decide_eq_false (by omega)
  have d2 : decide (64 ≤ number) = false := decide_eq_false (by omega)
  have d3 : decide (number ≥ 64) = false := decide_eq_false (by omega)
  generalize l.length = n at *
  have hd : ((n : Int) != 1024) = true := by simp; omega
  go_enter Tryd.func14, Tryd.ntmps14
  go_wp2_with fail
  exact bodyPost_ret (v := .tuple #[.agg #[.int .i64 0, .int .i64 0, .slice none 0 0, .slice none 0 0], .int .i64 42]) (by simp [results, Tryd.results14, go_sem]) rfl ⟨_, rfl, PageOut.nil _ _ _, alloc_below _ _⟩
set_option maxHeartbeats 4000000 in
theorem rdec_zero (a : Option Addr) (c : Nat) (l : List Nat) (number : Int) (w : World) (hs : Bytes w a l) (hb : AllB l) (hn : ¬ (number < 0 ∨ 63 < number)) (hl : l.length = 1024) (hz : allZ l = true) :
    Calls Tryd.prog 14 #[.slice a l.length c, .int .i64 number] w (RPost w l number) := by
  unfold RPost
  have hE : decE l number = 0 := by unfold decE; rw [if_neg hn, if_neg (by omega), if_pos hz]
  have hP : decP l number = ⟨number, 0, [], []⟩ := by unfold decP; rw [hE, if_neg (by simp), if_pos hz]
  rw [hE, hP]
  have d1 : decide (number < 0) = false := decide_eq_false (by omega)
  have d2 : decide (64 ≤ number) = false := decide_eq_false (by omega)
  have d3 : decide (number ≥ 64) = false := decide_eq_false (by omega)
  have RZ : ∀ w', Below w.heap.size w w' → Calls Tryd.prog 28 #[.slice a 1024 c, .int .i64 0] w' fun e w'' => e = .returned (.bool true) ∧ w'' = w' := by
    intro w' b
    have q := rzeros_any a c l 0 w' (hs.below b) hb (by omega) (Nat.zero_le _)
    rw [List.drop_zero, hz, hl] at q
    exact q
  rw [hl]
  clear hE hP hs hb hl hz
  go_enter Tryd.func14, Tryd.ntmps14
  go_wp2_with fail
  refine (RZ _ (alloc_below _ _)).mono ?_
  rintro e w1 ⟨rfl, rfl⟩
  go_wp2_with fail
  exact bodyPost_ret (v := .tuple #[.agg #[.int .i64 number, .int .i64 0, .slice none 0 0, .slice none 0 0], .int .i64 0]) (by simp [results, Tryd.results14, go_sem]) rfl ⟨_, rfl, PageOut.nil _ _ _, alloc_below _ _⟩
set_option maxHeartbeats 16000000 in
theorem rdec_head (a : Option Addr) (c n0 n1 n2 n3 n4 n5 n6 : Nat) (l : List Nat) (number : Int) (w : World) (hs : Bytes w a l) (hb : AllB l) (hn : ¬ (number < 0 ∨ 63 < number)) (hl : l.length = 1024) (hz : allZ l = false) (hh : takeN headS l = [n0, n1, n2, n3, n4, n5, n6]) (he : headE [n0, n1, n2, n3, n4, n5, n6] number (psum l) ≠ 0) :
    Calls Tryd.prog 14 #[.slice a 1024 c, .int .i64 number] w (RPost w l number) := by
  unfold RPost
  have hE : decE l number = headE [n0, n1, n2, n3, n4, n5, n6] number (psum l) := by rw [decE_head hn hl hz hh, if_pos he]
  have hP : decP l number = zeroP := by unfold decP; rw [hE, if_pos he]
  rw [hE, hP]
  clear hE hP
  obtain ⟨t0, t1, t2, t3, t4, t5, t6⟩ := heads hl hh
  have d1 : decide (number < 0) = false := decide_eq_false (by omega)
  have d2 : decide (64 ≤ number) = false := decide_eq_false (by omega)
  have d3 : decide (number ≥ 64) = false := decide_eq_false (by omega)
  have RZ : ∀ w', Below w.heap.size w w' → Calls Tryd.prog 28 #[.slice a 1024 c, .int .i64 0] w' fun e w'' => e = .returned (.bool false) ∧ w'' = w' := by
    intro w' b
    have q := rzeros_any a c l 0 w' (hs.below b) hb (by omega) (Nat.zero_le _)
    rw [List.drop_zero, hz, hl] at q
    exact q
  have GT : ∀ w' (pos size : Nat), Below w.heap.size w w' → size ≤ 8 → pos + size ≤ 1024 → Calls Tryd.prog 29 #[.slice a 1024 c, .int .i64 (pos : Int), .int .i64 (size : Int)] w' fun e w'' => e = .returned (.int .u64 ((QK.fromB ((l.drop pos).take size) : Nat) : Int)) ∧ w'' = w' := by
    intro w' pos size b h8 h2
    have q := rget_any a c pos size l w' (hs.below b) hb (by omega) h8 (by omega)
    rw [hl] at q
    exact q
  have G4 : ∀ w', Below w.heap.size w w' → Calls Tryd.prog 29 #[.slice a 1024 c, .int .i64 4, .int .i64 2] w' fun e w'' => e = .returned (.int .u64 (n3 : Int)) ∧ w'' = w' := by rw [← t3]; exact fun w' b => GT w' 4 2 b (by decide) (by decide)
  have G8 : ∀ w', Below w.heap.size w w' → Calls Tryd.prog 29 #[.slice a 1024 c, .int .i64 8, .int .i64 4] w' fun e w'' => e = .returned (.int .u64 (n5 : Int)) ∧ w'' = w' := by rw [← t5]; exact fun w' b => GT w' 8 4 b (by decide) (by decide)
  have G12 : ∀ w', Below w.heap.size w w' → Calls Tryd.prog 29 #[.slice a 1024 c, .int .i64 12, .int .i64 4] w' fun e w'' => e = .returned (.int .u64 (n6 : Int)) ∧ w'' = w' := by rw [← t6]; exact fun w' b => GT w' 12 4 b (by decide) (by decide)
  have G2 : ∀ w', Below w.heap.size w w' → Calls Tryd.prog 29 #[.slice a 1024 c, .int .i64 2, .int .i64 2] w' fun e w'' => e = .returned (.int .u64 (n2 : Int)) ∧ w'' = w' := by rw [← t2]; exact fun w' b => GT w' 2 2 b (by decide) (by decide)
  have SM : ∀ w', Below w.heap.size w w' → Calls Tryd.prog 12 #[.slice a 1024 c] w' fun e w'' => e = .returned (.int .u32 ((psum l : Nat) : Int)) ∧ w'' = w' := fun w' b => rsum_any a c l w' (hs.below b) hb hl
  have hfit := takeN_fit headS l hb (by rw [hl]; decide)
  rw [hh] at hfit
  obtain ⟨u0, u1, u2, u3, u4, u5, u6, -⟩ := hfit
  have u3 : n3 < 65536 := u3
  have u5 : n5 < 4294967296 := lt4 u5
  have u6 : n6 < 4294967296 := lt4 u6
  have u2 : n2 < 65536 := u2
  have hps := psum_lt hb
  have e3 : IntKind.i64.wrap (n3 : Int) = (n3 : Int) := by rw [IntKind.wrap_i64]; omega
  have e5 : IntKind.i64.wrap (n5 : Int) = (n5 : Int) := by rw [IntKind.wrap_i64]; omega
  have esu : IntKind.u64.wrap ((psum l : Nat) : Int) = ((psum l : Nat) : Int) := by rw [IntKind.wrap_u64]; omega
  obtain ⟨nn, rfl⟩ : ∃ nn : Nat, number = (nn : Int) := ⟨number.toNat, by omega⟩
  have enn : IntKind.u64.wrap (nn : Int) = (nn : Int) := by rw [IntKind.wrap_u64]; omega
  obtain ⟨ab, ao, rfl, habl, hc0⟩ := hs.at (i := 0) (by omega)
  obtain ⟨ab', ao', hq, _, hc1⟩ := hs.at (i := 1) (by omega)
  simp only [Option.some.injEq, Addr.mk.injEq, and_true] at hq
  obtain ⟨rfl, rfl⟩ := hq
  rw [t0, Nat.add_zero] at hc0
  rw [t1] at hc1
  have CX := fun w' (b : Below w.heap.size w w') => (b.cell (p := ⟨ab, ao, none⟩) habl).trans hc0
  have CY := fun w' (b : Below w.heap.size w w') => (b.cell (p := ⟨ab, ao + 1, none⟩) habl).trans hc1
  clear hs hb hz hh hl GT t0 t1 t2 t3 t4 t5 t6 hc0 hc1 hn
  generalize psum l = PS at *
  have X0 := CX _ (alloc_below w (.cells #[.int .i64 0, .int .i64 0, .slice none 0 0, .slice none 0 0] 31))
  have X1 := CY _ (alloc_below w (.cells #[.int .i64 0, .int .i64 0, .slice none 0 0, .slice none 0 0] 31))
  simp only [headE, List.getD_cons_zero, List.getD_cons_succ] at he ⊢
  by_cases c0 : n0 = 113
  case neg =>
    rw [if_pos (by simpa using c0)]
    have f0 : ((n0 : Int) != 113) = true := by simp; omega
    by_cases k2 : n1 = 2
    · subst k2
      go_enter Tryd.func14, Tryd.ntmps14
      go_wp2_with fail
      refine (RZ _ (alloc_below _ _)).mono ?_
      rintro e w1 ⟨rfl, rfl⟩
      go_wp2_with fail
      refine (G4 _ (alloc_below _ _)).mono ?_
      rintro e w1 ⟨rfl, rfl⟩
      go_wp2_with fail
      refine (G8 _ (alloc_below _ _)).mono ?_
      rintro e w1 ⟨rfl, rfl⟩
      go_wp2_with fail
      exact bodyPost_ret (v := .tuple #[.agg #[.int .i64 0, .int .i64 0, .slice none 0 0, .slice none 0 0], .int .i64 80]) (by simp [results, Tryd.results14, go_sem]) rfl ⟨_, rfl, PageOut.nil _ _ _, alloc_below _ _⟩
    · have kk : ((n1 : Int) == 2) = false := by simp; omega
      go_enter Tryd.func14, Tryd.ntmps14
      go_wp2_with fail
      refine (RZ _ (alloc_below _ _)).mono ?_
      rintro e w1 ⟨rfl, rfl⟩
      go_wp2_with fail
      refine (G4 _ (alloc_below _ _)).mono ?_
      rintro e w1 ⟨rfl, rfl⟩
      go_wp2_with fail
      refine (G8 _ (alloc_below _ _)).mono ?_
      rintro e w1 ⟨rfl, rfl⟩
      go_wp2_with fail
      exact bodyPost_ret (v := .tuple #[.agg #[.int .i64 0, .int .i64 0, .slice none 0 0, .slice none 0 0], .int .i64 80]) (by simp [results, Tryd.results14, go_sem]) rfl ⟨_, rfl, PageOut.nil _ _ _, alloc_below _ _⟩
  subst c0
  rw [if_neg (by simp)] at he ⊢
  by_cases c1 : n1 = 1 ∨ n1 = 2
  case neg =>
    rw [if_pos (by omega)]
    have f1 : ((n1 : Int) != 1) = true := by simp; omega
    have f2 : ((n1 : Int) != 2) = true := by simp; omega
    have kk : ((n1 : Int) == 2) = false := by simp; omega
    go_enter Tryd.func14, Tryd.ntmps14
    go_wp2_with fail
    refine (RZ _ (alloc_below _ _)).mono ?_
    rintro e w1 ⟨rfl, rfl⟩
    go_wp2_with fail
    refine (G4 _ (alloc_below _ _)).mono ?_
    rintro e w1 ⟨rfl, rfl⟩
    go_wp2_with fail
    refine (G8 _ (alloc_below _ _)).mono ?_
    rintro e w1 ⟨rfl, rfl⟩
    go_wp2_with fail
    exact bodyPost_ret (v := .tuple #[.agg #[.int .i64 0, .int .i64 0, .slice none 0 0, .slice none 0 0], .int .i64 70]) (by simp [results, Tryd.results14, go_sem]) rfl ⟨_, rfl, PageOut.nil _ _ _, alloc_below _ _⟩
  rw [if_neg (by omega)] at he ⊢
  by_cases c6 : n6 = PS
  case neg =>
    rw [if_pos (by simpa using c6)]
    have f6 : ((n6 : Int) != (PS : Int)) = true := by simp; omega
    rcases c1 with rfl | rfl
    · go_enter Tryd.func14, Tryd.ntmps14
      go_wp2_with fail
      refine (RZ _ (alloc_below _ _)).mono ?_
      rintro e w1 ⟨rfl, rfl⟩
      go_wp2_with fail
      refine (G4 _ (alloc_below _ _)).mono ?_
      rintro e w1 ⟨rfl, rfl⟩
      go_wp2_with fail
      refine (G8 _ (alloc_below _ _)).mono ?_
      rintro e w1 ⟨rfl, rfl⟩
      go_wp2_with fail
      refine (G12 _ (alloc_below _ _)).mono ?_
      rintro e w1 ⟨rfl, rfl⟩
      go_wp2_with fail
      refine (SM _ (alloc_below _ _)).mono ?_
      rintro e w1 ⟨rfl, rfl⟩
      go_wp2_with fail
      exact bodyPost_ret (v := .tuple #[.agg #[.int .i64 0, .int .i64 0, .slice none 0 0, .slice none 0 0], .int .i64 81]) (by simp [results, Tryd.results14, go_sem]) rfl ⟨_, rfl, PageOut.nil _ _ _, alloc_below _ _⟩
    · go_enter Tryd.func14, Tryd.ntmps14
      go_wp2_with fail
      refine (RZ _ (alloc_below _ _)).mono ?_
      rintro e w1 ⟨rfl, rfl⟩
      go_wp2_with fail
      refine (G4 _ (alloc_below _ _)).mono ?_
      rintro e w1 ⟨rfl, rfl⟩
      go_wp2_with fail
      refine (G8 _ (alloc_below _ _)).mono ?_
      rintro e w1 ⟨rfl, rfl⟩
      go_wp2_with fail
      refine (G12 _ (alloc_below _ _)).mono ?_
      rintro e w1 ⟨rfl, rfl⟩
      go_wp2_with fail
      refine (SM _ (alloc_below _ _)).mono ?_
      rintro e w1 ⟨rfl, rfl⟩
      go_wp2_with fail
      exact bodyPost_ret (v := .tuple #[.agg #[.int .i64 0, .int .i64 0, .slice none 0 0, .slice none 0 0], .int .i64 81]) (by simp [results, Tryd.results14, go_sem]) rfl ⟨_, rfl, PageOut.nil _ _ _, alloc_below _ _⟩
  subst c6
  rw [if_neg (by simp)] at he ⊢
  by_cases c2 : n2 = nn
  case neg =>
    rw [if_pos (by omega)]
    have f2 : ((n2 : Int) != (nn : Int)) = true := by simp; omega
    rcases c1 with rfl | rfl
    · go_enter Tryd.func14, Tryd.ntmps14
      go_wp2_with fail
      refine (RZ _ (alloc_below _ _)).mono ?_
      rintro e w1 ⟨rfl, rfl⟩
      go_wp2_with fail
      refine (G4 _ (alloc_below _ _)).mono ?_
      rintro e w1 ⟨rfl, rfl⟩
      go_wp2_with fail
      refine (G8 _ (alloc_below _ _)).mono ?_
      rintro e w1 ⟨rfl, rfl⟩
      go_wp2_with fail
      refine (G12 _ (alloc_below _ _)).mono ?_
      rintro e w1 ⟨rfl, rfl⟩
      go_wp2_with fail
      refine (SM _ (alloc_below _ _)).mono ?_
      rintro e w1 ⟨rfl, rfl⟩
      go_wp2_with fail
      refine (G2 _ (alloc_below _ _)).mono ?_
      rintro e w1 ⟨rfl, rfl⟩
      go_wp2_with fail
      exact bodyPost_ret (v := .tuple #[.agg #[.int .i64 0, .int .i64 0, .slice none 0 0, .slice none 0 0], .int .i64 82]) (by simp [results, Tryd.results14, go_sem]) rfl ⟨_, rfl, PageOut.nil _ _ _, alloc_below _ _⟩
    · go_enter Tryd.func14, Tryd.ntmps14
      go_wp2_with fail
      refine (RZ _ (alloc_below _ _)).mono ?_
      rintro e w1 ⟨rfl, rfl⟩
      go_wp2_with fail
      refine (G4 _ (alloc_below _ _)).mono ?_
      rintro e w1 ⟨rfl, rfl⟩
      go_wp2_with fail
      refine (G8 _ (alloc_below _ _)).mono ?_
      rintro e w1 ⟨rfl, rfl⟩
      go_wp2_with fail
      refine (G12 _ (alloc_below _ _)).mono ?_
      rintro e w1 ⟨rfl, rfl⟩
      go_wp2_with fail
      refine (SM _ (alloc_below _ _)).mono ?_
      rintro e w1 ⟨rfl, rfl⟩
      go_wp2_with fail
      refine (G2 _ (alloc_below _ _)).mono ?_
      rintro e w1 ⟨rfl, rfl⟩
      go_wp2_with fail
      exact bodyPost_ret (v := .tuple #[.agg #[.int .i64 0, .int .i64 0, .slice none 0 0, .slice none 0 0], .int .i64 82]) (by simp [results, Tryd.results14, go_sem]) rfl ⟨_, rfl, PageOut.nil _ _ _, alloc_below _ _⟩
  subst c2
  rw [if_neg (by simp)] at he ⊢
  by_cases z : n3 < 1 ∨ (if n1 = 1 then 31 else 84) < n3 ∨ n5 < 1 ∨ 2147483647 < n5
  case neg => exact absurd (if_neg z) he
  rw [if_pos z]
  rcases c1 with rfl | rfl
  · have z : n3 < 1 ∨ 31 < n3 ∨ n5 < 1 ∨ 2147483647 < n5 := by simpa using z
    by_cases h1 : n3 < 1
    · have g1 : decide ((n3 : Int) < 1) = true := by simp; omega
      go_enter Tryd.func14, Tryd.ntmps14
      go_wp2_with fail
      refine (RZ _ (alloc_below _ _)).mono ?_
      rintro e w1 ⟨rfl, rfl⟩
      go_wp2_with fail
      refine (G4 _ (alloc_below _ _)).mono ?_
      rintro e w1 ⟨rfl, rfl⟩
      go_wp2_with fail
      refine (G8 _ (alloc_below _ _)).mono ?_
      rintro e w1 ⟨rfl, rfl⟩
      go_wp2_with fail
      refine (G12 _ (alloc_below _ _)).mono ?_
      rintro e w1 ⟨rfl, rfl⟩
      go_wp2_with fail
      refine (SM _ (alloc_below _ _)).mono ?_
      rintro e w1 ⟨rfl, rfl⟩
      go_wp2_with fail
      refine (G2 _ (alloc_below _ _)).mono ?_
      rintro e w1 ⟨rfl, rfl⟩
      go_wp2_with fail
      exact bodyPost_ret (v := .tuple #[.agg #[.int .i64 0, .int .i64 0, .slice none 0 0, .slice none 0 0], .int .i64 23]) (by simp [results, Tryd.results14, go_sem]) rfl ⟨_, rfl, PageOut.nil _ _ _, alloc_below _ _⟩
    have g1 : decide ((n3 : Int) < 1) = false := decide_eq_false (by omega)
    by_cases h2 : 31 < n3
    · have g2 : decide ((31 : Int) < (n3 : Int)) = true := by simp; omega
      go_enter Tryd.func14, Tryd.ntmps14
      go_wp2_with fail
      refine (RZ _ (alloc_below _ _)).mono ?_
      rintro e w1 ⟨rfl, rfl⟩
      go_wp2_with fail
      refine (G4 _ (alloc_below _ _)).mono ?_
      rintro e w1 ⟨rfl, rfl⟩
      go_wp2_with fail
      refine (G8 _ (alloc_below _ _)).mono ?_
      rintro e w1 ⟨rfl, rfl⟩
      go_wp2_with fail
      refine (G12 _ (alloc_below _ _)).mono ?_
      rintro e w1 ⟨rfl, rfl⟩
      go_wp2_with fail
      refine (SM _ (alloc_below _ _)).mono ?_
      rintro e w1 ⟨rfl, rfl⟩
      go_wp2_with fail
      refine (G2 _ (alloc_below _ _)).mono ?_
      rintro e w1 ⟨rfl, rfl⟩
      go_wp2_with fail
      exact bodyPost_ret (v := .tuple #[.agg #[.int .i64 0, .int .i64 0, .slice none 0 0, .slice none 0 0], .int .i64 23]) (by simp [results, Tryd.results14, go_sem]) rfl ⟨_, rfl, PageOut.nil _ _ _, alloc_below _ _⟩
    have g2 : decide ((31 : Int) < (n3 : Int)) = false := decide_eq_false (by omega)
    by_cases h3 : n5 < 1
    · have g3 : decide ((n5 : Int) < 1) = true := by simp; omega
      go_enter Tryd.func14, Tryd.ntmps14
      go_wp2_with fail
      refine (RZ _ (alloc_below _ _)).mono ?_
      rintro e w1 ⟨rfl, rfl⟩
      go_wp2_with fail
      refine (G4 _ (alloc_below _ _)).mono ?_
      rintro e w1 ⟨rfl, rfl⟩
      go_wp2_with fail
      refine (G8 _ (alloc_below _ _)).mono ?_
      rintro e w1 ⟨rfl, rfl⟩
      go_wp2_with fail
      refine (G12 _ (alloc_below _ _)).mono ?_
      rintro e w1 ⟨rfl, rfl⟩
      go_wp2_with fail
      refine (SM _ (alloc_below _ _)).mono ?_
      rintro e w1 ⟨rfl, rfl⟩
      go_wp2_with fail
      refine (G2 _ (alloc_below _ _)).mono ?_
      rintro e w1 ⟨rfl, rfl⟩
      go_wp2_with fail
      exact bodyPost_ret (v := .tuple #[.agg #[.int .i64 0, .int .i64 0, .slice none 0 0, .slice none 0 0], .int .i64 23]) (by simp [results, Tryd.results14, go_sem]) rfl ⟨_, rfl, PageOut.nil _ _ _, alloc_below _ _⟩
    have g3 : decide ((n5 : Int) < 1) = false := decide_eq_false (by omega)
    have g4 : decide ((2147483647 : Int) < (n5 : Int)) = true := by simp; omega
    go_enter Tryd.func14, Tryd.ntmps14
    go_wp2_with fail
    refine (RZ _ (alloc_below _ _)).mono ?_
    rintro e w1 ⟨rfl, rfl⟩
    go_wp2_with fail
    refine (G4 _ (alloc_below _ _)).mono ?_
    rintro e w1 ⟨rfl, rfl⟩
    go_wp2_with fail
    refine (G8 _ (alloc_below _ _)).mono ?_
    rintro e w1 ⟨rfl, rfl⟩
    go_wp2_with fail
    refine (G12 _ (alloc_below _ _)).mono ?_
    rintro e w1 ⟨rfl, rfl⟩
    go_wp2_with fail
    refine (SM _ (alloc_below _ _)).mono ?_
    rintro e w1 ⟨rfl, rfl⟩
    go_wp2_with fail
    refine (G2 _ (alloc_below _ _)).mono ?_
    rintro e w1 ⟨rfl, rfl⟩
    go_wp2_with fail
    exact bodyPost_ret (v := .tuple #[.agg #[.int .i64 0, .int .i64 0, .slice none 0 0, .slice none 0 0], .int .i64 23]) (by simp [results, Tryd.results14, go_sem]) rfl ⟨_, rfl, PageOut.nil _ _ _, alloc_below _ _⟩
  · have z : n3 < 1 ∨ 84 < n3 ∨ n5 < 1 ∨ 2147483647 < n5 := by simpa using z
    by_cases h1 : n3 < 1
    · have g1 : decide ((n3 : Int) < 1) = true := by simp; omega
      go_enter Tryd.func14, Tryd.ntmps14
      go_wp2_with fail
      refine (RZ _ (alloc_below _ _)).mono ?_
      rintro e w1 ⟨rfl, rfl⟩
      go_wp2_with fail
      refine (G4 _ (alloc_below _ _)).mono ?_
      rintro e w1 ⟨rfl, rfl⟩
      go_wp2_with fail
      refine (G8 _ (alloc_below _ _)).mono ?_
      rintro e w1 ⟨rfl, rfl⟩
      go_wp2_with fail
      refine (G12 _ (alloc_below _ _)).mono ?_
      rintro e w1 ⟨rfl, rfl⟩
      go_wp2_with fail
      refine (SM _ (alloc_below _ _)).mono ?_
      rintro e w1 ⟨rfl, rfl⟩
      go_wp2_with fail
      refine (G2 _ (alloc_below _ _)).mono ?_
      rintro e w1 ⟨rfl, rfl⟩
      go_wp2_with fail
      exact bodyPost_ret (v := .tuple #[.agg #[.int .i64 0, .int .i64 0, .slice none 0 0, .slice none 0 0], .int .i64 23]) (by simp [results, Tryd.results14, go_sem]) rfl ⟨_, rfl, PageOut.nil _ _ _, alloc_below _ _⟩
    have g1 : decide ((n3 : Int) < 1) = false := decide_eq_false (by omega)
    by_cases h2 : 84 < n3
    · have g2 : decide ((84 : Int) < (n3 : Int)) = true := by simp; omega
      go_enter Tryd.func14, Tryd.ntmps14
      go_wp2_with fail
      refine (RZ _ (alloc_below _ _)).mono ?_
      rintro e w1 ⟨rfl, rfl⟩
      go_wp2_with fail
      refine (G4 _ (alloc_below _ _)).mono ?_
      rintro e w1 ⟨rfl, rfl⟩
      go_wp2_with fail
      refine (G8 _ (alloc_below _ _)).mono ?_
      rintro e w1 ⟨rfl, rfl⟩
      go_wp2_with fail
      refine (G12 _ (alloc_below _ _)).mono ?_
      rintro e w1 ⟨rfl, rfl⟩
      go_wp2_with fail
      refine (SM _ (alloc_below _ _)).mono ?_
      rintro e w1 ⟨rfl, rfl⟩
      go_wp2_with fail
      refine (G2 _ (alloc_below _ _)).mono ?_
      rintro e w1 ⟨rfl, rfl⟩
      go_wp2_with fail
      exact bodyPost_ret (v := .tuple #[.agg #[.int .i64 0, .int .i64 0, .slice none 0 0, .slice none 0 0], .int .i64 23]) (by simp [results, Tryd.results14, go_sem]) rfl ⟨_, rfl, PageOut.nil _ _ _, alloc_below _ _⟩
    have g2 : decide ((84 : Int) < (n3 : Int)) = false := decide_eq_false (by omega)
    by_cases h3 : n5 < 1
    · have g3 : decide ((n5 : Int) < 1) = true := by simp; omega
      go_enter Tryd.func14, Tryd.ntmps14
      go_wp2_with fail
      refine (RZ _ (alloc_below _ _)).mono ?_
      rintro e w1 ⟨rfl, rfl⟩
      go_wp2_with fail
      refine (G4 _ (alloc_below _ _)).mono ?_
      rintro e w1 ⟨rfl, rfl⟩
      go_wp2_with fail
      refine (G8 _ (alloc_below _ _)).mono ?_
      rintro e w1 ⟨rfl, rfl⟩
      go_wp2_with fail
      refine (G12 _ (alloc_below _ _)).mono ?_
      rintro e w1 ⟨rfl, rfl⟩
      go_wp2_with fail
      refine (SM _ (alloc_below _ _)).mono ?_
      rintro e w1 ⟨rfl, rfl⟩
      go_wp2_with fail
      refine (G2 _ (alloc_below _ _)).mono ?_
      rintro e w1 ⟨rfl, rfl⟩
      go_wp2_with fail
      exact bodyPost_ret (v := .tuple #[.agg #[.int .i64 0, .int .i64 0, .slice none 0 0, .slice none 0 0], .int .i64 23]) (by simp [results, Tryd.results14, go_sem]) rfl ⟨_, rfl, PageOut.nil _ _ _, alloc_below _ _⟩
    have g3 : decide ((n5 : Int) < 1) = false := decide_eq_false (by omega)
    have g4 : decide ((2147483647 : Int) < (n5 : Int)) = true := by simp; omega
    go_enter Tryd.func14, Tryd.ntmps14
    go_wp2_with fail
    refine (RZ _ (alloc_below _ _)).mono ?_
    rintro e w1 ⟨rfl, rfl⟩
    go_wp2_with fail
    refine (G4 _ (alloc_below _ _)).mono ?_
    rintro e w1 ⟨rfl, rfl⟩
    go_wp2_with fail
    refine (G8 _ (alloc_below _ _)).mono ?_
    rintro e w1 ⟨rfl, rfl⟩
    go_wp2_with fail
    refine (G12 _ (alloc_below _ _)).mono ?_
    rintro e w1 ⟨rfl, rfl⟩
    go_wp2_with fail
    refine (SM _ (alloc_below _ _)).mono ?_
    rintro e w1 ⟨rfl, rfl⟩
    go_wp2_with fail
    refine (G2 _ (alloc_below _ _)).mono ?_
    rintro e w1 ⟨rfl, rfl⟩
    go_wp2_with fail
    exact bodyPost_ret (v := .tuple #[.agg #[.int .i64 0, .int .i64 0, .slice none 0 0, .slice none 0 0], .int .i64 23]) (by simp [results, Tryd.results14, go_sem]) rfl ⟨_, rfl, PageOut.nil _ _ _, alloc_below _ _⟩
end Go.Proofs.YtakjpljpdlhicabDoor
