import Derived.Test.YtgpmghdoofcpaaaGreatLgA
import Derived.Test.YtgpmghdoofcpaaaGreatG20
import Derived.Deep.DeepCutAuto
namespace Go.Proofs.YtgpmghdoofcpaaaGreat.Lg
open Go.RowKit Go.QK
open Dv (hide bnext alloc_below load_arr store_arr slice_arr wp_load_arr wp_store_arr neq_arr info91 bring bring_lt)

set_option maxRecDepth 100000 in
theorem bring_any (x : Int) (n : Nat) (w : World) (h1 : 1 ≤ n) (h2 : n ≤ 1000000000) :
    Calls Tryz.prog 21 #[.int .i64 x, .int .i64 (n : Int)] w fun e w' => e = .returned (.int .i64 ((bring x n : Nat) : Int)) ∧ w' = w := by
  have hb := bring_lt x n h1
  have hn0 : ¬ ((n : Int) = 0) := by omega
  have e0 := Int.emod_nonneg x hn0
  have e1 := Int.emod_lt_of_pos x (show (0 : Int) < n by omega)
  have hbe : ((bring x n : Nat) : Int) = x % n := by unfold bring; omega
  have ht : x.tmod n = if 0 ≤ x ∨ x % n = 0 then x % n else x % n - n := by
    rw [Int.tmod_eq_emod]
    by_cases q : 0 ≤ x
    · rw [if_pos (Or.inl q), if_pos (Or.inl q)]; omega
    · by_cases r : x % n = 0
      · rw [if_pos (Or.inr (Int.dvd_of_emod_eq_zero r)), if_pos (Or.inr r)]; omega
      · rw [if_neg (by rintro (a | a); exact q a; exact r (Int.emod_eq_zero_of_dvd a)), if_neg (by rintro (a | a); exact q a; exact r a)]
        omega
  by_cases c : 0 ≤ x ∨ x % n = 0
  · rw [if_pos c] at ht
    rw [← hbe] at ht
    have g : ¬ (((bring x n : Nat) : Int) < 0) := by omega
    generalize bring x n = r at *
    clear hbe e0 e1 c
    go_enter Tryz.func21, Tryz.ntmps21
    go_wp2_with fail
    go_ret
    exact ⟨rfl, rfl⟩
  · rw [if_neg c] at ht
    rw [← hbe] at ht e0 e1
    have g : ((bring x n : Nat) : Int) - n < 0 := by omega
    generalize bring x n = r at *
    clear hbe c
    go_enter Tryz.func21, Tryz.ntmps21
    go_wp2_with fail
    go_ret
    refine ⟨?_, rfl⟩
    simp
    try omega
/-- Whatever comes, it is brought between. -/
theorem brought_lit (x : Int) (n : Nat) (ni : Int) (hni : ni = (n : Int)) (w : World) (h1 : 1 ≤ n) (h2 : n ≤ 1000000000) :
    Calls Tryz.prog 21 #[.int .i64 x, .int .i64 ni] w fun e w' => ∃ y : Nat, e = .returned (.int .i64 (y : Int)) ∧ y < n ∧ w' = w := by
  subst hni
  refine (bring_any x n w h1 h2).mono ?_
  rintro e w' ⟨rfl, rfl⟩
  exact ⟨_, rfl, bring_lt x n h1, rfl⟩
set_option maxRecDepth 100000 in
set_option maxHeartbeats 1000000 in
theorem dot_any (p i : Int) (n : Nat) (ni : Int) (hni : ni = (n : Int)) (w : World) (h1 : 1 ≤ n) (h2 : n ≤ 1000) :
    Calls Tryz.prog 48 #[.agg #[.int .i64 p, .int .i64 i], .int .i64 ni] w fun e w' => ∃ a b : Nat, e = .returned (.agg #[.int .i64 (a : Int), .int .i64 (b : Int)]) ∧ a < 64 ∧ b < n ∧ Below w.heap.size w w' := by
  subst hni
  obtain ⟨w2, hw2⟩ : ∃ w2, w2 = (w.alloc (.cells #[.int .i64 p, .int .i64 i] 34)).alloc (.cells #[.int .i64 0, .int .i64 0] 34) := ⟨_, rfl⟩
  have b2 : Below w.heap.size w w2 := by rw [hw2]; exact ((Below.refl _ w).alloc (Nat.le_refl _) _).alloc (by simp) _
  have c2 : Cells w2 w.heap.size [.int .i64 p, .int .i64 i] := by rw [hw2]; exact (Cells.new w #[.int .i64 p, .int .i64 i] 34).below (alloc_below _ _)
  have c4 : Cells w2 (w.heap.size + 1) [.int .i64 0, .int .i64 0] := by
    have := Cells.new (w.alloc (.cells #[.int .i64 p, .int .i64 i] 34)) #[.int .i64 0, .int .i64 0] 34
    rw [World.size_alloc] at this
    rw [hw2]; exact this
  have z2 : w2.heap.size = w.heap.size + 2 := by rw [hw2]; simp
  have K1 := fun w => brought_lit p 64 64 rfl w (by decide) (by decide)
  have K2 := fun w => brought_lit i n (n : Int) rfl w h1 (by omega)
  have HW := hide hw2
  have FX := hide (show w2.cell? ⟨w.heap.size, 0, none⟩ = some (.int .i64 p) ∧ w2.cell? ⟨w.heap.size, 1, none⟩ = some (.int .i64 i) from ⟨(c2.get 0 _ rfl).1, (c2.get 1 _ rfl).1⟩)
  have C4 := hide c4.drew
  have B2 := hide (show Below w.heap.size w w2.drew from b2.drew)
  clear hw2 c2 c4 b2
  go_enter Tryz.func48, Tryz.ntmps48
  go_upto_region 1 with fail
  rw [← HW.out]
  refine wp_region_held_drew (S := fun wq => wq.cell? ⟨w.heap.size, 0, none⟩ = some (.int .i64 p) ∧ wq.cell? ⟨w.heap.size, 1, none⟩ = some (.int .i64 i)) (by kernel_rfl) FX.out (fun hS => ?_)
  have z2 : w2.drew.heap.size = w.heap.size + 2 := z2
  generalize w2.drew = w3 at *
  clear FX HW
  refine take_at 0 (some 5) (v := ?_) rfl rfl (by kernel_rfl) (by kernel_rfl) (by kernel_rfl) (fun _ _ _ h => h) ⟨by rfl, ?_⟩ hS ?_
  rotate_left
  · intro wq hSw; go_simp; try rfl
  simp only [Act.put, List.setIfInBounds_toArray, List.set_cons_zero, List.set_cons_succ]
  refine take_at 1 (some 6) (v := ?_) rfl rfl (by kernel_rfl) (by kernel_rfl) (by kernel_rfl) (fun _ _ _ h => h) ⟨by rfl, ?_⟩ hS ?_
  rotate_left
  · intro wq hSw; obtain ⟨y0, y1⟩ := hSw; go_simp; try rfl
  simp only [Act.put, List.setIfInBounds_toArray, List.set_cons_zero, List.set_cons_succ]
  refine take_at 3 (some 8) (v := ?_) rfl rfl (by kernel_rfl) (by kernel_rfl) (by kernel_rfl) (fun _ _ _ h => h) ⟨by rfl, ?_⟩ hS ?_
  rotate_left
  · intro wq hSw; go_simp; try rfl
  simp only [Act.put, List.setIfInBounds_toArray, List.set_cons_zero, List.set_cons_succ]
  refine take_at 4 (some 9) (v := ?_) rfl rfl (by kernel_rfl) (by kernel_rfl) (by kernel_rfl) (fun _ _ _ h => h) ⟨by rfl, ?_⟩ hS ?_
  rotate_left
  · intro wq hSw; obtain ⟨y0, y1⟩ := hSw; go_simp; try rfl
  simp only [Act.put, List.setIfInBounds_toArray, List.set_cons_zero, List.set_cons_succ]
  refine take_at 5 (some 10) (v := ?_) rfl rfl (by kernel_rfl) (by kernel_rfl) (by kernel_rfl) (fun _ _ _ h => h) ⟨by rfl, ?_⟩ hS ?_
  rotate_left
  · intro wq hSw; go_simp; try rfl
  simp only [Act.put, List.setIfInBounds_toArray, List.set_cons_zero, List.set_cons_succ]
  refine wpAnyH_ready (rs := [2]) (by kernel_rfl) (by simp) ?_
  refine AllReadyH.cons rfl (fun K hK => ?_) AllReadyH.nil
  go_simp
  go_wp2_with fail
  refine (K1 _).mono ?_
  rintro e w4 ⟨a, rfl, ha, rfl⟩
  go_wp2_with fail
  refine hK.out _ _ hS (fun hS => ?_)
  clear hK K
  (try simp only [Act.put, List.setIfInBounds_toArray, List.set_cons_zero, List.set_cons_succ])
  refine wpAnyH_ready (rs := [6]) (by kernel_rfl) (by simp) ?_
  refine AllReadyH.cons rfl (fun K hK => ?_) AllReadyH.nil
  go_simp
  go_wp2_with fail
  refine (K2 _).mono ?_
  rintro e w5 ⟨b, rfl, hb, rfl⟩
  go_wp2_with fail
  refine hK.out _ _ hS (fun hS => ?_)
  clear hK K
  (try simp only [Act.put, List.setIfInBounds_toArray, List.set_cons_zero, List.set_cons_succ])
  refine take_at 7 (some 12) (v := ?_) rfl rfl (by kernel_rfl) (by kernel_rfl) (by kernel_rfl) (fun _ _ _ h => h) ⟨by rfl, ?_⟩ hS ?_
  rotate_left
  · intro wq hSw; go_simp; try rfl
  simp only [Act.put, List.setIfInBounds_toArray, List.set_cons_zero, List.set_cons_succ]
  obtain ⟨g0, f0⟩ := C4.out.get 0 _ rfl
  obtain ⟨g1, f1⟩ := C4.out.get 1 _ rfl
  have hS6 := hide (show ((w5.setCell ⟨w.heap.size + 1, 0, none⟩ (.int .i64 (a : Int))).setCell ⟨w.heap.size + 1, 1, none⟩ (.int .i64 (b : Int))).cell? ⟨w.heap.size, 0, none⟩ = some (.int .i64 p) ∧ ((w5.setCell ⟨w.heap.size + 1, 0, none⟩ (.int .i64 (a : Int))).setCell ⟨w.heap.size + 1, 1, none⟩ (.int .i64 (b : Int))).cell? ⟨w.heap.size, 1, none⟩ = some (.int .i64 i) by
    obtain ⟨y0, y1⟩ := hS
    simp [go_sem, y0, y1])
  have C6 := ((C4.out.stored (j := 0) (by simp) (.int .i64 (a : Int))).stored (j := 1) (by simp) (.int .i64 (b : Int)))
  obtain ⟨k0, _⟩ := C6.get 0 _ rfl
  obtain ⟨k1, _⟩ := C6.get 1 _ rfl
  have BF := hide (B2.out.trans ((((Keep.refl (fun k => k = w.heap.size + 1) w5).setCell (g := w.heap.size + 1) (j := 0) (fun _ => rfl) (.int .i64 (a : Int))).setCell (g := w.heap.size + 1) (j := 1) (fun _ => rfl) (.int .i64 (b : Int))).below (by omega) (fun k hk q => by omega)))
  refine wpAnyH_ready (rs := [8]) (by kernel_rfl) (by simp) ?_
  refine AllReadyH.cons rfl (fun K hK => ?_) AllReadyH.nil
  go_simp
  go_wp2_with fail
  refine hK.out _ _ hS6.out (fun hS => ?_)
  clear hK K
  refine wpAnyH_done (by kernel_rfl) ?_ _
  go_wp2_with fail
  refine bodyPost_ret (v := .agg #[.int .i64 (a : Int), .int .i64 (b : Int)]) (by simp only [results, Tryz.results48]; simp [go_sem, k0, k1]) rfl ?_
  exact ⟨a, b, rfl, ha, hb, BF.out⟩
end Go.Proofs.YtgpmghdoofcpaaaGreat.Lg

namespace Go.Proofs.YtgpmghdoofcpaaaGreat.Lg
open Go.RowKit Go.QK
open Dv (hide bnext alloc_below bring bring_lt)
set_option maxRecDepth 100000

/-! A fresh disk. -/
theorem new_content (n i : Nat) (hi : i < n) : (Dev.new n).content i = zerosB := by
  show contentOf _ i [] = _
  unfold contentOf
  show sector (List.replicate (512 * n) 0) i = zerosB
  unfold sector zerosB
  rw [List.drop_replicate, List.take_replicate, Nat.min_eq_left (by omega)]
theorem zeros_no (s : Nat) : isRec s zerosB = false := isRec_size (by
  have e : szB zerosB = 0 := by decide +kernel
  omega)
theorem wipeM_zeros (first : Nat) (g : Dev) (q : Bool) : (k s : Nat) → (∀ i, s ≤ i → i < s + k → g.content (first + i - 1) = zerosB) → wipeM first k s g q = (g, q, 0)
  | 0, s, _ => rfl
  | k + 1, s, h => by
    rw [wipeM, if_pos (h s (Nat.le_refl _) (by omega))]
    exact wipeM_zeros first g q k (s + 1) (fun i h1 h2 => h i (by omega) (by omega))
theorem open_new (n f c : Nat) (h1 : 1 ≤ f) (h2 : f + c ≤ n) (hc : 1 ≤ c) : openE (Dev.new n) f c = 0 ∧ openR (Dev.new n) f c = [] ∧ openD (Dev.new n) f c = Dev.new n := by
  have e1 : settleE (Dev.new n) = 0 := rfl
  have e2 : settleD (Dev.new n) = Dev.new n := rfl
  have e3 : fnd (Dev.new n) f c = ([], 0) := by
    unfold fnd
    obtain ⟨k, rfl⟩ : ∃ k, c = k + 1 := ⟨c - 1, by omega⟩
    exact findM_no (by rw [new_content n _ (by omega)]; exact zeros_no 1)
  have e4 : wiped (Dev.new n) f c 0 = (Dev.new n, false, 0) := by
    unfold wiped
    exact wipeM_zeros f _ false _ _ (fun i h3 h4 => new_content n _ (by omega))
  refine ⟨?_, ?_, ?_⟩
  · unfold openE
    rw [e1, if_neg (by simp), e2, e3, if_neg (by simp)]
    show wipeE (Dev.new n) f c 0 = 0
    unfold wipeE
    rw [e4]
    rfl
  · unfold openR
    rw [e2, e3]
  · unfold openD
    rw [e1, if_neg (by simp), e2, e3, if_neg (by simp)]
    show wipeD (Dev.new n) f c 0 = _
    unfold wipeD
    rw [e4]
    rfl

/-! A life. -/
def lifeN (c : Int) : Nat := 1 + bring c 40
theorem lifeN_in (c : Int) : 1 ≤ lifeN c ∧ lifeN c ≤ 40 := by
  have := bring_lt c 40 (by decide)
  unfold lifeN
  omega
set_option maxHeartbeats 1000000 in
theorem size_life (c : Int) (rv fv : Value) (w : World) : Calls Tryz.prog 27 #[.agg #[.int .i64 c, rv, fv]] w fun e w' => e = .returned (.int .i64 ((lifeN c : Nat) : Int)) ∧ Below w.heap.size w w' := by
  have K := fun w => bring_any c 40 w (by decide) (by decide)
  have hb := bring_lt c 40 (by decide)
  unfold lifeN
  generalize bring c 40 = b at *
  go_enter Tryz.func27, Tryz.ntmps27
  go_wp2_with fail
  refine (K _).mono ?_
  rintro e w1 ⟨rfl, rfl⟩
  go_wp2_with fail
  go_ret
  refine ⟨?_, alloc_below _ _⟩
  simp
  try omega
set_option maxHeartbeats 2000000 in
theorem opened_any (c : Int) (ra fa : Option Addr) (rn rc fn fc : Nat) (w : World) :
    Calls Tryz.prog 8 #[.agg #[.int .i64 c, .slice ra rn rc, .slice fa fn fc]] w fun e w' => ∃ S T l d, e = .returned (.tuple #[.pointer (some ⟨d, 0, none⟩), .pointer (some ⟨l, 0, none⟩)]) ∧ LV w.heap.size w w' S T l d (Dev.new (lifeN c + 3)) ⟨2, lifeN c, [], 0, false⟩ := by
  obtain ⟨w1, hw1⟩ : ∃ w1, w1 = w.alloc (.cells #[.int .i64 c, .slice ra rn rc, .slice fa fn fc] 25) := ⟨_, rfl⟩
  have b1 : Below w.heap.size w w1 := by rw [hw1]; exact alloc_below _ _
  have c1 : Cells w1 w.heap.size [.int .i64 c, .slice ra rn rc, .slice fa fn fc] := by rw [hw1]; exact Cells.new w #[.int .i64 c, .slice ra rn rc, .slice fa fn fc] 25
  have KS := fun w => size_life c (.slice ra rn rc) (.slice fa fn fc) w
  obtain ⟨h1, h2⟩ := lifeN_in c
  obtain ⟨o1, o2, o3⟩ := open_new (lifeN c + 3) 2 (lifeN c) (by decide) (by omega) h1
  have HO1 := hide o1
  have HO2 := hide o2
  have HO3 := hide o3
  obtain ⟨x0, _⟩ := c1.get 0 _ rfl
  obtain ⟨x1, _⟩ := c1.get 1 _ rfl
  obtain ⟨x2, _⟩ := c1.get 2 _ rfl
  have HW := hide hw1
  have C1 := hide c1
  have B1 := hide b1
  clear hw1 b1 c1 o1 o2 o3
  generalize lifeN c = sz at *
  go_enter Tryz.func8, Tryz.ntmps8
  go_upto_region 1 with fail
  rw [← HW.out]
  clear HW
  go_wp2_with fail
  refine (KS _).mono ?_
  rintro e w2 ⟨rfl, b2⟩
  have C2 := hide (C1.out.below b2)
  have B2 := hide (bnext B1.out b2 (Nat.le_refl _))
  have en : (2 : Int) + (sz : Int) + 1 = ((sz + 3 : Nat) : Int) := by omega
  have KN := hide (Dv.new_ok (sz + 3) w2 (by omega) (by omega))
  rw [← en] at KN
  clear C1 B1 x0 x1 x2 b2 en
  go_wp2_with fail
  refine KN.out.mono ?_
  rintro e w3 ⟨d, S, rfl, D3, f3, b3⟩
  have C3 := hide (C2.out.below b3)
  have B3 := hide (bnext B2.out b3 (Nat.le_refl _))
  have F3 := hide (show ∀ b, S b → w.heap.size ≤ b from fun b hb => Nat.le_trans B2.out.size (f3 b hb))
  have P3 := hide D3
  clear KN C2 B2 D3 f3 b3
  go_wp2_with fail
  refine (num_any 0 w3).mono ?_
  rintro e w4 ⟨rfl, rfl⟩
  obtain ⟨x0, _⟩ := C3.out.get 0 _ rfl
  obtain ⟨x1, _⟩ := C3.out.get 1 _ rfl
  obtain ⟨x2, _⟩ := C3.out.get 2 _ rfl
  go_wp2_with fail
  refine (KS _).mono ?_
  rintro e w5 ⟨rfl, b5⟩
  have hn : (Dev.new (sz + 3)).n = sz + 3 := by
    show (List.replicate (512 * (sz + 3)) 0).length / 512 = _
    rw [List.length_replicate]
    omega
  have KO := hide (open_any (P3.out.below b5) 2 sz h1 (by rw [hn]; omega) (by show ([] : List (Nat × List Nat)).length ≤ _; simp) (by show 0 ≤ _; omega))
  have B5 := hide (bnext B3.out b5 (Nat.le_refl _))
  clear C3 B3 P3 x0 x1 x2 b5 hn
  go_wp2_with fail
  refine KO.out.mono ?_
  rintro e w6 ⟨S6, p6, k6, n6, h6⟩
  rcases h6 with ⟨he, l, T6, rfl, ld6, hl6, hT6⟩ | ⟨he, _⟩
  · rw [HO2.out, HO3.out] at ld6
    have L6 := hide (LV.open_ (B := w.heap.size) (w0 := w) B5.out (Nat.le_refl _) F3.out ld6 k6 n6 hl6 hT6)
    clear KO p6 k6 n6 he ld6 hl6 hT6
    go_wp2_with fail
    exact bodyPost_ret (v := .tuple #[.pointer (some ⟨d, 0, none⟩), .pointer (some ⟨l, 0, none⟩)]) (by simp [results, Tryz.results8]) rfl ⟨S6, T6, l, d, rfl, L6.out⟩
  · exact absurd HO1.out he
end Go.Proofs.YtgpmghdoofcpaaaGreat.Lg

namespace Go.Proofs.YtgpmghdoofcpaaaGreat.Lg
open Go.RowKit Go.QK
open Dv (hide bnext alloc_below bring bring_lt)
set_option maxRecDepth 100000

/-- Whole numbers as cells. -/
def intCs (l : List Int) : List Value := l.map (.int .i64)
theorem intCs_get (l : List Int) (k : Nat) (hk : k < l.length) : (intCs l)[k]? = some (.int .i64 l[k]) := by
  unfold intCs
  rw [List.getElem?_map, List.getElem?_eq_getElem hk]
  rfl
set_option maxHeartbeats 2000000 in
theorem forces_any (c : Int) (rv : Value) (fl : List Int) (fa : Option Addr) (fc : Nat) (n : Nat) (w : World) (hl : Lies w fa (intCs fl)) (h1 : 1 ≤ n) (h2 : n ≤ 1000) :
    Calls Tryz.prog 52 #[.agg #[.int .i64 c, rv, .slice fa fl.length fc], .int .i64 (n : Int)] w fun e w' => ∃ k : Nat, e = .returned (.int .i64 (k : Int)) ∧ k ≤ n ∧ Below w.heap.size w w' := by
  obtain ⟨w1, hw1⟩ : ∃ w1, w1 = w.alloc (.cells #[.int .i64 c, rv, .slice fa fl.length fc] 25) := ⟨_, rfl⟩
  have b1 : Below w.heap.size w w1 := by rw [hw1]; exact alloc_below _ _
  have c1 : Cells w1 w.heap.size [.int .i64 c, rv, .slice fa fl.length fc] := by rw [hw1]; exact Cells.new w #[.int .i64 c, rv, .slice fa fl.length fc] 25
  obtain ⟨x2, _⟩ := c1.get 2 _ rfl
  have HL := hide (hl.below b1)
  have HW := hide hw1
  have B1 := hide b1
  clear hl hw1 b1 c1
  go_enter Tryz.func52, Tryz.ntmps52
  go_upto_region 1 with fail
  rw [← HW.out]
  clear HW
  by_cases hn : fl.length < n
  · have hg : decide ((fl.length : Int) < (n : Int)) = true := by simp; omega
    go_wp2_with fail
    go_ret
    exact ⟨0, rfl, by omega, B1.out⟩
  · have hg : decide ((fl.length : Int) < (n : Int)) = false := by simp; omega
    obtain ⟨j, hj⟩ : ∃ j, n = j + 1 := ⟨n - 1, by omega⟩
    have hjl : j < fl.length := by omega
    obtain ⟨b, off, rfl, hb, hcell⟩ := HL.out.cellAt j _ (intCs_get fl j hjl)
    have ej : (n : Int) - 1 = (j : Int) := by omega
    have ewr : IntKind.i64.wrap ((n : Int) - 1) = (j : Int) := by rw [IntKind.wrap_i64]; omega
    generalize fl[j] = y at *
    have hjn : Hid (n = j + 1) := hj
    clear hj
    go_wp2_with fail
    refine (brought_lit y 4 4 rfl _ (by decide) (by decide)).mono ?_
    rintro e w' ⟨q, rfl, hq, hw⟩
    obtain rfl : w1 = w' := hw.symm
    have hq4 : q = 0 ∨ q = 1 ∨ q = 2 ∨ q = 3 := by omega
    rcases hq4 with rfl | rfl | rfl | rfl
    · go_wp2_with fail
      go_ret
      exact ⟨n, rfl, by omega, B1.out⟩
    · go_wp2_with fail
      go_ret
      exact ⟨j, by simp, by have := hjn.out; omega, B1.out⟩
    · go_wp2_with fail
      go_ret
      exact ⟨0, rfl, by omega, B1.out⟩
    · go_wp2_with fail
      go_ret
      exact ⟨0, rfl, by omega, B1.out⟩
end Go.Proofs.YtgpmghdoofcpaaaGreat.Lg
