import Derived.Test.YtakjpljpdlhicaaDoorPg16
namespace Go.Proofs.YtakjpljpdlhicaaDoor
open Go.RowKit Go.QK Go.Pg
set_option maxRecDepth 100000
set_option maxHeartbeats 16000000 in
theorem decode_rest1 (a : Option Addr) (c n0 n1 n2 n3 n4 n5 n6 : Nat) (l : List Nat) (number : Int) (w : World) (hs : Bytes w a l) (hb : AllB l) (ht : Tab w) (hn : ¬ (number < 0 ∨ 63 < number)) (hl : l.length = 1024) (hc : 1024 ≤ c) (hz : allZ l = false) (hh : takeN headS l = [n0, n1, n2, n3, n4, n5, n6]) (hk : n1 = 1) (he : headE [n0, n1, n2, n3, n4, n5, n6] number (psum l) = 0) :
    Calls Tryd.prog 10 #[.slice a 1024 c, .int .i64 number] w fun e w' => ∃ v, e = .returned (.tuple #[v, .int .i64 (decE l number)]) ∧ PageOut w' w.heap.size v (decP l number) ∧ Below w.heap.size w w' := by
  obtain ⟨j0, j1, j6, j2, j3, j3b, j5, j5b⟩ := headE_all he
  have jn : number ≤ 63 := by omega
  have j3c : n3 ≤ 31 := by rw [hk] at j3b; simpa using j3b
  obtain ⟨R, hR⟩ : ∃ R, R = l.drop 16 := ⟨_, rfl⟩
  have hRl : R.length = 1008 := by rw [hR, List.length_drop, hl]
  have hRb : AllB R := by rw [hR]; exact hb.drop 16
  obtain ⟨TL, hTL⟩ : ∃ TL, TL = R.drop (32 * n3) := ⟨_, rfl⟩
  have hTb : AllB TL := by rw [hTL]; exact hRb.drop _
  have hTl : TL.length ≤ 1000000 := by rw [hTL, List.length_drop, hRl]; omega
  obtain ⟨SE, hSE⟩ : ∃ e, e = slotsE (readC n3 R) [] := ⟨_, rfl⟩
  obtain ⟨RE, hRE⟩ : ∃ e, e = decE l number := ⟨_, rfl⟩
  obtain ⟨PP, hPP⟩ : ∃ e, e = decP l number := ⟨_, rfl⟩
  have hpo : pageOf [n0, n1, n2, n3, n4, n5, n6] (l.drop 16) = ⟨(n2 : Int), (n5 : Int), readC n3 R, []⟩ := by rw [← hR]; simp [pageOf, hk]
  have hen : endOf [n0, n1, n2, n3, n4, n5, n6] = 32 * n3 := by simp [endOf, hk]
  have hRE2 : RE = if SE ≠ 0 then SE else if n4 ≠ 0 ∨ allZ TL = false then 23 else 0 := by
    rw [hRE, decE_head hn hl hz hh, if_neg (by simp [he]), hpo, hen, ← hR, ← hTL, hSE]
  have hPP1 : RE ≠ 0 → PP = zeroP := by intro q; rw [hPP]; unfold decP; rw [← hRE, if_pos q]
  have hPP0 : RE = 0 → PP = ⟨(n2 : Int), (n5 : Int), readC n3 R, []⟩ := by intro q; rw [hPP]; unfold decP; rw [← hRE, q, if_neg (by simp), hz, if_neg (by simp), hh, hpo]
  rw [← hRE, ← hPP]
  have hfitc : PageM.Fit ⟨(n2 : Int), (n5 : Int), readC n3 R, []⟩ := ⟨⟨by simp, by simp; omega⟩, ⟨by simp, by simp; omega⟩, readC_fit n3 R hRb (by omega), by simp⟩
  have CS := fun (av : Option Addr) (cv : Nat) w' (h : Lies w' av (ctrsC (readC n3 R))) => checkSlots_any ⟨(n2 : Int), (n5 : Int), readC n3 R, []⟩ ⟨av, cv, none, 0⟩ w' ⟨h, .inl rfl, hfitc⟩ (by simp [readC_length]; omega) (by simp)
  simp only [pageV, readC_length, List.length_nil, ← hSE] at CS
  have F0 := inRange hn
  have AZ := fun w' (b : Below w.heap.size w w') => allZeros_any a c l w' (hs.below b) hb (by omega)
  have RH := fun w' (b : Below w.heap.size w w') => readHead_any a c n0 n1 n2 n3 n4 n5 n6 l w' (hs.below b) hb hl hc hh
  have SM := fun w' (b : Below w.heap.size w w') => sumOf_any a c l w' (hs.below b) hb hl hc (ht.below b)
  have hps := psum_lt hb
  obtain ⟨nn, rfl⟩ : ∃ nn : Nat, number = (nn : Int) := ⟨number.toNat, by omega⟩
  have CH := fun w => checkHead_any n0 n1 n2 n3 n4 n5 n6 nn (psum l) w (by omega) hps
  rw [hz] at AZ
  rw [hl] at AZ RH
  obtain ⟨HE, hHE⟩ : ∃ e, e = headE [n0, n1, n2, n3, n4, n5, n6] (nn : Int) (psum l) := ⟨_, rfl⟩
  rw [← hHE] at CH
  simp only [← hR, hRl] at RH
  have RPG := fun (a3 : Option Addr) w' (h : Bytes w' a3 R) => readPage1_any a3 (c - 16) n0 n2 n3 n4 n5 n6 R w' h hRb hRl (by omega) (by omega) j3c (by omega)
  simp only [hRl, ← hTL] at RPG
  have AT := fun (a4 : Option Addr) (c4 : Nat) w' (h : Bytes w' a4 TL) => allZeros_any a4 c4 TL w' h hTb hTl
  have hHE0 : HE = 0 := by rw [hHE]; exact he
  subst hHE0
  have HRE := hide hRE2
  have HPP1 := hide hPP1
  have HPP0 := hide hPP0
  have HRR := hide (show Bytes w a l from hs)
  have HHH : Hid (0 = 0) := hide rfl
  subst hk
  clear hRE2 hPP1 hPP0 hRE hPP hpo hen hSE hTL hTb hTl hR hRl hRb hHE he hps hn hh hb ht hl hz hfitc j0 j1 j6 j2 j3 j3b j3c j5 j5b jn hs
  generalize allZ TL = az at *
  go_enter Tryd.func10, Tryd.ntmps10
  go_wp2_with fail
  refine (F0 _).mono ?_
  rintro e w1 ⟨rfl, rfl⟩
  go_wp2_with fail
  refine (AZ _ (alloc_below _ _)).mono ?_
  rintro e w1 ⟨rfl, rfl⟩
  go_wp2_with fail
  refine (RH _ (alloc_below _ _)).mono ?_
  rintro e w3 ⟨a3, rfl, hb3, b3⟩
  have c3 : Cells w3 w.heap.size [.int .i64 0, .int .i64 0, .slice none 0 0, .slice none 0 0] := (Cells.new w #[.int .i64 0, .int .i64 0, .slice none 0 0, .slice none 0 0] 27).below b3
  have z3 := b3.size
  have bw3 := bnext (alloc_below _ _) b3 (Nat.le_refl _)
  obtain ⟨w4, hw4⟩ : ∃ w4, w4 = w3.alloc (.cells #[.int .u64 (n0 : Int), .int .u64 1, .int .u64 (n2 : Int), .int .u64 (n3 : Int), .int .u64 (n4 : Int), .int .u64 (n5 : Int), .int .u64 (n6 : Int)] 65) := ⟨_, rfl⟩
  have b4 : Below w3.heap.size w3 w4 := by rw [hw4]; exact alloc_below _ _
  have h4 : Cells w4 w3.heap.size [.int .u64 (n0 : Int), .int .u64 1, .int .u64 (n2 : Int), .int .u64 (n3 : Int), .int .u64 (n4 : Int), .int .u64 (n5 : Int), .int .u64 (n6 : Int)] := by rw [hw4]; exact Cells.new w3 _ _
  have HW4 := hide hw4
  have C4 := hide ((c3.below b4).drew)
  have H4 := hide h4.drew
  have BW4 := hide ((bnext bw3 b4 (Nat.le_refl _)).drew)
  have HB3 := hide hb3
  obtain ⟨G, hG⟩ : ∃ G, G = w3.heap.size := ⟨_, rfl⟩
  rw [← hG] at H4 h4
  have HG := hide hG
  have ZG := hide (show w.heap.size < G by rw [hG]; simp at z3; omega)
  have FX := hide (show w4.cell? ⟨G, 0, none⟩ = some (.int .u64 (n0 : Int)) ∧ w4.cell? ⟨G, 1, none⟩ = some (.int .u64 1) ∧ w4.cell? ⟨G, 2, none⟩ = some (.int .u64 (n2 : Int)) ∧ w4.cell? ⟨G, 3, none⟩ = some (.int .u64 (n3 : Int)) ∧ w4.cell? ⟨G, 4, none⟩ = some (.int .u64 (n4 : Int)) ∧ w4.cell? ⟨G, 5, none⟩ = some (.int .u64 (n5 : Int)) ∧ w4.cell? ⟨G, 6, none⟩ = some (.int .u64 (n6 : Int)) from ⟨(h4.get 0 _ rfl).1, (h4.get 1 _ rfl).1, (h4.get 2 _ rfl).1, (h4.get 3 _ rfl).1, (h4.get 4 _ rfl).1, (h4.get 5 _ rfl).1, (h4.get 6 _ rfl).1⟩)
  clear hw4 h4 b4 bw3 z3 c3 b3 hb3 hG
  go_upto_region 8 with fail
  rw [← HW4.out, ← HG.out]
  refine wp_region_held_drew (S := fun wq => wq.cell? ⟨G, 0, none⟩ = some (.int .u64 (n0 : Int)) ∧ wq.cell? ⟨G, 1, none⟩ = some (.int .u64 1) ∧ wq.cell? ⟨G, 2, none⟩ = some (.int .u64 (n2 : Int)) ∧ wq.cell? ⟨G, 3, none⟩ = some (.int .u64 (n3 : Int)) ∧ wq.cell? ⟨G, 4, none⟩ = some (.int .u64 (n4 : Int)) ∧ wq.cell? ⟨G, 5, none⟩ = some (.int .u64 (n5 : Int)) ∧ wq.cell? ⟨G, 6, none⟩ = some (.int .u64 (n6 : Int))) (by kernel_rfl) FX.out (fun hS => ?_)
  generalize w4.drew = w5 at *
  clear FX HW4 HG
  refine take_at 1 (some 32) (v := ?_) rfl rfl (by kernel_rfl) (by kernel_rfl) (by kernel_rfl) (fun _ _ _ h => h) ⟨by rfl, ?_⟩ hS ?_
  rotate_left
  · intro wq hSw; go_simp; try rfl
  simp only [Act.put, List.setIfInBounds_toArray, List.set_cons_zero, List.set_cons_succ]
  refine take_at 2 (some 33) (v := ?_) rfl rfl (by kernel_rfl) (by kernel_rfl) (by kernel_rfl) (fun _ _ _ h => h) ⟨by rfl, ?_⟩ hS ?_
  rotate_left
  · intro wq hSw; go_simp; try rfl
  simp only [Act.put, List.setIfInBounds_toArray, List.set_cons_zero, List.set_cons_succ]
  refine take_at 0 (some 31) (v := ?_) rfl rfl (by kernel_rfl) (by kernel_rfl) (by kernel_rfl) (fun _ _ _ h => h) ⟨by rfl, ?_⟩ hS ?_
  rotate_left
  · intro wq hSw; obtain ⟨y0, y1, y2, y3, y4, y5, y6⟩ := hSw; go_simp; try rfl
  simp only [Act.put, List.setIfInBounds_toArray, List.set_cons_zero, List.set_cons_succ]
  refine wpAnyH_ready (rs := [3]) (by kernel_rfl) (by simp) ?_
  refine AllReadyH.cons rfl (fun K hK => ?_) AllReadyH.nil
  go_simp
  go_wp2_with fail
  refine (SM w5 BW4.out).mono ?_
  rintro e w6 ⟨rfl, b6⟩
  have H6 := hide (H4.out.below b6)
  have C6 := hide (C4.out.below b6)
  have BW6 := hide (bnext BW4.out b6 (Nat.le_refl _))
  clear b6
  go_wp2_with fail
  refine hK.out _ _ (⟨(H6.out.get 0 _ rfl).1, (H6.out.get 1 _ rfl).1, (H6.out.get 2 _ rfl).1, (H6.out.get 3 _ rfl).1, (H6.out.get 4 _ rfl).1, (H6.out.get 5 _ rfl).1, (H6.out.get 6 _ rfl).1⟩) (fun hS => ?_)
  clear hK K
  (try simp only [Act.put, List.setIfInBounds_toArray, List.set_cons_zero, List.set_cons_succ])
  refine wpAnyH_ready (rs := [4]) (by kernel_rfl) (by simp) ?_
  refine AllReadyH.cons rfl (fun K hK => ?_) AllReadyH.nil
  go_simp
  go_wp2_with fail
  refine (CH w6).mono ?_
  rintro e w7 ⟨rfl, b7⟩
  have H7 := hide (H6.out.below b7)
  have C7 := hide (C6.out.below b7)
  have BW7 := hide (bnext BW6.out b7 (Nat.le_refl _))
  clear b7
  go_wp2_with fail
  refine hK.out _ _ (⟨(H7.out.get 0 _ rfl).1, (H7.out.get 1 _ rfl).1, (H7.out.get 2 _ rfl).1, (H7.out.get 3 _ rfl).1, (H7.out.get 4 _ rfl).1, (H7.out.get 5 _ rfl).1, (H7.out.get 6 _ rfl).1⟩) (fun hS => ?_)
  clear hK K
  (try simp only [Act.put, List.setIfInBounds_toArray, List.set_cons_zero, List.set_cons_succ])
  refine take_at 5 (some 8) (v := ?_) rfl rfl (by kernel_rfl) (by kernel_rfl) (by kernel_rfl) (fun _ _ _ h => h) ⟨by rfl, ?_⟩ hS ?_
  rotate_left
  · intro wq hSw; go_simp; try rfl
  simp only [Act.put, List.setIfInBounds_toArray, List.set_cons_zero, List.set_cons_succ]
  refine wpAnyH_done (by kernel_rfl) ?_ _
  obtain ⟨q0, xq0⟩ := H7.out.get 0 _ rfl
  obtain ⟨q1, xq1⟩ := H7.out.get 1 _ rfl
  obtain ⟨q2, xq2⟩ := H7.out.get 2 _ rfl
  obtain ⟨q3, xq3⟩ := H7.out.get 3 _ rfl
  obtain ⟨q4, xq4⟩ := H7.out.get 4 _ rfl
  obtain ⟨q5, xq5⟩ := H7.out.get 5 _ rfl
  obtain ⟨q6, xq6⟩ := H7.out.get 6 _ rfl
  go_wp2_with fail
  refine (RPG a3 w7 (HB3.out w7 (HRR.out.below BW7.out))).mono ?_
  rintro e w8 ⟨vv, a8, rfl, hrow, hb8, b8⟩
  obtain ⟨av, cv, rfl, hlie, -, -, -, -⟩ := GRow.lies hrow
  have C8 := C7.out.below b8
  have HD8 := H7.out.below b8
  have bw8 := bnext BW7.out b8 (Nat.le_refl _)
  have hB8 := hb8 w8 (HB3.out w8 (HRR.out.below bw8))
  have z7 := BW7.out.size
  obtain ⟨w9, hw9⟩ : ∃ w9, w9 = w8.alloc (.cells #[.int .i64 (n2 : Int), .int .i64 (n5 : Int), .slice av n3 cv, .slice none 0 0] 27) := ⟨_, rfl⟩
  have b9 : Below w8.heap.size w8 w9 := by rw [hw9]; exact alloc_below _ _
  have p9 : Cells w9 w8.heap.size [.int .i64 (n2 : Int), .int .i64 (n5 : Int), .slice av n3 cv, .slice none 0 0] := by rw [hw9]; exact Cells.new w8 _ _
  have z8 : G < w8.heap.size := HD8.1
  have zw := ZG.out
  have HROWNE := hide (show ¬ (Value.slice av n3 cv).ownBlock = some w.heap.size from fun q => by have := (World.ownsRow.lt hrow _ q).1; omega)
  have ROW9 := hide (GRow.mono (B' := w.heap.size) (hrow.below b9) (by omega))
  have LIE9 := hide (hlie.below b9)
  have C9 := hide (C8.below b9)
  have HD9 := hide (HD8.below b9)
  have BW9 := hide (bnext bw8 b9 (Nat.le_refl _))
  have BY9 := hide (hB8.below b9)
  obtain ⟨P, hP⟩ : ∃ P, P = w8.heap.size := ⟨_, rfl⟩
  rw [← hP] at p9
  have HP := hide hP
  have HW9 := hide hw9
  have P9 := hide p9
  have ZP := hide (show G < P by rw [hP]; exact z8)
  clear hrow hlie C8 HD8 bw8 hB8 b9 p9 z8 zw hP hw9 b8 hb8 z7
  clear q0 xq0
  clear q1 xq1
  clear q2 xq2
  clear q3 xq3
  clear q4 xq4
  clear q5 xq5
  clear q6 xq6
  go_upto_region 12 with fail
  rw [← HW9.out, ← HP.out]
  clear HW9 HP
  obtain ⟨q0, xq0⟩ := P9.out.get 0 _ rfl
  obtain ⟨q1, xq1⟩ := P9.out.get 1 _ rfl
  obtain ⟨q2, xq2⟩ := P9.out.get 2 _ rfl
  obtain ⟨q3, xq3⟩ := P9.out.get 3 _ rfl
  go_wp2_with fail
  refine (CS av cv w9 LIE9.out).mono ?_
  rintro e w10 ⟨rfl, b10⟩
  have C10 := hide (C9.out.below b10)
  have HD10 := hide (HD9.out.below b10)
  have P10 := hide (P9.out.below b10)
  have BW10 := hide (bnext BW9.out b10 (Nat.le_refl _))
  have BY10 := hide (BY9.out.below b10)
  have ROW10 := hide (ROW9.out.below b10)
  clear q0 xq0
  clear q1 xq1
  clear q2 xq2
  clear q3 xq3
  clear b10
  obtain ⟨g0, xg0⟩ := C10.out.get 0 _ rfl
  obtain ⟨g1, xg1⟩ := C10.out.get 1 _ rfl
  obtain ⟨g2, xg2⟩ := C10.out.get 2 _ rfl
  obtain ⟨g3, xg3⟩ := C10.out.get 3 _ rfl
  obtain ⟨q0, xq0⟩ := P10.out.get 0 _ rfl
  obtain ⟨q1, xq1⟩ := P10.out.get 1 _ rfl
  obtain ⟨q2, xq2⟩ := P10.out.get 2 _ rfl
  obtain ⟨q3, xq3⟩ := P10.out.get 3 _ rfl
  obtain ⟨d4, xd4⟩ := HD10.out.get 4 _ rfl
  by_cases hse : SE = 0
  case neg =>
    have hd : (SE != 0) = true := by simp; exact hse
    have HV := hide (show RE = SE from by rw [HRE.out]; rw [if_pos hse])
    have HVP := hide (HPP1.out (by rw [HV.out]; exact hse))
    have K11 := (((((Keep.refl (fun i => i = w.heap.size) w10).setCell (g := w.heap.size) (j := 0) (fun _ => rfl) (.int .i64 0)).setCell (g := w.heap.size) (j := 1) (fun _ => rfl) (.int .i64 0)).setCell (g := w.heap.size) (j := 2) (fun _ => rfl) (.slice none 0 0)).setCell (g := w.heap.size) (j := 3) (fun _ => rfl) (.slice none 0 0))
    have C11 := ((((C10.out.stored (j := 0) (by simp) (.int .i64 0)).stored (j := 1) (by simp) (.int .i64 0)).stored (j := 2) (by simp) (.slice none 0 0)).stored (j := 3) (by simp) (.slice none 0 0))
    obtain ⟨k0, _⟩ := C11.get 0 _ rfl
    obtain ⟨k1, _⟩ := C11.get 1 _ rfl
    obtain ⟨k2, _⟩ := C11.get 2 _ rfl
    obtain ⟨k3, _⟩ := C11.get 3 _ rfl
    have BF := hide (BW10.out.trans (K11.below BW10.out.size (fun i hi q => by omega)))
    clear K11 C11
    go_wp2_with fail
    refine bodyPost_ret (v := .tuple #[.agg #[.int .i64 0, .int .i64 0, .slice none 0 0, .slice none 0 0], .int .i64 SE]) (by simp only [results, Tryd.results10]; simp [go_sem, k0, k1, k2, k3]) rfl ?_
    refine ⟨_, by rw [HV.out], ?_, BF.out⟩
    rw [HVP.out]
    exact PageOut.nil _ _ _
  subst hse
  by_cases hn4 : n4 = 0
  case neg =>
    have hd : ((n4 : Int) != 0) = true := by simp; omega
    have HV := hide (show RE = 23 from by rw [HRE.out]; rw [if_neg (by simp), if_pos (Or.inl hn4)])
    have HVP := hide (HPP1.out (by rw [HV.out]; decide))
    have K11 := (((((Keep.refl (fun i => i = w.heap.size) w10).setCell (g := w.heap.size) (j := 0) (fun _ => rfl) (.int .i64 0)).setCell (g := w.heap.size) (j := 1) (fun _ => rfl) (.int .i64 0)).setCell (g := w.heap.size) (j := 2) (fun _ => rfl) (.slice none 0 0)).setCell (g := w.heap.size) (j := 3) (fun _ => rfl) (.slice none 0 0))
    have C11 := ((((C10.out.stored (j := 0) (by simp) (.int .i64 0)).stored (j := 1) (by simp) (.int .i64 0)).stored (j := 2) (by simp) (.slice none 0 0)).stored (j := 3) (by simp) (.slice none 0 0))
    obtain ⟨k0, _⟩ := C11.get 0 _ rfl
    obtain ⟨k1, _⟩ := C11.get 1 _ rfl
    obtain ⟨k2, _⟩ := C11.get 2 _ rfl
    obtain ⟨k3, _⟩ := C11.get 3 _ rfl
    have BF := hide (BW10.out.trans (K11.below BW10.out.size (fun i hi q => by omega)))
    clear K11 C11
    go_wp2_with fail
    refine bodyPost_ret (v := .tuple #[.agg #[.int .i64 0, .int .i64 0, .slice none 0 0, .slice none 0 0], .int .i64 23]) (by simp only [results, Tryd.results10]; simp [go_sem, k0, k1, k2, k3]) rfl ?_
    refine ⟨_, by rw [HV.out], ?_, BF.out⟩
    rw [HVP.out]
    exact PageOut.nil _ _ _
  subst hn4
  cases az with
  | false =>
    have HV := hide (show RE = 23 from by rw [HRE.out]; simp)
    have HVP := hide (HPP1.out (by rw [HV.out]; decide))
    have K11 := (((((Keep.refl (fun i => i = w.heap.size) w10).setCell (g := w.heap.size) (j := 0) (fun _ => rfl) (.int .i64 0)).setCell (g := w.heap.size) (j := 1) (fun _ => rfl) (.int .i64 0)).setCell (g := w.heap.size) (j := 2) (fun _ => rfl) (.slice none 0 0)).setCell (g := w.heap.size) (j := 3) (fun _ => rfl) (.slice none 0 0))
    have C11 := ((((C10.out.stored (j := 0) (by simp) (.int .i64 0)).stored (j := 1) (by simp) (.int .i64 0)).stored (j := 2) (by simp) (.slice none 0 0)).stored (j := 3) (by simp) (.slice none 0 0))
    obtain ⟨k0, _⟩ := C11.get 0 _ rfl
    obtain ⟨k1, _⟩ := C11.get 1 _ rfl
    obtain ⟨k2, _⟩ := C11.get 2 _ rfl
    obtain ⟨k3, _⟩ := C11.get 3 _ rfl
    have BF := hide (BW10.out.trans (K11.below BW10.out.size (fun i hi q => by omega)))
    clear K11 C11
    go_wp2_with fail
    refine (AT a8 _ w10 BY10.out).mono ?_
    rintro e w11 ⟨rfl, hw11⟩
    obtain rfl : w10 = w11 := hw11.symm
    clear hw11
    go_wp2_with fail
    refine bodyPost_ret (v := .tuple #[.agg #[.int .i64 0, .int .i64 0, .slice none 0 0, .slice none 0 0], .int .i64 23]) (by simp only [results, Tryd.results10]; simp [go_sem, k0, k1, k2, k3]) rfl ?_
    refine ⟨_, by rw [HV.out], ?_, BF.out⟩
    rw [HVP.out]
    exact PageOut.nil _ _ _
  | true =>
    have HV := hide (show RE = 0 from by rw [HRE.out]; simp)
    have HVP := hide (HPP0.out HV.out)
    have K11 := (((((Keep.refl (fun i => i = w.heap.size) w10).setCell (g := w.heap.size) (j := 0) (fun _ => rfl) (.int .i64 (n2 : Int))).setCell (g := w.heap.size) (j := 1) (fun _ => rfl) (.int .i64 (n5 : Int))).setCell (g := w.heap.size) (j := 2) (fun _ => rfl) (.slice av n3 cv)).setCell (g := w.heap.size) (j := 3) (fun _ => rfl) (.slice none 0 0))
    have C11 := ((((C10.out.stored (j := 0) (by simp) (.int .i64 (n2 : Int))).stored (j := 1) (by simp) (.int .i64 (n5 : Int))).stored (j := 2) (by simp) (.slice av n3 cv)).stored (j := 3) (by simp) (.slice none 0 0))
    obtain ⟨k0, _⟩ := C11.get 0 _ rfl
    obtain ⟨k1, _⟩ := C11.get 1 _ rfl
    obtain ⟨k2, _⟩ := C11.get 2 _ rfl
    obtain ⟨k3, _⟩ := C11.get 3 _ rfl
    have BF := hide (BW10.out.trans (K11.below BW10.out.size (fun i hi q => by omega)))
    have hlt := World.ownsRow.lt ROW10.out
    have GR : Hid (GRow _ w.heap.size 57 5 (.slice av n3 cv) n3 (ctrsC (readC n3 R))) := hide (ROW10.out.keep K11 (fun g hg q => HROWNE.out (by rw [← q]; exact hg)))
    clear K11 C11 hlt
    go_wp2_with fail
    refine (AT a8 _ w10 BY10.out).mono ?_
    rintro e w11 ⟨rfl, hw11⟩
    obtain rfl : w10 = w11 := hw11.symm
    clear hw11
    go_wp2_with fail
    refine bodyPost_ret (v := .tuple #[.agg #[.int .i64 (n2 : Int), .int .i64 (n5 : Int), .slice av n3 cv, .slice none 0 0], .int .i64 0]) (by simp only [results, Tryd.results10]; simp [go_sem, k0, k1, k2, k3]) rfl ?_
    refine ⟨_, by rw [HV.out], ?_, BF.out⟩
    rw [HVP.out]
    refine ⟨_, _, rfl, ?_, ?_⟩
    · simp only [readC_length]; exact GR.out
    · exact World.ownsRow_nil _ _ _ _
set_option maxHeartbeats 16000000 in
theorem decode_rest2 (a : Option Addr) (c n0 n1 n2 n3 n4 n5 n6 : Nat) (l : List Nat) (number : Int) (w : World) (hs : Bytes w a l) (hb : AllB l) (ht : Tab w) (hn : ¬ (number < 0 ∨ 63 < number)) (hl : l.length = 1024) (hc : 1024 ≤ c) (hz : allZ l = false) (hh : takeN headS l = [n0, n1, n2, n3, n4, n5, n6]) (hk : n1 = 2) (he : headE [n0, n1, n2, n3, n4, n5, n6] number (psum l) = 0) :
    Calls Tryd.prog 10 #[.slice a 1024 c, .int .i64 number] w fun e w' => ∃ v, e = .returned (.tuple #[v, .int .i64 (decE l number)]) ∧ PageOut w' w.heap.size v (decP l number) ∧ Below w.heap.size w w' := by
  obtain ⟨j0, j1, j6, j2, j3, j3b, j5, j5b⟩ := headE_all he
  have jn : number ≤ 63 := by omega
  have j3c : n3 ≤ 84 := by rw [hk] at j3b; simpa using j3b
  obtain ⟨R, hR⟩ : ∃ R, R = l.drop 16 := ⟨_, rfl⟩
  have hRl : R.length = 1008 := by rw [hR, List.length_drop, hl]
  have hRb : AllB R := by rw [hR]; exact hb.drop 16
  obtain ⟨TL, hTL⟩ : ∃ TL, TL = R.drop (12 * n3) := ⟨_, rfl⟩
  have hTb : AllB TL := by rw [hTL]; exact hRb.drop _
  have hTl : TL.length ≤ 1000000 := by rw [hTL, List.length_drop, hRl]; omega
  obtain ⟨SE, hSE⟩ : ∃ e, e = slotsE [] (readG n3 R) := ⟨_, rfl⟩
  obtain ⟨RE, hRE⟩ : ∃ e, e = decE l number := ⟨_, rfl⟩
  obtain ⟨PP, hPP⟩ : ∃ e, e = decP l number := ⟨_, rfl⟩
  have hpo : pageOf [n0, n1, n2, n3, n4, n5, n6] (l.drop 16) = ⟨(n2 : Int), (n5 : Int), [], readG n3 R⟩ := by rw [← hR]; simp [pageOf, hk]
  have hen : endOf [n0, n1, n2, n3, n4, n5, n6] = 12 * n3 := by simp [endOf, hk]
  have hRE2 : RE = if SE ≠ 0 then SE else if n4 ≠ 0 ∨ allZ TL = false then 23 else 0 := by
    rw [hRE, decE_head hn hl hz hh, if_neg (by simp [he]), hpo, hen, ← hR, ← hTL, hSE]
  have hPP1 : RE ≠ 0 → PP = zeroP := by intro q; rw [hPP]; unfold decP; rw [← hRE, if_pos q]
  have hPP0 : RE = 0 → PP = ⟨(n2 : Int), (n5 : Int), [], readG n3 R⟩ := by intro q; rw [hPP]; unfold decP; rw [← hRE, q, if_neg (by simp), hz, if_neg (by simp), hh, hpo]
  rw [← hRE, ← hPP]
  have hfitc : PageM.Fit ⟨(n2 : Int), (n5 : Int), [], readG n3 R⟩ := ⟨⟨by simp, by simp; omega⟩, ⟨by simp, by simp; omega⟩, by simp, readG_fit n3 R hRb (by omega)⟩
  have CS := fun (av : Option Addr) (cv : Nat) w' (h : Lies w' av (grpsC (readG n3 R))) => checkSlots_any ⟨(n2 : Int), (n5 : Int), [], readG n3 R⟩ ⟨none, 0, av, cv⟩ w' ⟨.inl rfl, h, hfitc⟩ (by simp) (by simp [readG_length]; omega)
  simp only [pageV, readG_length, List.length_nil, ← hSE] at CS
  have F0 := inRange hn
  have AZ := fun w' (b : Below w.heap.size w w') => allZeros_any a c l w' (hs.below b) hb (by omega)
  have RH := fun w' (b : Below w.heap.size w w') => readHead_any a c n0 n1 n2 n3 n4 n5 n6 l w' (hs.below b) hb hl hc hh
  have SM := fun w' (b : Below w.heap.size w w') => sumOf_any a c l w' (hs.below b) hb hl hc (ht.below b)
  have hps := psum_lt hb
  obtain ⟨nn, rfl⟩ : ∃ nn : Nat, number = (nn : Int) := ⟨number.toNat, by omega⟩
  have CH := fun w => checkHead_any n0 n1 n2 n3 n4 n5 n6 nn (psum l) w (by omega) hps
  rw [hz] at AZ
  rw [hl] at AZ RH
  obtain ⟨HE, hHE⟩ : ∃ e, e = headE [n0, n1, n2, n3, n4, n5, n6] (nn : Int) (psum l) := ⟨_, rfl⟩
  rw [← hHE] at CH
  simp only [← hR, hRl] at RH
  have RPG := fun (a3 : Option Addr) w' (h : Bytes w' a3 R) => readPage2_any a3 (c - 16) n0 n2 n3 n4 n5 n6 R w' h hRb hRl (by omega) (by omega) j3c (by omega)
  simp only [hRl, ← hTL] at RPG
  have AT := fun (a4 : Option Addr) (c4 : Nat) w' (h : Bytes w' a4 TL) => allZeros_any a4 c4 TL w' h hTb hTl
  have hHE0 : HE = 0 := by rw [hHE]; exact he
  subst hHE0
  have HRE := hide hRE2
  have HPP1 := hide hPP1
  have HPP0 := hide hPP0
  have HRR := hide (show Bytes w a l from hs)
  have HHH : Hid (0 = 0) := hide rfl
  subst hk
  clear hRE2 hPP1 hPP0 hRE hPP hpo hen hSE hTL hTb hTl hR hRl hRb hHE he hps hn hh hb ht hl hz hfitc j0 j1 j6 j2 j3 j3b j3c j5 j5b jn hs
  generalize allZ TL = az at *
  go_enter Tryd.func10, Tryd.ntmps10
  go_wp2_with fail
  refine (F0 _).mono ?_
  rintro e w1 ⟨rfl, rfl⟩
  go_wp2_with fail
  refine (AZ _ (alloc_below _ _)).mono ?_
  rintro e w1 ⟨rfl, rfl⟩
  go_wp2_with fail
  refine (RH _ (alloc_below _ _)).mono ?_
  rintro e w3 ⟨a3, rfl, hb3, b3⟩
  have c3 : Cells w3 w.heap.size [.int .i64 0, .int .i64 0, .slice none 0 0, .slice none 0 0] := (Cells.new w #[.int .i64 0, .int .i64 0, .slice none 0 0, .slice none 0 0] 27).below b3
  have z3 := b3.size
  have bw3 := bnext (alloc_below _ _) b3 (Nat.le_refl _)
  obtain ⟨w4, hw4⟩ : ∃ w4, w4 = w3.alloc (.cells #[.int .u64 (n0 : Int), .int .u64 2, .int .u64 (n2 : Int), .int .u64 (n3 : Int), .int .u64 (n4 : Int), .int .u64 (n5 : Int), .int .u64 (n6 : Int)] 65) := ⟨_, rfl⟩
  have b4 : Below w3.heap.size w3 w4 := by rw [hw4]; exact alloc_below _ _
  have h4 : Cells w4 w3.heap.size [.int .u64 (n0 : Int), .int .u64 2, .int .u64 (n2 : Int), .int .u64 (n3 : Int), .int .u64 (n4 : Int), .int .u64 (n5 : Int), .int .u64 (n6 : Int)] := by rw [hw4]; exact Cells.new w3 _ _
  have HW4 := hide hw4
  have C4 := hide ((c3.below b4).drew)
  have H4 := hide h4.drew
  have BW4 := hide ((bnext bw3 b4 (Nat.le_refl _)).drew)
  have HB3 := hide hb3
  obtain ⟨G, hG⟩ : ∃ G, G = w3.heap.size := ⟨_, rfl⟩
  rw [← hG] at H4 h4
  have HG := hide hG
  have ZG := hide (show w.heap.size < G by rw [hG]; simp at z3; omega)
  have FX := hide (show w4.cell? ⟨G, 0, none⟩ = some (.int .u64 (n0 : Int)) ∧ w4.cell? ⟨G, 1, none⟩ = some (.int .u64 2) ∧ w4.cell? ⟨G, 2, none⟩ = some (.int .u64 (n2 : Int)) ∧ w4.cell? ⟨G, 3, none⟩ = some (.int .u64 (n3 : Int)) ∧ w4.cell? ⟨G, 4, none⟩ = some (.int .u64 (n4 : Int)) ∧ w4.cell? ⟨G, 5, none⟩ = some (.int .u64 (n5 : Int)) ∧ w4.cell? ⟨G, 6, none⟩ = some (.int .u64 (n6 : Int)) from ⟨(h4.get 0 _ rfl).1, (h4.get 1 _ rfl).1, (h4.get 2 _ rfl).1, (h4.get 3 _ rfl).1, (h4.get 4 _ rfl).1, (h4.get 5 _ rfl).1, (h4.get 6 _ rfl).1⟩)
  clear hw4 h4 b4 bw3 z3 c3 b3 hb3 hG
  go_upto_region 8 with fail
  rw [← HW4.out, ← HG.out]
  refine wp_region_held_drew (S := fun wq => wq.cell? ⟨G, 0, none⟩ = some (.int .u64 (n0 : Int)) ∧ wq.cell? ⟨G, 1, none⟩ = some (.int .u64 2) ∧ wq.cell? ⟨G, 2, none⟩ = some (.int .u64 (n2 : Int)) ∧ wq.cell? ⟨G, 3, none⟩ = some (.int .u64 (n3 : Int)) ∧ wq.cell? ⟨G, 4, none⟩ = some (.int .u64 (n4 : Int)) ∧ wq.cell? ⟨G, 5, none⟩ = some (.int .u64 (n5 : Int)) ∧ wq.cell? ⟨G, 6, none⟩ = some (.int .u64 (n6 : Int))) (by kernel_rfl) FX.out (fun hS => ?_)
  generalize w4.drew = w5 at *
  clear FX HW4 HG
  refine take_at 1 (some 32) (v := ?_) rfl rfl (by kernel_rfl) (by kernel_rfl) (by kernel_rfl) (fun _ _ _ h => h) ⟨by rfl, ?_⟩ hS ?_
  rotate_left
  · intro wq hSw; go_simp; try rfl
  simp only [Act.put, List.setIfInBounds_toArray, List.set_cons_zero, List.set_cons_succ]
  refine take_at 2 (some 33) (v := ?_) rfl rfl (by kernel_rfl) (by kernel_rfl) (by kernel_rfl) (fun _ _ _ h => h) ⟨by rfl, ?_⟩ hS ?_
  rotate_left
  · intro wq hSw; go_simp; try rfl
  simp only [Act.put, List.setIfInBounds_toArray, List.set_cons_zero, List.set_cons_succ]
  refine take_at 0 (some 31) (v := ?_) rfl rfl (by kernel_rfl) (by kernel_rfl) (by kernel_rfl) (fun _ _ _ h => h) ⟨by rfl, ?_⟩ hS ?_
  rotate_left
  · intro wq hSw; obtain ⟨y0, y1, y2, y3, y4, y5, y6⟩ := hSw; go_simp; try rfl
  simp only [Act.put, List.setIfInBounds_toArray, List.set_cons_zero, List.set_cons_succ]
  refine wpAnyH_ready (rs := [3]) (by kernel_rfl) (by simp) ?_
  refine AllReadyH.cons rfl (fun K hK => ?_) AllReadyH.nil
  go_simp
  go_wp2_with fail
  refine (SM w5 BW4.out).mono ?_
  rintro e w6 ⟨rfl, b6⟩
  have H6 := hide (H4.out.below b6)
  have C6 := hide (C4.out.below b6)
  have BW6 := hide (bnext BW4.out b6 (Nat.le_refl _))
  clear b6
  go_wp2_with fail
  refine hK.out _ _ (⟨(H6.out.get 0 _ rfl).1, (H6.out.get 1 _ rfl).1, (H6.out.get 2 _ rfl).1, (H6.out.get 3 _ rfl).1, (H6.out.get 4 _ rfl).1, (H6.out.get 5 _ rfl).1, (H6.out.get 6 _ rfl).1⟩) (fun hS => ?_)
  clear hK K
  (try simp only [Act.put, List.setIfInBounds_toArray, List.set_cons_zero, List.set_cons_succ])
  refine wpAnyH_ready (rs := [4]) (by kernel_rfl) (by simp) ?_
  refine AllReadyH.cons rfl (fun K hK => ?_) AllReadyH.nil
  go_simp
  go_wp2_with fail
  refine (CH w6).mono ?_
  rintro e w7 ⟨rfl, b7⟩
  have H7 := hide (H6.out.below b7)
  have C7 := hide (C6.out.below b7)
  have BW7 := hide (bnext BW6.out b7 (Nat.le_refl _))
  clear b7
  go_wp2_with fail
  refine hK.out _ _ (⟨(H7.out.get 0 _ rfl).1, (H7.out.get 1 _ rfl).1, (H7.out.get 2 _ rfl).1, (H7.out.get 3 _ rfl).1, (H7.out.get 4 _ rfl).1, (H7.out.get 5 _ rfl).1, (H7.out.get 6 _ rfl).1⟩) (fun hS => ?_)
  clear hK K
  (try simp only [Act.put, List.setIfInBounds_toArray, List.set_cons_zero, List.set_cons_succ])
  refine take_at 5 (some 8) (v := ?_) rfl rfl (by kernel_rfl) (by kernel_rfl) (by kernel_rfl) (fun _ _ _ h => h) ⟨by rfl, ?_⟩ hS ?_
  rotate_left
  · intro wq hSw; go_simp; try rfl
  simp only [Act.put, List.setIfInBounds_toArray, List.set_cons_zero, List.set_cons_succ]
  refine wpAnyH_done (by kernel_rfl) ?_ _
  obtain ⟨q0, xq0⟩ := H7.out.get 0 _ rfl
  obtain ⟨q1, xq1⟩ := H7.out.get 1 _ rfl
  obtain ⟨q2, xq2⟩ := H7.out.get 2 _ rfl
  obtain ⟨q3, xq3⟩ := H7.out.get 3 _ rfl
  obtain ⟨q4, xq4⟩ := H7.out.get 4 _ rfl
  obtain ⟨q5, xq5⟩ := H7.out.get 5 _ rfl
  obtain ⟨q6, xq6⟩ := H7.out.get 6 _ rfl
  go_wp2_with fail
  refine (RPG a3 w7 (HB3.out w7 (HRR.out.below BW7.out))).mono ?_
  rintro e w8 ⟨vv, a8, rfl, hrow, hb8, b8⟩
  obtain ⟨av, cv, rfl, hlie, -, -, -, -⟩ := GRow.lies hrow
  have C8 := C7.out.below b8
  have HD8 := H7.out.below b8
  have bw8 := bnext BW7.out b8 (Nat.le_refl _)
  have hB8 := hb8 w8 (HB3.out w8 (HRR.out.below bw8))
  have z7 := BW7.out.size
  obtain ⟨w9, hw9⟩ : ∃ w9, w9 = w8.alloc (.cells #[.int .i64 (n2 : Int), .int .i64 (n5 : Int), .slice none 0 0, .slice av n3 cv] 27) := ⟨_, rfl⟩
  have b9 : Below w8.heap.size w8 w9 := by rw [hw9]; exact alloc_below _ _
  have p9 : Cells w9 w8.heap.size [.int .i64 (n2 : Int), .int .i64 (n5 : Int), .slice none 0 0, .slice av n3 cv] := by rw [hw9]; exact Cells.new w8 _ _
  have z8 : G < w8.heap.size := HD8.1
  have zw := ZG.out
  have HROWNE := hide (show ¬ (Value.slice av n3 cv).ownBlock = some w.heap.size from fun q => by have := (World.ownsRow.lt hrow _ q).1; omega)
  have ROW9 := hide (GRow.mono (B' := w.heap.size) (hrow.below b9) (by omega))
  have LIE9 := hide (hlie.below b9)
  have C9 := hide (C8.below b9)
  have HD9 := hide (HD8.below b9)
  have BW9 := hide (bnext bw8 b9 (Nat.le_refl _))
  have BY9 := hide (hB8.below b9)
  obtain ⟨P, hP⟩ : ∃ P, P = w8.heap.size := ⟨_, rfl⟩
  rw [← hP] at p9
  have HP := hide hP
  have HW9 := hide hw9
  have P9 := hide p9
  have ZP := hide (show G < P by rw [hP]; exact z8)
  clear hrow hlie C8 HD8 bw8 hB8 b9 p9 z8 zw hP hw9 b8 hb8 z7
  clear q0 xq0
  clear q1 xq1
  clear q2 xq2
  clear q3 xq3
  clear q4 xq4
  clear q5 xq5
  clear q6 xq6
  go_upto_region 12 with fail
  rw [← HW9.out, ← HP.out]
  clear HW9 HP
  obtain ⟨q0, xq0⟩ := P9.out.get 0 _ rfl
  obtain ⟨q1, xq1⟩ := P9.out.get 1 _ rfl
  obtain ⟨q2, xq2⟩ := P9.out.get 2 _ rfl
  obtain ⟨q3, xq3⟩ := P9.out.get 3 _ rfl
  go_wp2_with fail
  refine (CS av cv w9 LIE9.out).mono ?_
  rintro e w10 ⟨rfl, b10⟩
  have C10 := hide (C9.out.below b10)
  have HD10 := hide (HD9.out.below b10)
  have P10 := hide (P9.out.below b10)
  have BW10 := hide (bnext BW9.out b10 (Nat.le_refl _))
  have BY10 := hide (BY9.out.below b10)
  have ROW10 := hide (ROW9.out.below b10)
  clear q0 xq0
  clear q1 xq1
  clear q2 xq2
  clear q3 xq3
  clear b10
  obtain ⟨g0, xg0⟩ := C10.out.get 0 _ rfl
  obtain ⟨g1, xg1⟩ := C10.out.get 1 _ rfl
  obtain ⟨g2, xg2⟩ := C10.out.get 2 _ rfl
  obtain ⟨g3, xg3⟩ := C10.out.get 3 _ rfl
  obtain ⟨q0, xq0⟩ := P10.out.get 0 _ rfl
  obtain ⟨q1, xq1⟩ := P10.out.get 1 _ rfl
  obtain ⟨q2, xq2⟩ := P10.out.get 2 _ rfl
  obtain ⟨q3, xq3⟩ := P10.out.get 3 _ rfl
  obtain ⟨d4, xd4⟩ := HD10.out.get 4 _ rfl
  by_cases hse : SE = 0
  case neg =>
    have hd : (SE != 0) = true := by simp; exact hse
    have HV := hide (show RE = SE from by rw [HRE.out]; rw [if_pos hse])
    have HVP := hide (HPP1.out (by rw [HV.out]; exact hse))
    have K11 := (((((Keep.refl (fun i => i = w.heap.size) w10).setCell (g := w.heap.size) (j := 0) (fun _ => rfl) (.int .i64 0)).setCell (g := w.heap.size) (j := 1) (fun _ => rfl) (.int .i64 0)).setCell (g := w.heap.size) (j := 2) (fun _ => rfl) (.slice none 0 0)).setCell (g := w.heap.size) (j := 3) (fun _ => rfl) (.slice none 0 0))
    have C11 := ((((C10.out.stored (j := 0) (by simp) (.int .i64 0)).stored (j := 1) (by simp) (.int .i64 0)).stored (j := 2) (by simp) (.slice none 0 0)).stored (j := 3) (by simp) (.slice none 0 0))
    obtain ⟨k0, _⟩ := C11.get 0 _ rfl
    obtain ⟨k1, _⟩ := C11.get 1 _ rfl
    obtain ⟨k2, _⟩ := C11.get 2 _ rfl
    obtain ⟨k3, _⟩ := C11.get 3 _ rfl
    have BF := hide (BW10.out.trans (K11.below BW10.out.size (fun i hi q => by omega)))
    clear K11 C11
    go_wp2_with fail
    refine bodyPost_ret (v := .tuple #[.agg #[.int .i64 0, .int .i64 0, .slice none 0 0, .slice none 0 0], .int .i64 SE]) (by simp only [results, Tryd.results10]; simp [go_sem, k0, k1, k2, k3]) rfl ?_
    refine ⟨_, by rw [HV.out], ?_, BF.out⟩
    rw [HVP.out]
    exact PageOut.nil _ _ _
  subst hse
  by_cases hn4 : n4 = 0
  case neg =>
    have hd : ((n4 : Int) != 0) = true := by simp; omega
    have HV := hide (show RE = 23 from by rw [HRE.out]; rw [if_neg (by simp), if_pos (Or.inl hn4)])
    have HVP := hide (HPP1.out (by rw [HV.out]; decide))
    have K11 := (((((Keep.refl (fun i => i = w.heap.size) w10).setCell (g := w.heap.size) (j := 0) (fun _ => rfl) (.int .i64 0)).setCell (g := w.heap.size) (j := 1) (fun _ => rfl) (.int .i64 0)).setCell (g := w.heap.size) (j := 2) (fun _ => rfl) (.slice none 0 0)).setCell (g := w.heap.size) (j := 3) (fun _ => rfl) (.slice none 0 0))
    have C11 := ((((C10.out.stored (j := 0) (by simp) (.int .i64 0)).stored (j := 1) (by simp) (.int .i64 0)).stored (j := 2) (by simp) (.slice none 0 0)).stored (j := 3) (by simp) (.slice none 0 0))
    obtain ⟨k0, _⟩ := C11.get 0 _ rfl
    obtain ⟨k1, _⟩ := C11.get 1 _ rfl
    obtain ⟨k2, _⟩ := C11.get 2 _ rfl
    obtain ⟨k3, _⟩ := C11.get 3 _ rfl
    have BF := hide (BW10.out.trans (K11.below BW10.out.size (fun i hi q => by omega)))
    clear K11 C11
    go_wp2_with fail
    refine bodyPost_ret (v := .tuple #[.agg #[.int .i64 0, .int .i64 0, .slice none 0 0, .slice none 0 0], .int .i64 23]) (by simp only [results, Tryd.results10]; simp [go_sem, k0, k1, k2, k3]) rfl ?_
    refine ⟨_, by rw [HV.out], ?_, BF.out⟩
    rw [HVP.out]
    exact PageOut.nil _ _ _
  subst hn4
  cases az with
  | false =>
    have HV := hide (show RE = 23 from by rw [HRE.out]; simp)
    have HVP := hide (HPP1.out (by rw [HV.out]; decide))
    have K11 := (((((Keep.refl (fun i => i = w.heap.size) w10).setCell (g := w.heap.size) (j := 0) (fun _ => rfl) (.int .i64 0)).setCell (g := w.heap.size) (j := 1) (fun _ => rfl) (.int .i64 0)).setCell (g := w.heap.size) (j := 2) (fun _ => rfl) (.slice none 0 0)).setCell (g := w.heap.size) (j := 3) (fun _ => rfl) (.slice none 0 0))
    have C11 := ((((C10.out.stored (j := 0) (by simp) (.int .i64 0)).stored (j := 1) (by simp) (.int .i64 0)).stored (j := 2) (by simp) (.slice none 0 0)).stored (j := 3) (by simp) (.slice none 0 0))
    obtain ⟨k0, _⟩ := C11.get 0 _ rfl
    obtain ⟨k1, _⟩ := C11.get 1 _ rfl
    obtain ⟨k2, _⟩ := C11.get 2 _ rfl
    obtain ⟨k3, _⟩ := C11.get 3 _ rfl
    have BF := hide (BW10.out.trans (K11.below BW10.out.size (fun i hi q => by omega)))
    clear K11 C11
    go_wp2_with fail
    refine (AT a8 _ w10 BY10.out).mono ?_
    rintro e w11 ⟨rfl, hw11⟩
    obtain rfl : w10 = w11 := hw11.symm
    clear hw11
    go_wp2_with fail
    refine bodyPost_ret (v := .tuple #[.agg #[.int .i64 0, .int .i64 0, .slice none 0 0, .slice none 0 0], .int .i64 23]) (by simp only [results, Tryd.results10]; simp [go_sem, k0, k1, k2, k3]) rfl ?_
    refine ⟨_, by rw [HV.out], ?_, BF.out⟩
    rw [HVP.out]
    exact PageOut.nil _ _ _
  | true =>
    have HV := hide (show RE = 0 from by rw [HRE.out]; simp)
    have HVP := hide (HPP0.out HV.out)
    have K11 := (((((Keep.refl (fun i => i = w.heap.size) w10).setCell (g := w.heap.size) (j := 0) (fun _ => rfl) (.int .i64 (n2 : Int))).setCell (g := w.heap.size) (j := 1) (fun _ => rfl) (.int .i64 (n5 : Int))).setCell (g := w.heap.size) (j := 2) (fun _ => rfl) (.slice none 0 0)).setCell (g := w.heap.size) (j := 3) (fun _ => rfl) (.slice av n3 cv))
    have C11 := ((((C10.out.stored (j := 0) (by simp) (.int .i64 (n2 : Int))).stored (j := 1) (by simp) (.int .i64 (n5 : Int))).stored (j := 2) (by simp) (.slice none 0 0)).stored (j := 3) (by simp) (.slice av n3 cv))
    obtain ⟨k0, _⟩ := C11.get 0 _ rfl
    obtain ⟨k1, _⟩ := C11.get 1 _ rfl
    obtain ⟨k2, _⟩ := C11.get 2 _ rfl
    obtain ⟨k3, _⟩ := C11.get 3 _ rfl
    have BF := hide (BW10.out.trans (K11.below BW10.out.size (fun i hi q => by omega)))
    have hlt := World.ownsRow.lt ROW10.out
    have GR : Hid (GRow _ w.heap.size 59 2 (.slice av n3 cv) n3 (grpsC (readG n3 R))) := hide (ROW10.out.keep K11 (fun g hg q => HROWNE.out (by rw [← q]; exact hg)))
    clear K11 C11 hlt
    go_wp2_with fail
    refine (AT a8 _ w10 BY10.out).mono ?_
    rintro e w11 ⟨rfl, hw11⟩
    obtain rfl : w10 = w11 := hw11.symm
    clear hw11
    go_wp2_with fail
    refine bodyPost_ret (v := .tuple #[.agg #[.int .i64 (n2 : Int), .int .i64 (n5 : Int), .slice none 0 0, .slice av n3 cv], .int .i64 0]) (by simp only [results, Tryd.results10]; simp [go_sem, k0, k1, k2, k3]) rfl ?_
    refine ⟨_, by rw [HV.out], ?_, BF.out⟩
    rw [HVP.out]
    refine ⟨_, _, rfl, ?_, ?_⟩
    · exact World.ownsRow_nil _ _ _ _
    · simp only [readG_length]; exact GR.out
theorem decode_any (a : Option Addr) (c : Nat) (l : List Nat) (number : Int) (w : World) (hs : Bytes w a l) (hb : AllB l) (ht : Tab w) (hc : l.length ≤ c) :
    Calls Tryd.prog 10 #[.slice a l.length c, .int .i64 number] w fun e w' => ∃ v, e = .returned (.tuple #[v, .int .i64 (decE l number)]) ∧ PageOut w' w.heap.size v (decP l number) ∧ Below w.heap.size w w' := by
  by_cases hn : number < 0 ∨ 63 < number
  · exact decode_place a c l number w hn
  by_cases hl : l.length = 1024
  case neg => exact decode_data a c l number w hn hl
  by_cases hz : allZ l = true
  · exact decode_zero a c l number w hs hb hn hl hz
  have hz : allZ l = false := by simpa using hz
  obtain ⟨n0, n1, n2, n3, n4, n5, n6, hh⟩ := seven (takeN_length headS l)
  rw [hl] at hc
  have key : Calls Tryd.prog 10 #[.slice a 1024 c, .int .i64 number] w fun e w' => ∃ v, e = .returned (.tuple #[v, .int .i64 (decE l number)]) ∧ PageOut w' w.heap.size v (decP l number) ∧ Below w.heap.size w w' := by
    by_cases he : headE [n0, n1, n2, n3, n4, n5, n6] number (psum l) = 0
    case neg => exact decode_head a c n0 n1 n2 n3 n4 n5 n6 l number w hs hb ht hn hl hc hz hh he
    rcases (headE_all he).2.1 with h1 | h1
    · exact decode_rest1 a c n0 n1 n2 n3 n4 n5 n6 l number w hs hb ht hn hl hc hz hh h1 he
    · exact decode_rest2 a c n0 n1 n2 n3 n4 n5 n6 l number w hs hb ht hn hl hc hz hh h1 he
  rw [hl]
  exact key
end Go.Proofs.YtakjpljpdlhicaaDoor
