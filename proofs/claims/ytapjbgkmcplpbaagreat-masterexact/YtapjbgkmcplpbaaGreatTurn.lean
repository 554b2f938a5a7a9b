import Derived.Test.YtapjbgkmcplpbaaGreatSpoils
import Derived.Laws.BitsAllLaws
namespace Go.Proofs.YtapjbgkmcplpbaaGreat
open Go.RowKit Go.QK

set_option maxHeartbeats 8000000 in
set_option maxRecDepth 100000 in
theorem spoils_turn {w : World} {S T : Nat → Prop} {d c : Nat} {g : Dev} {pb p q r : Nat} (h : Duet w S d g T c g pb p q r) (hn2 : 2 ≤ g.n) (o : OpM) (la : Option Addr) (lc : Nat) (ba : Option Addr) (bc : Nat) (hk8 : o.k ≠ 8) (hk10 : o.k ≠ 10) (hs : Bytes w ba o.b) (hab : AllB o.b) (_hbl : o.b.length ≤ bc) (_hbm : bc ≤ maxLen) (hpl : g.pend.length ≤ 999990) (hcl : g.calls ≤ 999990) :
    Calls Tryz.prog 34 #[.pointer (some ⟨pb, 0, none⟩), .agg (o.v la lc ba bc)] w fun e w' => ∃ g' S' T', e = .returned (.bool true) ∧ Duet w' S' d g' T' c g' pb p q r ∧ Grows g g' ∧ Step w (fun b => S b ∨ T b) w' (fun b => S' b ∨ T' b) := by
  have e8 : (o.k == 8) = false := by simpa using hk8
  have e10 : (o.k == 10) = false := by simpa using hk10
  have HV : Hid (o.v la lc ba bc = #[.int .i64 o.k, .int .i64 o.x, .int .i64 o.y, .int .i64 o.z, .int .i64 o.n, .slice la o.l.keep.length lc, .int .i64 o.l.torn, .int .i64 o.l.off, .slice ba o.b.length bc, .bool o.little]) := rfl
  rw [HV.out]
  obtain ⟨w1, hw1⟩ : ∃ w1, w1 = w.alloc (.cells (o.v la lc ba bc) 36) := ⟨_, rfl⟩
  have b1 : Below w.heap.size w w1 := by rw [hw1]; exact alloc_below _ _
  have C1 : Cells w1 w.heap.size [.int .i64 o.k, .int .i64 o.x, .int .i64 o.y, .int .i64 o.z, .int .i64 o.n, .slice la o.l.keep.length lc, .int .i64 o.l.torn, .int .i64 o.l.off, .slice ba o.b.length bc, .bool o.little] := by rw [hw1]; exact Cells.new w _ 36
  rw [HV.out] at hw1
  have LT := hide (show ¬ S w.heap.size ∧ ¬ T w.heap.size from ⟨fun q => by have := h.pr.one.lt _ q; omega, fun q => by have := h.pr.two.lt _ q; omega⟩)
  obtain ⟨u0, _⟩ := C1.get 0 _ rfl
  obtain ⟨u4, _⟩ := C1.get 4 _ rfl
  obtain ⟨W, hW⟩ : ∃ W, W = w1.drew := ⟨_, rfl⟩
  have bW : Below w1.heap.size w1 W := by rw [hW]; exact (Below.refl _ _).drew
  have D1 := h.below b1
  have DW := hide (D1.below bW)
  have CW := hide (C1.below bW)
  have BW := hide (bnext b1 bW (Nat.le_refl _))
  have F1 := hide (show w1.cell? ⟨pb, 1, none⟩ = some (.pointer (some ⟨c, 0, none⟩)) ∧ w1.cell? ⟨w.heap.size, 4, none⟩ = some (.int .i64 o.n) from ⟨D1.pc.2, u4⟩)
  have R2 := fun w' => rest_any o.n 2 (by omega) (by omega) w'
  simp only [show ((2 : Nat) : Int) = 2 from rfl] at R2
  have a0 := Int.emod_nonneg o.n (show (2 : Int) ≠ 0 by decide)
  have a1 := Int.emod_lt_of_pos o.n (show (0 : Int) < 2 by decide)
  obtain ⟨n2, h2⟩ : ∃ n2 : Nat, o.n % 2 = (n2 : Int) := ⟨(o.n % 2).toNat, by omega⟩
  simp only [h2] at R2
  have KR := rRead_any DW.out.pr.two (n2 : Int) (by omega)
  obtain ⟨sz, n8⟩ := Dev.size_n h.pr.one.ok
  have OK := hide h.pr.one.ok
  have HW1 := hide hw1
  have HW := hide hW
  have HS := hide hs
  have R2 := hide R2
  have ln2 : n2 < 2 := by omega
  have eE : (g.down = true ∧ g.reach (n2 : Int) = 40) ∨ (g.down = false ∧ g.reach (n2 : Int) = 0 ∧ g.readB (n2 : Int) = g.content n2 ∧ (g.content n2).length = 512 ∧ AllB (g.content n2)) := by
    cases hd : g.down with
    | true => exact .inl ⟨rfl, by unfold Dev.reach; rw [hd]; rfl⟩
    | false =>
      have hr : g.reach (n2 : Int) = 0 := by unfold Dev.reach; rw [hd, if_neg (by decide), if_neg (by omega)]
      exact .inr ⟨rfl, hr, by unfold Dev.readB; rw [if_pos hr]; rfl, content_len h.pr.one.ok n2 (by omega), content_allB h.pr.one.ok n2⟩
  have EE := hide eE
  clear hw1 b1 C1 HV hW bW D1 h hs a0 a1 h2 eE sz n8 hk8 hk10 u4
  unfold maxLen at _hbm
  go_enter Tryz.func34, Tryz.ntmps34
  go_upto_region 1 with fail
  rw [← HW1.out]
  clear HW1
  go_wp2_with fail
  refine wp_region_held_drew (S := fun wq => wq.cell? ⟨pb, 1, none⟩ = some (.pointer (some ⟨c, 0, none⟩)) ∧ wq.cell? ⟨w.heap.size, 4, none⟩ = some (.int .i64 o.n)) (by kernel_rfl) F1.out (fun hS => ?_)
  rw [← HW.out] at hS ⊢
  clear F1 u0
  refine take_at 0 (some 49) (v := ?_) rfl rfl (by kernel_rfl) (by kernel_rfl) (by kernel_rfl) (fun _ _ _ h => h) ⟨by rfl, ?_⟩ hS ?_
  rotate_left
  · intro wq hSw; go_simp; try rfl
  simp only [Act.put, List.setIfInBounds_toArray, List.set_cons_zero, List.set_cons_succ]
  refine take_at 1 (some 50) (v := ?_) rfl rfl (by kernel_rfl) (by kernel_rfl) (by kernel_rfl) (fun _ _ _ h => h) ⟨by rfl, ?_⟩ hS ?_
  rotate_left
  · intro wq hSw; go_simp; try rfl
  simp only [Act.put, List.setIfInBounds_toArray, List.set_cons_zero, List.set_cons_succ]
  refine take_at 2 (some 51) (v := ?_) rfl rfl (by kernel_rfl) (by kernel_rfl) (by kernel_rfl) (fun _ _ _ h => h) ⟨by rfl, ?_⟩ hS ?_
  rotate_left
  · intro wq hSw; go_simp; try rfl
  simp only [Act.put, List.setIfInBounds_toArray, List.set_cons_zero, List.set_cons_succ]
  refine take_at 3 (some 52) (v := ?_) rfl rfl (by kernel_rfl) (by kernel_rfl) (by kernel_rfl) (fun _ _ _ h => h) ⟨by rfl, ?_⟩ hS ?_
  rotate_left
  · intro wq hSw; obtain ⟨x0, x1⟩ := hSw; go_simp; try rfl
  simp only [Act.put, List.setIfInBounds_toArray, List.set_cons_zero, List.set_cons_succ]
  refine take_at 4 (some 53) (v := ?_) rfl rfl (by kernel_rfl) (by kernel_rfl) (by kernel_rfl) (fun _ _ _ h => h) ⟨by rfl, ?_⟩ hS ?_
  rotate_left
  · intro wq hSw; go_simp; try rfl
  simp only [Act.put, List.setIfInBounds_toArray, List.set_cons_zero, List.set_cons_succ]
  refine take_at 5 (some 54) (v := ?_) rfl rfl (by kernel_rfl) (by kernel_rfl) (by kernel_rfl) (fun _ _ _ h => h) ⟨by rfl, ?_⟩ hS ?_
  rotate_left
  · intro wq hSw; obtain ⟨x0, x1⟩ := hSw; go_simp; try rfl
  simp only [Act.put, List.setIfInBounds_toArray, List.set_cons_zero, List.set_cons_succ]
  refine wpAnyH_ready (rs := [6]) (by kernel_rfl) (by simp) ?_
  refine AllReadyH.cons rfl (fun K hK => ?_) AllReadyH.nil
  go_simp
  go_wp2_with fail
  refine (R2.out W).mono ?_
  rintro e w' ⟨rfl, hw⟩
  obtain rfl : W = w' := hw.symm
  go_wp2_with fail
  refine hK.out _ _ hS (fun hS => ?_)
  clear hK K
  (try simp only [Act.put, List.setIfInBounds_toArray, List.set_cons_zero, List.set_cons_succ])
  have BW3 := hide (show w.heap.size ≤ W.heap.size from BW.out.size)
  have DL := hide (show (∀ b, S b → b < W.heap.size) ∧ (∀ b, T b → b < W.heap.size) ∧ pb < W.heap.size from ⟨DW.out.pr.one.lt, DW.out.pr.two.lt, DW.out.cells.1⟩)
  rcases EE.out with ⟨_, hr⟩ | ⟨_, hr, hrb, hcl3, hall⟩
  · rw [hr, show ((40 : Nat) : Int) = 40 from rfl] at KR
    refine wpAnyH_ready (rs := [7]) (by kernel_rfl) (by simp) ?_
    refine AllReadyH.cons rfl (fun K hK => ?_) AllReadyH.nil
    go_simp
    go_wp2_with fail
    refine KR.mono ?_
    rintro e w3 ⟨v3, rfl, o3, b3⟩
    have D3 := hide (DW.out.below b3)
    have C3 := hide (CW.out.below b3)
    have B3 := hide (bnext BW.out b3 (Nat.le_refl _))
    have F3 := hide (show w3.cell? ⟨pb, 1, none⟩ = some (.pointer (some ⟨c, 0, none⟩)) ∧ w3.cell? ⟨w.heap.size, 4, none⟩ = some (.int .i64 o.n) from ⟨D3.out.pc.2, (C3.out.get 4 _ rfl).1⟩)
    obtain ⟨a3, c3, e3, s3, _⟩ := Owns.seen o3
    subst e3
    clear o3 b3 s3 DW CW BW KR
    go_wp2_with fail
    refine hK.out _ _ F3.out (fun hS => ?_)
    clear hK K
    (try simp only [Act.put, List.setIfInBounds_toArray, List.set_cons_zero, List.set_cons_succ])
    refine take_at 8 (some 48) (v := ?_) rfl rfl (by kernel_rfl) (by kernel_rfl) (by kernel_rfl) (fun _ _ _ h => h) ⟨by rfl, ?_⟩ hS ?_
    rotate_left
    · intro wq hSw; go_simp; try rfl
    simp only [Act.put, List.setIfInBounds_toArray, List.set_cons_zero, List.set_cons_succ]
    refine take_at 9 (some 57) (v := ?_) rfl rfl (by kernel_rfl) (by kernel_rfl) (by kernel_rfl) (fun _ _ _ h => h) ⟨by rfl, ?_⟩ hS ?_
    rotate_left
    · intro wq hSw; go_simp; try rfl
    simp only [Act.put, List.setIfInBounds_toArray, List.set_cons_zero, List.set_cons_succ]
    refine take_at 10 (some 58) (v := ?_) rfl rfl (by kernel_rfl) (by kernel_rfl) (by kernel_rfl) (fun _ _ _ h => h) ⟨by rfl, ?_⟩ hS ?_
    rotate_left
    · intro wq hSw; go_simp; try rfl
    simp only [Act.put, List.setIfInBounds_toArray, List.set_cons_zero, List.set_cons_succ]
    refine take_at 11 (some 6) (v := ?_) rfl rfl (by kernel_rfl) (by kernel_rfl) (by kernel_rfl) (fun _ _ _ h => h) ⟨by rfl, ?_⟩ hS ?_
    rotate_left
    · intro wq hSw; go_simp; try rfl
    simp only [Act.put, List.setIfInBounds_toArray, List.set_cons_zero, List.set_cons_succ]
    refine take_at 12 (some 7) (v := ?_) rfl rfl (by kernel_rfl) (by kernel_rfl) (by kernel_rfl) (fun _ _ _ h => h) ⟨by rfl, ?_⟩ hS ?_
    rotate_left
    · intro wq hSw; go_simp; try rfl
    simp only [Act.put, List.setIfInBounds_toArray, List.set_cons_zero, List.set_cons_succ]
    refine wpAnyH_done (by kernel_rfl) ?_ _
    go_wp2_with fail
    go_ret
    exact ⟨g, S, T, rfl, D3.out, Grows.refl g, Step.of_below B3.out⟩
  · rw [hr, hrb, show ((0 : Nat) : Int) = 0 from rfl] at KR
    refine wpAnyH_ready (rs := [7]) (by kernel_rfl) (by simp) ?_
    refine AllReadyH.cons rfl (fun K hK => ?_) AllReadyH.nil
    go_simp
    go_wp2_with fail
    refine KR.mono ?_
    rintro e w3 ⟨v3, rfl, o3, b3⟩
    have D3 := hide (DW.out.below b3)
    have C3 := hide (CW.out.below b3)
    have B3 := hide (bnext BW.out b3 (Nat.le_refl _))
    have F3 := hide (show w3.cell? ⟨pb, 1, none⟩ = some (.pointer (some ⟨c, 0, none⟩)) ∧ w3.cell? ⟨w.heap.size, 4, none⟩ = some (.int .i64 o.n) from ⟨D3.out.pc.2, (C3.out.get 4 _ rfl).1⟩)
    obtain ⟨gb, c3, e3, hcc, hgb, hgl⟩ := Owns.form o3 (by rw [ints_length, hcl3]; decide)
    rw [ints_length, hcl3] at e3 hcc
    subst e3
    have O3 := hide o3
    have GB := hide (show W.heap.size ≤ gb from hgb)
    have LW := hide (show w.heap.size < W.heap.size from CW.out.1)
    clear o3 b3 DW CW BW KR hgb hgl
    go_wp2_with fail
    refine hK.out _ _ F3.out (fun hS => ?_)
    clear hK K
    (try simp only [Act.put, List.setIfInBounds_toArray, List.set_cons_zero, List.set_cons_succ])
    refine take_at 8 (some 48) (v := ?_) rfl rfl (by kernel_rfl) (by kernel_rfl) (by kernel_rfl) (fun _ _ _ h => h) ⟨by rfl, ?_⟩ hS ?_
    rotate_left
    · intro wq hSw; go_simp; try rfl
    simp only [Act.put, List.setIfInBounds_toArray, List.set_cons_zero, List.set_cons_succ]
    refine take_at 9 (some 57) (v := ?_) rfl rfl (by kernel_rfl) (by kernel_rfl) (by kernel_rfl) (fun _ _ _ h => h) ⟨by rfl, ?_⟩ hS ?_
    rotate_left
    · intro wq hSw; go_simp; try rfl
    simp only [Act.put, List.setIfInBounds_toArray, List.set_cons_zero, List.set_cons_succ]
    refine take_at 10 (some 58) (v := ?_) rfl rfl (by kernel_rfl) (by kernel_rfl) (by kernel_rfl) (fun _ _ _ h => h) ⟨by rfl, ?_⟩ hS ?_
    rotate_left
    · intro wq hSw; go_simp; try rfl
    simp only [Act.put, List.setIfInBounds_toArray, List.set_cons_zero, List.set_cons_succ]
    refine take_at 11 (some 6) (v := ?_) rfl rfl (by kernel_rfl) (by kernel_rfl) (by kernel_rfl) (fun _ _ _ h => h) ⟨by rfl, ?_⟩ hS ?_
    rotate_left
    · intro wq hSw; go_simp; try rfl
    simp only [Act.put, List.setIfInBounds_toArray, List.set_cons_zero, List.set_cons_succ]
    refine take_at 12 (some 7) (v := ?_) rfl rfl (by kernel_rfl) (by kernel_rfl) (by kernel_rfl) (fun _ _ _ h => h) ⟨by rfl, ?_⟩ hS ?_
    rotate_left
    · intro wq hSw; go_simp; try rfl
    simp only [Act.put, List.setIfInBounds_toArray, List.set_cons_zero, List.set_cons_succ]
    refine wpAnyH_done (by kernel_rfl) ?_ _
    by_cases hb3 : o.b.length < 3
    · have g3 : (o.b.length : Int) < 3 := by omega
      obtain ⟨u8, _⟩ := C3.out.get 8 _ rfl
      go_wp2_with fail
      go_ret
      exact ⟨g, S, T, rfl, D3.out, Grows.refl g, Step.of_below B3.out⟩
    · have g3 : ¬ (o.b.length : Int) < 3 := by omega
      have g4 : ¬ (o.b.length : Int) ≤ 0 := by omega
      have l0 : 0 < o.b.length := by omega
      have l1 : 1 < o.b.length := by omega
      have l2 : 2 < o.b.length := by omega
      have i0 : (0 : Int) < (o.b.length : Int) := by omega
      have i1 : (1 : Int) < (o.b.length : Int) := by omega
      have i2 : (2 : Int) < (o.b.length : Int) := by omega
      obtain ⟨bb, off, rfl, hbb, c0⟩ := Bytes.at (Seen.below HS.out B3.out) (i := 0) l0
      obtain ⟨bb1, off1, e1, _, c1⟩ := Bytes.at (Seen.below HS.out B3.out) (i := 1) l1
      cases e1
      obtain ⟨bb2, off2, e2, _, c2⟩ := Bytes.at (Seen.below HS.out B3.out) (i := 2) l2
      cases e2
      have y0 := hab.get 0
      have y1 := hab.get 1
      have y2 := hab.get 2
      obtain ⟨x0, hx0⟩ : ∃ x0, x0 = o.b.getD 0 0 := ⟨_, rfl⟩
      obtain ⟨x1, hx1⟩ : ∃ x1, x1 = o.b.getD 1 0 := ⟨_, rfl⟩
      obtain ⟨x2, hx2⟩ : ∃ x2, x2 = o.b.getD 2 0 := ⟨_, rfl⟩
      rw [← hx0] at c0 y0
      rw [← hx1] at c1 y1
      rw [← hx2] at c2 y2
      rw [Nat.add_zero] at c0
      obtain ⟨u8, _⟩ := C3.out.get 8 _ rfl
      have k0 : IntKind.i64.wrap (x0 : Int) = (x0 : Int) := wrapI_fit _ (by omega)
      have k1 : IntKind.i64.wrap (x1 : Int) = (x1 : Int) := wrapI_fit _ (by omega)
      have k2 : IntKind.i64.wrap (256 * (x1 : Int)) = 256 * (x1 : Int) := by rw [IntKind.wrap_i64]; omega
      have k3 : IntKind.i64.wrap ((x0 : Int) + 256 * (x1 : Int)) = (x0 : Int) + 256 * (x1 : Int) := by rw [IntKind.wrap_i64]; omega
      obtain ⟨at_, hat⟩ : ∃ at_ : Nat, at_ = (x0 + 256 * x1) % 512 := ⟨_, rfl⟩
      have k4 : ((x0 : Int) + 256 * (x1 : Int)).tmod 512 = (at_ : Int) := by rw [Int.tmod_eq_emod_of_nonneg (by omega), hat]; omega
      have k5 : at_ < 512 := by omega
      have K4 := hide k4
      have K3 := hide k3
      have K2 := hide k2
      clear hx0 hx1 hx2 hat k2 k3 k4
      go_upto_region 12 with fail
      refine wp_region_held_drew (S := fun wq => (wq.cell? ⟨w.heap.size, 8, none⟩ = some (.slice (some ⟨bb, off, none⟩) o.b.length bc) ∧ wq.cell? ⟨bb, off, none⟩ = some (.int .u8 (x0 : Int)) ∧ wq.cell? ⟨bb, off + 1, none⟩ = some (.int .u8 (x1 : Int)))) (by kernel_rfl) ⟨u8, c0, c1⟩ (fun hS => ?_)
      refine take_at 0 (some 67) (v := ?_) rfl rfl (by kernel_rfl) (by kernel_rfl) (by kernel_rfl) (fun _ _ _ h => h) ⟨by rfl, ?_⟩ hS ?_
      rotate_left
      · intro wq hSw; go_simp; try rfl
      simp only [Act.put, List.setIfInBounds_toArray, List.set_cons_zero, List.set_cons_succ]
      refine take_at 1 (some 68) (v := ?_) rfl rfl (by kernel_rfl) (by kernel_rfl) (by kernel_rfl) (fun _ _ _ h => h) ⟨by rfl, ?_⟩ hS ?_
      rotate_left
      · intro wq hSw; obtain ⟨q0, q1, q2⟩ := hSw; go_simp; try rfl
      simp only [Act.put, List.setIfInBounds_toArray, List.set_cons_zero, List.set_cons_succ]
      refine take_at 2 (some 69) (v := ?_) rfl rfl (by kernel_rfl) (by kernel_rfl) (by kernel_rfl) (fun _ _ _ h => h) ⟨by rfl, ?_⟩ hS ?_
      rotate_left
      · intro wq hSw; go_simp; try rfl
      simp only [Act.put, List.setIfInBounds_toArray, List.set_cons_zero, List.set_cons_succ]
      refine take_at 3 (some 70) (v := ?_) rfl rfl (by kernel_rfl) (by kernel_rfl) (by kernel_rfl) (fun _ _ _ h => h) ⟨by rfl, ?_⟩ hS ?_
      rotate_left
      · intro wq hSw; obtain ⟨q0, q1, q2⟩ := hSw; go_simp; try rfl
      simp only [Act.put, List.setIfInBounds_toArray, List.set_cons_zero, List.set_cons_succ]
      refine take_at 4 (some 71) (v := ?_) rfl rfl (by kernel_rfl) (by kernel_rfl) (by kernel_rfl) (fun _ _ _ h => h) ⟨by rfl, ?_⟩ hS ?_
      rotate_left
      · intro wq hSw; go_simp; try rfl
      simp only [Act.put, List.setIfInBounds_toArray, List.set_cons_zero, List.set_cons_succ]
      refine take_at 5 (some 72) (v := ?_) rfl rfl (by kernel_rfl) (by kernel_rfl) (by kernel_rfl) (fun _ _ _ h => h) ⟨by rfl, ?_⟩ hS ?_
      rotate_left
      · intro wq hSw; go_simp; try rfl
      simp only [Act.put, List.setIfInBounds_toArray, List.set_cons_zero, List.set_cons_succ]
      refine take_at 6 (some 73) (v := ?_) rfl rfl (by kernel_rfl) (by kernel_rfl) (by kernel_rfl) (fun _ _ _ h => h) ⟨by rfl, ?_⟩ hS ?_
      rotate_left
      · intro wq hSw; obtain ⟨q0, q1, q2⟩ := hSw; go_simp; try rfl
      simp only [Act.put, List.setIfInBounds_toArray, List.set_cons_zero, List.set_cons_succ]
      refine take_at 7 (some 74) (v := ?_) rfl rfl (by kernel_rfl) (by kernel_rfl) (by kernel_rfl) (fun _ _ _ h => h) ⟨by rfl, ?_⟩ hS ?_
      rotate_left
      · intro wq hSw; go_simp; try rfl
      simp only [Act.put, List.setIfInBounds_toArray, List.set_cons_zero, List.set_cons_succ]
      refine take_at 8 (some 75) (v := ?_) rfl rfl (by kernel_rfl) (by kernel_rfl) (by kernel_rfl) (fun _ _ _ h => h) ⟨by rfl, ?_⟩ hS ?_
      rotate_left
      · intro wq hSw; obtain ⟨q0, q1, q2⟩ := hSw; go_simp; try rfl
      simp only [Act.put, List.setIfInBounds_toArray, List.set_cons_zero, List.set_cons_succ]
      refine take_at 9 (some 76) (v := ?_) rfl rfl (by kernel_rfl) (by kernel_rfl) (by kernel_rfl) (fun _ _ _ h => h) ⟨by rfl, ?_⟩ hS ?_
      rotate_left
      · intro wq hSw; go_simp; try rfl
      simp only [Act.put, List.setIfInBounds_toArray, List.set_cons_zero, List.set_cons_succ]
      refine take_at 10 (some 77) (v := ?_) rfl rfl (by kernel_rfl) (by kernel_rfl) (by kernel_rfl) (fun _ _ _ h => h) ⟨by rfl, ?_⟩ hS ?_
      rotate_left
      · intro wq hSw; have kk := K2.out; go_simp; try rfl
      simp only [Act.put, List.setIfInBounds_toArray, List.set_cons_zero, List.set_cons_succ]
      refine take_at 11 (some 78) (v := ?_) rfl rfl (by kernel_rfl) (by kernel_rfl) (by kernel_rfl) (fun _ _ _ h => h) ⟨by rfl, ?_⟩ hS ?_
      rotate_left
      · intro wq hSw; have kk := K3.out; go_simp; try rfl
      simp only [Act.put, List.setIfInBounds_toArray, List.set_cons_zero, List.set_cons_succ]
      refine take_at 12 (some 79) (v := ?_) rfl rfl (by kernel_rfl) (by kernel_rfl) (by kernel_rfl) (fun _ _ _ h => h) ⟨by rfl, ?_⟩ hS ?_
      rotate_left
      · intro wq hSw; have kk := K4.out; go_simp; try rfl
      simp only [Act.put, List.setIfInBounds_toArray, List.set_cons_zero, List.set_cons_succ]
      refine take_at 13 (some 8) (v := ?_) rfl rfl (by kernel_rfl) (by kernel_rfl) (by kernel_rfl) (fun _ _ _ h => h) ⟨by rfl, ?_⟩ hS ?_
      rotate_left
      · intro wq hSw; go_simp; try rfl
      simp only [Act.put, List.setIfInBounds_toArray, List.set_cons_zero, List.set_cons_succ]
      refine wpAnyH_done (by kernel_rfl) ?_ _
      clear hS
      obtain ⟨W4, hW4⟩ : ∃ W4, W4 = w3.drew := ⟨_, rfl⟩
      have b4 : Below w3.heap.size w3 W4 := by rw [hW4]; exact (Below.refl _ _).drew
      rw [← hW4]
      have D4 := hide (D3.out.below b4)
      have C4 := hide (C3.out.below b4)
      have B4 := hide (bnext B3.out b4 (Nat.le_refl _))
      have O4 := hide (Owns.below O3.out b4)
      have d8 := (C4.out.get 8 _ rfl).1
      have d2 := (b4.cell (p := ⟨bb, off + 2, none⟩) hbb).trans c2
      obtain ⟨gb1, go1, e3, _, m1⟩ := Bytes.at (Owns.seen_at O4.out) (i := at_) (by rw [hcl3]; exact k5)
      cases e3
      rw [Nat.zero_add] at m1
      have yz := hall.get at_
      obtain ⟨z, hz⟩ : ∃ z, z = (g.content n2).getD at_ 0 := ⟨_, rfl⟩
      rw [← hz] at m1 yz
      have fz := Owns.frozen O4.out at_
      have xr : bits .xor .u8 (z : Int) (x2 : Int) = ((z ^^^ x2 : Nat) : Int) := u8_xor_nat z x2 yz y2
      have xb : z ^^^ x2 < 256 := Nat.xor_lt_two_pow (n := 8) yz y2
      have g5 : ¬ (512 : Int) ≤ (at_ : Int) := by omega
      have g6 : (at_ : Int) < 512 := by omega
      clear hW4 b4 D3 C3 B3 O3 u8 c0 c1 c2 hz K2 K3 K4
      go_upto_region 13 with fail
      go_region
      obtain ⟨w5, hw5⟩ : ∃ w5, w5 = (W4.setCell ⟨gb, at_, none⟩ (.int .u8 ((z ^^^ x2 : Nat) : Int))).drew := ⟨_, rfl⟩
      have k5' : Keep (fun b => b = gb) W4 w5 := by rw [hw5]; exact ((Keep.refl (fun b => b = gb) W4).setCell (fun _ => rfl) _).drew
      have o5 : OwnB w5 W.heap.size (.slice (some ⟨gb, 0, none⟩) 512 c3) ((g.content n2).set at_ (z ^^^ x2)) := by rw [hw5]; unfold OwnB; rw [ints_set']; exact Owns.below (Owns.stored O4.out at_ _) (Below.refl _ _).drew
      have D5 := hide (D4.out.apart k5' (fun b hb => by subst hb; have := GB.out; exact ⟨fun q => by have := DL.out.1 _ q; omega, fun q => by have := DL.out.2.1 _ q; omega, fun q => by have := DL.out.2.2; omega⟩))
      have u4 := ((C4.out.keep k5' (by have := GB.out; have := LW.out; omega)).get 4 _ rfl).1
      have B5 := hide (B4.out.trans (k5'.below B4.out.size (fun k hk q => by have := GB.out; have := LW.out; omega)))
      have KW := writes_any D5.out (n2 : Int) (some ⟨gb, 0, none⟩) ((g.content n2).set at_ (z ^^^ x2)) c3 (Owns.seen_at o5) nofun (AllB.set hall _ _ xb) hpl hcl
      rw [List.length_set, hcl3] at KW
      have KW := hide KW
      have RR := hide (R2.out w5)
      have AL := hide (AllB.set hall at_ _ xb)
      have HW5 := hide hw5
      clear hw5 k5' o5 D4 C4 B4 O4 d8 d2 m1 fz xr xb R2
      rw [← HW5.out]
      go_wp2_with fail
      refine RR.out.mono ?_
      rintro e w' ⟨rfl, hw⟩
      obtain rfl : w5 = w' := hw.symm
      go_wp2_with fail
      refine KW.out.mono ?_
      rintro e w6 ⟨S6, T6, rfl, D6, st6⟩
      go_wp2_with fail
      go_ret
      exact ⟨_, S6, T6, rfl, D6, Grows.write OK.out _ _ (padB_allB AL.out), (Step.of_below B5.out).trans st6⟩
end Go.Proofs.YtapjbgkmcplpbaaGreat
