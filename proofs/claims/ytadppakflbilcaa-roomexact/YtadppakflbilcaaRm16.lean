import Derived.Test.YtadppakflbilcaaRm15
namespace Go.Proofs.Ytadppakflbilcaa
open Go.RowKit Go.QK Go.Maps Go.QM Go.QR
set_option maxRecDepth 100000
theorem ptr_neq (b : Nat) (w : World) : (binOp .neq 27 (ptr b) (.pointer none)).run Try.prog w = .ok (.bool true) w := by go_simp
set_option maxHeartbeats 1000000 in
theorem begun_any (w : World) : Calls Try.prog 22 #[] w fun e w' => ∃ p r U, e = .returned (.tuple #[bothV p r, .bool true]) ∧ Duo w' U p r [] [] ∧ (∀ k, U k → w.heap.size ≤ k) ∧ Below w.heap.size w w' := by
  have pn := ptr_neq
  have A1 := alloc_below w (.cells #[.pointer none, .pointer none] 54)
  have K1 := new_any (w.alloc (.cells #[.pointer none, .pointer none] 54))
  obtain ⟨w1, hw1⟩ : ∃ w1, w1 = w.alloc (.cells #[.pointer none, .pointer none] 54) := ⟨_, rfl⟩
  have C1 : Cells w1 w.heap.size [.pointer none, .pointer none] := by rw [hw1]; exact Cells.new w #[.pointer none, .pointer none] 54
  have sz1 : w1.heap.size = w.heap.size + 1 := by rw [hw1]; simp
  rw [← hw1] at K1 A1
  have SZ := hide sz1
  clear sz1
  go_enter Try.func22, Try.ntmps22
  go_upto_region 1 with fail
  rw [← hw1]
  clear hw1
  go_wp2_with fail
  refine K1.mono ?_
  rintro e w2 ⟨rfl, R2, b2, sz2⟩
  have SZ2 := hide sz2
  clear sz2
  have K2 := rnew_any w2
  go_wp2_with fail
  refine K2.mono ?_
  rintro e w3 ⟨rfl, R3, b3, sz3⟩
  have sz2 := SZ2.out
  have sz1 := SZ.out
  have D3 : Duo w3 (fun k => w1.heap.size ≤ k ∧ k < w3.heap.size) (w1.heap.size + 1) w2.heap.size [] [] := ⟨fun k q => q.2, _, _, R2.below b3, R3, fun k q => by omega, fun k q => by omega, fun k q z => by omega⟩
  have C3 := (C1.keep (Keep.of_below (S := fun _ => False) b2) id).keep (Keep.of_below (S := fun _ => False) b3) id
  obtain ⟨c0, f0⟩ := C3.get 0 _ rfl
  obtain ⟨c1, f1⟩ := C3.get 1 _ rfl
  have B3 : Below w.heap.size w w3 := (A1.trans (b2.mono (by omega))).trans (b3.mono (by omega))
  have FIN := hide (show ∀ w4, w4 = (w3.setCell ⟨w.heap.size, 0, none⟩ (ptr (w1.heap.size + 1))).setCell ⟨w.heap.size, 1, none⟩ (ptr w2.heap.size) → Duo w4 (fun k => w1.heap.size ≤ k ∧ k < w3.heap.size) (w1.heap.size + 1) w2.heap.size [] [] ∧ Below w.heap.size w w4 ∧ Cells w4 w.heap.size [ptr (w1.heap.size + 1), ptr w2.heap.size] from by
    intro w4 h4
    have k4 : Keep (fun z => z = w.heap.size) w3 w4 := by rw [h4]; exact ((Keep.refl (fun z => z = w.heap.size) w3).setCell (fun _ => rfl) _).setCell (fun _ => rfl) _
    refine ⟨D3.keep k4 (fun k q => by omega), B3.trans (k4.below (by omega) (fun k hk => by omega)), ?_⟩
    have := (C3.stored (j := 0) (by simp) (ptr (w1.heap.size + 1))).stored (j := 1) (by simp) (ptr w2.heap.size)
    rw [h4]
    exact this)
  clear sz1 R2 R3 D3 C3 B3 b2 b3 A1 C1 K1 K2 sz2 sz3
  go_wp2_with fail
  obtain ⟨q1, q2, q3⟩ := FIN.out _ rfl
  obtain ⟨d0, -⟩ := q3.get 0 _ rfl
  obtain ⟨d1, -⟩ := q3.get 1 _ rfl
  refine bodyPost_ret (v := .tuple #[bothV (w1.heap.size + 1) w2.heap.size, .bool true]) (by simp [results, Try.results22, go_sem, d0, d1]) rfl ⟨_, _, _, rfl, q1, fun k q => by have := SZ.out; omega, q2⟩
set_option maxHeartbeats 4000000 in
theorem looks_any (U : Nat → Prop) (p r : Nat) (L : List Tx) (w : World) (h : Duo w U p r L L) : Calls Try.prog 24 #[bothV p r] w fun e w' => e = .returned (.bool true) ∧ Below w.heap.size w w' := by
  have hok := h.ok
  have few := hok.few
  have OK := hide hok
  obtain ⟨w1, hw1⟩ : ∃ w1, w1 = w.alloc (.cells #[ptr p, ptr r] 54) := ⟨_, rfl⟩
  obtain ⟨nb, hnb⟩ : ∃ nb, nb = w.heap.size := ⟨_, rfl⟩
  have B1 : Below w.heap.size w w1 := by rw [hw1]; exact alloc_below _ _
  have C1 : Cells w1 nb [ptr p, ptr r] := by rw [hw1, hnb]; exact Cells.new w #[ptr p, ptr r] 54
  have HD := hide (h.below B1)
  have HB := hide B1
  have HC := hide C1
  clear h hok B1 C1
  go_enter Try.func24, Try.ntmps24
  go_wp2
  rw [← hw1, ← hnb]
  clear hw1 hnb
  go_loopw [3] (fun vi wr => ∃ k : Nat, vi = .int .i64 (k : Int) ∧ k ≤ L.length ∧ Below w1.heap.size w1 wr) (fun vi _ => L.length - (intOf vi).toNat)
  case atStart => exact ⟨0, rfl, Nat.zero_le _, Below.refl _ _⟩
  case round =>
    obtain ⟨k, rfl, hk, hb⟩ := hrel
    have D1 := hide (HD.out.below hb)
    have HBX := hide (HC.out.keep (Keep.of_below (S := fun _ => False) hb) id)
    have HB2 := hide hb
    clear hb
    obtain ⟨c0, -⟩ := HBX.out.get 0 _ rfl
    obtain ⟨c1, -⟩ := HBX.out.get 1 _ rfl
    obtain ⟨S2, R2, -⟩ := D1.out.ref
    obtain ⟨v, P, hL, e⟩ := R2
    have hlen := map_len e
    obtain ⟨a, cap, rfl, -⟩ := hL.form
    obtain ⟨k0, -⟩ := hL.box.get 0 _ rfl
    rw [hlen] at k0
    clear hlen
    by_cases hlt : k < L.length
    · obtain ⟨vk, hpk⟩ := map_at e (List.getElem?_eq_getElem hlt)
      obtain ⟨g, cap', ev, hg, p0, p1, p2, -⟩ := hL.refAt hpk
      cases ev
      have hx := tx_i64 (OK.out.each _ (List.getElem_mem hlt))
      clear hL hpk e p1 p2
      generalize L[k].n = n at *
      go_upto_region 5 with fail
      refine wp_region_held_drew (S := fun wq => Below wr.heap.size wr wq) (by kernel_rfl) (Below.refl _ _).drew (fun hS => ?_)
      refine take_at 0 (some 24) (v := ?_) rfl rfl (by kernel_rfl) (by kernel_rfl) (by kernel_rfl) (fun _ _ _ h => h) ⟨by rfl, ?_⟩ hS ?_
      rotate_left
      · intro wq hSw; go_simp; try rfl
      simp only [Act.put, List.setIfInBounds_toArray, List.set_cons_zero, List.set_cons_succ]
      refine take_at 1 (some 25) (v := ?_) rfl rfl (by kernel_rfl) (by kernel_rfl) (by kernel_rfl) (fun _ _ _ h => h) ⟨by rfl, ?_⟩ hS ?_
      rotate_left
      · intro wq hSw; have q := ((HBX.out.keep (Keep.of_below (S := fun _ => False) hSw) id).get 0 _ rfl).1; go_simp; try rfl
      simp only [Act.put, List.setIfInBounds_toArray, List.set_cons_zero, List.set_cons_succ]
      refine take_at 2 (some 26) (v := ?_) rfl rfl (by kernel_rfl) (by kernel_rfl) (by kernel_rfl) (fun _ _ _ h => h) ⟨by rfl, ?_⟩ hS ?_
      rotate_left
      · intro wq hSw; go_simp; try rfl
      simp only [Act.put, List.setIfInBounds_toArray, List.set_cons_zero, List.set_cons_succ]
      refine take_at 4 (some 28) (v := ?_) rfl rfl (by kernel_rfl) (by kernel_rfl) (by kernel_rfl) (fun _ _ _ h => h) ⟨by rfl, ?_⟩ hS ?_
      rotate_left
      · intro wq hSw; go_simp; try rfl
      simp only [Act.put, List.setIfInBounds_toArray, List.set_cons_zero, List.set_cons_succ]
      refine take_at 5 (some 29) (v := ?_) rfl rfl (by kernel_rfl) (by kernel_rfl) (by kernel_rfl) (fun _ _ _ h => h) ⟨by rfl, ?_⟩ hS ?_
      rotate_left
      · intro wq hSw; have q := ((HBX.out.keep (Keep.of_below (S := fun _ => False) hSw) id).get 1 _ rfl).1; go_simp; try rfl
      simp only [Act.put, List.setIfInBounds_toArray, List.set_cons_zero, List.set_cons_succ]
      refine take_at 6 (some 30) (v := ?_) rfl rfl (by kernel_rfl) (by kernel_rfl) (by kernel_rfl) (fun _ _ _ h => h) ⟨by rfl, ?_⟩ hS ?_
      rotate_left
      · intro wq hSw; go_simp; try rfl
      simp only [Act.put, List.setIfInBounds_toArray, List.set_cons_zero, List.set_cons_succ]
      have D2 := hide (D1.out.below (Below.refl _ _).drew)
      have B2 := hide hS
      clear hS
      generalize wr.drew = x2 at *
      obtain ⟨S1, R1, st1⟩ := D2.out.prog
      have KP := Of_any S1 p L n x2 R1 hx
      refine wpAnyH_ready (rs := [3]) (by kernel_rfl) (by simp) ?_
      refine AllReadyH.cons rfl (fun K hK => ?_) AllReadyH.nil
      go_simp
      go_wp2_with fail
      refine KP.mono ?_
      rintro e x3 ⟨rfl, o⟩
      have D3 := hide (D2.out.below o)
      have B3 := hide (B2.out.trans (o.mono B2.out.size))
      clear o st1 R1 KP D2 B2
      go_wp2_with fail
      refine hK.out _ _ B3.out (fun hS => ?_)
      clear hK K
      (try simp only [Act.put, List.setIfInBounds_toArray, List.set_cons_zero, List.set_cons_succ])
      clear hS
      obtain ⟨S1, R1, st1⟩ := D3.out.ref
      have KP := rOf_any S1 r L n x3 R1 OK.out
      refine wpAnyH_ready (rs := [7]) (by kernel_rfl) (by simp) ?_
      refine AllReadyH.cons rfl (fun K hK => ?_) AllReadyH.nil
      go_simp
      go_wp2_with fail
      refine KP.mono ?_
      rintro e x4 ⟨rfl, o⟩
      have D4 := hide (D3.out.below o)
      have B4 := hide (B3.out.trans (o.mono B3.out.size))
      clear o st1 R1 KP D3 B3
      go_wp2_with fail
      refine hK.out _ _ B4.out (fun hS => ?_)
      clear hK K
      (try simp only [Act.put, List.setIfInBounds_toArray, List.set_cons_zero, List.set_cons_succ])
      refine take_at 8 (some 32) (v := ?_) rfl rfl (by kernel_rfl) (by kernel_rfl) (by kernel_rfl) (fun _ _ _ h => h) ⟨by rfl, ?_⟩ hS ?_
      rotate_left
      · intro wq hSw; go_simp; try rfl
      simp only [Act.put, List.setIfInBounds_toArray, List.set_cons_zero, List.set_cons_succ]
      refine wpAnyH_done (by kernel_rfl) ?_ _
      have BF := hide (HB2.out.trans (B4.out.mono HB2.out.size))
      clear D4 B4 hS
      go_wp2_with fail
      go_roundw
      case rel => exact ⟨k + 1, by go_num, by omega, BF.out⟩
      case measure => simp [intOf]; omega
    · clear hL e
      go_upto_region 7 with fail
      refine wp_region_held_drew (S := fun wq => Below wr.heap.size wr wq) (by kernel_rfl) (Below.refl _ _).drew (fun hS => ?_)
      refine take_at 0 (some 33) (v := ?_) rfl rfl (by kernel_rfl) (by kernel_rfl) (by kernel_rfl) (fun _ _ _ h => h) ⟨by rfl, ?_⟩ hS ?_
      rotate_left
      · intro wq hSw; go_simp; try rfl
      simp only [Act.put, List.setIfInBounds_toArray, List.set_cons_zero, List.set_cons_succ]
      refine take_at 1 (some 34) (v := ?_) rfl rfl (by kernel_rfl) (by kernel_rfl) (by kernel_rfl) (fun _ _ _ h => h) ⟨by rfl, ?_⟩ hS ?_
      rotate_left
      · intro wq hSw; have q := ((HBX.out.keep (Keep.of_below (S := fun _ => False) hSw) id).get 0 _ rfl).1; go_simp; try rfl
      simp only [Act.put, List.setIfInBounds_toArray, List.set_cons_zero, List.set_cons_succ]
      refine take_at 3 (some 36) (v := ?_) rfl rfl (by kernel_rfl) (by kernel_rfl) (by kernel_rfl) (fun _ _ _ h => h) ⟨by rfl, ?_⟩ hS ?_
      rotate_left
      · intro wq hSw; go_simp; try rfl
      simp only [Act.put, List.setIfInBounds_toArray, List.set_cons_zero, List.set_cons_succ]
      refine take_at 4 (some 37) (v := ?_) rfl rfl (by kernel_rfl) (by kernel_rfl) (by kernel_rfl) (fun _ _ _ h => h) ⟨by rfl, ?_⟩ hS ?_
      rotate_left
      · intro wq hSw; have q := ((HBX.out.keep (Keep.of_below (S := fun _ => False) hSw) id).get 1 _ rfl).1; go_simp; try rfl
      simp only [Act.put, List.setIfInBounds_toArray, List.set_cons_zero, List.set_cons_succ]
      have D2 := hide (D1.out.below (Below.refl _ _).drew)
      have B2 := hide hS
      clear hS
      generalize wr.drew = x2 at *
      obtain ⟨S1, R1, st1⟩ := D2.out.prog
      have KP := Promised_any S1 p L x2 R1
      refine wpAnyH_ready (rs := [2]) (by kernel_rfl) (by simp) ?_
      refine AllReadyH.cons rfl (fun K hK => ?_) AllReadyH.nil
      go_simp
      go_wp2_with fail
      refine KP.mono ?_
      rintro e x3 ⟨rfl, o⟩
      have D3 := hide (D2.out.below o)
      have B3 := hide (B2.out.trans (o.mono B2.out.size))
      clear o st1 R1 KP D2 B2
      go_wp2_with fail
      refine hK.out _ _ B3.out (fun hS => ?_)
      clear hK K
      (try simp only [Act.put, List.setIfInBounds_toArray, List.set_cons_zero, List.set_cons_succ])
      clear hS
      obtain ⟨S1, R1, st1⟩ := D3.out.ref
      have KP := rPromised_any S1 r L x3 R1 OK.out
      refine wpAnyH_ready (rs := [5]) (by kernel_rfl) (by simp) ?_
      refine AllReadyH.cons rfl (fun K hK => ?_) AllReadyH.nil
      go_simp
      go_wp2_with fail
      refine KP.mono ?_
      rintro e x4 ⟨rfl, o⟩
      have D4 := hide (D3.out.below o)
      have B4 := hide (B3.out.trans (o.mono B3.out.size))
      clear o st1 R1 KP D3 B3
      go_wp2_with fail
      refine hK.out _ _ B4.out (fun hS => ?_)
      clear hK K
      (try simp only [Act.put, List.setIfInBounds_toArray, List.set_cons_zero, List.set_cons_succ])
      refine take_at 6 (some 39) (v := ?_) rfl rfl (by kernel_rfl) (by kernel_rfl) (by kernel_rfl) (fun _ _ _ h => h) ⟨by rfl, ?_⟩ hS ?_
      rotate_left
      · intro wq hSw; go_simp; try rfl
      simp only [Act.put, List.setIfInBounds_toArray, List.set_cons_zero, List.set_cons_succ]
      refine take_at 7 (some 2) (v := ?_) rfl rfl (by kernel_rfl) (by kernel_rfl) (by kernel_rfl) (fun _ _ _ h => h) ⟨by rfl, ?_⟩ hS ?_
      rotate_left
      · intro wq hSw; go_simp; try rfl
      simp only [Act.put, List.setIfInBounds_toArray, List.set_cons_zero, List.set_cons_succ]
      refine wpAnyH_done (by kernel_rfl) ?_ _
      have BF := hide (HB.out.trans ((HB2.out.trans (B4.out.mono HB2.out.size)).mono HB.out.size))
      clear D4 B4 hS
      go_wp2_with fail
      go_ret
      exact ⟨rfl, BF.out⟩
end Go.Proofs.Ytadppakflbilcaa
