import Derived.Test.YtcnlcmdppkdmmaaEc24
namespace Go.Proofs.Ytcnlcmdppkdmmaa
open Go.RowKit Go.QK Quota Go.Maps
set_option maxRecDepth 100000

/-- The program's escrow and the document's, in one state. -/
structure Two (w : World) (b m r : Nat) (e : Esc) (a : Option Addr) (c : Nat) : Prop where
  pe : PE w b m e
  re : RE w r e a c
theorem Two.below {w w' : World} {b m r : Nat} {e : Esc} {a : Option Addr} {c : Nat} (h : Two w b m r e a c) (hb : Below w.heap.size w w') : Two w' b m r e a c := ⟨h.pe.below hb, h.re.below hb⟩

set_option maxHeartbeats 8000000 in
theorem tells_any (b m r : Nat) (e : Esc) (a : Option Addr) (c : Nat) (tx : Int) (w : World) (h : Two w b m r e a c) (hx : I64 tx) (hl : e.nets.length ≤ 1500) :
    Calls Try.prog 33 #[ptr b, ptr r, .int .i64 tx] w fun x w' => x = .returned (.bool true) ∧ Below w.heap.size w w' := by
  have HT := hide h
  have K1 := fun w' (h : Two w' b m r e a c) => net_any b m e tx w' h.pe hx
  have K2 := fun w' (h : Two w' b m r e a c) => rNet_any r e a c tx w' h.re (by omega)
  have K3 := fun w' (h : Two w' b m r e a c) => bounds_any b m e w' h.pe
  have K4 := fun w' (h : Two w' b m r e a c) => settled_any b m e w' h.pe
  have K5 := fun w' (h : Two w' b m r e a c) => interval_any b m e w' h.pe
  have K6 := fun w' (h : Two w' b m r e a c) => rInterval_any r e a c w' h.re hl
  have K7 := fun w' (h : Two w' b m r e a c) => value_any b m e w' h.pe
  have K8 := fun w' (h : Two w' b m r e a c) => rValue_any r e a c w' h.re hl
  have K9 := fun w' (h : Two w' b m r e a c) => holders_any b m e w' h.pe (by omega)
  have K10 := fun w' (h : Two w' b m r e a c) => rHolders_any r e a c w' h.re (by omega)
  generalize netV e.nets tx = nv at *
  generalize holdB e.nets tx = hv at *
  clear h
  go_enter Try.func33, Try.ntmps33
  go_wp2_with fail
  refine (K1 _ HT.out).mono ?_
  rintro x w1 ⟨rfl, h1⟩
  have T1 := hide (HT.out.below h1)
  have B1 := hide h1
  clear h1 K1
  go_wp2_with fail
  refine (K2 _ T1.out).mono ?_
  rintro x w2 ⟨rfl, h2⟩
  have T2 := hide (T1.out.below h2)
  have B2 := hide (B1.out.trans (h2.mono B1.out.size))
  clear h2 K2 T1 B1 HT
  go_upto_region 3 with fail
  have c0 := T2.out.re.c0
  have c1 := T2.out.re.c1
  have c2 := T2.out.re.c2
  refine wp_region_held_drew (S := fun wq => wq.cell? ⟨r, 0, none⟩ = some (.int .i64 e.lo) ∧ wq.cell? ⟨r, 1, none⟩ = some (.int .i64 e.hi) ∧ wq.cell? ⟨r, 2, none⟩ = some (.int .i64 e.base)) (by kernel_rfl) ⟨c0, c1, c2⟩ (fun hS => ?_)
  have T3 := hide (T2.out.below (Below.refl _ _).drew)
  have B3 := hide B2.out.drew
  clear c0 c1 c2 T2 B2
  generalize w2.drew = w3 at *
  refine take_at 0 (some 23) (v := ?_) rfl rfl (by kernel_rfl) (by kernel_rfl) (by kernel_rfl) (fun _ _ _ h => h) ⟨by rfl, ?_⟩ hS ?_
  rotate_left
  · intro wq hSw; go_simp; try rfl
  simp only [Act.put, List.setIfInBounds_toArray, List.set_cons_zero, List.set_cons_succ]
  refine take_at 1 (some 24) (v := ?_) rfl rfl (by kernel_rfl) (by kernel_rfl) (by kernel_rfl) (fun _ _ _ h => h) ⟨by rfl, ?_⟩ hS ?_
  rotate_left
  · intro wq hSw; go_simp; try rfl
  simp only [Act.put, List.setIfInBounds_toArray, List.set_cons_zero, List.set_cons_succ]
  refine take_at 2 (some 25) (v := ?_) rfl rfl (by kernel_rfl) (by kernel_rfl) (by kernel_rfl) (fun _ _ _ h => h) ⟨by rfl, ?_⟩ hS ?_
  rotate_left
  · intro wq hSw; go_simp; try rfl
  simp only [Act.put, List.setIfInBounds_toArray, List.set_cons_zero, List.set_cons_succ]
  refine take_at 3 (some 26) (v := ?_) rfl rfl (by kernel_rfl) (by kernel_rfl) (by kernel_rfl) (fun _ _ _ h => h) ⟨by rfl, ?_⟩ hS ?_
  rotate_left
  · intro wq hSw; go_simp; try rfl
  simp only [Act.put, List.setIfInBounds_toArray, List.set_cons_zero, List.set_cons_succ]
  refine take_at 4 (some 27) (v := ?_) rfl rfl (by kernel_rfl) (by kernel_rfl) (by kernel_rfl) (fun _ _ _ h => h) ⟨by rfl, ?_⟩ hS ?_
  rotate_left
  · intro wq hSw; go_simp; try rfl
  simp only [Act.put, List.setIfInBounds_toArray, List.set_cons_zero, List.set_cons_succ]
  refine take_at 5 (some 28) (v := ?_) rfl rfl (by kernel_rfl) (by kernel_rfl) (by kernel_rfl) (fun _ _ _ h => h) ⟨by rfl, ?_⟩ hS ?_
  rotate_left
  · intro wq hSw; go_simp; try rfl
  simp only [Act.put, List.setIfInBounds_toArray, List.set_cons_zero, List.set_cons_succ]
  refine take_at 6 (some 29) (v := ?_) rfl rfl (by kernel_rfl) (by kernel_rfl) (by kernel_rfl) (fun _ _ _ h => h) ⟨by rfl, ?_⟩ hS ?_
  rotate_left
  · intro wq hSw; go_simp; try rfl
  simp only [Act.put, List.setIfInBounds_toArray, List.set_cons_zero, List.set_cons_succ]
  refine take_at 7 (some 30) (v := ?_) rfl rfl (by kernel_rfl) (by kernel_rfl) (by kernel_rfl) (fun _ _ _ h => h) ⟨by rfl, ?_⟩ hS ?_
  rotate_left
  · intro wq hSw; go_simp; try rfl
  simp only [Act.put, List.setIfInBounds_toArray, List.set_cons_zero, List.set_cons_succ]
  refine take_at 8 (some 31) (v := ?_) rfl rfl (by kernel_rfl) (by kernel_rfl) (by kernel_rfl) (fun _ _ _ h => h) ⟨by rfl, ?_⟩ hS ?_
  rotate_left
  · intro wq hSw; go_simp; try rfl
  simp only [Act.put, List.setIfInBounds_toArray, List.set_cons_zero, List.set_cons_succ]
  refine take_at 9 (some 32) (v := ?_) rfl rfl (by kernel_rfl) (by kernel_rfl) (by kernel_rfl) (fun _ _ _ h => h) ⟨by rfl, ?_⟩ hS ?_
  rotate_left
  · intro wq hSw; go_simp; try rfl
  simp only [Act.put, List.setIfInBounds_toArray, List.set_cons_zero, List.set_cons_succ]
  refine take_at 11 (some 34) (v := ?_) rfl rfl (by kernel_rfl) (by kernel_rfl) (by kernel_rfl) (fun _ _ _ h => h) ⟨by rfl, ?_⟩ hS ?_
  rotate_left
  · intro wq hSw; go_simp; try rfl
  simp only [Act.put, List.setIfInBounds_toArray, List.set_cons_zero, List.set_cons_succ]
  refine take_at 12 (some 35) (v := ?_) rfl rfl (by kernel_rfl) (by kernel_rfl) (by kernel_rfl) (fun _ _ _ h => h) ⟨by rfl, ?_⟩ hS ?_
  rotate_left
  · intro wq hSw; go_simp; try rfl
  simp only [Act.put, List.setIfInBounds_toArray, List.set_cons_zero, List.set_cons_succ]
  refine take_at 13 (some 36) (v := ?_) rfl rfl (by kernel_rfl) (by kernel_rfl) (by kernel_rfl) (fun _ _ _ h => h) ⟨by rfl, ?_⟩ hS ?_
  rotate_left
  · intro wq hSw; go_simp; try rfl
  simp only [Act.put, List.setIfInBounds_toArray, List.set_cons_zero, List.set_cons_succ]
  refine take_at 14 (some 37) (v := ?_) rfl rfl (by kernel_rfl) (by kernel_rfl) (by kernel_rfl) (fun _ _ _ h => h) ⟨by rfl, ?_⟩ hS ?_
  rotate_left
  · intro wq hSw; obtain ⟨r0, r1, r2⟩ := hSw; go_simp; try rfl
  simp only [Act.put, List.setIfInBounds_toArray, List.set_cons_zero, List.set_cons_succ]
  refine wpAnyH_ready (rs := [10]) (by kernel_rfl) (by simp) ?_
  refine AllReadyH.cons rfl (fun K hK => ?_) AllReadyH.nil
  go_simp
  go_wp2_with fail
  refine (K3 _ T3.out).mono ?_
  rintro x w4 ⟨rfl, h⟩
  have T4 := hide (T3.out.below h)
  have B4 := hide (B3.out.trans (h.mono B3.out.size))
  clear h T3 B3
  go_wp2_with fail
  refine hK.out _ _ ⟨T4.out.re.c0, T4.out.re.c1, T4.out.re.c2⟩ (fun hS => ?_)
  clear hK K
  (try simp only [Act.put, List.setIfInBounds_toArray, List.set_cons_zero, List.set_cons_succ])
  refine take_at 15 (some 38) (v := ?_) rfl rfl (by kernel_rfl) (by kernel_rfl) (by kernel_rfl) (fun _ _ _ h => h) ⟨by rfl, ?_⟩ hS ?_
  rotate_left
  · intro wq hSw; go_simp; try rfl
  simp only [Act.put, List.setIfInBounds_toArray, List.set_cons_zero, List.set_cons_succ]
  refine take_at 16 (some 39) (v := ?_) rfl rfl (by kernel_rfl) (by kernel_rfl) (by kernel_rfl) (fun _ _ _ h => h) ⟨by rfl, ?_⟩ hS ?_
  rotate_left
  · intro wq hSw; go_simp; try rfl
  simp only [Act.put, List.setIfInBounds_toArray, List.set_cons_zero, List.set_cons_succ]
  refine take_at 17 (some 40) (v := ?_) rfl rfl (by kernel_rfl) (by kernel_rfl) (by kernel_rfl) (fun _ _ _ h => h) ⟨by rfl, ?_⟩ hS ?_
  rotate_left
  · intro wq hSw; go_simp; try rfl
  simp only [Act.put, List.setIfInBounds_toArray, List.set_cons_zero, List.set_cons_succ]
  refine take_at 18 (some 41) (v := ?_) rfl rfl (by kernel_rfl) (by kernel_rfl) (by kernel_rfl) (fun _ _ _ h => h) ⟨by rfl, ?_⟩ hS ?_
  rotate_left
  · intro wq hSw; go_simp; try rfl
  simp only [Act.put, List.setIfInBounds_toArray, List.set_cons_zero, List.set_cons_succ]
  refine take_at 20 (some 43) (v := ?_) rfl rfl (by kernel_rfl) (by kernel_rfl) (by kernel_rfl) (fun _ _ _ h => h) ⟨by rfl, ?_⟩ hS ?_
  rotate_left
  · intro wq hSw; go_simp; try rfl
  simp only [Act.put, List.setIfInBounds_toArray, List.set_cons_zero, List.set_cons_succ]
  refine take_at 21 (some 44) (v := ?_) rfl rfl (by kernel_rfl) (by kernel_rfl) (by kernel_rfl) (fun _ _ _ h => h) ⟨by rfl, ?_⟩ hS ?_
  rotate_left
  · intro wq hSw; go_simp; try rfl
  simp only [Act.put, List.setIfInBounds_toArray, List.set_cons_zero, List.set_cons_succ]
  refine take_at 22 (some 45) (v := ?_) rfl rfl (by kernel_rfl) (by kernel_rfl) (by kernel_rfl) (fun _ _ _ h => h) ⟨by rfl, ?_⟩ hS ?_
  rotate_left
  · intro wq hSw; go_simp; try rfl
  simp only [Act.put, List.setIfInBounds_toArray, List.set_cons_zero, List.set_cons_succ]
  refine take_at 23 (some 46) (v := ?_) rfl rfl (by kernel_rfl) (by kernel_rfl) (by kernel_rfl) (fun _ _ _ h => h) ⟨by rfl, ?_⟩ hS ?_
  rotate_left
  · intro wq hSw; obtain ⟨r0, r1, r2⟩ := hSw; go_simp; try rfl
  simp only [Act.put, List.setIfInBounds_toArray, List.set_cons_zero, List.set_cons_succ]
  refine wpAnyH_ready (rs := [19]) (by kernel_rfl) (by simp) ?_
  refine AllReadyH.cons rfl (fun K hK => ?_) AllReadyH.nil
  go_simp
  go_wp2_with fail
  refine (K4 _ T4.out).mono ?_
  rintro x w5 ⟨rfl, h⟩
  have T5 := hide (T4.out.below h)
  have B5 := hide (B4.out.trans (h.mono B4.out.size))
  clear h T4 B4
  go_wp2_with fail
  refine hK.out _ _ ⟨T5.out.re.c0, T5.out.re.c1, T5.out.re.c2⟩ (fun hS => ?_)
  clear hK K
  (try simp only [Act.put, List.setIfInBounds_toArray, List.set_cons_zero, List.set_cons_succ])
  refine take_at 24 (some 47) (v := ?_) rfl rfl (by kernel_rfl) (by kernel_rfl) (by kernel_rfl) (fun _ _ _ h => h) ⟨by rfl, ?_⟩ hS ?_
  rotate_left
  · intro wq hSw; go_simp; try rfl
  simp only [Act.put, List.setIfInBounds_toArray, List.set_cons_zero, List.set_cons_succ]
  refine take_at 25 (some 48) (v := ?_) rfl rfl (by kernel_rfl) (by kernel_rfl) (by kernel_rfl) (fun _ _ _ h => h) ⟨by rfl, ?_⟩ hS ?_
  rotate_left
  · intro wq hSw; go_simp; try rfl
  simp only [Act.put, List.setIfInBounds_toArray, List.set_cons_zero, List.set_cons_succ]
  refine wpAnyH_done (by kernel_rfl) ?_ _
  go_wp2_with fail
  refine (K5 _ T5.out).mono ?_
  rintro x w6 ⟨rfl, h⟩
  have T6 := hide (T5.out.below h)
  have B6 := hide (B5.out.trans (h.mono B5.out.size))
  clear h T5 B5
  go_wp2_with fail
  refine (K6 _ T6.out).mono ?_
  rintro x w7 ⟨rfl, h⟩
  have T7 := hide (T6.out.below h)
  have B7 := hide (B6.out.trans (h.mono B6.out.size))
  clear h T6 B6
  go_wp2_with fail
  refine (K7 _ T7.out).mono ?_
  rintro x w8 ⟨rfl, h⟩
  have T8 := hide (T7.out.below h)
  have B8 := hide (B7.out.trans (h.mono B7.out.size))
  clear h T7 B7
  go_wp2_with fail
  refine (K8 _ T8.out).mono ?_
  rintro x w9 ⟨rfl, h⟩
  have T9 := hide (T8.out.below h)
  have B9 := hide (B8.out.trans (h.mono B8.out.size))
  clear h T8 B8
  go_wp2_with fail
  refine (K9 _ T9.out).mono ?_
  rintro x w10 ⟨vh, rfl, oh, _, h⟩
  have T10 := hide (T9.out.below h)
  have B10 := hide (B9.out.trans (h.mono B9.out.size))
  obtain ⟨ah, ch, rfl, hse, -, -, -⟩ := Owns.seen oh
  have HSE := hide hse
  clear h T9 B9 oh hse
  go_wp2_with fail
  refine (K10 _ T10.out).mono ?_
  rintro x w11 ⟨a2, c2, rfl, hs2, h⟩
  have HSE := hide (HSE.out.below h)
  have B11 := hide (B10.out.trans (h.mono B10.out.size))
  have KS := same_any (keysN e.nets) ah a2 ch c2 w11 HSE.out hs2 (by simp; omega)
  rw [show (keysN e.nets).length = e.nets.length from by simp] at KS
  clear h T10 B10 hs2
  try rw [show (keysN e.nets).length = e.nets.length from by simp]
  go_wp2_with fail
  refine KS.mono ?_
  rintro x w12 ⟨rfl, h⟩
  go_wp2_with fail
  go_ret
  exact ⟨rfl, B11.out.trans (h.mono B11.out.size)⟩
end Go.Proofs.Ytcnlcmdppkdmmaa
