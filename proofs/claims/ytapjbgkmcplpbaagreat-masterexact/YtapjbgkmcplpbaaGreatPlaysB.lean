import Derived.Test.YtapjbgkmcplpbaaGreatCalls1
import Derived.Test.YtapjbgkmcplpbaaGreatTurn
namespace Go.Proofs.YtapjbgkmcplpbaaGreat
open Go.RowKit Go.QK
def HC (pb d c b3 : Nat) (n : Int) (la : Option Addr) (m lc : Nat) (tn off : Int) (wq : World) : Prop := PC pb d c wq ∧ wq.cell? ⟨b3, 4, none⟩ = some (.int .i64 n) ∧ wq.cell? ⟨b3, 5, none⟩ = some (.slice la m lc) ∧ wq.cell? ⟨b3, 6, none⟩ = some (.int .i64 tn) ∧ wq.cell? ⟨b3, 7, none⟩ = some (.int .i64 off)
theorem LossAt.keep {w w' : World} {l : Loss} {a : Option Addr} {c : Nat} {V : Nat → Prop} (h : LossAt w l a c) (hk : Keep V w w') (hn : l.keep ≠ [] → ∀ ad, a = some ad → ¬ V ad.block) : LossAt w' l a c := ⟨Seen.keep' h.seen hk (fun q => hn (ints_ne q)), h.nil, h.cap, h.ok⟩

set_option maxHeartbeats 8000000 in
set_option maxRecDepth 100000 in
theorem plays_arm {w : World} {S T : Nat → Prop} {d c : Nat} {g : Dev} {pb p q r : Nat} (h : Duet w S d g T c g pb p q r) (o : OpM) (la : Option Addr) (lc : Nat) (ba : Option Addr) (bc : Nat) (hk : o.k = 5) (hl : LossAt w o.l la lc) (hkl : o.l.keep.length ≤ 17592186044415) (hout : o.l.keep ≠ [] → ∀ ad, la = some ad → ¬ S ad.block ∧ ¬ T ad.block) (hi : o.n ≤ 9223372036854775807) (hpl : g.pend.length ≤ 999990) (hcl : g.calls ≤ 999990) :
    Calls Tryz.prog 7 #[.pointer (some ⟨pb, 0, none⟩), .agg (o.v la lc ba bc)] w fun e w' => ∃ g' S' T', e = .returned (.bool true) ∧ Duet w' S' d g' T' c g' pb p q r ∧ Grows g g' ∧ Step w (fun b => S b ∨ T b) w' (fun b => S' b ∨ T' b) := by
  have PL := hide hpl
  have CL := hide hcl
  have HV : Hid (o.v la lc ba bc = #[.int .i64 5, .int .i64 o.x, .int .i64 o.y, .int .i64 o.z, .int .i64 o.n, .slice la o.l.keep.length lc, .int .i64 o.l.torn, .int .i64 o.l.off, .slice ba o.b.length bc, .bool o.little]) := by unfold Hid OpM.v; rw [hk]
  obtain ⟨w1, hw1⟩ : ∃ w1, w1 = w.alloc (.cells (o.v la lc ba bc) 36) := ⟨_, rfl⟩
  have b1 : Below w.heap.size w w1 := by rw [hw1]; exact alloc_below _ _
  have C1 : Cells w1 w.heap.size [.int .i64 5, .int .i64 o.x, .int .i64 o.y, .int .i64 o.z, .int .i64 o.n, .slice la o.l.keep.length lc, .int .i64 o.l.torn, .int .i64 o.l.off, .slice ba o.b.length bc, .bool o.little] := by
    have q : Cells w1 w.heap.size (o.v la lc ba bc).toList := by rw [hw1]; exact Cells.new w _ 36
    rw [HV.out] at q
    exact q
  rw [HV.out] at hw1 ⊢
  have LT := hide (show ¬ S w.heap.size ∧ ¬ T w.heap.size from ⟨fun q => by have := h.pr.one.lt _ q; omega, fun q => by have := h.pr.two.lt _ q; omega⟩)
  have D1 := hide (h.below b1)
  have B1 := hide b1
  have HW1 := hide hw1
  have OK := hide h.pr.one.ok
  obtain ⟨u0, _⟩ := C1.get 0 _ rfl
  obtain ⟨u4, _⟩ := C1.get 4 _ rfl
  obtain ⟨u5, _⟩ := C1.get 5 _ rfl
  obtain ⟨u6, _⟩ := C1.get 6 _ rfl
  obtain ⟨u7, _⟩ := C1.get 7 _ rfl
  obtain ⟨W, hW⟩ : ∃ W, W = w1.drew := ⟨_, rfl⟩
  have bW : Below w1.heap.size w1 W := by rw [hW]; exact (Below.refl _ _).drew
  have DW := hide (D1.out.below bW)
  have CW := hide (C1.below bW)
  have BW := hide (bnext b1 bW (Nat.le_refl _))
  have F1 := hide (show HC pb d c w.heap.size o.n la o.l.keep.length lc o.l.torn o.l.off w1 from ⟨D1.out.pc, u4, u5, u6, u7⟩)
  have HLW := hide (show LossAt W o.l la lc from hl.keep (Keep.of_below (S := fun _ => False) (BW.out)) (fun _ _ _ q => q))
  have HOUT := hide hout
  have KA := hide (arm_any DW.out.pr.one o.n hi o.l la lc HLW.out (fun hx ad had => (hout hx ad had).1) hkl)
  have KR := hide (fun (w' : World) (hh : RDev w' T c g) (hq : LossAt w' o.l la lc) => rArm_any hh o.n hi o.l la lc hq (fun hx ad had => (HOUT.out hx ad had).2) hkl)
  have BE := hide (both_any ((g.armE o.n : Nat) : Int))
  have HW := hide hW
  clear hw1 b1 C1 HV h hk hW bW u4 u5 u6 u7
  go_enter Tryz.func7, Tryz.ntmps7
  go_upto_region 1 with fail
  rw [← HW1.out]
  clear HW1
  go_wp2_with fail
  refine wp_region_held_drew (S := HC pb d c w.heap.size o.n la o.l.keep.length lc o.l.torn o.l.off) (by kernel_rfl) F1.out (fun hS => ?_)
  rw [← HW.out] at hS ⊢
  clear F1 HW u0
  refine take_at 0 (some 40) (v := ?_) rfl rfl (by kernel_rfl) (by kernel_rfl) (by kernel_rfl) (fun _ _ _ h => h) ⟨by rfl, ?_⟩ hS ?_
  rotate_left
  · intro wq hSw; go_simp; try rfl
  simp only [Act.put, List.setIfInBounds_toArray, List.set_cons_zero, List.set_cons_succ]
  refine take_at 1 (some 41) (v := ?_) rfl rfl (by kernel_rfl) (by kernel_rfl) (by kernel_rfl) (fun _ _ _ h => h) ⟨by rfl, ?_⟩ hS ?_
  rotate_left
  · intro wq hSw; go_simp; try rfl
  simp only [Act.put, List.setIfInBounds_toArray, List.set_cons_zero, List.set_cons_succ]
  refine take_at 2 (some 42) (v := ?_) rfl rfl (by kernel_rfl) (by kernel_rfl) (by kernel_rfl) (fun _ _ _ h => h) ⟨by rfl, ?_⟩ hS ?_
  rotate_left
  · intro wq hSw; go_simp; try rfl
  simp only [Act.put, List.setIfInBounds_toArray, List.set_cons_zero, List.set_cons_succ]
  refine take_at 3 (some 43) (v := ?_) rfl rfl (by kernel_rfl) (by kernel_rfl) (by kernel_rfl) (fun _ _ _ h => h) ⟨by rfl, ?_⟩ hS ?_
  rotate_left
  · intro wq hSw; obtain ⟨⟨x0, x1⟩, y0, y1, y2, y3⟩ := hSw; go_simp; try rfl
  simp only [Act.put, List.setIfInBounds_toArray, List.set_cons_zero, List.set_cons_succ]
  refine take_at 4 (some 44) (v := ?_) rfl rfl (by kernel_rfl) (by kernel_rfl) (by kernel_rfl) (fun _ _ _ h => h) ⟨by rfl, ?_⟩ hS ?_
  rotate_left
  · intro wq hSw; go_simp; try rfl
  simp only [Act.put, List.setIfInBounds_toArray, List.set_cons_zero, List.set_cons_succ]
  refine take_at 5 (some 45) (v := ?_) rfl rfl (by kernel_rfl) (by kernel_rfl) (by kernel_rfl) (fun _ _ _ h => h) ⟨by rfl, ?_⟩ hS ?_
  rotate_left
  · intro wq hSw; obtain ⟨⟨x0, x1⟩, y0, y1, y2, y3⟩ := hSw; go_simp; try rfl
  simp only [Act.put, List.setIfInBounds_toArray, List.set_cons_zero, List.set_cons_succ]
  refine take_at 6 (some 46) (v := ?_) rfl rfl (by kernel_rfl) (by kernel_rfl) (by kernel_rfl) (fun _ _ _ h => h) ⟨by rfl, ?_⟩ hS ?_
  rotate_left
  · intro wq hSw; go_simp; try rfl
  simp only [Act.put, List.setIfInBounds_toArray, List.set_cons_zero, List.set_cons_succ]
  refine take_at 7 (some 47) (v := ?_) rfl rfl (by kernel_rfl) (by kernel_rfl) (by kernel_rfl) (fun _ _ _ h => h) ⟨by rfl, ?_⟩ hS ?_
  rotate_left
  · intro wq hSw; obtain ⟨⟨x0, x1⟩, y0, y1, y2, y3⟩ := hSw; go_simp; try rfl
  simp only [Act.put, List.setIfInBounds_toArray, List.set_cons_zero, List.set_cons_succ]
  refine take_at 9 (some 49) (v := ?_) rfl rfl (by kernel_rfl) (by kernel_rfl) (by kernel_rfl) (fun _ _ _ h => h) ⟨by rfl, ?_⟩ hS ?_
  rotate_left
  · intro wq hSw; go_simp; try rfl
  simp only [Act.put, List.setIfInBounds_toArray, List.set_cons_zero, List.set_cons_succ]
  refine take_at 10 (some 50) (v := ?_) rfl rfl (by kernel_rfl) (by kernel_rfl) (by kernel_rfl) (fun _ _ _ h => h) ⟨by rfl, ?_⟩ hS ?_
  rotate_left
  · intro wq hSw; go_simp; try rfl
  simp only [Act.put, List.setIfInBounds_toArray, List.set_cons_zero, List.set_cons_succ]
  refine take_at 11 (some 51) (v := ?_) rfl rfl (by kernel_rfl) (by kernel_rfl) (by kernel_rfl) (fun _ _ _ h => h) ⟨by rfl, ?_⟩ hS ?_
  rotate_left
  · intro wq hSw; go_simp; try rfl
  simp only [Act.put, List.setIfInBounds_toArray, List.set_cons_zero, List.set_cons_succ]
  refine take_at 12 (some 52) (v := ?_) rfl rfl (by kernel_rfl) (by kernel_rfl) (by kernel_rfl) (fun _ _ _ h => h) ⟨by rfl, ?_⟩ hS ?_
  rotate_left
  · intro wq hSw; obtain ⟨⟨x0, x1⟩, y0, y1, y2, y3⟩ := hSw; go_simp; try rfl
  simp only [Act.put, List.setIfInBounds_toArray, List.set_cons_zero, List.set_cons_succ]
  refine take_at 13 (some 53) (v := ?_) rfl rfl (by kernel_rfl) (by kernel_rfl) (by kernel_rfl) (fun _ _ _ h => h) ⟨by rfl, ?_⟩ hS ?_
  rotate_left
  · intro wq hSw; go_simp; try rfl
  simp only [Act.put, List.setIfInBounds_toArray, List.set_cons_zero, List.set_cons_succ]
  refine take_at 14 (some 54) (v := ?_) rfl rfl (by kernel_rfl) (by kernel_rfl) (by kernel_rfl) (fun _ _ _ h => h) ⟨by rfl, ?_⟩ hS ?_
  rotate_left
  · intro wq hSw; obtain ⟨⟨x0, x1⟩, y0, y1, y2, y3⟩ := hSw; go_simp; try rfl
  simp only [Act.put, List.setIfInBounds_toArray, List.set_cons_zero, List.set_cons_succ]
  refine take_at 15 (some 55) (v := ?_) rfl rfl (by kernel_rfl) (by kernel_rfl) (by kernel_rfl) (fun _ _ _ h => h) ⟨by rfl, ?_⟩ hS ?_
  rotate_left
  · intro wq hSw; go_simp; try rfl
  simp only [Act.put, List.setIfInBounds_toArray, List.set_cons_zero, List.set_cons_succ]
  refine take_at 16 (some 56) (v := ?_) rfl rfl (by kernel_rfl) (by kernel_rfl) (by kernel_rfl) (fun _ _ _ h => h) ⟨by rfl, ?_⟩ hS ?_
  rotate_left
  · intro wq hSw; obtain ⟨⟨x0, x1⟩, y0, y1, y2, y3⟩ := hSw; go_simp; try rfl
  simp only [Act.put, List.setIfInBounds_toArray, List.set_cons_zero, List.set_cons_succ]
  refine wpAnyH_ready (rs := [8]) (by kernel_rfl) (by simp) ?_
  refine AllReadyH.cons rfl (fun K hK => ?_) AllReadyH.nil
  go_simp
  go_wp2_with fail
  refine KA.out.mono ?_
  rintro e w3 ⟨S3, rfl, P3, st3⟩
  have D3 := hide (DW.out.left P3 st3)
  have C3 := hide (CW.out.keep st3.1 LT.out.1)
  have ST3 := hide ((Step.of_below (S := fun b => S b ∨ T b) BW.out).trans (Step.inl (T := T) st3))
  have KQ := hide (KR.out w3 D3.out.pr.two (HLW.out.keep st3.1 (fun hx ad had => (HOUT.out hx ad had).1)))
  clear P3 st3 KA DW CW BW
  go_wp2_with fail
  refine hK.out _ _ (show HC pb d c w.heap.size o.n la o.l.keep.length lc o.l.torn o.l.off w3 from ⟨D3.out.pc, (C3.out.get 4 _ rfl).1, (C3.out.get 5 _ rfl).1, (C3.out.get 6 _ rfl).1, (C3.out.get 7 _ rfl).1⟩) (fun hS => ?_)
  clear hK K
  (try simp only [Act.put, List.setIfInBounds_toArray, List.set_cons_zero, List.set_cons_succ])
  refine wpAnyH_ready (rs := [17]) (by kernel_rfl) (by simp) ?_
  refine AllReadyH.cons rfl (fun K hK => ?_) AllReadyH.nil
  go_simp
  go_wp2_with fail
  refine KQ.out.mono ?_
  rintro e w5 ⟨T5, rfl, P5, st5⟩
  have D5 := hide (D3.out.right P5 st5)
  have C5 := hide (C3.out.keep st5.1 LT.out.2)
  have ST5 := hide (ST3.out.trans (Step.inr (S := S3) st5))
  clear P5 st5 KQ D3 C3 ST3
  go_wp2_with fail
  refine hK.out _ _ (show HC pb d c w.heap.size o.n la o.l.keep.length lc o.l.torn o.l.off w5 from ⟨D5.out.pc, (C5.out.get 4 _ rfl).1, (C5.out.get 5 _ rfl).1, (C5.out.get 6 _ rfl).1, (C5.out.get 7 _ rfl).1⟩) (fun hS => ?_)
  clear hK K
  (try simp only [Act.put, List.setIfInBounds_toArray, List.set_cons_zero, List.set_cons_succ])
  refine wpAnyH_ready (rs := [18]) (by kernel_rfl) (by simp) ?_
  refine AllReadyH.cons rfl (fun K hK => ?_) AllReadyH.nil
  go_simp
  go_wp2_with fail
  refine (BE.out w5).mono ?_
  rintro e w' ⟨rfl, hw⟩
  obtain rfl : w5 = w' := hw.symm
  go_wp2_with fail
  refine hK.out _ _ (show HC pb d c w.heap.size o.n la o.l.keep.length lc o.l.torn o.l.off w5 from ⟨D5.out.pc, (C5.out.get 4 _ rfl).1, (C5.out.get 5 _ rfl).1, (C5.out.get 6 _ rfl).1, (C5.out.get 7 _ rfl).1⟩) (fun hS => ?_)
  clear hK K
  (try simp only [Act.put, List.setIfInBounds_toArray, List.set_cons_zero, List.set_cons_succ])
  refine take_at 19 (some 4) (v := ?_) rfl rfl (by kernel_rfl) (by kernel_rfl) (by kernel_rfl) (fun _ _ _ h => h) ⟨by rfl, ?_⟩ hS ?_
  rotate_left
  · intro wq hSw; go_simp; try rfl
  simp only [Act.put, List.setIfInBounds_toArray, List.set_cons_zero, List.set_cons_succ]
  refine wpAnyH_done (by kernel_rfl) ?_ _
  go_wp2_with fail
  go_ret
  exact ⟨_, S3, T5, rfl, D5.out, Grows.arm _ _, ST5.out⟩

set_option maxHeartbeats 8000000 in
set_option maxRecDepth 100000 in
theorem plays_crash {w : World} {S T : Nat → Prop} {d c : Nat} {g : Dev} {pb p q r : Nat} (h : Duet w S d g T c g pb p q r) (o : OpM) (la : Option Addr) (lc : Nat) (ba : Option Addr) (bc : Nat) (hk : o.k = 6) (hl : LossAt w o.l la lc) (hout : o.l.keep ≠ [] → ∀ ad, la = some ad → ¬ S ad.block ∧ ¬ T ad.block) (hpl : g.pend.length ≤ 999990) (hcl : g.calls ≤ 999990) :
    Calls Tryz.prog 7 #[.pointer (some ⟨pb, 0, none⟩), .agg (o.v la lc ba bc)] w fun e w' => ∃ g' S' T', e = .returned (.bool true) ∧ Duet w' S' d g' T' c g' pb p q r ∧ Grows g g' ∧ Step w (fun b => S b ∨ T b) w' (fun b => S' b ∨ T' b) := by
  have PL := hide hpl
  have CL := hide hcl
  have HV : Hid (o.v la lc ba bc = #[.int .i64 6, .int .i64 o.x, .int .i64 o.y, .int .i64 o.z, .int .i64 o.n, .slice la o.l.keep.length lc, .int .i64 o.l.torn, .int .i64 o.l.off, .slice ba o.b.length bc, .bool o.little]) := by unfold Hid OpM.v; rw [hk]
  obtain ⟨w1, hw1⟩ : ∃ w1, w1 = w.alloc (.cells (o.v la lc ba bc) 36) := ⟨_, rfl⟩
  have b1 : Below w.heap.size w w1 := by rw [hw1]; exact alloc_below _ _
  have C1 : Cells w1 w.heap.size [.int .i64 6, .int .i64 o.x, .int .i64 o.y, .int .i64 o.z, .int .i64 o.n, .slice la o.l.keep.length lc, .int .i64 o.l.torn, .int .i64 o.l.off, .slice ba o.b.length bc, .bool o.little] := by
    have q : Cells w1 w.heap.size (o.v la lc ba bc).toList := by rw [hw1]; exact Cells.new w _ 36
    rw [HV.out] at q
    exact q
  rw [HV.out] at hw1 ⊢
  have LT := hide (show ¬ S w.heap.size ∧ ¬ T w.heap.size from ⟨fun q => by have := h.pr.one.lt _ q; omega, fun q => by have := h.pr.two.lt _ q; omega⟩)
  have D1 := hide (h.below b1)
  have B1 := hide b1
  have HW1 := hide hw1
  have OK := hide h.pr.one.ok
  obtain ⟨u0, _⟩ := C1.get 0 _ rfl
  obtain ⟨u4, _⟩ := C1.get 4 _ rfl
  obtain ⟨u5, _⟩ := C1.get 5 _ rfl
  obtain ⟨u6, _⟩ := C1.get 6 _ rfl
  obtain ⟨u7, _⟩ := C1.get 7 _ rfl
  obtain ⟨W, hW⟩ : ∃ W, W = w1.drew := ⟨_, rfl⟩
  have bW : Below w1.heap.size w1 W := by rw [hW]; exact (Below.refl _ _).drew
  have DW := hide (D1.out.below bW)
  have CW := hide (C1.below bW)
  have BW := hide (bnext b1 bW (Nat.le_refl _))
  have F1 := hide (show HC pb d c w.heap.size o.n la o.l.keep.length lc o.l.torn o.l.off w1 from ⟨D1.out.pc, u4, u5, u6, u7⟩)
  have HLW := hide (show LossAt W o.l la lc from hl.keep (Keep.of_below (S := fun _ => False) (BW.out)) (fun _ _ _ q => q))
  have HOUT := hide hout
  have KA := hide (crash_any DW.out.pr.one o.l la lc HLW.out (fun hx ad had => (hout hx ad had).1) (by omega))
  have KR := hide (fun (w' : World) (hh : RDev w' T c g) (hq : LossAt w' o.l la lc) => rCrash_any hh o.l la lc hq (fun hx ad had => (HOUT.out hx ad had).2) (by omega))
  have BE := hide (both_any ((g.crashE : Nat) : Int))
  have HW := hide hW
  clear hw1 b1 C1 HV h hk hW bW u4 u5 u6 u7
  go_enter Tryz.func7, Tryz.ntmps7
  go_upto_region 1 with fail
  rw [← HW1.out]
  clear HW1
  go_wp2_with fail
  refine wp_region_held_drew (S := HC pb d c w.heap.size o.n la o.l.keep.length lc o.l.torn o.l.off) (by kernel_rfl) F1.out (fun hS => ?_)
  rw [← HW.out] at hS ⊢
  clear F1 HW u0
  refine take_at 0 (some 61) (v := ?_) rfl rfl (by kernel_rfl) (by kernel_rfl) (by kernel_rfl) (fun _ _ _ h => h) ⟨by rfl, ?_⟩ hS ?_
  rotate_left
  · intro wq hSw; go_simp; try rfl
  simp only [Act.put, List.setIfInBounds_toArray, List.set_cons_zero, List.set_cons_succ]
  refine take_at 1 (some 62) (v := ?_) rfl rfl (by kernel_rfl) (by kernel_rfl) (by kernel_rfl) (fun _ _ _ h => h) ⟨by rfl, ?_⟩ hS ?_
  rotate_left
  · intro wq hSw; go_simp; try rfl
  simp only [Act.put, List.setIfInBounds_toArray, List.set_cons_zero, List.set_cons_succ]
  refine take_at 2 (some 63) (v := ?_) rfl rfl (by kernel_rfl) (by kernel_rfl) (by kernel_rfl) (fun _ _ _ h => h) ⟨by rfl, ?_⟩ hS ?_
  rotate_left
  · intro wq hSw; go_simp; try rfl
  simp only [Act.put, List.setIfInBounds_toArray, List.set_cons_zero, List.set_cons_succ]
  refine take_at 3 (some 64) (v := ?_) rfl rfl (by kernel_rfl) (by kernel_rfl) (by kernel_rfl) (fun _ _ _ h => h) ⟨by rfl, ?_⟩ hS ?_
  rotate_left
  · intro wq hSw; obtain ⟨⟨x0, x1⟩, y0, y1, y2, y3⟩ := hSw; go_simp; try rfl
  simp only [Act.put, List.setIfInBounds_toArray, List.set_cons_zero, List.set_cons_succ]
  refine take_at 4 (some 65) (v := ?_) rfl rfl (by kernel_rfl) (by kernel_rfl) (by kernel_rfl) (fun _ _ _ h => h) ⟨by rfl, ?_⟩ hS ?_
  rotate_left
  · intro wq hSw; go_simp; try rfl
  simp only [Act.put, List.setIfInBounds_toArray, List.set_cons_zero, List.set_cons_succ]
  refine take_at 5 (some 66) (v := ?_) rfl rfl (by kernel_rfl) (by kernel_rfl) (by kernel_rfl) (fun _ _ _ h => h) ⟨by rfl, ?_⟩ hS ?_
  rotate_left
  · intro wq hSw; obtain ⟨⟨x0, x1⟩, y0, y1, y2, y3⟩ := hSw; go_simp; try rfl
  simp only [Act.put, List.setIfInBounds_toArray, List.set_cons_zero, List.set_cons_succ]
  refine take_at 7 (some 68) (v := ?_) rfl rfl (by kernel_rfl) (by kernel_rfl) (by kernel_rfl) (fun _ _ _ h => h) ⟨by rfl, ?_⟩ hS ?_
  rotate_left
  · intro wq hSw; go_simp; try rfl
  simp only [Act.put, List.setIfInBounds_toArray, List.set_cons_zero, List.set_cons_succ]
  refine take_at 8 (some 69) (v := ?_) rfl rfl (by kernel_rfl) (by kernel_rfl) (by kernel_rfl) (fun _ _ _ h => h) ⟨by rfl, ?_⟩ hS ?_
  rotate_left
  · intro wq hSw; go_simp; try rfl
  simp only [Act.put, List.setIfInBounds_toArray, List.set_cons_zero, List.set_cons_succ]
  refine take_at 9 (some 70) (v := ?_) rfl rfl (by kernel_rfl) (by kernel_rfl) (by kernel_rfl) (fun _ _ _ h => h) ⟨by rfl, ?_⟩ hS ?_
  rotate_left
  · intro wq hSw; go_simp; try rfl
  simp only [Act.put, List.setIfInBounds_toArray, List.set_cons_zero, List.set_cons_succ]
  refine take_at 10 (some 71) (v := ?_) rfl rfl (by kernel_rfl) (by kernel_rfl) (by kernel_rfl) (fun _ _ _ h => h) ⟨by rfl, ?_⟩ hS ?_
  rotate_left
  · intro wq hSw; obtain ⟨⟨x0, x1⟩, y0, y1, y2, y3⟩ := hSw; go_simp; try rfl
  simp only [Act.put, List.setIfInBounds_toArray, List.set_cons_zero, List.set_cons_succ]
  refine take_at 11 (some 72) (v := ?_) rfl rfl (by kernel_rfl) (by kernel_rfl) (by kernel_rfl) (fun _ _ _ h => h) ⟨by rfl, ?_⟩ hS ?_
  rotate_left
  · intro wq hSw; go_simp; try rfl
  simp only [Act.put, List.setIfInBounds_toArray, List.set_cons_zero, List.set_cons_succ]
  refine take_at 12 (some 73) (v := ?_) rfl rfl (by kernel_rfl) (by kernel_rfl) (by kernel_rfl) (fun _ _ _ h => h) ⟨by rfl, ?_⟩ hS ?_
  rotate_left
  · intro wq hSw; obtain ⟨⟨x0, x1⟩, y0, y1, y2, y3⟩ := hSw; go_simp; try rfl
  simp only [Act.put, List.setIfInBounds_toArray, List.set_cons_zero, List.set_cons_succ]
  refine wpAnyH_ready (rs := [6]) (by kernel_rfl) (by simp) ?_
  refine AllReadyH.cons rfl (fun K hK => ?_) AllReadyH.nil
  go_simp
  go_wp2_with fail
  refine KA.out.mono ?_
  rintro e w3 ⟨rfl, P3, k3⟩
  have st3 := Step.of_keep k3
  have D3 := hide (DW.out.left P3 st3)
  have C3 := hide (CW.out.keep st3.1 LT.out.1)
  have ST3 := hide ((Step.of_below (S := fun b => S b ∨ T b) BW.out).trans (Step.inl (T := T) st3))
  have KQ := hide (KR.out w3 D3.out.pr.two (HLW.out.keep k3 (fun hx ad had => (HOUT.out hx ad had).1)))
  clear P3 st3 k3 KA DW CW BW
  go_wp2_with fail
  refine hK.out _ _ (show HC pb d c w.heap.size o.n la o.l.keep.length lc o.l.torn o.l.off w3 from ⟨D3.out.pc, (C3.out.get 4 _ rfl).1, (C3.out.get 5 _ rfl).1, (C3.out.get 6 _ rfl).1, (C3.out.get 7 _ rfl).1⟩) (fun hS => ?_)
  clear hK K
  (try simp only [Act.put, List.setIfInBounds_toArray, List.set_cons_zero, List.set_cons_succ])
  refine wpAnyH_ready (rs := [13]) (by kernel_rfl) (by simp) ?_
  refine AllReadyH.cons rfl (fun K hK => ?_) AllReadyH.nil
  go_simp
  go_wp2_with fail
  refine KQ.out.mono ?_
  rintro e w5 ⟨rfl, P5, k5⟩
  have st5 := Step.of_keep k5
  have D5 := hide (D3.out.right P5 st5)
  have C5 := hide (C3.out.keep st5.1 LT.out.2)
  have ST5 := hide (ST3.out.trans (Step.inr (S := S) st5))
  clear P5 st5 k5 KQ D3 C3 ST3
  go_wp2_with fail
  refine hK.out _ _ (show HC pb d c w.heap.size o.n la o.l.keep.length lc o.l.torn o.l.off w5 from ⟨D5.out.pc, (C5.out.get 4 _ rfl).1, (C5.out.get 5 _ rfl).1, (C5.out.get 6 _ rfl).1, (C5.out.get 7 _ rfl).1⟩) (fun hS => ?_)
  clear hK K
  (try simp only [Act.put, List.setIfInBounds_toArray, List.set_cons_zero, List.set_cons_succ])
  refine wpAnyH_ready (rs := [14]) (by kernel_rfl) (by simp) ?_
  refine AllReadyH.cons rfl (fun K hK => ?_) AllReadyH.nil
  go_simp
  go_wp2_with fail
  refine (BE.out w5).mono ?_
  rintro e w' ⟨rfl, hw⟩
  obtain rfl : w5 = w' := hw.symm
  go_wp2_with fail
  refine hK.out _ _ (show HC pb d c w.heap.size o.n la o.l.keep.length lc o.l.torn o.l.off w5 from ⟨D5.out.pc, (C5.out.get 4 _ rfl).1, (C5.out.get 5 _ rfl).1, (C5.out.get 6 _ rfl).1, (C5.out.get 7 _ rfl).1⟩) (fun hS => ?_)
  clear hK K
  (try simp only [Act.put, List.setIfInBounds_toArray, List.set_cons_zero, List.set_cons_succ])
  refine take_at 15 (some 4) (v := ?_) rfl rfl (by kernel_rfl) (by kernel_rfl) (by kernel_rfl) (fun _ _ _ h => h) ⟨by rfl, ?_⟩ hS ?_
  rotate_left
  · intro wq hSw; go_simp; try rfl
  simp only [Act.put, List.setIfInBounds_toArray, List.set_cons_zero, List.set_cons_succ]
  refine wpAnyH_done (by kernel_rfl) ?_ _
  go_wp2_with fail
  go_ret
  exact ⟨_, S, T, rfl, D5.out, Grows.crash OK.out _, ST5.out⟩

set_option maxHeartbeats 8000000 in
set_option maxRecDepth 100000 in
theorem plays_up {w : World} {S T : Nat → Prop} {d c : Nat} {g : Dev} {pb p q r : Nat} (h : Duet w S d g T c g pb p q r) (o : OpM) (la : Option Addr) (lc : Nat) (ba : Option Addr) (bc : Nat) (hk : o.k = 7) (hpl : g.pend.length ≤ 999990) (hcl : g.calls ≤ 999990) :
    Calls Tryz.prog 7 #[.pointer (some ⟨pb, 0, none⟩), .agg (o.v la lc ba bc)] w fun e w' => ∃ g' S' T', e = .returned (.bool true) ∧ Duet w' S' d g' T' c g' pb p q r ∧ Grows g g' ∧ Step w (fun b => S b ∨ T b) w' (fun b => S' b ∨ T' b) := by
  have PL := hide hpl
  have CL := hide hcl
  have HV : Hid (o.v la lc ba bc = #[.int .i64 7, .int .i64 o.x, .int .i64 o.y, .int .i64 o.z, .int .i64 o.n, .slice la o.l.keep.length lc, .int .i64 o.l.torn, .int .i64 o.l.off, .slice ba o.b.length bc, .bool o.little]) := by unfold Hid OpM.v; rw [hk]
  obtain ⟨w1, hw1⟩ : ∃ w1, w1 = w.alloc (.cells (o.v la lc ba bc) 36) := ⟨_, rfl⟩
  have b1 : Below w.heap.size w w1 := by rw [hw1]; exact alloc_below _ _
  have C1 : Cells w1 w.heap.size [.int .i64 7, .int .i64 o.x, .int .i64 o.y, .int .i64 o.z, .int .i64 o.n, .slice la o.l.keep.length lc, .int .i64 o.l.torn, .int .i64 o.l.off, .slice ba o.b.length bc, .bool o.little] := by
    have q : Cells w1 w.heap.size (o.v la lc ba bc).toList := by rw [hw1]; exact Cells.new w _ 36
    rw [HV.out] at q
    exact q
  rw [HV.out] at hw1 ⊢
  have LT := hide (show ¬ S w.heap.size ∧ ¬ T w.heap.size from ⟨fun q => by have := h.pr.one.lt _ q; omega, fun q => by have := h.pr.two.lt _ q; omega⟩)
  have D1 := hide (h.below b1)
  have B1 := hide b1
  have HW1 := hide hw1
  have OK := hide h.pr.one.ok
  obtain ⟨u0, _⟩ := C1.get 0 _ rfl
  obtain ⟨u4, _⟩ := C1.get 4 _ rfl
  obtain ⟨u5, _⟩ := C1.get 5 _ rfl
  obtain ⟨u6, _⟩ := C1.get 6 _ rfl
  obtain ⟨u7, _⟩ := C1.get 7 _ rfl
  obtain ⟨W, hW⟩ : ∃ W, W = w1.drew := ⟨_, rfl⟩
  have bW : Below w1.heap.size w1 W := by rw [hW]; exact (Below.refl _ _).drew
  have DW := hide (D1.out.below bW)
  have CW := hide (C1.below bW)
  have BW := hide (bnext b1 bW (Nat.le_refl _))
  have F1 := hide (show HC pb d c w.heap.size o.n la o.l.keep.length lc o.l.torn o.l.off w1 from ⟨D1.out.pc, u4, u5, u6, u7⟩)
  have KA := hide (up_any DW.out.pr.one)
  have BE := hide (both_any 0)
  have HW := hide hW
  clear hw1 b1 C1 HV h hk hW bW u4 u5 u6 u7
  go_enter Tryz.func7, Tryz.ntmps7
  go_upto_region 1 with fail
  rw [← HW1.out]
  clear HW1
  go_wp2_with fail
  refine wp_region_held_drew (S := HC pb d c w.heap.size o.n la o.l.keep.length lc o.l.torn o.l.off) (by kernel_rfl) F1.out (fun hS => ?_)
  rw [← HW.out] at hS ⊢
  clear F1 HW u0
  refine take_at 0 (some 78) (v := ?_) rfl rfl (by kernel_rfl) (by kernel_rfl) (by kernel_rfl) (fun _ _ _ h => h) ⟨by rfl, ?_⟩ hS ?_
  rotate_left
  · intro wq hSw; go_simp; try rfl
  simp only [Act.put, List.setIfInBounds_toArray, List.set_cons_zero, List.set_cons_succ]
  refine take_at 1 (some 79) (v := ?_) rfl rfl (by kernel_rfl) (by kernel_rfl) (by kernel_rfl) (fun _ _ _ h => h) ⟨by rfl, ?_⟩ hS ?_
  rotate_left
  · intro wq hSw; go_simp; try rfl
  simp only [Act.put, List.setIfInBounds_toArray, List.set_cons_zero, List.set_cons_succ]
  refine take_at 2 (some 80) (v := ?_) rfl rfl (by kernel_rfl) (by kernel_rfl) (by kernel_rfl) (fun _ _ _ h => h) ⟨by rfl, ?_⟩ hS ?_
  rotate_left
  · intro wq hSw; go_simp; try rfl
  simp only [Act.put, List.setIfInBounds_toArray, List.set_cons_zero, List.set_cons_succ]
  refine take_at 3 (some 81) (v := ?_) rfl rfl (by kernel_rfl) (by kernel_rfl) (by kernel_rfl) (fun _ _ _ h => h) ⟨by rfl, ?_⟩ hS ?_
  rotate_left
  · intro wq hSw; obtain ⟨⟨x0, x1⟩, y0, y1, y2, y3⟩ := hSw; go_simp; try rfl
  simp only [Act.put, List.setIfInBounds_toArray, List.set_cons_zero, List.set_cons_succ]
  refine take_at 5 (some 83) (v := ?_) rfl rfl (by kernel_rfl) (by kernel_rfl) (by kernel_rfl) (fun _ _ _ h => h) ⟨by rfl, ?_⟩ hS ?_
  rotate_left
  · intro wq hSw; go_simp; try rfl
  simp only [Act.put, List.setIfInBounds_toArray, List.set_cons_zero, List.set_cons_succ]
  refine take_at 6 (some 84) (v := ?_) rfl rfl (by kernel_rfl) (by kernel_rfl) (by kernel_rfl) (fun _ _ _ h => h) ⟨by rfl, ?_⟩ hS ?_
  rotate_left
  · intro wq hSw; go_simp; try rfl
  simp only [Act.put, List.setIfInBounds_toArray, List.set_cons_zero, List.set_cons_succ]
  refine take_at 7 (some 85) (v := ?_) rfl rfl (by kernel_rfl) (by kernel_rfl) (by kernel_rfl) (fun _ _ _ h => h) ⟨by rfl, ?_⟩ hS ?_
  rotate_left
  · intro wq hSw; go_simp; try rfl
  simp only [Act.put, List.setIfInBounds_toArray, List.set_cons_zero, List.set_cons_succ]
  refine take_at 8 (some 86) (v := ?_) rfl rfl (by kernel_rfl) (by kernel_rfl) (by kernel_rfl) (fun _ _ _ h => h) ⟨by rfl, ?_⟩ hS ?_
  rotate_left
  · intro wq hSw; obtain ⟨⟨x0, x1⟩, y0, y1, y2, y3⟩ := hSw; go_simp; try rfl
  simp only [Act.put, List.setIfInBounds_toArray, List.set_cons_zero, List.set_cons_succ]
  refine wpAnyH_ready (rs := [4]) (by kernel_rfl) (by simp) ?_
  refine AllReadyH.cons rfl (fun K hK => ?_) AllReadyH.nil
  go_simp
  go_wp2_with fail
  refine KA.out.mono ?_
  rintro e w3 ⟨rfl, P3, k3⟩
  have st3 := Step.of_keep k3
  have D3 := hide (DW.out.left P3 st3)
  have C3 := hide (CW.out.keep st3.1 LT.out.1)
  have ST3 := hide ((Step.of_below (S := fun b => S b ∨ T b) BW.out).trans (Step.inl (T := T) st3))
  have KQ := hide (rUp_any D3.out.pr.two)
  clear P3 st3 k3 KA DW CW BW
  go_wp2_with fail
  refine hK.out _ _ (show HC pb d c w.heap.size o.n la o.l.keep.length lc o.l.torn o.l.off w3 from ⟨D3.out.pc, (C3.out.get 4 _ rfl).1, (C3.out.get 5 _ rfl).1, (C3.out.get 6 _ rfl).1, (C3.out.get 7 _ rfl).1⟩) (fun hS => ?_)
  clear hK K
  (try simp only [Act.put, List.setIfInBounds_toArray, List.set_cons_zero, List.set_cons_succ])
  refine wpAnyH_ready (rs := [9]) (by kernel_rfl) (by simp) ?_
  refine AllReadyH.cons rfl (fun K hK => ?_) AllReadyH.nil
  go_simp
  go_wp2_with fail
  refine KQ.out.mono ?_
  rintro e w5 ⟨rfl, P5, k5⟩
  have st5 := Step.of_keep k5
  have D5 := hide (D3.out.right P5 st5)
  have C5 := hide (C3.out.keep st5.1 LT.out.2)
  have ST5 := hide (ST3.out.trans (Step.inr (S := S) st5))
  clear P5 st5 k5 KQ D3 C3 ST3
  go_wp2_with fail
  refine hK.out _ _ (show HC pb d c w.heap.size o.n la o.l.keep.length lc o.l.torn o.l.off w5 from ⟨D5.out.pc, (C5.out.get 4 _ rfl).1, (C5.out.get 5 _ rfl).1, (C5.out.get 6 _ rfl).1, (C5.out.get 7 _ rfl).1⟩) (fun hS => ?_)
  clear hK K
  (try simp only [Act.put, List.setIfInBounds_toArray, List.set_cons_zero, List.set_cons_succ])
  refine wpAnyH_ready (rs := [10]) (by kernel_rfl) (by simp) ?_
  refine AllReadyH.cons rfl (fun K hK => ?_) AllReadyH.nil
  go_simp
  go_wp2_with fail
  refine (BE.out w5).mono ?_
  rintro e w' ⟨rfl, hw⟩
  obtain rfl : w5 = w' := hw.symm
  go_wp2_with fail
  refine hK.out _ _ (show HC pb d c w.heap.size o.n la o.l.keep.length lc o.l.torn o.l.off w5 from ⟨D5.out.pc, (C5.out.get 4 _ rfl).1, (C5.out.get 5 _ rfl).1, (C5.out.get 6 _ rfl).1, (C5.out.get 7 _ rfl).1⟩) (fun hS => ?_)
  clear hK K
  (try simp only [Act.put, List.setIfInBounds_toArray, List.set_cons_zero, List.set_cons_succ])
  refine take_at 11 (some 4) (v := ?_) rfl rfl (by kernel_rfl) (by kernel_rfl) (by kernel_rfl) (fun _ _ _ h => h) ⟨by rfl, ?_⟩ hS ?_
  rotate_left
  · intro wq hSw; go_simp; try rfl
  simp only [Act.put, List.setIfInBounds_toArray, List.set_cons_zero, List.set_cons_succ]
  refine wpAnyH_done (by kernel_rfl) ?_ _
  go_wp2_with fail
  go_ret
  exact ⟨_, S, T, rfl, D5.out, Grows.up _, ST5.out⟩

set_option maxHeartbeats 8000000 in
set_option maxRecDepth 100000 in
theorem plays_sync {w : World} {S T : Nat → Prop} {d c : Nat} {g : Dev} {pb p q r : Nat} (h : Duet w S d g T c g pb p q r) (o : OpM) (la : Option Addr) (lc : Nat) (ba : Option Addr) (bc : Nat) (hk : o.k = 9) (hpl : g.pend.length ≤ 999990) (hcl : g.calls ≤ 999990) :
    Calls Tryz.prog 7 #[.pointer (some ⟨pb, 0, none⟩), .agg (o.v la lc ba bc)] w fun e w' => ∃ g' S' T', e = .returned (.bool true) ∧ Duet w' S' d g' T' c g' pb p q r ∧ Grows g g' ∧ Step w (fun b => S b ∨ T b) w' (fun b => S' b ∨ T' b) := by
  have PL := hide hpl
  have CL := hide hcl
  have HV : Hid (o.v la lc ba bc = #[.int .i64 9, .int .i64 o.x, .int .i64 o.y, .int .i64 o.z, .int .i64 o.n, .slice la o.l.keep.length lc, .int .i64 o.l.torn, .int .i64 o.l.off, .slice ba o.b.length bc, .bool o.little]) := by unfold Hid OpM.v; rw [hk]
  obtain ⟨w1, hw1⟩ : ∃ w1, w1 = w.alloc (.cells (o.v la lc ba bc) 36) := ⟨_, rfl⟩
  have b1 : Below w.heap.size w w1 := by rw [hw1]; exact alloc_below _ _
  have C1 : Cells w1 w.heap.size [.int .i64 9, .int .i64 o.x, .int .i64 o.y, .int .i64 o.z, .int .i64 o.n, .slice la o.l.keep.length lc, .int .i64 o.l.torn, .int .i64 o.l.off, .slice ba o.b.length bc, .bool o.little] := by
    have q : Cells w1 w.heap.size (o.v la lc ba bc).toList := by rw [hw1]; exact Cells.new w _ 36
    rw [HV.out] at q
    exact q
  rw [HV.out] at hw1 ⊢
  have LT := hide (show ¬ S w.heap.size ∧ ¬ T w.heap.size from ⟨fun q => by have := h.pr.one.lt _ q; omega, fun q => by have := h.pr.two.lt _ q; omega⟩)
  have D1 := hide (h.below b1)
  have B1 := hide b1
  have HW1 := hide hw1
  have OK := hide h.pr.one.ok
  obtain ⟨u0, _⟩ := C1.get 0 _ rfl
  obtain ⟨u4, _⟩ := C1.get 4 _ rfl
  obtain ⟨u5, _⟩ := C1.get 5 _ rfl
  obtain ⟨u6, _⟩ := C1.get 6 _ rfl
  obtain ⟨u7, _⟩ := C1.get 7 _ rfl
  obtain ⟨W, hW⟩ : ∃ W, W = w1.drew := ⟨_, rfl⟩
  have bW : Below w1.heap.size w1 W := by rw [hW]; exact (Below.refl _ _).drew
  have DW := hide (D1.out.below bW)
  have CW := hide (C1.below bW)
  have BW := hide (bnext b1 bW (Nat.le_refl _))
  have F1 := hide (show HC pb d c w.heap.size o.n la o.l.keep.length lc o.l.torn o.l.off w1 from ⟨D1.out.pc, u4, u5, u6, u7⟩)
  have KA := hide (sync_any DW.out.pr.one (by omega) (by omega))
  have BE := hide (both_any ((g.syncE : Nat) : Int))
  have HW := hide hW
  clear hw1 b1 C1 HV h hk hW bW u4 u5 u6 u7
  go_enter Tryz.func7, Tryz.ntmps7
  go_upto_region 1 with fail
  rw [← HW1.out]
  clear HW1
  go_wp2_with fail
  refine wp_region_held_drew (S := HC pb d c w.heap.size o.n la o.l.keep.length lc o.l.torn o.l.off) (by kernel_rfl) F1.out (fun hS => ?_)
  rw [← HW.out] at hS ⊢
  clear F1 HW u0
  refine take_at 0 (some 91) (v := ?_) rfl rfl (by kernel_rfl) (by kernel_rfl) (by kernel_rfl) (fun _ _ _ h => h) ⟨by rfl, ?_⟩ hS ?_
  rotate_left
  · intro wq hSw; go_simp; try rfl
  simp only [Act.put, List.setIfInBounds_toArray, List.set_cons_zero, List.set_cons_succ]
  refine take_at 1 (some 92) (v := ?_) rfl rfl (by kernel_rfl) (by kernel_rfl) (by kernel_rfl) (fun _ _ _ h => h) ⟨by rfl, ?_⟩ hS ?_
  rotate_left
  · intro wq hSw; go_simp; try rfl
  simp only [Act.put, List.setIfInBounds_toArray, List.set_cons_zero, List.set_cons_succ]
  refine take_at 2 (some 93) (v := ?_) rfl rfl (by kernel_rfl) (by kernel_rfl) (by kernel_rfl) (fun _ _ _ h => h) ⟨by rfl, ?_⟩ hS ?_
  rotate_left
  · intro wq hSw; go_simp; try rfl
  simp only [Act.put, List.setIfInBounds_toArray, List.set_cons_zero, List.set_cons_succ]
  refine take_at 3 (some 94) (v := ?_) rfl rfl (by kernel_rfl) (by kernel_rfl) (by kernel_rfl) (fun _ _ _ h => h) ⟨by rfl, ?_⟩ hS ?_
  rotate_left
  · intro wq hSw; obtain ⟨⟨x0, x1⟩, y0, y1, y2, y3⟩ := hSw; go_simp; try rfl
  simp only [Act.put, List.setIfInBounds_toArray, List.set_cons_zero, List.set_cons_succ]
  refine take_at 5 (some 96) (v := ?_) rfl rfl (by kernel_rfl) (by kernel_rfl) (by kernel_rfl) (fun _ _ _ h => h) ⟨by rfl, ?_⟩ hS ?_
  rotate_left
  · intro wq hSw; go_simp; try rfl
  simp only [Act.put, List.setIfInBounds_toArray, List.set_cons_zero, List.set_cons_succ]
  refine take_at 6 (some 97) (v := ?_) rfl rfl (by kernel_rfl) (by kernel_rfl) (by kernel_rfl) (fun _ _ _ h => h) ⟨by rfl, ?_⟩ hS ?_
  rotate_left
  · intro wq hSw; go_simp; try rfl
  simp only [Act.put, List.setIfInBounds_toArray, List.set_cons_zero, List.set_cons_succ]
  refine take_at 7 (some 98) (v := ?_) rfl rfl (by kernel_rfl) (by kernel_rfl) (by kernel_rfl) (fun _ _ _ h => h) ⟨by rfl, ?_⟩ hS ?_
  rotate_left
  · intro wq hSw; go_simp; try rfl
  simp only [Act.put, List.setIfInBounds_toArray, List.set_cons_zero, List.set_cons_succ]
  refine take_at 8 (some 99) (v := ?_) rfl rfl (by kernel_rfl) (by kernel_rfl) (by kernel_rfl) (fun _ _ _ h => h) ⟨by rfl, ?_⟩ hS ?_
  rotate_left
  · intro wq hSw; obtain ⟨⟨x0, x1⟩, y0, y1, y2, y3⟩ := hSw; go_simp; try rfl
  simp only [Act.put, List.setIfInBounds_toArray, List.set_cons_zero, List.set_cons_succ]
  refine wpAnyH_ready (rs := [4]) (by kernel_rfl) (by simp) ?_
  refine AllReadyH.cons rfl (fun K hK => ?_) AllReadyH.nil
  go_simp
  go_wp2_with fail
  refine KA.out.mono ?_
  rintro e w3 ⟨rfl, P3, k3⟩
  have st3 := Step.of_keep k3
  have D3 := hide (DW.out.left P3 st3)
  have C3 := hide (CW.out.keep st3.1 LT.out.1)
  have ST3 := hide ((Step.of_below (S := fun b => S b ∨ T b) BW.out).trans (Step.inl (T := T) st3))
  have KQ := hide (rSync_any D3.out.pr.two (by omega) (by omega))
  clear P3 st3 k3 KA DW CW BW
  go_wp2_with fail
  refine hK.out _ _ (show HC pb d c w.heap.size o.n la o.l.keep.length lc o.l.torn o.l.off w3 from ⟨D3.out.pc, (C3.out.get 4 _ rfl).1, (C3.out.get 5 _ rfl).1, (C3.out.get 6 _ rfl).1, (C3.out.get 7 _ rfl).1⟩) (fun hS => ?_)
  clear hK K
  (try simp only [Act.put, List.setIfInBounds_toArray, List.set_cons_zero, List.set_cons_succ])
  refine wpAnyH_ready (rs := [9]) (by kernel_rfl) (by simp) ?_
  refine AllReadyH.cons rfl (fun K hK => ?_) AllReadyH.nil
  go_simp
  go_wp2_with fail
  refine KQ.out.mono ?_
  rintro e w5 ⟨rfl, P5, k5⟩
  have st5 := Step.of_keep k5
  have D5 := hide (D3.out.right P5 st5)
  have C5 := hide (C3.out.keep st5.1 LT.out.2)
  have ST5 := hide (ST3.out.trans (Step.inr (S := S) st5))
  clear P5 st5 k5 KQ D3 C3 ST3
  go_wp2_with fail
  refine hK.out _ _ (show HC pb d c w.heap.size o.n la o.l.keep.length lc o.l.torn o.l.off w5 from ⟨D5.out.pc, (C5.out.get 4 _ rfl).1, (C5.out.get 5 _ rfl).1, (C5.out.get 6 _ rfl).1, (C5.out.get 7 _ rfl).1⟩) (fun hS => ?_)
  clear hK K
  (try simp only [Act.put, List.setIfInBounds_toArray, List.set_cons_zero, List.set_cons_succ])
  refine wpAnyH_ready (rs := [10]) (by kernel_rfl) (by simp) ?_
  refine AllReadyH.cons rfl (fun K hK => ?_) AllReadyH.nil
  go_simp
  go_wp2_with fail
  refine (BE.out w5).mono ?_
  rintro e w' ⟨rfl, hw⟩
  obtain rfl : w5 = w' := hw.symm
  go_wp2_with fail
  refine hK.out _ _ (show HC pb d c w.heap.size o.n la o.l.keep.length lc o.l.torn o.l.off w5 from ⟨D5.out.pc, (C5.out.get 4 _ rfl).1, (C5.out.get 5 _ rfl).1, (C5.out.get 6 _ rfl).1, (C5.out.get 7 _ rfl).1⟩) (fun hS => ?_)
  clear hK K
  (try simp only [Act.put, List.setIfInBounds_toArray, List.set_cons_zero, List.set_cons_succ])
  refine take_at 11 (some 4) (v := ?_) rfl rfl (by kernel_rfl) (by kernel_rfl) (by kernel_rfl) (fun _ _ _ h => h) ⟨by rfl, ?_⟩ hS ?_
  rotate_left
  · intro wq hSw; go_simp; try rfl
  simp only [Act.put, List.setIfInBounds_toArray, List.set_cons_zero, List.set_cons_succ]
  refine wpAnyH_done (by kernel_rfl) ?_ _
  go_wp2_with fail
  go_ret
  exact ⟨_, S, T, rfl, D5.out, Grows.sync OK.out, ST5.out⟩
end Go.Proofs.YtapjbgkmcplpbaaGreat
