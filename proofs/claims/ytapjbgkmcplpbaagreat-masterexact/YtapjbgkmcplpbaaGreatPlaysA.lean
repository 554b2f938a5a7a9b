import Derived.Test.YtapjbgkmcplpbaaGreatCalls1
import Derived.Test.YtapjbgkmcplpbaaGreatTurn
namespace Go.Proofs.YtapjbgkmcplpbaaGreat
open Go.RowKit Go.QK

set_option maxHeartbeats 8000000 in
set_option maxRecDepth 100000 in
theorem plays_need {w : World} {S T : Nat → Prop} {d c : Nat} {g : Dev} {pb p q r : Nat} (h : Duet w S d g T c g pb p q r) (o : OpM) (la : Option Addr) (lc : Nat) (ba : Option Addr) (bc : Nat) (hk : o.k = 1) (hpl : g.pend.length ≤ 999990) (hcl : g.calls ≤ 999990) :
    Calls Tryz.prog 7 #[.pointer (some ⟨pb, 0, none⟩), .agg (o.v la lc ba bc)] w fun e w' => ∃ g' S' T', e = .returned (.bool true) ∧ Duet w' S' d g' T' c g' pb p q r ∧ Grows g g' ∧ Step w (fun b => S b ∨ T b) w' (fun b => S' b ∨ T' b) := by
  have PL := hide hpl
  have CL := hide hcl
  have HV : Hid (o.v la lc ba bc = #[.int .i64 1, .int .i64 o.x, .int .i64 o.y, .int .i64 o.z, .int .i64 o.n, .slice la o.l.keep.length lc, .int .i64 o.l.torn, .int .i64 o.l.off, .slice ba o.b.length bc, .bool o.little]) := by unfold Hid OpM.v; rw [hk]
  obtain ⟨w1, hw1⟩ : ∃ w1, w1 = w.alloc (.cells (o.v la lc ba bc) 36) := ⟨_, rfl⟩
  have b1 : Below w.heap.size w w1 := by rw [hw1]; exact alloc_below _ _
  have C1 : Cells w1 w.heap.size [.int .i64 1, .int .i64 o.x, .int .i64 o.y, .int .i64 o.z, .int .i64 o.n, .slice la o.l.keep.length lc, .int .i64 o.l.torn, .int .i64 o.l.off, .slice ba o.b.length bc, .bool o.little] := by
    have q : Cells w1 w.heap.size (o.v la lc ba bc).toList := by rw [hw1]; exact Cells.new w _ 36
    rw [HV.out] at q
    exact q
  rw [HV.out] at hw1 ⊢
  have LT := hide (show ¬ S w.heap.size ∧ ¬ T w.heap.size from ⟨fun q => by have := h.pr.one.lt _ q; omega, fun q => by have := h.pr.two.lt _ q; omega⟩)
  have D1 := hide (h.below b1)
  have B1 := hide b1
  have HW1 := hide hw1
  have OK := hide h.pr.one.ok
  obtain ⟨u0, _⟩ := C1.get 0 _ rfl
  obtain ⟨u1, _⟩ := C1.get 1 _ rfl
  obtain ⟨u2, _⟩ := C1.get 2 _ rfl
  obtain ⟨u3, _⟩ := C1.get 3 _ rfl
  obtain ⟨u4, _⟩ := C1.get 4 _ rfl
  have KL := layout_any o.x o.y o.z o.n w1
  unfold shC at KL
  have KL := hide KL
  clear hw1 b1 C1 HV h hk
  go_enter Tryz.func7, Tryz.ntmps7
  go_upto_region 1 with fail
  rw [← HW1.out]
  clear HW1
  go_wp2_with fail
  refine KL.out.mono ?_
  rintro e w2 ⟨rfl, b2⟩
  go_wp2_with fail
  go_ret
  exact ⟨g, S, T, rfl, D1.out.below b2, Grows.refl g, Step.of_below (bnext B1.out b2 (Nat.le_refl _))⟩

set_option maxHeartbeats 8000000 in
set_option maxRecDepth 100000 in
theorem plays_format {w : World} {S T : Nat → Prop} {d c : Nat} {g : Dev} {pb p q r : Nat} (h : Duet w S d g T c g pb p q r) (o : OpM) (la : Option Addr) (lc : Nat) (ba : Option Addr) (bc : Nat) (hk : o.k = 2) (hpl : g.pend.length ≤ 999990) (hcl : g.calls ≤ 999990) :
    Calls Tryz.prog 7 #[.pointer (some ⟨pb, 0, none⟩), .agg (o.v la lc ba bc)] w fun e w' => ∃ g' S' T', e = .returned (.bool true) ∧ Duet w' S' d g' T' c g' pb p q r ∧ Grows g g' ∧ Step w (fun b => S b ∨ T b) w' (fun b => S' b ∨ T' b) := by
  have PL := hide hpl
  have CL := hide hcl
  have HV : Hid (o.v la lc ba bc = #[.int .i64 2, .int .i64 o.x, .int .i64 o.y, .int .i64 o.z, .int .i64 o.n, .slice la o.l.keep.length lc, .int .i64 o.l.torn, .int .i64 o.l.off, .slice ba o.b.length bc, .bool o.little]) := by unfold Hid OpM.v; rw [hk]
  obtain ⟨w1, hw1⟩ : ∃ w1, w1 = w.alloc (.cells (o.v la lc ba bc) 36) := ⟨_, rfl⟩
  have b1 : Below w.heap.size w w1 := by rw [hw1]; exact alloc_below _ _
  have C1 : Cells w1 w.heap.size [.int .i64 2, .int .i64 o.x, .int .i64 o.y, .int .i64 o.z, .int .i64 o.n, .slice la o.l.keep.length lc, .int .i64 o.l.torn, .int .i64 o.l.off, .slice ba o.b.length bc, .bool o.little] := by
    have q : Cells w1 w.heap.size (o.v la lc ba bc).toList := by rw [hw1]; exact Cells.new w _ 36
    rw [HV.out] at q
    exact q
  rw [HV.out] at hw1 ⊢
  have LT := hide (show ¬ S w.heap.size ∧ ¬ T w.heap.size from ⟨fun q => by have := h.pr.one.lt _ q; omega, fun q => by have := h.pr.two.lt _ q; omega⟩)
  have D1 := hide (h.below b1)
  have B1 := hide b1
  have HW1 := hide hw1
  have OK := hide h.pr.one.ok
  obtain ⟨u0, _⟩ := C1.get 0 _ rfl
  obtain ⟨u1, _⟩ := C1.get 1 _ rfl
  obtain ⟨u2, _⟩ := C1.get 2 _ rfl
  obtain ⟨u3, _⟩ := C1.get 3 _ rfl
  obtain ⟨u9, _⟩ := C1.get 9 _ rfl
  obtain ⟨z0, z1, z2⟩ := D1.out.sh
  have KL := formats_any D1.out o.x o.y o.z hpl hcl
  have KM := formats_any D1.out (p : Int) (q : Int) (r : Int) hpl hcl
  unfold shC at KL KM
  have KL := hide KL
  have KM := hide KM
  clear hw1 b1 C1 HV h hk
  cases hli : o.little with
  | true =>
    rw [hli] at u9 HW1
    go_enter Tryz.func7, Tryz.ntmps7
    go_upto_region 1 with fail
    rw [← HW1.out]
    clear HW1
    go_wp2_with fail
    refine KM.out.mono ?_
    rintro e w2 ⟨S2, T2, rfl, D2, st2⟩
    go_wp2_with fail
    go_ret
    exact ⟨_, S2, T2, rfl, D2, Grows.format OK.out _ _ _, (Step.of_below B1.out).trans st2⟩
  | false =>
    rw [hli] at u9 HW1
    go_enter Tryz.func7, Tryz.ntmps7
    go_upto_region 1 with fail
    rw [← HW1.out]
    clear HW1
    go_wp2_with fail
    refine KL.out.mono ?_
    rintro e w2 ⟨S2, T2, rfl, D2, st2⟩
    go_wp2_with fail
    go_ret
    exact ⟨_, S2, T2, rfl, D2, Grows.format OK.out _ _ _, (Step.of_below B1.out).trans st2⟩

set_option maxHeartbeats 8000000 in
set_option maxRecDepth 100000 in
theorem plays_open {w : World} {S T : Nat → Prop} {d c : Nat} {g : Dev} {pb p q r : Nat} (h : Duet w S d g T c g pb p q r) (o : OpM) (la : Option Addr) (lc : Nat) (ba : Option Addr) (bc : Nat) (hn2 : 2 ≤ g.n) (hk : o.k = 3) (hpl : g.pend.length ≤ 999990) (hcl : g.calls ≤ 999990) :
    Calls Tryz.prog 7 #[.pointer (some ⟨pb, 0, none⟩), .agg (o.v la lc ba bc)] w fun e w' => ∃ g' S' T', e = .returned (.bool true) ∧ Duet w' S' d g' T' c g' pb p q r ∧ Grows g g' ∧ Step w (fun b => S b ∨ T b) w' (fun b => S' b ∨ T' b) := by
  have PL := hide hpl
  have CL := hide hcl
  have HV : Hid (o.v la lc ba bc = #[.int .i64 3, .int .i64 o.x, .int .i64 o.y, .int .i64 o.z, .int .i64 o.n, .slice la o.l.keep.length lc, .int .i64 o.l.torn, .int .i64 o.l.off, .slice ba o.b.length bc, .bool o.little]) := by unfold Hid OpM.v; rw [hk]
  obtain ⟨w1, hw1⟩ : ∃ w1, w1 = w.alloc (.cells (o.v la lc ba bc) 36) := ⟨_, rfl⟩
  have b1 : Below w.heap.size w w1 := by rw [hw1]; exact alloc_below _ _
  have C1 : Cells w1 w.heap.size [.int .i64 3, .int .i64 o.x, .int .i64 o.y, .int .i64 o.z, .int .i64 o.n, .slice la o.l.keep.length lc, .int .i64 o.l.torn, .int .i64 o.l.off, .slice ba o.b.length bc, .bool o.little] := by
    have q : Cells w1 w.heap.size (o.v la lc ba bc).toList := by rw [hw1]; exact Cells.new w _ 36
    rw [HV.out] at q
    exact q
  rw [HV.out] at hw1 ⊢
  have LT := hide (show ¬ S w.heap.size ∧ ¬ T w.heap.size from ⟨fun q => by have := h.pr.one.lt _ q; omega, fun q => by have := h.pr.two.lt _ q; omega⟩)
  have D1 := hide (h.below b1)
  have B1 := hide b1
  have HW1 := hide hw1
  have OK := hide h.pr.one.ok
  obtain ⟨u0, _⟩ := C1.get 0 _ rfl
  have KL := opens_any D1.out hn2 hpl
  have KL := hide KL
  clear hw1 b1 C1 HV h hk
  go_enter Tryz.func7, Tryz.ntmps7
  go_upto_region 1 with fail
  rw [← HW1.out]
  clear HW1
  go_wp2_with fail
  refine KL.out.mono ?_
  rintro e w2 ⟨S2, T2, rfl, D2, st2⟩
  go_wp2_with fail
  go_ret
  exact ⟨_, S2, T2, rfl, D2, Grows.refl g, (Step.of_below B1.out).trans st2⟩

set_option maxHeartbeats 8000000 in
set_option maxRecDepth 100000 in
theorem plays_point {w : World} {S T : Nat → Prop} {d c : Nat} {g : Dev} {pb p q r : Nat} (h : Duet w S d g T c g pb p q r) (o : OpM) (la : Option Addr) (lc : Nat) (ba : Option Addr) (bc : Nat) (hn2 : 2 ≤ g.n) (hk : o.k = 4) (hpl : g.pend.length ≤ 999990) (hcl : g.calls ≤ 999990) :
    Calls Tryz.prog 7 #[.pointer (some ⟨pb, 0, none⟩), .agg (o.v la lc ba bc)] w fun e w' => ∃ g' S' T', e = .returned (.bool true) ∧ Duet w' S' d g' T' c g' pb p q r ∧ Grows g g' ∧ Step w (fun b => S b ∨ T b) w' (fun b => S' b ∨ T' b) := by
  have PL := hide hpl
  have CL := hide hcl
  have HV : Hid (o.v la lc ba bc = #[.int .i64 4, .int .i64 o.x, .int .i64 o.y, .int .i64 o.z, .int .i64 o.n, .slice la o.l.keep.length lc, .int .i64 o.l.torn, .int .i64 o.l.off, .slice ba o.b.length bc, .bool o.little]) := by unfold Hid OpM.v; rw [hk]
  obtain ⟨w1, hw1⟩ : ∃ w1, w1 = w.alloc (.cells (o.v la lc ba bc) 36) := ⟨_, rfl⟩
  have b1 : Below w.heap.size w w1 := by rw [hw1]; exact alloc_below _ _
  have C1 : Cells w1 w.heap.size [.int .i64 4, .int .i64 o.x, .int .i64 o.y, .int .i64 o.z, .int .i64 o.n, .slice la o.l.keep.length lc, .int .i64 o.l.torn, .int .i64 o.l.off, .slice ba o.b.length bc, .bool o.little] := by
    have q : Cells w1 w.heap.size (o.v la lc ba bc).toList := by rw [hw1]; exact Cells.new w _ 36
    rw [HV.out] at q
    exact q
  rw [HV.out] at hw1 ⊢
  have LT := hide (show ¬ S w.heap.size ∧ ¬ T w.heap.size from ⟨fun q => by have := h.pr.one.lt _ q; omega, fun q => by have := h.pr.two.lt _ q; omega⟩)
  have D1 := hide (h.below b1)
  have B1 := hide b1
  have HW1 := hide hw1
  have OK := hide h.pr.one.ok
  obtain ⟨u0, _⟩ := C1.get 0 _ rfl
  obtain ⟨u4, _⟩ := C1.get 4 _ rfl
  have KL := points_any D1.out o.n hn2 hpl hcl
  have KL := hide KL
  clear hw1 b1 C1 HV h hk
  go_enter Tryz.func7, Tryz.ntmps7
  go_upto_region 1 with fail
  rw [← HW1.out]
  clear HW1
  go_wp2_with fail
  refine KL.out.mono ?_
  rintro e w2 ⟨S2, T2, rfl, D2, st2⟩
  go_wp2_with fail
  go_ret
  exact ⟨_, S2, T2, rfl, D2, Grows.point OK.out _, (Step.of_below B1.out).trans st2⟩

set_option maxHeartbeats 8000000 in
set_option maxRecDepth 100000 in
theorem plays_other {w : World} {S T : Nat → Prop} {d c : Nat} {g : Dev} {pb p q r : Nat} (h : Duet w S d g T c g pb p q r) (o : OpM) (la : Option Addr) (lc : Nat) (ba : Option Addr) (bc : Nat) (hk : o.k ≠ 1 ∧ o.k ≠ 2 ∧ o.k ≠ 3 ∧ o.k ≠ 4 ∧ o.k ≠ 5 ∧ o.k ≠ 6 ∧ o.k ≠ 7 ∧ o.k ≠ 9 ∧ o.k ≠ 8 ∧ o.k ≠ 10 ∧ o.k ≠ 11) (hpl : g.pend.length ≤ 999990) (hcl : g.calls ≤ 999990) :
    Calls Tryz.prog 7 #[.pointer (some ⟨pb, 0, none⟩), .agg (o.v la lc ba bc)] w fun e w' => ∃ g' S' T', e = .returned (.bool true) ∧ Duet w' S' d g' T' c g' pb p q r ∧ Grows g g' ∧ Step w (fun b => S b ∨ T b) w' (fun b => S' b ∨ T' b) := by
  have PL := hide hpl
  have CL := hide hcl
  have HV : Hid (o.v la lc ba bc = #[.int .i64 o.k, .int .i64 o.x, .int .i64 o.y, .int .i64 o.z, .int .i64 o.n, .slice la o.l.keep.length lc, .int .i64 o.l.torn, .int .i64 o.l.off, .slice ba o.b.length bc, .bool o.little]) := rfl
  obtain ⟨w1, hw1⟩ : ∃ w1, w1 = w.alloc (.cells (o.v la lc ba bc) 36) := ⟨_, rfl⟩
  have b1 : Below w.heap.size w w1 := by rw [hw1]; exact alloc_below _ _
  have C1 : Cells w1 w.heap.size [.int .i64 o.k, .int .i64 o.x, .int .i64 o.y, .int .i64 o.z, .int .i64 o.n, .slice la o.l.keep.length lc, .int .i64 o.l.torn, .int .i64 o.l.off, .slice ba o.b.length bc, .bool o.little] := by
    have q : Cells w1 w.heap.size (o.v la lc ba bc).toList := by rw [hw1]; exact Cells.new w _ 36
    rw [HV.out] at q
    exact q
  rw [HV.out] at hw1 ⊢
  have LT := hide (show ¬ S w.heap.size ∧ ¬ T w.heap.size from ⟨fun q => by have := h.pr.one.lt _ q; omega, fun q => by have := h.pr.two.lt _ q; omega⟩)
  have D1 := hide (h.below b1)
  have B1 := hide b1
  have HW1 := hide hw1
  have OK := hide h.pr.one.ok
  obtain ⟨u0, _⟩ := C1.get 0 _ rfl
  have e1 : (o.k == 1) = false := by simp; omega
  have e2 : (o.k == 2) = false := by simp; omega
  have e3 : (o.k == 3) = false := by simp; omega
  have e4 : (o.k == 4) = false := by simp; omega
  have e5 : (o.k == 5) = false := by simp; omega
  have e6 : (o.k == 6) = false := by simp; omega
  have e7 : (o.k == 7) = false := by simp; omega
  have e9 : (o.k == 9) = false := by simp; omega
  have e8 : (o.k == 8) = false := by simp; omega
  have e10 : (o.k == 10) = false := by simp; omega
  have e11 : (o.k == 11) = false := by simp; omega
  clear hw1 b1 C1 HV h hk
  go_enter Tryz.func7, Tryz.ntmps7
  go_upto_region 1 with fail
  rw [← HW1.out]
  clear HW1
  go_wp2_with fail
  go_ret
  exact ⟨g, S, T, rfl, D1.out, Grows.refl g, Step.of_below B1.out⟩
end Go.Proofs.YtapjbgkmcplpbaaGreat
