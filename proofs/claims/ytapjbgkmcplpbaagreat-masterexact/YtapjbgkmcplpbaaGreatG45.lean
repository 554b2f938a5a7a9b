import Derived.Test.YtapjbgkmcplpbaaGreatCalls1
import Derived.Test.YtapjbgkmcplpbaaGreatTurn
import Derived.Test.YtapjbgkmcplpbaaGreatPlaysA
import Derived.Test.YtapjbgkmcplpbaaGreatPlaysB
namespace Go.Proofs.YtapjbgkmcplpbaaGreat
open Go.RowKit Go.QK

set_option maxHeartbeats 8000000 in
set_option maxRecDepth 100000 in
theorem plays_write {w : World} {S T : Nat → Prop} {d c : Nat} {g : Dev} {pb p q r : Nat} (h : Duet w S d g T c g pb p q r) (o : OpM) (la : Option Addr) (lc : Nat) (ba : Option Addr) (bc : Nat) (hk : o.k = 8) (hs : Bytes w ba o.b) (ha : ba = none → bc = 0) (hab : AllB o.b) (hbl : o.b.length ≤ bc) (hbm : bc ≤ maxLen) (hpl : g.pend.length ≤ 999990) (hcl : g.calls ≤ 999990) :
    Calls Tryz.prog 7 #[.pointer (some ⟨pb, 0, none⟩), .agg (o.v la lc ba bc)] w fun e w' => ∃ g' S' T', e = .returned (.bool true) ∧ Duet w' S' d g' T' c g' pb p q r ∧ Grows g g' ∧ Step w (fun b => S b ∨ T b) w' (fun b => S' b ∨ T' b) := by
  have PL := hide hpl
  have CL := hide hcl
  have HV : Hid (o.v la lc ba bc = #[.int .i64 8, .int .i64 o.x, .int .i64 o.y, .int .i64 o.z, .int .i64 o.n, .slice la o.l.keep.length lc, .int .i64 o.l.torn, .int .i64 o.l.off, .slice ba o.b.length bc, .bool o.little]) := by unfold Hid OpM.v; rw [hk]
  obtain ⟨w1, hw1⟩ : ∃ w1, w1 = w.alloc (.cells (o.v la lc ba bc) 36) := ⟨_, rfl⟩
  have b1 : Below w.heap.size w w1 := by rw [hw1]; exact alloc_below _ _
  have C1 : Cells w1 w.heap.size [.int .i64 8, .int .i64 o.x, .int .i64 o.y, .int .i64 o.z, .int .i64 o.n, .slice la o.l.keep.length lc, .int .i64 o.l.torn, .int .i64 o.l.off, .slice ba o.b.length bc, .bool o.little] := by
    have q : Cells w1 w.heap.size (o.v la lc ba bc).toList := by rw [hw1]; exact Cells.new w _ 36
    rw [HV.out] at q
    exact q
  rw [HV.out] at hw1 ⊢
  have LT := hide (show ¬ S w.heap.size ∧ ¬ T w.heap.size from ⟨fun q => by have := h.pr.one.lt _ q; omega, fun q => by have := h.pr.two.lt _ q; omega⟩)
  have D1 := hide (h.below b1)
  have B1 := hide b1
  have HW1 := hide hw1
  have OK := hide h.pr.one.ok
  obtain ⟨u0, _⟩ := C1.get 0 _ rfl
  obtain ⟨u1, _⟩ := C1.get 1 _ rfl
  obtain ⟨u2, _⟩ := C1.get 2 _ rfl
  obtain ⟨u3, _⟩ := C1.get 3 _ rfl
  obtain ⟨u4, _⟩ := C1.get 4 _ rfl
  obtain ⟨u5, _⟩ := C1.get 5 _ rfl
  obtain ⟨u6, _⟩ := C1.get 6 _ rfl
  obtain ⟨u7, _⟩ := C1.get 7 _ rfl
  obtain ⟨u8, _⟩ := C1.get 8 _ rfl
  obtain ⟨u9, _⟩ := C1.get 9 _ rfl
  have X1 := hide hs
  have X2 := hide ha
  have X3 := hide hab
  have X4 := hide hbl
  have X5 := hide hbm
  have KL := spoils_write D1.out o la lc ba bc hk (Seen.below hs B1.out) ha hab hpl hcl
  rw [HV.out] at KL
  have KL := hide KL
  clear hw1 b1 C1 HV h hk hs ha hab hbl hbm
  go_enter Tryz.func7, Tryz.ntmps7
  go_upto_region 1 with fail
  rw [← HW1.out]
  clear HW1
  go_wp2_with fail
  refine KL.out.mono ?_
  rintro e w2 ⟨g2, S2, T2, rfl, D2, G2, st2⟩
  go_wp2_with fail
  go_ret
  exact ⟨g2, S2, T2, rfl, D2, G2, (Step.of_below B1.out).trans st2⟩

set_option maxHeartbeats 8000000 in
set_option maxRecDepth 100000 in
theorem plays_slot {w : World} {S T : Nat → Prop} {d c : Nat} {g : Dev} {pb p q r : Nat} (h : Duet w S d g T c g pb p q r) (o : OpM) (la : Option Addr) (lc : Nat) (ba : Option Addr) (bc : Nat) (hm : mayN (p : Int) (q : Int) (r : Int)) (hk : o.k = 10) (hs : Bytes w ba o.b) (ha : ba = none → bc = 0) (hab : AllB o.b) (hbl : o.b.length ≤ bc) (hbm : bc ≤ maxLen) (hpl : g.pend.length ≤ 999990) (hcl : g.calls ≤ 999990) :
    Calls Tryz.prog 7 #[.pointer (some ⟨pb, 0, none⟩), .agg (o.v la lc ba bc)] w fun e w' => ∃ g' S' T', e = .returned (.bool true) ∧ Duet w' S' d g' T' c g' pb p q r ∧ Grows g g' ∧ Step w (fun b => S b ∨ T b) w' (fun b => S' b ∨ T' b) := by
  have PL := hide hpl
  have CL := hide hcl
  have HV : Hid (o.v la lc ba bc = #[.int .i64 10, .int .i64 o.x, .int .i64 o.y, .int .i64 o.z, .int .i64 o.n, .slice la o.l.keep.length lc, .int .i64 o.l.torn, .int .i64 o.l.off, .slice ba o.b.length bc, .bool o.little]) := by unfold Hid OpM.v; rw [hk]
  obtain ⟨w1, hw1⟩ : ∃ w1, w1 = w.alloc (.cells (o.v la lc ba bc) 36) := ⟨_, rfl⟩
  have b1 : Below w.heap.size w w1 := by rw [hw1]; exact alloc_below _ _
  have C1 : Cells w1 w.heap.size [.int .i64 10, .int .i64 o.x, .int .i64 o.y, .int .i64 o.z, .int .i64 o.n, .slice la o.l.keep.length lc, .int .i64 o.l.torn, .int .i64 o.l.off, .slice ba o.b.length bc, .bool o.little] := by
    have q : Cells w1 w.heap.size (o.v la lc ba bc).toList := by rw [hw1]; exact Cells.new w _ 36
    rw [HV.out] at q
    exact q
  rw [HV.out] at hw1 ⊢
  have LT := hide (show ¬ S w.heap.size ∧ ¬ T w.heap.size from ⟨fun q => by have := h.pr.one.lt _ q; omega, fun q => by have := h.pr.two.lt _ q; omega⟩)
  have D1 := hide (h.below b1)
  have B1 := hide b1
  have HW1 := hide hw1
  have OK := hide h.pr.one.ok
  obtain ⟨u0, _⟩ := C1.get 0 _ rfl
  obtain ⟨u1, _⟩ := C1.get 1 _ rfl
  obtain ⟨u2, _⟩ := C1.get 2 _ rfl
  obtain ⟨u3, _⟩ := C1.get 3 _ rfl
  obtain ⟨u4, _⟩ := C1.get 4 _ rfl
  obtain ⟨u5, _⟩ := C1.get 5 _ rfl
  obtain ⟨u6, _⟩ := C1.get 6 _ rfl
  obtain ⟨u7, _⟩ := C1.get 7 _ rfl
  obtain ⟨u8, _⟩ := C1.get 8 _ rfl
  obtain ⟨u9, _⟩ := C1.get 9 _ rfl
  have X1 := hide hs
  have X2 := hide ha
  have X3 := hide hab
  have X4 := hide hbl
  have X5 := hide hbm
  have KL := spoils_slot D1.out hm o la lc ba bc hk hpl hcl
  rw [HV.out] at KL
  have KL := hide KL
  clear hw1 b1 C1 HV h hk hs ha hab hbl hbm
  go_enter Tryz.func7, Tryz.ntmps7
  go_upto_region 1 with fail
  rw [← HW1.out]
  clear HW1
  go_wp2_with fail
  refine KL.out.mono ?_
  rintro e w2 ⟨g2, S2, T2, rfl, D2, G2, st2⟩
  go_wp2_with fail
  go_ret
  exact ⟨g2, S2, T2, rfl, D2, G2, (Step.of_below B1.out).trans st2⟩

set_option maxHeartbeats 8000000 in
set_option maxRecDepth 100000 in
theorem plays_turn {w : World} {S T : Nat → Prop} {d c : Nat} {g : Dev} {pb p q r : Nat} (h : Duet w S d g T c g pb p q r) (o : OpM) (la : Option Addr) (lc : Nat) (ba : Option Addr) (bc : Nat) (hn2 : 2 ≤ g.n) (hk : o.k = 11) (hs : Bytes w ba o.b) (ha : ba = none → bc = 0) (hab : AllB o.b) (hbl : o.b.length ≤ bc) (hbm : bc ≤ maxLen) (hpl : g.pend.length ≤ 999990) (hcl : g.calls ≤ 999990) :
    Calls Tryz.prog 7 #[.pointer (some ⟨pb, 0, none⟩), .agg (o.v la lc ba bc)] w fun e w' => ∃ g' S' T', e = .returned (.bool true) ∧ Duet w' S' d g' T' c g' pb p q r ∧ Grows g g' ∧ Step w (fun b => S b ∨ T b) w' (fun b => S' b ∨ T' b) := by
  have PL := hide hpl
  have CL := hide hcl
  have HV : Hid (o.v la lc ba bc = #[.int .i64 11, .int .i64 o.x, .int .i64 o.y, .int .i64 o.z, .int .i64 o.n, .slice la o.l.keep.length lc, .int .i64 o.l.torn, .int .i64 o.l.off, .slice ba o.b.length bc, .bool o.little]) := by unfold Hid OpM.v; rw [hk]
  obtain ⟨w1, hw1⟩ : ∃ w1, w1 = w.alloc (.cells (o.v la lc ba bc) 36) := ⟨_, rfl⟩
  have b1 : Below w.heap.size w w1 := by rw [hw1]; exact alloc_below _ _
  have C1 : Cells w1 w.heap.size [.int .i64 11, .int .i64 o.x, .int .i64 o.y, .int .i64 o.z, .int .i64 o.n, .slice la o.l.keep.length lc, .int .i64 o.l.torn, .int .i64 o.l.off, .slice ba o.b.length bc, .bool o.little] := by
    have q : Cells w1 w.heap.size (o.v la lc ba bc).toList := by rw [hw1]; exact Cells.new w _ 36
    rw [HV.out] at q
    exact q
  rw [HV.out] at hw1 ⊢
  have LT := hide (show ¬ S w.heap.size ∧ ¬ T w.heap.size from ⟨fun q => by have := h.pr.one.lt _ q; omega, fun q => by have := h.pr.two.lt _ q; omega⟩)
  have D1 := hide (h.below b1)
  have B1 := hide b1
  have HW1 := hide hw1
  have OK := hide h.pr.one.ok
  obtain ⟨u0, _⟩ := C1.get 0 _ rfl
  obtain ⟨u1, _⟩ := C1.get 1 _ rfl
  obtain ⟨u2, _⟩ := C1.get 2 _ rfl
  obtain ⟨u3, _⟩ := C1.get 3 _ rfl
  obtain ⟨u4, _⟩ := C1.get 4 _ rfl
  obtain ⟨u5, _⟩ := C1.get 5 _ rfl
  obtain ⟨u6, _⟩ := C1.get 6 _ rfl
  obtain ⟨u7, _⟩ := C1.get 7 _ rfl
  obtain ⟨u8, _⟩ := C1.get 8 _ rfl
  obtain ⟨u9, _⟩ := C1.get 9 _ rfl
  have X1 := hide hs
  have X2 := hide ha
  have X3 := hide hab
  have X4 := hide hbl
  have X5 := hide hbm
  have KL := spoils_turn D1.out hn2 o la lc ba bc (by rw [hk]; decide) (by rw [hk]; decide) (Seen.below hs B1.out) hab hbl hbm hpl hcl
  rw [HV.out] at KL
  have KL := hide KL
  clear hw1 b1 C1 HV h hk hs ha hab hbl hbm
  go_enter Tryz.func7, Tryz.ntmps7
  go_upto_region 1 with fail
  rw [← HW1.out]
  clear HW1
  go_wp2_with fail
  refine KL.out.mono ?_
  rintro e w2 ⟨g2, S2, T2, rfl, D2, G2, st2⟩
  go_wp2_with fail
  go_ret
  exact ⟨g2, S2, T2, rfl, D2, G2, (Step.of_below B1.out).trans st2⟩
end Go.Proofs.YtapjbgkmcplpbaaGreat

namespace Go.Proofs.YtapjbgkmcplpbaaGreat
open Go.RowKit Go.QK

/-- A step that was handed in. -/
structure OpOk (w : World) (o : OpM) (la : Option Addr) (lc : Nat) (ba : Option Addr) (bc : Nat) : Prop where
  loss : LossAt w o.l la lc
  keep : o.l.keep.length ≤ 17592186044415
  n : o.n ≤ 9223372036854775807
  bytes : Bytes w ba o.b
  nil : ba = none → bc = 0
  all : AllB o.b
  le : o.b.length ≤ bc
  max : bc ≤ maxLen
theorem LossAt.low {w : World} {l : Loss} {a : Option Addr} {c : Nat} (h : LossAt w l a c) (hk : l.keep ≠ []) : ∀ ad, a = some ad → ad.block < w.heap.size := by
  intro ad had
  rcases h.seen with q | ⟨b, off, e, hlt, _⟩
  · exact (hk (by simpa [ints] using q)).elim
  · rw [had] at e
    cases e
    exact hlt
theorem OpOk.below {w w' : World} {o : OpM} {la : Option Addr} {lc : Nat} {ba : Option Addr} {bc : Nat} (h : OpOk w o la lc ba bc) (hb : Below w.heap.size w w') : OpOk w' o la lc ba bc :=
  ⟨h.loss.keep (Keep.of_below (S := fun _ => False) hb) (fun _ _ _ q => q), h.keep, h.n, Seen.below h.bytes hb, h.nil, h.all, h.le, h.max⟩

theorem plays_any {w : World} {S T : Nat → Prop} {d c : Nat} {g : Dev} {pb p q r : Nat} (h : Duet w S d g T c g pb p q r) (hm : mayN (p : Int) (q : Int) (r : Int)) (hn2 : 2 ≤ g.n) (o : OpM) (la : Option Addr) (lc : Nat) (ba : Option Addr) (bc : Nat) (ho : OpOk w o la lc ba bc) (hout : o.l.keep ≠ [] → ∀ ad, la = some ad → ¬ S ad.block ∧ ¬ T ad.block) (hpl : g.pend.length ≤ 999990) (hcl : g.calls ≤ 999990) :
    Calls Tryz.prog 7 #[.pointer (some ⟨pb, 0, none⟩), .agg (o.v la lc ba bc)] w fun e w' => ∃ g' S' T', e = .returned (.bool true) ∧ Duet w' S' d g' T' c g' pb p q r ∧ Grows g g' ∧ Step w (fun b => S b ∨ T b) w' (fun b => S' b ∨ T' b) := by
  by_cases k1 : o.k = 1
  · exact plays_need h o la lc ba bc k1 hpl hcl
  by_cases k2 : o.k = 2
  · exact plays_format h o la lc ba bc k2 hpl hcl
  by_cases k3 : o.k = 3
  · exact plays_open h o la lc ba bc hn2 k3 hpl hcl
  by_cases k4 : o.k = 4
  · exact plays_point h o la lc ba bc hn2 k4 hpl hcl
  by_cases k5 : o.k = 5
  · exact plays_arm h o la lc ba bc k5 ho.loss ho.keep hout ho.n hpl hcl
  by_cases k6 : o.k = 6
  · exact plays_crash h o la lc ba bc k6 ho.loss hout hpl hcl
  by_cases k7 : o.k = 7
  · exact plays_up h o la lc ba bc k7 hpl hcl
  by_cases k9 : o.k = 9
  · exact plays_sync h o la lc ba bc k9 hpl hcl
  by_cases k8 : o.k = 8
  · exact plays_write h o la lc ba bc k8 ho.bytes ho.nil ho.all ho.le ho.max hpl hcl
  by_cases k10 : o.k = 10
  · exact plays_slot h o la lc ba bc hm k10 ho.bytes ho.nil ho.all ho.le ho.max hpl hcl
  by_cases k11 : o.k = 11
  · exact plays_turn h o la lc ba bc hn2 k11 ho.bytes ho.nil ho.all ho.le ho.max hpl hcl
  exact plays_other h o la lc ba bc ⟨k1, k2, k3, k4, k5, k6, k7, k9, k8, k10, k11⟩ hpl hcl
end Go.Proofs.YtapjbgkmcplpbaaGreat
