import Derived.Test.YtlibldioliicfaaEnc
import Derived.Test.YtlibldioliicfaaTake
import Derived.Deep.DeepCutAuto
namespace Go.Proofs.Ytlibldioliicfaa
open Go.RowKit Go.QK

/-- How a row of writes stands. -/
structure WSt (w : World) (B p : Nat) (v : Value) (wi : World) (vi : Value) (li : List Nat) : Prop where
  wr : Wr wi B p vi li
  keep : Keep (wS p v) w wi
  mv : moved w v vi
theorem WSt.start {w : World} {B p : Nat} {v : Value} {l : List Nat} (h : Wr w B p v l) : WSt w B p v w v l := ⟨h, Keep.refl _ _, .inl rfl⟩
theorem WSt.next {w wi w' : World} {B p : Nat} {v vi v' : Value} {li l' : List Nat} (h : WSt w B p v wi vi li) (a : Wr w' B p v' l') (b : Keep (wS p vi) wi w') (c : moved wi vi v') : WSt w B p v w' v' l' :=
  ⟨a, h.keep.trans b (wS.moved h.mv), h.mv.trans c h.keep.size⟩
theorem WSt.below {w wi w' : World} {B p : Nat} {v vi : Value} {li : List Nat} (h : WSt w B p v wi vi li) (b : Below wi.heap.size wi w') : WSt w B p v w' vi li :=
  ⟨h.wr.below b, h.keep.then_below b, h.mv⟩
/-- A block beside the writer. -/
def Bx (p : Nat) (wi : World) (vi : Value) (b : Nat) (cs : List Value) : Prop := Cells wi b cs ∧ ¬ wS p vi b
theorem Bx.next {p : Nat} {wi w' : World} {vi v' : Value} {b : Nat} {cs : List Value} (h : Bx p wi vi b cs) (k : Keep (wS p vi) wi w') (c : moved wi vi v') : Bx p w' v' b cs :=
  ⟨h.1.keep k h.2, notS c h.1.1 h.2⟩
theorem Bx.below {p : Nat} {wi w' : World} {vi : Value} {b : Nat} {cs : List Value} (h : Bx p wi vi b cs) (k : Below wi.heap.size wi w') : Bx p w' vi b cs := ⟨h.1.below k, h.2⟩
theorem Bx.new {B p : Nat} {wi : World} {vi : Value} {li : List Nat} (h : Wr wi B p vi li) (cs : Array Value) (t : TypeId) : Bx p (wi.alloc (.cells cs t)) vi wi.heap.size cs.toList :=
  ⟨Cells.new _ _ _, fun q => by have := (h.lt _ q).2; omega⟩

set_option maxRecDepth 100000
def firstNs (g : Nat) (lo hi v : Int) : List Nat := [g, sgn lo, sgn hi, sgn v]
theorem writeFirst_any (i : Int) (g : Nat) (lo hi x : Int) (B p : Nat) (v : Value) (l : List Nat) (w : World) (hg : g < 9223372036854775808) (hlo : -9223372036854775808 ≤ lo ∧ lo ≤ 9223372036854775807) (hhi : -9223372036854775808 ≤ hi ∧ hi ≤ 9223372036854775807) (hx : -9223372036854775808 ≤ x ∧ x ≤ 9223372036854775807) (h : Wr w B p v l) (hl : l.length ≤ 100000) :
    Calls Try.prog 48 #[.pointer (some ⟨p, 0, none⟩), .agg #[.int .i64 i, .int .i64 g, .int .i64 lo, .int .i64 hi, .int .i64 x]] w fun e w' => ∃ v', e = .returned (.tuple #[]) ∧ WSt w B p v w' v' (l ++ (firstNs g lo hi x).flatMap form) := by
  have hbx := Bx.new h #[.int .i64 i, .int .i64 g, .int .i64 lo, .int .i64 hi, .int .i64 x] 30
  have hst := (WSt.start h).below (alloc_below w (.cells #[.int .i64 i, .int .i64 g, .int .i64 lo, .int .i64 hi, .int .i64 x] 30))
  generalize hw0 : w.alloc (.cells #[.int .i64 i, .int .i64 g, .int .i64 lo, .int .i64 hi, .int .i64 x] 30) = w0 at hbx hst
  have hf := flatForm_len (firstNs g lo hi x) (by have := sgn_lt hlo.1 hlo.2; have := sgn_lt hhi.1 hhi.2; have := sgn_lt hx.1 hx.2; intro n hn; simp [firstNs] at hn; omega)
  have f0 := put_lit (m := 1) [g] B p v l w0 (by simpa using hg) hst.wr (by simp; omega) rfl
  have hlen : ∀ q ∈ [l ++ [g].flatMap form, (l ++ [g].flatMap form) ++ form (sgn lo), ((l ++ [g].flatMap form) ++ form (sgn lo)) ++ form (sgn hi)], q.length ≤ 1000000 := by
    have e0 := (form_len (show g < 18446744073709551616 by omega)).2
    have e1 := (form_len (sgn_lt hlo.1 hlo.2)).2
    have e2 := (form_len (sgn_lt hhi.1 hhi.2)).2
    intro q hq
    simp at hq
    rcases hq with rfl | rfl | rfl <;> simp <;> omega
  have HLEN := hide hlen
  obtain ⟨ns, hns⟩ : ∃ ns, ns = l ++ (firstNs g lo hi x).flatMap form := ⟨_, rfl⟩
  have HN := hide (show ((((l ++ [g].flatMap form) ++ form (sgn lo)) ++ form (sgn hi)) ++ form (sgn x)) = ns by rw [hns]; simp [firstNs])
  rw [← hns]
  have HB := hide hbx
  have HS := hide hst
  obtain ⟨k1, _⟩ := hbx.1.get 1 _ rfl
  have F0 := hide f0
  clear hbx hst hf hlen hns f0 h
  go_enter Try.func48, Try.ntmps48
  go_wp2_with fail
  clear hw0
  refine F0.out.mono ?_
  rintro e w1 ⟨v1, rfl, a1, b1, c1⟩
  have HS1 := hide (HS.out.next a1 b1 c1)
  have HB1 := hide (HB.out.next b1 c1)
  obtain ⟨k2, _⟩ := HB1.out.1.get 2 _ rfl
  clear a1 b1 c1 k1 HS HB F0
  go_wp2_with fail
  refine (writeS_any lo B p v1 _ _ hlo.1 hlo.2 HS1.out.wr (HLEN.out _ (by simp))).mono ?_
  rintro e w2 ⟨v2, rfl, a1, b1, c1⟩
  have HS2 := hide (HS1.out.next a1 b1 c1)
  have HB2 := hide (HB1.out.next b1 c1)
  obtain ⟨k3, _⟩ := HB2.out.1.get 3 _ rfl
  clear a1 b1 c1 k2 HS1 HB1
  go_wp2_with fail
  refine (writeS_any hi B p v2 _ _ hhi.1 hhi.2 HS2.out.wr (HLEN.out _ (by simp))).mono ?_
  rintro e w3 ⟨v3, rfl, a1, b1, c1⟩
  have HS3 := hide (HS2.out.next a1 b1 c1)
  have HB3 := hide (HB2.out.next b1 c1)
  obtain ⟨k4, _⟩ := HB3.out.1.get 4 _ rfl
  clear a1 b1 c1 k3 HS2 HB2
  go_wp2_with fail
  refine (writeS_any x B p v3 _ _ hx.1 hx.2 HS3.out.wr (HLEN.out _ (by simp))).mono ?_
  rintro e w4 ⟨v4, rfl, a1, b1, c1⟩
  have HS4 := hide (HS3.out.next a1 b1 c1)
  rw [HN.out] at HS4
  clear a1 b1 c1 k4 HS3 HB3
  go_wp2_with fail
  go_end0
  exact ⟨_, rfl, HS4.out⟩
end Go.Proofs.Ytlibldioliicfaa
