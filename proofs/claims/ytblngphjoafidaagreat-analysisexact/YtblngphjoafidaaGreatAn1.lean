import Derived.Test.YtblngphjoafidaaGreatAnM
import Derived.Test.YtblngphjoafidaaGreatTx1
namespace Go.Proofs.YtblngphjoafidaaGreat
open Go.RowKit Go.QK Go.Maps Go.QM Go.QT
set_option maxRecDepth 100000
/-! Since when each page is dirty, in memory: behind the table's pointer. -/
def sgC (s : Nat → Int) : List Value := (List.range 64).map (fun i => .int .i64 (s i))
def PS (w : World) (b : Nat) (tv : Value) (s : Nat → Int) : Prop := Cells w b (tv :: sgC s)
theorem sgC_get (s : Nat → Int) {i : Nat} (h : i < 64) : (sgC s)[i]? = some (.int .i64 (s i)) := by simp [sgC, h]
theorem PS.get {w : World} {b : Nat} {tv : Value} {s : Nat → Int} (h : PS w b tv s) {i : Nat} (hi : i < 64) : w.cell? ⟨b, 1 + i, none⟩ = some (.int .i64 (s i)) ∧ w.frozen? ⟨b, 1 + i, none⟩ = false := by
  refine Cells.get h (1 + i) _ ?_
  rw [Nat.add_comm, List.getElem?_cons_succ]
  exact sgC_get s hi
theorem PS.keep {S : Nat → Prop} {w w' : World} {b : Nat} {tv : Value} {s : Nat → Int} (h : PS w b tv s) (hk : Keep S w w') (hn : ¬ S b) : PS w' b tv s := Cells.keep h hk hn
theorem PS.below {w w' : World} {b : Nat} {tv : Value} {s : Nat → Int} (h : PS w b tv s) (hk : Below w.heap.size w w') : PS w' b tv s := Cells.below h hk
theorem PS.marked {w : World} {b : Nat} {tv : Value} {s : Nat → Int} (h : PS w b tv s) {n : Nat} (hn : n < 64) (h0 : s n = 0) (l : Int) : PS (w.setCell ⟨b, 1 + n, none⟩ (.int .i64 l)) b tv (mark s (n : Int) l) := by
  have k := Cells.stored (j := 1 + n) h (by simp [sgC]; omega) (.int .i64 l)
  have e : (tv :: sgC s).set (1 + n) (.int .i64 l) = tv :: sgC (mark s (n : Int) l) := by
    rw [Nat.add_comm, List.set_cons_succ]
    congr 1
    apply List.ext_getElem?
    intro i
    by_cases hi : i < 64
    · rw [List.getElem?_set]
      by_cases q : n = i
      · subst q
        rw [if_pos rfl, if_pos (by simp [sgC]; omega), sgC_get _ hi]
        simp [mark, h0]
      · rw [if_neg q, sgC_get _ hi, sgC_get _ hi]
        have : ¬ ((i : Int) = (n : Int)) := by omega
        simp [mark, this]
    · rw [List.getElem?_eq_none (by simp [sgC]; omega), List.getElem?_eq_none (by simp [sgC]; omega)]
  rw [e] at k
  exact k
theorem mark_same {s : Nat → Int} {n : Nat} (h : s n ≠ 0) (l : Int) : mark s (n : Int) l = s := by
  funext i
  unfold mark
  by_cases q : (i : Int) = (n : Int) ∧ s i = 0
  · obtain ⟨q1, q2⟩ := q
    have : i = n := by omega
    subst this
    exact absurd q2 h
  · rw [if_neg q]
set_option maxHeartbeats 400000 in
theorem mark_any (b : Nat) (tv : Value) (s : Nat → Int) (p l : Int) (w : World) (h : PS w b tv s) (hp : 0 ≤ p) (hp2 : p ≤ 63) : Calls Tryz.prog 31 #[.pointer (some ⟨b, 1, none⟩), .int .i64 p, .int .i64 l] w fun e w' => e = .returned (.tuple #[]) ∧ PS w' b tv (mark s p l) ∧ Keep (fun z => z = b) w w' ∧ w'.heap.size = w.heap.size := by
  obtain ⟨n, rfl⟩ : ∃ n : Nat, p = n := ⟨p.toNat, by omega⟩
  have hn : n < 64 := by omega
  obtain ⟨k0, f0⟩ := h.get hn
  by_cases hs : s n = 0
  · have e0 : (s n == 0) = true := by simpa using hs
    have HM := hide (h.marked hn hs l)
    clear h hp hp2 hs
    generalize s n = v at *
    go_enter Tryz.func31, Tryz.ntmps31
    go_wp2
    go_end0
    exact ⟨rfl, HM.out, (Keep.refl (fun z => z = b) w).setCell (g := b) (j := 1 + n) (fun _ => rfl) _, by simp⟩
  · have e0 : (s n == 0) = false := by simpa using hs
    have HM := hide (show PS w b tv (mark s (n : Int) l) by rw [mark_same hs]; exact h)
    clear h hp hp2 hs
    generalize s n = v at *
    go_enter Tryz.func31, Tryz.ntmps31
    go_wp2
    go_end0
    exact ⟨rfl, HM.out, Keep.refl _ w, rfl⟩
end Go.Proofs.YtblngphjoafidaaGreat
