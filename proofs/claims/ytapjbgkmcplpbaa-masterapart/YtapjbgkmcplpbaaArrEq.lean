import Derived.Test.YtapjbgkmcplpbaaLay
import Derived.ChangeKeysEq
namespace Go.Proofs.Ytapjbgkmcplpbaa
open Go.RowKit Go.QK

theorem part5 (L : List Nat) (j : Nat) (hj : j < L.length) (w : World) : (part 5 (bytesV L) j).run Try.prog w = .ok (.int .u8 ((L.getD j 0 : Nat) : Int)) w := by
  have e : (bytesV L)[j]? = some (.int .u8 ((L.getD j 0 : Nat) : Int)) := by simp [bytesV, ints, hj]
  have ha : (isAgg 5).run Try.prog w = .ok false w := by
    unfold isAgg
    rw [Sem.run_bind, run_underlying Try.underlying5 w]
    rfl
  unfold part
  rw [Sem.run_bind, ha]
  simp only [Result.andThen_ok]
  simp [e]
theorem items5 (d : Nat) (L M : List Nat) (w : World) : (is : List Nat) → (∀ j ∈ is, j < L.length ∧ j < M.length) → (Op.eqItems (d + 1) 5 1 (bytesV L) (bytesV M) is).run Try.prog w = .ok (is.all fun j => L.getD j 0 == M.getD j 0) w
  | [], _ => by simp [Op.eqItems]
  | j :: is, h => by
    have ih := items5 d L M w is (fun k hk => h k (by simp [hk]))
    obtain ⟨h1, h2⟩ := h j (by simp)
    simp only [Op.eqItems, Sem.run_bind, Nat.mul_one, part5 L j h1 w, part5 M j h2 w, Result.andThen_ok, run_equalIn_int w d 5 .u8 .u8 _ _ Try.underlying5]
    by_cases q : L.getD j 0 = M.getD j 0
    · have q' : ((((L.getD j 0 : Nat) : Int)) == ((M.getD j 0 : Nat) : Int)) = true := by rw [q]; simp
      rw [q']
      simp only [Bool.not_true, Bool.false_eq_true, if_false, ih, List.all_cons, q, beq_self_eq_true, Bool.true_and]
    · have q' : ((((L.getD j 0 : Nat) : Int)) == ((M.getD j 0 : Nat) : Int)) = false := by rw [beq_eq_false_iff_ne]; omega
      have q2 : (L.getD j 0 == M.getD j 0) = false := by rw [beq_eq_false_iff_ne]; exact q
      rw [q']
      simp [List.all_cons]
      intro hh
      exact absurd (by simpa using hh) q
theorem neq_arr (L M : List Nat) (hl : L.length = 512) (hm : M.length = 512) (w : World) : (binOp .neq 91 (.agg (bytesV L)) (.agg (bytesV M))).run Try.prog w = .ok (.bool (!decide (L = M))) w := by
  obtain ⟨i, hi⟩ : ∃ i, Try.prog.info? 5 = some i := by
    have := info5
    cases hq : Try.prog.info? 5 with
    | none => simp [hq] at this
    | some i => exact ⟨i, rfl⟩
  have hc : Try.prog.cellsOf 5 = 1 := by kernel_rfl
  have e := run_equalIn_array w 9999 (bytesV L) (bytesV M) Try.underlying91 hi
  rw [hc] at e
  have k := items5 9998 L M w (List.range 512) (fun j hj => by simp at hj; omega)
  rw [k] at e
  have ea : ((List.range 512).all fun j => L.getD j 0 == M.getD j 0) = decide (L = M) := by
    by_cases q : L = M
    · subst q; simp
    · rw [decide_eq_false q, List.all_eq_false]
      by_cases r : ∀ j, j < 512 → L.getD j 0 = M.getD j 0
      · exfalso
        apply q
        apply List.ext_getElem (by omega)
        intro j h1 h2
        have := r j (by omega)
        simpa [h1, h2] using this
      · simp only [Classical.not_forall] at r
        obtain ⟨j, hj, hne⟩ := r
        exact ⟨j, by simpa using hj, by simpa using hne⟩
  rw [ea] at e
  simp only [binOp]
  simp [Op.equal, Op.maxDepth, e]
end Go.Proofs.Ytapjbgkmcplpbaa
