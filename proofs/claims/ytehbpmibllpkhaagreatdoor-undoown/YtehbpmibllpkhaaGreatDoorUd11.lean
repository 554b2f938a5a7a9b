import Derived.Test.YtehbpmibllpkhaaGreatDoorUd8
set_option linter.all false
namespace Go.Proofs.YtehbpmibllpkhaaGreatDoor
open Go.RowKit Go.QK Go.Maps Go.QM Go.QU
set_option maxRecDepth 100000
/-- The id's cell of a record of a row, whatever stands above. -/
theorem id_at {w : World} {a : Option Addr} {rs : List RZ} (h : Lies w a (rzs rs)) (k : Nat) (hk : k < rs.length) : ∃ b off, a = some ⟨b, off, none⟩ ∧ ∀ wq, Below w.heap.size w wq → wq.cell? ⟨b, off + k * 17 + 9, none⟩ = some (.int .i64 rs[k].id) := by
  obtain ⟨b1, o1, rfl, l1, c1⟩ := rz_at h k hk
  exact ⟨b1, o1, rfl, fun wq hq => (hq.cell (p := ⟨b1, o1 + k * 17 + 9, none⟩) l1).trans (c1 9 _ rfl)⟩
set_option maxHeartbeats 8000000 in
/-- 'at': where the record of a counter stands. -/
theorem at_any (rs : List RZ) (a : Option Addr) (c : Nat) (id : Int) (w : World) (lr : Lies w a (rzs rs)) (hl : rs.length * 168 ≤ 140737488355328) :
    Calls Tryz.prog 18 #[.slice a rs.length c, .int .i64 id] w fun e w' => ((∃ i : Nat, ∃ h : i < rs.length, rs[i].id = id ∧ e = .returned (.int .i64 (i : Int))) ∨ ((∀ i (h : i < rs.length), rs[i].id ≠ id) ∧ e = .returned (.int .i64 (-1)))) ∧ Below w.heap.size w w' := by
  obtain ⟨N, hN⟩ : ∃ n, n = rs.length := ⟨_, rfl⟩
  have HN := hide hN
  have HLR := hide lr
  have RET : ∀ {e : Ending}, (((∃ i : Nat, i < N ∧ (∀ h : i < rs.length, rs[i].id = id) ∧ e = .returned (.int .i64 (i : Int))) ∨ ((∀ i (h : i < rs.length), rs[i].id ≠ id) ∧ e = .returned (.int .i64 (-1))))) → ((∃ i : Nat, ∃ h : i < rs.length, rs[i].id = id ∧ e = .returned (.int .i64 (i : Int))) ∨ ((∀ i (h : i < rs.length), rs[i].id ≠ id) ∧ e = .returned (.int .i64 (-1)))) := by
    intro e q
    rcases q with ⟨i, h1, h2, h3⟩ | q
    · exact .inl ⟨i, by omega, h2 (by omega), h3⟩
    · exact .inr q
  refine Calls.mono (R := fun e w' => ((∃ i : Nat, i < N ∧ (∀ h : i < rs.length, rs[i].id = id) ∧ e = .returned (.int .i64 (i : Int))) ∨ ((∀ i (h : i < rs.length), rs[i].id ≠ id) ∧ e = .returned (.int .i64 (-1)))) ∧ Below w.heap.size w w') ?_ (fun e w' q => ⟨RET q.1, q.2⟩)
  have e0 : Value.slice a rs.length c = Value.slice a N c := by rw [hN]
  rw [e0]
  rw [← hN] at hl
  clear hN lr RET e0
  go_enter Tryz.func18, Tryz.ntmps18
  go_wp2_with fail
  go_loopw [5] (fun v wz => ∃ k : Nat, v = .int .i64 (k : Int) ∧ k ≤ N ∧ (∀ i (h : i < rs.length), i < k → rs[i].id ≠ id) ∧ Below w.heap.size w wz) (fun v _ => N + 1 - (intOf v).toNat)
  case atStart => exact ⟨0, rfl, Nat.zero_le _, fun i h q => absurd q (Nat.not_lt_zero _), Below.refl _ _⟩
  case round =>
    obtain ⟨k, rfl, hk, hno, hb⟩ := hrel
    have HB := hide hb
    have HNO := hide hno
    clear hb hno
    by_cases hlt : k < N
    · have d1 : decide ((k : Int) < (N : Int)) = true := decide_eq_true (by omega)
      have d2 : (k : Int) < (N : Int) := by omega
      have hx : k < rs.length := by have := HN.out; omega
      obtain ⟨b1, o1, rfl, c1⟩ := id_at HLR.out k hx
      obtain ⟨x, hxx⟩ : ∃ z, z = rs[k].id := ⟨_, rfl⟩
      rw [← hxx] at c1
      have q1 := c1 wr HB.out
      have HXX := hide hxx
      clear hxx c1
      by_cases he : x = id
      · have d3 : decide (x = id) = true := decide_eq_true he
        have YES := hide (show ∀ h : k < rs.length, rs[k].id = id from fun h => by rw [← HXX.out]; exact he)
        subst he
        go_wp2_with fail
        go_ret
        exact ⟨.inl ⟨k, hlt, YES.out, rfl⟩, HB.out⟩
      · have d3 : decide (x = id) = false := decide_eq_false he
        have d4 : (x == id) = false := by simpa using he
        have NO := hide (show ∀ i (h : i < rs.length), i < k + 1 → rs[i].id ≠ id from fun i h q => by
          by_cases e : i = k
          · subst e; rw [← HXX.out]; exact he
          · exact HNO.out i h (by omega))
        go_wp2_with fail
        go_roundw
        case rel => exact ⟨k + 1, by go_num, by omega, NO.out, HB.out⟩
        case measure => simp [intOf]; omega
    · obtain rfl : N = k := by omega
      have d1 : decide ((N : Int) < (N : Int)) = false := decide_eq_false (by omega)
      go_wp2_with fail
      go_ret
      exact ⟨.inr ⟨fun i h => HNO.out i h (by have := HN.out; omega), rfl⟩, HB.out⟩
end Go.Proofs.YtehbpmibllpkhaaGreatDoor
