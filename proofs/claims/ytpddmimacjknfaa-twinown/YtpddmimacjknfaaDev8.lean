import Derived.Test.YtpddmimacjknfaaDev7
import Derived.Laws.MakeOwn
import Derived.Laws.OwnMore
namespace Go.Proofs.Ytpddmimacjknfaa
open Go.RowKit Go.QK

/-- 'make([]byte, n)'. -/
theorem makeB (w : World) (n : Nat) (hn : n ≤ 5000000) : ∃ w1, (Instr.makeSlice 22 (.int .i64 (n : Int)) (.int .i64 (n : Int))).run Try.prog w = .ok (.slice (some ⟨w.heap.size, 0, none⟩) n n) w1 ∧
    OwnB w1 w.heap.size (.slice (some ⟨w.heap.size, 0, none⟩) n n) (List.replicate n 0) ∧ Below w.heap.size w w1 ∧ w.heap.size < w1.heap.size := by
  obtain ⟨i0, hi, hz0, hz1, hz2⟩ := info_parts info5
  obtain ⟨w1, h1, h2, h3⟩ := run_makeSlice_full (P := Try.prog) (w := w) w.heap.size 22 5 i0 (.int .u8 0) 1 Try.underlying22 hi hz0 hz1 .i64 .i64 n (by omega) (by rw [hz2]; omega) (by unfold maxLen; omega) (Nat.le_refl _)
  refine ⟨w1, h1, ?_, (Below.refl _ _).grown h3 (Nat.le_refl _) (by nofun), (World.ownsRow.lt h2 _ rfl).2⟩
  have e : (madeCells (Value.cells (.int .u8 0)) (n * 1)).toList = (ints (List.replicate n 0)).map (Value.int .u8) := by
    simp only [madeCells, Value.cells, ints, Nat.mul_one]
    apply List.ext_getElem
    · simp
    · intro i _ _
      simp [Nat.mod_one]
  unfold OwnB Owns
  rw [← e]
  simpa using h2

set_option maxHeartbeats 400000 in
set_option maxRecDepth 100000 in
theorem new_ok (n : Nat) (w : World) (h1 : 1 ≤ n) (h2 : n ≤ 8192) :
    Calls Try.prog 21 #[.int .i64 (n : Int)] w fun e w' => ∃ d S, e = .returned (.tuple #[.pointer (some ⟨d, 0, none⟩), .int .i64 0]) ∧ PDev w' S d (Dev.new n) ∧ (∀ b, S b → w.heap.size ≤ b) ∧ Below w.heap.size w w' := by
  have e1 : IntKind.i64.wrap ((n : Int) * 512) = ((512 * n : Nat) : Int) := by rw [IntKind.wrap_i64]; omega
  obtain ⟨w1, m1, o1, b1, z1⟩ := makeB w (512 * n) (by omega)
  have O1 := hide o1
  have g1 : ¬ ((n : Int) < 1) := by omega
  have g2 : ¬ ((8192 : Int) < (n : Int)) := by omega
  obtain ⟨m, hm⟩ : ∃ m, m = 512 * n := ⟨_, rfl⟩
  rw [← hm] at e1 m1 O1
  have HM := hide hm
  clear hm o1
  go_enter Try.func21, Try.ntmps21
  go_wp2_with fail
  go_ret2
  have bA := alloc_below w1 (.cells #[.slice (some ⟨w.heap.size, 0, none⟩) m m, .slice none 0 0, .int .i64 0, .bool false, .int .i64 0, .slice none 0 0, .int .i64 0, .int .i64 0] 81)
  refine ⟨w1.heap.size, rfl, fun b => b = w.heap.size ∨ b = w1.heap.size, ⟨w.heap.size, m, .slice none 0 0, [], .slice none 0 0, 0, 0, ?_, ?_, rfl, Dev.Ok.new h1 h2⟩, ?_, ?_⟩
  · have e : (Dev.new n).img.length = m := by rw [HM.out]; simp [Dev.new]
    rw [e]
    exact Cells.new w1 _ 81
  · refine ⟨.inr rfl, ?_, ⟨.inl rfl, by omega⟩, PRow.nil _ _, nofun, nofun, nofun, ?_⟩
    · have e : (Dev.new n).img.length = m := by rw [HM.out]; simp [Dev.new]
      rw [e]
      have q := Owns.below O1.out bA
      have e2 : (Dev.new n).img = List.replicate m 0 := by rw [HM.out]; rfl
      rw [e2]
      exact ⟨q.1, by
        rcases q.2 with r | ⟨g, cap, cur, r1, r2, r3⟩
        · exact .inl r
        · exact .inr ⟨g, cap, cur, r1, Nat.zero_le _, r3⟩⟩
    · intro b hb
      have hb : b = w.heap.size ∨ b = w1.heap.size := hb
      rw [World.size_alloc]
      omega
  · intro b hb
    have hb : b = w.heap.size ∨ b = w1.heap.size := hb
    have := b1.size
    omega
  · exact bnext b1 bA (Nat.le_refl _)

set_option maxRecDepth 100000 in
theorem new_no (i : Int) (w : World) (h : i < 1 ∨ 8192 < i) :
    Calls Try.prog 21 #[.int .i64 i] w fun e w' => e = .returned (.tuple #[.pointer none, .int .i64 4]) ∧ w' = w := by
  by_cases q : i < 1
  · go_enter Try.func21, Try.ntmps21
    go_wp2_with fail
    go_ret2
    exact ⟨rfl, rfl⟩
  · have q2 : 8192 < i := by omega
    have q1 : decide (i < 1) = false := by simpa using q
    clear h
    go_enter Try.func21, Try.ntmps21
    go_wp2_with fail
    go_ret2
    exact ⟨rfl, rfl⟩
end Go.Proofs.Ytpddmimacjknfaa
