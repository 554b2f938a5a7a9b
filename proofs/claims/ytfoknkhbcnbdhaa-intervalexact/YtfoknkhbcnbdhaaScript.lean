import Derived.Test.YtfoknkhbcnbdhaaExact
import Derived.Test.YtfoknkhbcnbdhaaOpen
import Derived.Deep.Slices
namespace Go.Proofs.Ytfoknkhbcnbdhaa
open Go.ChangeShapes Go.WideShapes Go.ChangeAt Go.RowKit Go.Deep Quota

theorem cells48 : Try.prog.cellsOf 48 = 8 := by kernel_rfl
theorem cells24 : Try.prog.cellsOf 24 = 2 := by kernel_rfl
theorem cells3 : Try.prog.cellsOf 3 = 1 := by kernel_rfl
theorem cells2 : Try.prog.cellsOf 2 = 1 := by kernel_rfl
theorem cells35 : Try.prog.cellsOf 35 = 1 := by kernel_rfl

theorem list8 {α : Type} {l : List α} (h : l.length = 8) : ∃ a b c d e f g i, l = [a, b, c, d, e, f, g, i] := by
  match l, h with
  | [a, b, c, d, e, f, g, i], _ => exact ⟨a, b, c, d, e, f, g, i, rfl⟩

variable {H : Type} {enc : TypeId × Value → H} {W : World}

/-- A list among the cells of a struct. -/
theorem open_row_cell {fuel : Nat} {v : Value} {x : DataW H × List MemPlace} (h : DataW.trod enc Try.prog W 0 (fun _ => true) true fuel 35 [v] = some x) :
    ∃ (xs : List Int) (a : Option Addr) (cap : Nat), v = .slice a xs.length cap ∧ Seen W a xs ∧ All xs ∧ (a = none → cap = 0) ∧ xs.length ≤ cap ∧ cap ≤ maxLen := by
  have hv : ∃ a len cap, v = .slice a len cap := by
    rcases open_ints Try.underlying35 Try.underlying2 cells2 h with ⟨hcs, _⟩ | ⟨x, l, c, zs, hcs, _⟩
    · simp at hcs; exact ⟨_, _, _, hcs⟩
    · simp at hcs; exact ⟨_, _, _, hcs⟩
  obtain ⟨a, len, cap, rfl⟩ := hv
  have k : DataW.Trod enc Try.prog W 0 (fun _ => true) true 35 (.slice a len cap) x.1 x.2 := ⟨fuel, by simpa [Value.cells] using h⟩
  obtain ⟨xs, rfl, r⟩ := open_row k
  exact ⟨xs, a, cap, rfl, r⟩

theorem open_rng {fuel : Nat} {u v : Value} {x : DataW H × List MemPlace} (h : DataW.trod enc Try.prog W 0 (fun _ => true) true fuel 24 [u, v] = some x) : ∃ a b, u = .int .i64 a ∧ v = .int .i64 b := by
  obtain ⟨y0, y1, n, _, _, h0, h1⟩ := trod_struct2 Try.underlying24 h
  simp [cells2] at h0 h1
  obtain ⟨a, e0, _, _⟩ := DataW.trod_int Try.underlying2 h0
  obtain ⟨b, e1, _, _⟩ := DataW.trod_int Try.underlying2 h1
  simp at e0 e1
  exact ⟨a, b, e0, e1⟩

theorem open_op {fuel : Nat} {cs : List Value} {x : DataW H × List MemPlace} (h : DataW.trod enc Try.prog W 0 (fun _ => true) true fuel 48 cs = some x) :
    ∃ (k a p : Int) (xs : List Int) (al : Option Addr) (c : Nat) (r0 r1 s0 s1 : Int), cs = [.int .i64 k, .int .i64 a, .int .i64 p, .slice al xs.length c, .int .i64 r0, .int .i64 r1, .int .i64 s0, .int .i64 s1] ∧
      I64 a ∧ I64 p ∧ Seen W al xs ∧ All xs ∧ (al = none → c = 0) ∧ xs.length ≤ c ∧ c ≤ maxLen := by
  obtain ⟨ys, n, _, _, hl, hlen, hf⟩ := DataW.trod_struct Try.underlying48 h
  rw [cells48] at hl
  obtain ⟨c0, c1, c2, c3, c4, c5, c6, c7, rfl⟩ := list8 hl
  have hlen' : ys.length = 6 := by simpa using hlen
  have f0 := hf 0 _ rfl
  have f1 := hf 1 _ rfl
  have f2 := hf 2 _ rfl
  have f3 := hf 3 _ rfl
  have f4 := hf 4 _ rfl
  have f5 := hf 5 _ rfl
  simp [cells3, cells2, cells35, cells24, hlen'] at f0 f1 f2 f3 f4 f5
  obtain ⟨k, e0, _, _⟩ := DataW.trod_int Try.underlying3 f0
  obtain ⟨a, e1, _, wa⟩ := DataW.trod_int Try.underlying2 f1
  obtain ⟨p, e2, _, wp⟩ := DataW.trod_int Try.underlying2 f2
  obtain ⟨xs, al, c, e3, r⟩ := open_row_cell f3
  obtain ⟨r0, r1, e4, e5⟩ := open_rng f4
  obtain ⟨s0, s1, e6, e7⟩ := open_rng f5
  simp at e0 e1 e2
  subst e0 e1 e2 e3 e4 e5 e6 e7
  exact ⟨k, a, p, xs, al, c, r0, r1, s0, s1, rfl, i64_of wa, i64_of wp, r⟩

/-- A script that came in. -/
theorem open_script {a : Option Addr} {len cap : Nat} {d : DataW H} {p : List MemPlace} (h : DataW.Trod enc Try.prog W 0 (fun _ => true) true 46 (.slice a len cap) d p) :
    len ≤ maxLen ∧ ∀ i, i < len → ∃ b off, a = some ⟨b, off, none⟩ ∧ b < W.heap.size ∧ OpAt W b (off + i * 8) := by
  obtain ⟨fuel, hf⟩ := h
  rcases open_slice Try.underlying46 hf with ⟨hcs, _⟩ | ⟨x, l, c, m, n, D, Pl, hcs, _, hl, hm, hmm, _, hx⟩
  · simp [Value.cells] at hcs
    obtain ⟨rfl, rfl, rfl⟩ := hcs
    exact ⟨by unfold maxLen; omega, nofun⟩
  · simp [Value.cells] at hcs
    obtain ⟨rfl, rfl, rfl⟩ := hcs
    refine ⟨Nat.le_trans hl hm, fun i hi => ?_⟩
    simp at hmm
    obtain ⟨cs, h1, h2⟩ := hx i (by omega)
    rw [cells48] at h1
    obtain ⟨_, _, hc⟩ := World.cells?_some h1
    obtain ⟨k, a, p, xs, al, c', r0, r1, s0, s1, rfl, rest⟩ := open_op h2
    obtain ⟨b, off, spot⟩ := x
    have hspot : spot = none := by
      obtain ⟨cs0, g1, g2⟩ := hx 0 (by omega)
      rw [cells48] at g1
      obtain ⟨_, _, gc⟩ := World.cells?_some g1
      obtain ⟨_, _, _, _, _, _, _, _, _, _, rfl, _⟩ := open_op g2
      have q0 := gc 0 (by omega)
      have := World.cell?_spot (q0.trans rfl)
      simpa [Addr.add] using this
    subst hspot
    have hc' : ∀ j, j < 8 → W.cell? ⟨b, off + i * 8 + j, none⟩ = [Value.int .i64 k, .int .i64 a, .int .i64 p, .slice al xs.length c', .int .i64 r0, .int .i64 r1, .int .i64 s0, .int .i64 s1][j]? := by
      intro j hj
      have := hc j hj
      rw [addr_add, addr_add] at this
      exact this
    exact ⟨b, off, rfl, World.block_lt_of_cell? _ ⟨b, off + i * 8 + 0, none⟩ (hc' 0 (by omega)), k, a, p, xs, al, c', r0, r1, s0, s1, hc' 0 (by omega), hc' 1 (by omega), hc' 2 (by omega), hc' 3 (by omega), hc' 4 (by omega), hc' 5 (by omega), hc' 6 (by omega), hc' 7 (by omega), rest⟩
end Go.Proofs.Ytfoknkhbcnbdhaa
