import Derived.Test.YtllpfojkbeloeaaDoorExact
import Derived.Test.YtllpfojkbeloeaaDoorOpen
import Derived.Deep.Slices
namespace Go.Proofs.YtllpfojkbeloeaaDoor
open Go.ChangeShapes Go.WideShapes Go.ChangeAt Go.RowKit Go.Deep Go.QK

theorem cells69 : Tryd.prog.cellsOf 69 = 8 := by kernel_rfl
theorem cells3 : Tryd.prog.cellsOf 3 = 1 := by kernel_rfl
theorem cells2 : Tryd.prog.cellsOf 2 = 1 := by kernel_rfl
theorem cells4 : Tryd.prog.cellsOf 4 = 1 := by kernel_rfl
theorem cells22 : Tryd.prog.cellsOf 22 = 1 := by kernel_rfl
theorem cells29 : Tryd.prog.cellsOf 29 = 1 := by kernel_rfl
theorem cells61 : Tryd.prog.cellsOf 61 = 1 := by kernel_rfl
theorem list8 {α : Type} {l : List α} (h : l.length = 8) : ∃ a b c d e f g i, l = [a, b, c, d, e, f, g, i] := by
  match l, h with
  | [a, b, c, d, e, f, g, i], _ => exact ⟨a, b, c, d, e, f, g, i, rfl⟩
theorem i64_of {x : Int} (h : (Lit.int .i64 x).wf = true) : I64 x := by
  have e1 : IntKind.i64.min = -9223372036854775808 := by decide
  have e2 : IntKind.i64.max = 9223372036854775807 := by decide
  unfold I64
  simp [Lit.wf, e1, e2] at h
  exact h
theorem u64_of {x : Int} (h : (Lit.int .u64 x).wf = true) : ∃ n : Nat, x = (n : Int) ∧ n < 18446744073709551616 := by
  have e1 : IntKind.u64.min = 0 := by decide
  have e2 : IntKind.u64.max = 18446744073709551615 := by decide
  simp [Lit.wf, e1, e2] at h
  exact ⟨x.toNat, by omega, by omega⟩

variable {H : Type} {enc : TypeId × Value → H} {W : World}
theorem slice_shape {fuel : Nat} {v : Value} {x : DataW H × List MemPlace} (h : DataW.trod enc Tryd.prog W 0 (fun _ => true) true fuel 29 [v] = some x) : ∃ a len cap, v = .slice a len cap := by
  rcases open_ints Tryd.underlying29 Tryd.underlying5 (by kernel_rfl) h with ⟨hcs, _⟩ | ⟨x, l, c, zs, hcs, _⟩
  · simp at hcs; exact ⟨_, _, _, hcs⟩
  · simp at hcs; exact ⟨_, _, _, hcs⟩
theorem open_parts {fuel : Nat} {v : Value} {x : DataW H × List MemPlace} (h : DataW.trod enc Tryd.prog W 0 (fun _ => true) true fuel 61 [v] = some x) :
    ∃ a len cap, v = .slice a len cap ∧ InP W a len ∧ len ≤ maxLen := by
  rcases Go.Deep.open_slice1 Tryd.underlying61 (by kernel_rfl) h with ⟨hcs, _⟩ | ⟨x, l, c, m, n, V, D, Pl, hcs, _, hl, hm, hmm, _, hx⟩
  · simp at hcs
    exact ⟨_, _, _, hcs, nofun, by unfold maxLen; omega⟩
  · simp at hcs
    refine ⟨_, _, _, hcs, ?_, Nat.le_trans hl hm⟩
    simp at hmm
    intro i hi
    obtain ⟨b, off, spot⟩ := x
    have hspot : spot = none := by
      have hc := (hx 0 (by omega)).1
      simpa [Addr.add] using World.cell?_spot hc
    subst hspot
    obtain ⟨h1, h2⟩ := hx i (by omega)
    obtain ⟨ai, li, ci, hv⟩ := slice_shape h2
    rw [hv] at h1 h2
    obtain ⟨l, rfl, q1, q2, q3, q4, q5⟩ := open_bytes_at h2
    rw [addr_add] at h1
    exact ⟨b, off, rfl, World.block_lt_of_cell? _ _ h1, ai, l, ci, h1, q1, q2, q4, q5, q3⟩

theorem open_op {fuel : Nat} {cs : List Value} {x : DataW H × List MemPlace} (h : DataW.trod enc Tryd.prog W 0 (fun _ => true) true fuel 69 cs = some x) :
    ∃ (k : Int) (wh : Bool) (n : Nat) (i at_ size : Int) (ab : Option Addr) (xb : List Nat) (cb : Nat) (ap : Option Addr) (lp cp : Nat), cs = [.int .i64 k, .bool wh, .int .u64 (n : Int), .int .i64 i, .int .i64 at_, .int .i64 size, .slice ab xb.length cb, .slice ap lp cp] ∧
      n < 18446744073709551616 ∧ I64 i ∧ I64 at_ ∧ AllB xb ∧ xb.length ≤ cb ∧ cb ≤ maxLen ∧ (ab = none → cb = 0) ∧ lp ≤ maxLen ∧ Bytes W ab xb ∧ InP W ap lp := by
  obtain ⟨ys, n, _, _, hl, hlen, hf⟩ := DataW.trod_struct Tryd.underlying69 h
  rw [cells69] at hl
  obtain ⟨c0, c1, c2, c3, c4, c5, c6, c7, rfl⟩ := list8 hl
  have hlen' : ys.length = 8 := by simpa using hlen
  have f0 := hf 0 _ rfl
  have f1 := hf 1 _ rfl
  have f2 := hf 2 _ rfl
  have f3 := hf 3 _ rfl
  have f4 := hf 4 _ rfl
  have f5 := hf 5 _ rfl
  have f6 := hf 6 _ rfl
  have f7 := hf 7 _ rfl
  simp [cells3, cells2, cells4, cells22, cells29, cells61, hlen'] at f0 f1 f2 f3 f4 f5 f6 f7
  obtain ⟨k, e0, _, _⟩ := DataW.trod_int Tryd.underlying3 f0
  obtain ⟨wh, e1, _⟩ := DataW.trod_bool Tryd.underlying4 f1
  obtain ⟨nn, e2, _, w2⟩ := DataW.trod_int Tryd.underlying22 f2
  obtain ⟨i, e3, _, w3⟩ := DataW.trod_int Tryd.underlying2 f3
  obtain ⟨at_, e4, _, w4⟩ := DataW.trod_int Tryd.underlying3 f4
  obtain ⟨size, e5, _, _⟩ := DataW.trod_int Tryd.underlying3 f5
  obtain ⟨ab, lb, cb, rfl⟩ := slice_shape f6
  obtain ⟨xb, rfl, q1, q2, q3, q4, q5⟩ := open_bytes_at f6
  obtain ⟨ap, lp, cp, rfl, q6, q7⟩ := open_parts f7
  simp at e0 e1 e2 e3 e4 e5
  obtain ⟨m, rfl, hm⟩ := u64_of w2
  subst e0 e1 e2 e3 e4 e5
  exact ⟨k, wh, m, i, at_, size, ab, xb, cb, ap, lp, cp, rfl, hm, i64_of w3, i64_of w4, q2, q4, q5, q3, q7, q1, q6⟩

set_option maxRecDepth 100000 in
theorem open_script {a : Option Addr} {len cap : Nat} {d : DataW H} {p : List MemPlace} (h : DataW.Trod enc Tryd.prog W 0 (fun _ => true) true 54 (.slice a len cap) d p) :
    len ≤ maxLen ∧ ∀ i, i < len → ∃ b off, a = some ⟨b, off, none⟩ ∧ b < W.heap.size ∧ OpAt W b (off + i * 8) := by
  obtain ⟨fuel, hf⟩ := h
  rcases open_slice Tryd.underlying54 hf with ⟨hcs, _⟩ | ⟨x, l, c, m, n, D, Pl, hcs, _, hl, hm, hmm, _, hx⟩
  · simp [Value.cells] at hcs
    obtain ⟨rfl, rfl, rfl⟩ := hcs
    exact ⟨by unfold maxLen; omega, nofun⟩
  · simp [Value.cells] at hcs
    obtain ⟨rfl, rfl, rfl⟩ := hcs
    refine ⟨Nat.le_trans hl hm, fun i hi => ?_⟩
    simp at hmm
    obtain ⟨cs, h1, h2⟩ := hx i (by omega)
    rw [cells69] at h1
    obtain ⟨_, _, hc⟩ := World.cells?_some h1
    obtain ⟨k, wh, n, ii, at_, size, ab, xb, cb, ap, lp, cp, rfl, rest⟩ := open_op h2
    obtain ⟨b, off, spot⟩ := x
    have hspot : spot = none := by
      obtain ⟨cs0, g1, g2⟩ := hx 0 (by omega)
      rw [cells69] at g1
      obtain ⟨_, _, gc⟩ := World.cells?_some g1
      obtain ⟨_, _, _, _, _, _, _, _, _, _, _, _, rfl, _⟩ := open_op g2
      have q0 := gc 0 (by omega)
      have := World.cell?_spot (q0.trans rfl)
      simpa [Addr.add] using this
    subst hspot
    have hc' : ∀ j, j < 8 → W.cell? ⟨b, off + i * 8 + j, none⟩ = [Value.int .i64 k, .bool wh, .int .u64 (n : Int), .int .i64 ii, .int .i64 at_, .int .i64 size, .slice ab xb.length cb, .slice ap lp cp][j]? := by
      intro j hj
      have := hc j hj
      rw [addr_add, addr_add] at this
      exact this
    exact ⟨b, off, rfl, World.block_lt_of_cell? _ ⟨b, off + i * 8 + 0, none⟩ (hc' 0 (by omega)), k, wh, n, ii, at_, size, ab, xb, cb, ap, lp, cp, hc' 0 (by omega), hc' 1 (by omega), hc' 2 (by omega), hc' 3 (by omega), hc' 4 (by omega), hc' 5 (by omega), hc' 6 (by omega), hc' 7 (by omega), rest⟩
end Go.Proofs.YtllpfojkbeloeaaDoor
