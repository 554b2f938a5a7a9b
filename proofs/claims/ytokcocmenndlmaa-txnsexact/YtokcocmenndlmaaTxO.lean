import Derived.Test.YtokcocmenndlmaaRows
import Derived.Test.YtokcocmenndlmaaTx12c
import Derived.ProofKit
import Derived.OpenShut
import Derived.ChangeOld
import Derived.Lib.SmallJoins
import Derived.Deep.Slices
namespace Go.Proofs.Ytokcocmenndlmaa
open Go.ChangeShapes Go.WideShapes Go.ChangeAt Go.RowKit Go.Deep Go.QK Go.Joins Go.QT
set_option maxRecDepth 100000

theorem own : ownKnob Try.prog.godebug = none := by kernel_rfl
theorem laidOut : laidOutB Try.prog = true := by kernel_rfl
theorem cells3 : Try.prog.cellsOf 3 = 1 := by kernel_rfl
theorem cells4 : Try.prog.cellsOf 4 = 1 := by kernel_rfl
theorem cells26 : Try.prog.cellsOf 26 = 4 := by kernel_rfl
theorem cells37 : Try.prog.cellsOf 37 = 2 := by kernel_rfl
theorem cells41 : Try.prog.cellsOf 41 = 1 := by kernel_rfl
theorem cells51 : Try.prog.cellsOf 51 = 17 := by kernel_rfl
theorem i64_wf {z : Int} (h : (Lit.int .i64 z).wf = true) : I64 z := by
  have h1 : IntKind.i64.min ≤ z ∧ z ≤ IntKind.i64.max := by simpa [Lit.wf] using h
  have e1 : IntKind.i64.min = -9223372036854775808 := rfl
  have e2 : IntKind.i64.max = 9223372036854775807 := rfl
  unfold I64
  omega
theorem pick_list {α : Type} (p : Nat → α → Prop) (n : Nat) (h : ∀ i, i < n → ∃ y, p i y) : ∃ l : List α, l.length = n ∧ ∀ i (hi : i < l.length), p i l[i] := by
  induction n with
  | zero => exact ⟨[], rfl, fun i hi => by cases hi⟩
  | succ n ih =>
    obtain ⟨l, e, q⟩ := ih (fun i hi => h i (by omega))
    obtain ⟨y, hy⟩ := h n (by omega)
    refine ⟨l ++ [y], by simp [e], fun i hi => ?_⟩
    by_cases hl : i < l.length
    · rw [List.getElem_append_left hl]; exact q i hl
    · have : i = l.length := by simp at hi; omega
      subst this
      rw [List.getElem_append_right (by omega)]
      simp
      rw [e]
      exact hy

variable {H : Type} {enc : TypeId × Value → H} {W : World}
theorem rows_lies {α : Type} {b off : Nat} (f : α → List Value) (n : Nat) (hf : ∀ x, (f x).length = n) (hn : 0 < n) (ls : List α) (hb : b < W.heap.size) (h : ∀ i (hi : i < ls.length) j v, (f ls[i])[j]? = some v → W.cell? ⟨b, off + i * n + j, none⟩ = some v) : Lies W (some ⟨b, off, none⟩) (rowsC f ls) := by
  refine .inr ⟨b, off, rfl, hb, fun i hi => ?_⟩
  have hl := rowsC_len f n hf ls
  have hi' : i / n < ls.length := by
    rw [hl] at hi
    exact Nat.div_lt_of_lt_mul hi
  have e := rowsC_get f n hf ls (i / n) hi' (i % n) (Nat.mod_lt _ hn)
  rw [Nat.div_add_mod, List.getElem?_eq_getElem hi] at e
  have q := h (i / n) hi' (i % n) _ e.symm
  rw [← q]
  have e2 : off + i / n * n + i % n = off + i := by rw [Nat.add_assoc, Nat.mul_comm (i / n) n, Nat.div_add_mod]
  rw [e2]

/-- A row of structs that came in. -/
theorem open_rows {α : Type} {T E : TypeId} {k : Nat} (f : α → List Value) (ok : α → Prop) (hu : Try.prog.underlying T = some (.slice E)) (hc : Try.prog.cellsOf E = k) (hk : 0 < k) (hfl : ∀ x, (f x).length = k)
    (hopen : ∀ {fuel : Nat} {cs : List Value} {x : DataW H × List MemPlace}, DataW.trod enc Try.prog W 0 (fun _ => true) true fuel E cs = some x → ∃ y, cs = f y ∧ ok y)
    {fuel : Nat} {v : Value} {x : DataW H × List MemPlace} (hf : DataW.trod enc Try.prog W 0 (fun _ => true) true fuel T [v] = some x) :
    ∃ (a : Option Addr) (xs : List α) (c : Nat), v = .slice a xs.length c ∧ Lies W a (rowsC f xs) ∧ (∀ y ∈ xs, ok y) ∧ xs.length ≤ maxLen := by
  rcases open_slice hu hf with ⟨hcs, _⟩ | ⟨x, l, c, m, n, D, Pl, hcs, _, hl, hm, hmm, rfl, hx⟩
  · simp at hcs
    subst hcs
    exact ⟨none, [], 0, rfl, .inl rfl, nofun, Nat.zero_le _⟩
  · simp at hcs
    subst hcs
    simp at hmm
    obtain ⟨b, off, spot⟩ := x
    have key : ∀ i, i < l → ∃ y : α, (∀ j v, (f y)[j]? = some v → W.cell? (((⟨b, off, spot⟩ : Addr).add (i * k)).add j) = some v) ∧ ok y := by
      intro i hi
      obtain ⟨cs, h1, h2⟩ := hx i (by omega)
      rw [hc] at h1
      obtain ⟨_, _, hcc⟩ := World.cells?_some h1
      obtain ⟨y, rfl, hy⟩ := hopen h2
      refine ⟨y, fun j v hv => ?_, hy⟩
      have hj : j < k := by
        obtain ⟨hh, _⟩ := List.getElem?_eq_some_iff.1 hv
        rw [hfl] at hh
        exact hh
      exact (hcc j hj).trans hv
    obtain ⟨ls, el, q⟩ := pick_list _ l key
    subst el
    refine ⟨some ⟨b, off, spot⟩, ls, c, rfl, ?_, fun x hx => ?_, Nat.le_trans hl hm⟩
    · by_cases h0 : ls.length = 0
      · exact .inl (by rw [List.eq_nil_of_length_eq_zero h0]; rfl)
      · have hz : 0 < (f (ls[0]'(by omega))).length := by rw [hfl]; exact hk
        have q0 := (q 0 (by omega)).1 0 _ (List.getElem?_eq_getElem hz)
        have hspot : spot = none := by simpa [Addr.add] using World.cell?_spot q0
        subst hspot
        rw [addr_add, addr_add] at q0
        refine rows_lies f k hfl hk ls (World.block_lt_of_cell? _ _ q0) (fun i hi j v hv => ?_)
        have := (q i hi).1 j v hv
        rw [addr_add, addr_add] at this
        exact this
    · obtain ⟨i, hi, rfl⟩ := List.getElem_of_mem hx
      exact (q i hi).2

theorem open_move {fuel : Nat} {cs : List Value} {x : DataW H × List MemPlace} (h : DataW.trod enc Try.prog W 0 (fun _ => true) true fuel 37 cs = some x) : ∃ d : Int × Int, cs = m2 d ∧ True := by
  obtain ⟨ys, n, _, rfl, hl, hlen, hf⟩ := DataW.trod_struct Try.underlying37 h
  rw [cells37] at hl
  obtain ⟨c0, c1, rfl⟩ : ∃ a b, cs = [a, b] := by
    match cs, hl with
    | [a, b], _ => exact ⟨a, b, rfl⟩
  have hlen' : ys.length = 2 := by simpa using hlen
  have f0 := hf 0 _ rfl
  have f1 := hf 1 _ rfl
  simp [cells3, hlen'] at f0 f1
  obtain ⟨a, e0, _, wa⟩ := DataW.trod_int Try.underlying3 f0
  obtain ⟨b, e1, _, wb⟩ := DataW.trod_int Try.underlying3 f1
  simp at e0 e1
  subst e0 e1
  exact ⟨(a, b), rfl, trivial⟩
theorem open_moves {fuel : Nat} {v : Value} {x : DataW H × List MemPlace} (hf : DataW.trod enc Try.prog W 0 (fun _ => true) true fuel 22 [v] = some x) :
    ∃ (a : Option Addr) (ds : List (Int × Int)) (c : Nat), v = .slice a ds.length c ∧ Lies W a (rowsC m2 ds) := by
  obtain ⟨a, ds, c, h1, h2, h3, h4⟩ := open_rows m2 (fun _ => True) Try.underlying22 cells37 (by decide) (fun _ => rfl) (fun h => open_move h) hf
  exact ⟨a, ds, c, h1, h2⟩
theorem list17 {α : Type} {l : List α} (h : l.length = 17) : ∃ a b c d, ∃ m : List α, l = a :: b :: c :: d :: m ∧ m.length = 13 := by
  match l, h with
  | a :: b :: c :: d :: m, h => exact ⟨a, b, c, d, m, rfl, by simpa using h⟩
theorem ofFn13 {l : List Value} (h : l.length = 13) : List.ofFn (fun i : Fin 13 => l[i.val]'(by rw [h]; exact i.isLt)) = l := by
  apply List.ext_getElem (by rw [List.length_ofFn, h])
  intro i h1 h2
  rw [List.getElem_ofFn]
theorem open_rec {fuel : Nat} {cs : List Value} {x : DataW H × List MemPlace} (h : DataW.trod enc Try.prog W 0 (fun _ => true) true fuel 51 cs = some x) : ∃ r : RecN, cs = recL r ∧ I64 r.tx := by
  obtain ⟨ys, n, _, rfl, hl, hlen, hf⟩ := DataW.trod_struct Try.underlying51 h
  rw [cells51] at hl
  obtain ⟨c0, c1, c2, c3, m, rfl, hm⟩ := list17 hl
  have hlen' : ys.length = 9 := by simpa using hlen
  have f0 := hf 0 _ rfl
  have f1 := hf 1 _ rfl
  have f2 := hf 2 _ rfl
  have f3 := hf 3 _ rfl
  simp [cells3, cells41, hlen'] at f0 f1 f2 f3
  obtain ⟨a0, e0, _, w0⟩ := DataW.trod_int Try.underlying3 f0
  obtain ⟨a1, e1, _, w1⟩ := DataW.trod_int Try.underlying41 f1
  obtain ⟨a2, e2, _, w2⟩ := DataW.trod_int Try.underlying3 f2
  obtain ⟨a3, e3, _, w3⟩ := DataW.trod_int Try.underlying3 f3
  simp at e0 e1 e2 e3
  subst e0 e1 e2 e3
  refine ⟨⟨a0, a1, a2, a3, fun i : Fin 13 => m[i.val]'(by rw [hm]; exact i.isLt)⟩, ?_, i64_wf w2⟩
  show _ = Value.int .i64 a0 :: Value.int .i64 a1 :: Value.int .i64 a2 :: Value.int .i64 a3 :: List.ofFn (fun i : Fin 13 => m[i.val]'(by rw [hm]; exact i.isLt))
  rw [ofFn13 hm]
theorem open_recs {fuel : Nat} {v : Value} {x : DataW H × List MemPlace} (hf : DataW.trod enc Try.prog W 0 (fun _ => true) true fuel 23 [v] = some x) :
    ∃ (a : Option Addr) (ds : List RecN) (c : Nat), v = .slice a ds.length c ∧ Lies W a (rowsC recL ds) ∧ (∀ d ∈ ds, I64 d.tx) := by
  obtain ⟨a, ds, c, h1, h2, h3, h4⟩ := open_rows recL (fun d => I64 d.tx) Try.underlying23 cells51 (by decide) recL_len (fun h => open_rec h) hf
  exact ⟨a, ds, c, h1, h2, h3⟩
theorem open_lv {v : Value} {d : DataW H} {p : List MemPlace} {base : Nat} (hv : Value.okWide Try.prog W .any base 26 v) (h : DataW.Trod enc Try.prog W 0 (fun _ => true) true 26 v d p) : ∃ x : Lv, v = lvV x := by
  obtain ⟨c0, c1, c2, c3, y0, y1, y2, y3, m, rfl, _, _, h0, h1, h2, h3⟩ := open_agg4 Try.underlying26 (by kernel_rfl) cells26 hv h
  obtain ⟨a0, e0, _, _⟩ := DataW.trod_int Try.underlying3 h0
  obtain ⟨a1, e1, _, _⟩ := DataW.trod_int Try.underlying3 h1
  obtain ⟨a2, e2, _⟩ := DataW.trod_bool Try.underlying4 h2
  obtain ⟨a3, e3, _⟩ := DataW.trod_bool Try.underlying4 h3
  simp at e0 e1 e2 e3
  subst e0 e1 e2 e3
  exact ⟨⟨a0, a1, a2, a3⟩, rfl⟩
end Go.Proofs.Ytokcocmenndlmaa
