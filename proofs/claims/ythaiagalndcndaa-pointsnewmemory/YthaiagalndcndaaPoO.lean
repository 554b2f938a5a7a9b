import Derived.Test.YthaiagalndcndaaRows
import Derived.Test.YthaiagalndcndaaPo9
import Derived.ProofKit
import Derived.OpenShut
import Derived.ChangeOld
import Derived.Lib.SmallJoins
import Derived.Deep.Slices
namespace Go.Proofs.Ythaiagalndcndaa
open Go.ChangeShapes Go.WideShapes Go.ChangeAt Go.RowKit Go.Deep Go.QK Go.Joins Go.QP
set_option maxRecDepth 100000
theorem own : ownKnob Try.prog.godebug = none := by kernel_rfl
theorem laidOut : laidOutB Try.prog = true := by kernel_rfl
theorem cells28 : Try.prog.cellsOf 28 = 2 := by kernel_rfl
theorem cells59 : Try.prog.cellsOf 59 = 4 := by kernel_rfl
theorem cells32 : Try.prog.cellsOf 32 = 3 := by kernel_rfl
theorem cells23 : Try.prog.cellsOf 23 = 1 := by kernel_rfl
theorem cells30 : Try.prog.cellsOf 30 = 1 := by kernel_rfl
theorem cells3 : Try.prog.cellsOf 3 = 1 := by kernel_rfl
theorem cells4 : Try.prog.cellsOf 4 = 1 := by kernel_rfl
theorem i64_wf {z : Int} (h : (Lit.int .i64 z).wf = true) : I64 z := by
  have h1 : IntKind.i64.min ≤ z ∧ z ≤ IntKind.i64.max := by simpa [Lit.wf] using h
  have e1 : IntKind.i64.min = -9223372036854775808 := rfl
  have e2 : IntKind.i64.max = 9223372036854775807 := rfl
  unfold I64
  omega
theorem pick_list {α : Type} (p : Nat → α → Prop) (n : Nat) (h : ∀ i, i < n → ∃ y, p i y) : ∃ l : List α, l.length = n ∧ ∀ i (hi : i < l.length), p i l[i] := by
  induction n with
  | zero => exact ⟨[], rfl, fun i hi => by cases hi⟩
  | succ n ih =>
    obtain ⟨l, e, q⟩ := ih (fun i hi => h i (by omega))
    obtain ⟨y, hy⟩ := h n (by omega)
    refine ⟨l ++ [y], by simp [e], fun i hi => ?_⟩
    by_cases hl : i < l.length
    · rw [List.getElem_append_left hl]; exact q i hl
    · have : i = l.length := by simp at hi; omega
      subst this
      rw [List.getElem_append_right (by omega)]
      simp
      rw [e]
      exact hy

theorem lst2 {α : Type} {l : List α} (h : l.length = 2) : ∃ a b, l = [a, b] := by
  match l, h with
  | [a, b], _ => exact ⟨a, b, rfl⟩
theorem lst3 {α : Type} {l : List α} (h : l.length = 3) : ∃ a b c, l = [a, b, c] := by
  match l, h with
  | [a, b, c], _ => exact ⟨a, b, c, rfl⟩
theorem lst4 {α : Type} {l : List α} (h : l.length = 4) : ∃ a b c d, l = [a, b, c, d] := by
  match l, h with
  | [a, b, c, d], _ => exact ⟨a, b, c, d, rfl⟩
variable {H : Type} {enc : TypeId × Value → H} {W : World}

theorem rowsC_len {α : Type} (f : α → List Value) (n : Nat) (hf : ∀ x, (f x).length = n) (ls : List α) : (rowsC f ls).length = n * ls.length := by
  unfold rowsC
  induction ls with
  | nil => rfl
  | cons x xs ih => rw [List.flatMap_cons, List.length_append, hf, ih, List.length_cons, Nat.mul_succ]; omega
theorem rows_lies {α : Type} {b off : Nat} (f : α → List Value) (n : Nat) (hf : ∀ x, (f x).length = n) (hn : 0 < n) (ls : List α) (hb : b < W.heap.size) (h : ∀ i (hi : i < ls.length) j v, (f ls[i])[j]? = some v → W.cell? ⟨b, off + i * n + j, none⟩ = some v) : Lies W (some ⟨b, off, none⟩) (rowsC f ls) := by
  refine .inr ⟨b, off, rfl, hb, fun i hi => ?_⟩
  have hl := rowsC_len f n hf ls
  have hi' : i / n < ls.length := by
    rw [hl] at hi
    exact Nat.div_lt_of_lt_mul hi
  have e := rowsC_get f n hf ls (i / n) hi' (i % n) (Nat.mod_lt _ hn)
  rw [Nat.div_add_mod, List.getElem?_eq_getElem hi] at e
  have q := h (i / n) hi' (i % n) _ e.symm
  rw [← q]
  have e2 : off + i / n * n + i % n = off + i := by rw [Nat.add_assoc, Nat.mul_comm (i / n) n, Nat.div_add_mod]
  rw [e2]

/-- A row of structs that came in. -/
theorem open_rowsN {α : Type} {T E : TypeId} {k : Nat} (f : α → List Value) (ok : α → Prop) (hu : Try.prog.underlying T = some (.slice E)) (hc : Try.prog.cellsOf E = k) (hk : 0 < k) (hfl : ∀ x, (f x).length = k)
    (hopen : ∀ {fuel : Nat} {cs : List Value} {x : DataW H × List MemPlace}, DataW.trod enc Try.prog W 0 (fun _ => true) true fuel E cs = some x → ∃ y, cs = f y ∧ ok y)
    {fuel : Nat} {v : Value} {x : DataW H × List MemPlace} (hf : DataW.trod enc Try.prog W 0 (fun _ => true) true fuel T [v] = some x) :
    ∃ (a : Option Addr) (xs : List α) (c : Nat), v = .slice a xs.length c ∧ Lies W a (rowsC f xs) ∧ (∀ y ∈ xs, ok y) ∧ xs.length ≤ maxLen ∧ xs.length ≤ c ∧ (a = none → c = 0 ∧ xs.length = 0) := by
  rcases open_slice hu hf with ⟨hcs, _⟩ | ⟨x, l, c, m, n, D, Pl, hcs, _, hl, hm, hmm, rfl, hx⟩
  · simp at hcs
    subst hcs
    exact ⟨none, [], 0, rfl, .inl rfl, nofun, Nat.zero_le _, Nat.le_refl _, fun _ => ⟨rfl, rfl⟩⟩
  · simp at hcs
    subst hcs
    simp at hmm
    obtain ⟨b, off, spot⟩ := x
    have key : ∀ i, i < l → ∃ y : α, (∀ j v, (f y)[j]? = some v → W.cell? (((⟨b, off, spot⟩ : Addr).add (i * k)).add j) = some v) ∧ ok y := by
      intro i hi
      obtain ⟨cs, h1, h2⟩ := hx i (by omega)
      rw [hc] at h1
      obtain ⟨_, _, hcc⟩ := World.cells?_some h1
      obtain ⟨y, rfl, hy⟩ := hopen h2
      refine ⟨y, fun j v hv => ?_, hy⟩
      have hj : j < k := by
        obtain ⟨hh, _⟩ := List.getElem?_eq_some_iff.1 hv
        rw [hfl] at hh
        exact hh
      exact (hcc j hj).trans hv
    obtain ⟨ls, el, q⟩ := pick_list _ l key
    subst el
    refine ⟨some ⟨b, off, spot⟩, ls, c, rfl, ?_, fun x hx => ?_, Nat.le_trans hl hm, hl, nofun⟩
    · by_cases h0 : ls.length = 0
      · exact .inl (by rw [List.eq_nil_of_length_eq_zero h0]; rfl)
      · have hz : 0 < (f (ls[0]'(by omega))).length := by rw [hfl]; exact hk
        have q0 := (q 0 (by omega)).1 0 _ (List.getElem?_eq_getElem hz)
        have hspot : spot = none := by simpa [Addr.add] using World.cell?_spot q0
        subst hspot
        rw [addr_add, addr_add] at q0
        refine rows_lies f k hfl hk ls (World.block_lt_of_cell? _ _ q0) (fun i hi j v hv => ?_)
        have := (q i hi).1 j v hv
        rw [addr_add, addr_add] at this
        exact this
    · obtain ⟨i, hi, rfl⟩ := List.getElem_of_mem hx
      exact (q i hi).2

theorem rows_weight {T E : TypeId} (hu : Try.prog.underlying T = some (.slice E)) {fuel : Nat} {v : Value} {x : DataW H × List MemPlace} (hf : DataW.trod enc Try.prog W 0 (fun _ => true) true fuel T [v] = some x)
    (hw : ∀ n ∈ x.1.weights Try.prog T, n ≤ reachBytes) (a : Option Addr) (n c : Nat) (hv : v = .slice a n c) : n * Try.prog.bytesOf E ≤ reachBytes := by
  rcases open_slice hu hf with ⟨hcs, _⟩ | ⟨y, l, cp, m, q, D, Pl, hcs, _, hl, hm, hmm, rfl, hx⟩
  · simp at hcs
    rw [hcs] at hv
    cases hv
    simp
  · simp at hcs
    rw [hcs] at hv
    cases hv
    have := hw ((n + (m - n)) * Try.prog.bytesOf E) (by simp [DataW.weights, hu])
    exact Nat.le_trans (Nat.mul_le_mul_right _ (by omega)) this
theorem bytes59 : Try.prog.bytesOf 59 = 24 := by kernel_rfl
theorem open_live {fuel : Nat} {cs : List Value} {x : DataW H × List MemPlace} (h : DataW.trod enc Try.prog W 0 (fun _ => true) true fuel 59 cs = some x) : ∃ l : LiveM, cs = liveC l ∧ True := by
  obtain ⟨ys, n, _, rfl, hl, hlen, hf⟩ := DataW.trod_struct Try.underlying59 h
  rw [cells59] at hl
  obtain ⟨c0, c1, c2, c3, rfl⟩ := lst4 hl
  obtain ⟨y0, y1, y2, y3, rfl⟩ := lst4 (show ys.length = 4 by simpa using hlen)
  have f0 := hf 0 _ rfl
  have f1 := hf 1 _ rfl
  have f2 := hf 2 _ rfl
  have f3 := hf 3 _ rfl
  simp [cells3, cells4] at f0 f1 f2 f3
  obtain ⟨a, e0, _, _⟩ := DataW.trod_int Try.underlying3 f0
  obtain ⟨b, e1, _, _⟩ := DataW.trod_int Try.underlying3 f1
  obtain ⟨c, e2, _⟩ := DataW.trod_bool Try.underlying4 f2
  obtain ⟨d, e3, _⟩ := DataW.trod_bool Try.underlying4 f3
  simp at e0 e1 e2 e3
  subst e0 e1 e2 e3
  exact ⟨⟨a, b, c, d⟩, rfl, trivial⟩
theorem open_dirty {fuel : Nat} {cs : List Value} {x : DataW H × List MemPlace} (h : DataW.trod enc Try.prog W 0 (fun _ => true) true fuel 28 cs = some x) : ∃ l : Dr, cs = drC l ∧ True := by
  obtain ⟨ys, n, _, rfl, hl, hlen, hf⟩ := DataW.trod_struct Try.underlying28 h
  rw [cells28] at hl
  obtain ⟨c0, c1, rfl⟩ := lst2 hl
  obtain ⟨y0, y1, rfl⟩ := lst2 (show ys.length = 2 by simpa using hlen)
  have f0 := hf 0 _ rfl
  have f1 := hf 1 _ rfl
  simp [cells3] at f0 f1
  obtain ⟨a, e0, _, _⟩ := DataW.trod_int Try.underlying3 f0
  obtain ⟨b, e1, _, _⟩ := DataW.trod_int Try.underlying3 f1
  simp at e0 e1
  subst e0 e1
  exact ⟨(a, b), rfl, trivial⟩
theorem open_drs {fuel : Nat} {v : Value} {x : DataW H × List MemPlace} (hf : DataW.trod enc Try.prog W 0 (fun _ => true) true fuel 23 [v] = some x) :
    ∃ (a : Option Addr) (ds : List Dr) (c : Nat), v = .slice a ds.length c ∧ Lies W a (drs ds) ∧ ds.length ≤ maxLen ∧ ds.length ≤ c ∧ (a = none → c = 0 ∧ ds.length = 0) := by
  obtain ⟨a, ds, c, h1, h2, h3, h4, h5, h6⟩ := open_rowsN drC (fun _ => True) Try.underlying23 cells28 (by decide) (fun _ => rfl) (fun h => open_dirty h) hf
  exact ⟨a, ds, c, h1, h2, h4, h5, h6⟩
theorem open_pts {fuel : Nat} {cs : List Value} {x : DataW H × List MemPlace} (f8 : DataW.trod enc Try.prog W 0 (fun _ => true) true fuel 32 cs = some x) :
    ∃ (q16 : Int) (la da : Option Addr) (lc dc : Nat) (L : List LiveM) (D : List Dr), cs = [.slice la L.length lc, .slice da D.length dc, .int .i64 q16] ∧ Lies W la (rowsC liveC L) ∧ Lies W da (drs D) ∧ (la = none → lc = 0 ∧ L.length = 0) ∧ (da = none → dc = 0 ∧ D.length = 0) ∧ L.length ≤ lc ∧ D.length ≤ dc ∧ ((∀ n ∈ x.1.weights Try.prog 32, n ≤ reachBytes) → L.length ≤ 5864062014634) := by
  obtain ⟨zs5, m5, _, rfl, hl5, hlen5, hf5⟩ := DataW.trod_struct Try.underlying32 f8
  rw [cells32] at hl5
  obtain ⟨c14, c15, c16, rfl⟩ := lst3 hl5
  obtain ⟨z10, z11, z12, rfl⟩ := lst3 (show zs5.length = 3 by simpa using hlen5)
  have j0 := hf5 0 _ rfl
  have j1 := hf5 1 _ rfl
  have j2 := hf5 2 _ rfl
  simp [cells30, cells23, cells3] at j0 j1 j2
  obtain ⟨la, ls, lc, e14, ll, _, lm, lcc, lnn⟩ := open_rowsN liveC (fun _ => True) Try.underlying30 cells59 (by decide) (fun _ => rfl) (fun h => open_live h) j0
  obtain ⟨da, ds, dc, e15, dl, dm, dcc, dnn⟩ := open_drs j1
  obtain ⟨q16, e16, _, _⟩ := DataW.trod_int Try.underlying3 j2
  simp at e16
  have hwt := fun hw => rows_weight Try.underlying30 j0 hw la ls.length lc e14
  subst e14 e15 e16
  refine ⟨q16, la, da, lc, dc, ls, ds, rfl, ll, dl, lnn, dnn, lcc, dcc, fun hw => ?_⟩
  have := hwt (fun n hn => hw n (by
    simp only [DataW.weights, Try.underlying32]
    exact DataW.weights_mem_each (j := 0) (t := 30) rfl rfl n hn))
  rw [bytes59] at this
  unfold reachBytes at this
  omega
end Go.Proofs.Ythaiagalndcndaa
