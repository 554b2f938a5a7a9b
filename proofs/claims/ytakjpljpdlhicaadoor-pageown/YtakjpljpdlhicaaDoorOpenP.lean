import Derived.Test.YtakjpljpdlhicaaDoorOpen
import Derived.Test.YtakjpljpdlhicaaDoorPg1
import Derived.Deep.Slices
namespace Go.Proofs.YtakjpljpdlhicaaDoor
open Go.ChangeShapes Go.WideShapes Go.ChangeAt Go.RowKit Go.Deep Go.QK Go.Joins Go.Pg

theorem cells3 : Tryd.prog.cellsOf 3 = 1 := by kernel_rfl
theorem cells2 : Tryd.prog.cellsOf 2 = 1 := by kernel_rfl
theorem cells24 : Tryd.prog.cellsOf 24 = 1 := by kernel_rfl
theorem cells25 : Tryd.prog.cellsOf 25 = 1 := by kernel_rfl
theorem cells55 : Tryd.prog.cellsOf 55 = 2 := by kernel_rfl
theorem cells57 : Tryd.prog.cellsOf 57 = 5 := by kernel_rfl
theorem cells59 : Tryd.prog.cellsOf 59 = 2 := by kernel_rfl
theorem cells34 : Tryd.prog.cellsOf 34 = 4 := by kernel_rfl
theorem list2 {α : Type} {l : List α} (h : l.length = 2) : ∃ a b, l = [a, b] := by
  match l, h with
  | [a, b], _ => exact ⟨a, b, rfl⟩
theorem list4 {α : Type} {l : List α} (h : l.length = 4) : ∃ a b c d, l = [a, b, c, d] := by
  match l, h with
  | [a, b, c, d], _ => exact ⟨a, b, c, d, rfl⟩
theorem list5 {α : Type} {l : List α} (h : l.length = 5) : ∃ a b c d e, l = [a, b, c, d, e] := by
  match l, h with
  | [a, b, c, d, e], _ => exact ⟨a, b, c, d, e, rfl⟩
theorem choose_list {α : Type} (P : Nat → α → Prop) : (n : Nat) → (∀ i, i < n → ∃ l, P i l) → ∃ ls : List α, ls.length = n ∧ ∀ i (h : i < ls.length), P i ls[i]
  | 0, _ => ⟨[], rfl, nofun⟩
  | n + 1, h => by
    obtain ⟨ls, e, q⟩ := choose_list P n (fun i hi => h i (by omega))
    obtain ⟨x, hx⟩ := h n (by omega)
    refine ⟨ls ++ [x], by simp [e], fun i hi => ?_⟩
    by_cases hlt : i < ls.length
    · rw [List.getElem_append_left hlt]; exact q i hlt
    · have : i = ls.length := by rw [List.length_append] at hi; simp at hi; omega
      subst this
      rw [List.getElem_append_right (Nat.le_refl _)]
      simp
      rw [e]
      exact hx
variable {H : Type} {enc : TypeId × Value → H} {W : World}
set_option maxRecDepth 100000
theorem open_ctr {fuel : Nat} {cs : List Value} {x : DataW H × List MemPlace} (h : DataW.trod enc Tryd.prog W 0 (fun _ => true) true fuel 57 cs = some x) : ∃ l : CtrM, cs = ctrC l ∧ l.Fit := by
  obtain ⟨ys, n, _, rfl, hl, hlen, hf⟩ := DataW.trod_struct Tryd.underlying57 h
  rw [cells57] at hl
  obtain ⟨c0, c1, c2, c3, c4, rfl⟩ := list5 hl
  obtain ⟨y0, y1, y2, y3, rfl⟩ := list4 (show ys.length = 4 by simpa using hlen)
  have f0 := hf 0 _ rfl
  have f1 := hf 1 _ rfl
  have f2 := hf 2 _ rfl
  have f3 := hf 3 _ rfl
  simp [cells3, cells55, cells2] at f0 f1 f2 f3
  obtain ⟨a, e0, _, w0⟩ := DataW.trod_int Tryd.underlying3 f0
  obtain ⟨b, e1, _, w1⟩ := DataW.trod_int Tryd.underlying3 f1
  obtain ⟨zs4, m4, _, _, hl4, hlen4, hf4⟩ := DataW.trod_struct Tryd.underlying55 f2
  obtain ⟨z8, z9, rfl⟩ := list2 (show zs4.length = 2 by simpa using hlen4)
  have i0 := hf4 0 _ rfl
  have i1 := hf4 1 _ rfl
  simp [cells2] at i0 i1
  obtain ⟨c, e2, _, w2⟩ := DataW.trod_int Tryd.underlying2 i0
  obtain ⟨d, e3, _, w3⟩ := DataW.trod_int Tryd.underlying2 i1
  obtain ⟨e, e4, _, w4⟩ := DataW.trod_int Tryd.underlying2 f3
  simp at e0 e1 e2 e3 e4
  subst e0 e1 e2 e3 e4
  exact ⟨⟨a, b, c, d, e⟩, rfl, rng_i64 w0, rng_i64 w1, rng_i64 w2, rng_i64 w3, rng_i64 w4⟩
theorem open_grp {fuel : Nat} {cs : List Value} {x : DataW H × List MemPlace} (h : DataW.trod enc Tryd.prog W 0 (fun _ => true) true fuel 59 cs = some x) : ∃ l : GrpM, cs = grpC l ∧ l.Fit := by
  obtain ⟨ys, n, _, rfl, hl, hlen, hf⟩ := DataW.trod_struct Tryd.underlying59 h
  rw [cells59] at hl
  obtain ⟨c0, c1, rfl⟩ := list2 hl
  obtain ⟨y0, y1, rfl⟩ := list2 (show ys.length = 2 by simpa using hlen)
  have f0 := hf 0 _ rfl
  have f1 := hf 1 _ rfl
  simp [cells3, cells2] at f0 f1
  obtain ⟨a, e0, _, w0⟩ := DataW.trod_int Tryd.underlying3 f0
  obtain ⟨b, e1, _, w1⟩ := DataW.trod_int Tryd.underlying2 f1
  simp at e0 e1
  subst e0 e1
  exact ⟨⟨a, b⟩, rfl, rng_i64 w0, rng_i64 w1⟩
theorem open_ctrs {fuel : Nat} {v : Value} {x : DataW H × List MemPlace} (hf : DataW.trod enc Tryd.prog W 0 (fun _ => true) true fuel 24 [v] = some x) :
    ∃ (a : Option Addr) (ls : List CtrM) (c : Nat), v = .slice a ls.length c ∧ Lies W a (rowsC ctrC ls) ∧ ls.length ≤ c ∧ (∀ y ∈ ls, y.Fit) ∧ (a = none → c = 0) := by
  rcases open_slice Tryd.underlying24 hf with ⟨hcs, _⟩ | ⟨x, l, c, m, n, D, Pl, hcs, _, hl, hm, hmm, rfl, hx⟩
  · simp at hcs
    subst hcs
    exact ⟨none, [], 0, rfl, .inl rfl, Nat.le_refl _, by simp, fun _ => rfl⟩
  · simp at hcs
    subst hcs
    simp at hmm
    obtain ⟨b, off, spot⟩ := x
    have key : ∀ i, i < l → ∃ y : CtrM, (∀ j v, (ctrC y)[j]? = some v → W.cell? (((⟨b, off, spot⟩ : Addr).add (i * 5)).add j) = some v) ∧ y.Fit := by
      intro i hi
      obtain ⟨cs, h1, h2⟩ := hx i (by omega)
      rw [cells57] at h1
      obtain ⟨_, _, hc⟩ := World.cells?_some h1
      obtain ⟨y, rfl, hfit⟩ := open_ctr h2
      refine ⟨y, fun j v hv => ?_, hfit⟩
      have hj : j < 5 := by
        obtain ⟨hh, _⟩ := List.getElem?_eq_some_iff.1 hv
        simpa [ctrC] using hh
      exact (hc j hj).trans hv
    obtain ⟨ls, el, q⟩ := choose_list _ l key
    subst el
    refine ⟨some ⟨b, off, spot⟩, ls, c, rfl, ?_, by omega, ?_, nofun⟩
    · by_cases h0 : ls.length = 0
      · exact .inl (by rw [List.eq_nil_of_length_eq_zero h0]; rfl)
      · have q0 := (q 0 (by omega)).1 0 _ rfl
        have hspot : spot = none := by simpa [Addr.add] using World.cell?_spot q0
        subst hspot
        refine .inr ⟨b, off, rfl, ?_, fun i hi => ?_⟩
        · rw [addr_add, addr_add] at q0
          exact World.block_lt_of_cell? _ _ q0
        · have hlen : (rowsC ctrC ls).length = 5 * ls.length := by
            clear q hi h0 key q0 hx hf hl hm hmm
            induction ls with
            | nil => rfl
            | cons y ys ih => simp only [rowsC, List.flatMap_cons, List.length_append, List.length_cons] at *; rw [ih]; simp [ctrC]; omega
          have hi4 : i / 5 < ls.length := by omega
          have e1 : (rowsC ctrC ls)[5 * (i / 5) + i % 5]? = (ctrC ls[i / 5])[i % 5]? := rowsC_get ctrC 5 ctrC_length ls (i / 5) hi4 (i % 5) (by omega)
          rw [show 5 * (i / 5) + i % 5 = i by omega, List.getElem?_eq_getElem hi] at e1
          have := (q (i / 5) hi4).1 (i % 5) _ e1.symm
          rw [addr_add, addr_add] at this
          rw [← this]
          congr 2
          omega
    · intro y hy
      obtain ⟨i, hi, rfl⟩ := List.getElem_of_mem hy
      exact (q i hi).2
theorem open_grps {fuel : Nat} {v : Value} {x : DataW H × List MemPlace} (hf : DataW.trod enc Tryd.prog W 0 (fun _ => true) true fuel 25 [v] = some x) :
    ∃ (a : Option Addr) (ls : List GrpM) (c : Nat), v = .slice a ls.length c ∧ Lies W a (rowsC grpC ls) ∧ ls.length ≤ c ∧ (∀ y ∈ ls, y.Fit) ∧ (a = none → c = 0) := by
  rcases open_slice Tryd.underlying25 hf with ⟨hcs, _⟩ | ⟨x, l, c, m, n, D, Pl, hcs, _, hl, hm, hmm, rfl, hx⟩
  · simp at hcs
    subst hcs
    exact ⟨none, [], 0, rfl, .inl rfl, Nat.le_refl _, by simp, fun _ => rfl⟩
  · simp at hcs
    subst hcs
    simp at hmm
    obtain ⟨b, off, spot⟩ := x
    have key : ∀ i, i < l → ∃ y : GrpM, (∀ j v, (grpC y)[j]? = some v → W.cell? (((⟨b, off, spot⟩ : Addr).add (i * 2)).add j) = some v) ∧ y.Fit := by
      intro i hi
      obtain ⟨cs, h1, h2⟩ := hx i (by omega)
      rw [cells59] at h1
      obtain ⟨_, _, hc⟩ := World.cells?_some h1
      obtain ⟨y, rfl, hfit⟩ := open_grp h2
      refine ⟨y, fun j v hv => ?_, hfit⟩
      have hj : j < 2 := by
        obtain ⟨hh, _⟩ := List.getElem?_eq_some_iff.1 hv
        simpa [grpC] using hh
      exact (hc j hj).trans hv
    obtain ⟨ls, el, q⟩ := choose_list _ l key
    subst el
    refine ⟨some ⟨b, off, spot⟩, ls, c, rfl, ?_, by omega, ?_, nofun⟩
    · by_cases h0 : ls.length = 0
      · exact .inl (by rw [List.eq_nil_of_length_eq_zero h0]; rfl)
      · have q0 := (q 0 (by omega)).1 0 _ rfl
        have hspot : spot = none := by simpa [Addr.add] using World.cell?_spot q0
        subst hspot
        refine .inr ⟨b, off, rfl, ?_, fun i hi => ?_⟩
        · rw [addr_add, addr_add] at q0
          exact World.block_lt_of_cell? _ _ q0
        · have hlen : (rowsC grpC ls).length = 2 * ls.length := by
            clear q hi h0 key q0 hx hf hl hm hmm
            induction ls with
            | nil => rfl
            | cons y ys ih => simp only [rowsC, List.flatMap_cons, List.length_append, List.length_cons] at *; rw [ih]; simp [grpC]; omega
          have hi4 : i / 2 < ls.length := by omega
          have e1 : (rowsC grpC ls)[2 * (i / 2) + i % 2]? = (grpC ls[i / 2])[i % 2]? := rowsC_get grpC 2 grpC_length ls (i / 2) hi4 (i % 2) (by omega)
          rw [show 2 * (i / 2) + i % 2 = i by omega, List.getElem?_eq_getElem hi] at e1
          have := (q (i / 2) hi4).1 (i % 2) _ e1.symm
          rw [addr_add, addr_add] at this
          rw [← this]
          congr 2
          omega
    · intro y hy
      obtain ⟨i, hi, rfl⟩ := List.getElem_of_mem hy
      exact (q i hi).2
theorem open_page {fuel : Nat} {cs : List Value} {x : DataW H × List MemPlace} (h : DataW.trod enc Tryd.prog W 0 (fun _ => true) true fuel 34 cs = some x) :
    ∃ (p : PageM) (t : At), cs = [.int .i64 p.num, .int .i64 p.lsn, .slice t.a p.cs.length t.c, .slice t.b p.gs.length t.d] ∧ PageIn W p t ∧ (t.a = none → t.c = 0) ∧ (t.b = none → t.d = 0) ∧ p.cs.length ≤ t.c ∧ p.gs.length ≤ t.d := by
  obtain ⟨ys, n, _, rfl, hl, hlen, hf⟩ := DataW.trod_struct Tryd.underlying34 h
  rw [cells34] at hl
  obtain ⟨c0, c1, c2, c3, rfl⟩ := list4 hl
  obtain ⟨y0, y1, y2, y3, rfl⟩ := list4 (show ys.length = 4 by simpa using hlen)
  have f0 := hf 0 _ rfl
  have f1 := hf 1 _ rfl
  have f2 := hf 2 _ rfl
  have f3 := hf 3 _ rfl
  simp [cells3, cells24, cells25] at f0 f1 f2 f3
  obtain ⟨a, e0, _, w0⟩ := DataW.trod_int Tryd.underlying3 f0
  obtain ⟨b, e1, _, w1⟩ := DataW.trod_int Tryd.underlying3 f1
  obtain ⟨la, ls, lc, e2, ll, l1, lf, ln⟩ := open_ctrs f2
  obtain ⟨da, ds, dc, e3, dl, d1, df, dn⟩ := open_grps f3
  simp at e0 e1
  subst e0 e1 e2 e3
  exact ⟨⟨a, b, ls, ds⟩, ⟨la, lc, da, dc⟩, rfl, ⟨ll, dl, rng_i64 w0, rng_i64 w1, lf, df⟩, ln, dn, l1, d1⟩
end Go.Proofs.YtakjpljpdlhicaaDoor
