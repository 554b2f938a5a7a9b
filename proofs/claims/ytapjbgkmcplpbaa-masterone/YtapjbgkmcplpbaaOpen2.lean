import Derived.Test.YtapjbgkmcplpbaaOpen
import Derived.Test.YtapjbgkmcplpbaaDev12
namespace Go.Proofs.Ytapjbgkmcplpbaa
open Go.ChangeShapes Go.WideShapes Go.ChangeAt Go.RowKit Go.Deep Go.QK

theorem cells26 : Try.prog.cellsOf 41 = 3 := by kernel_rfl
theorem cells24 : Try.prog.cellsOf 39 = 1 := by kernel_rfl
theorem cells3 : Try.prog.cellsOf 3 = 1 := by kernel_rfl
theorem bytes79 : Try.prog.bytesOf 61 = 8 := by kernel_rfl
theorem nat_u64 {n : Int} (h : (Lit.int .u64 n).wf = true) : ∃ k : Nat, n = (k : Int) ∧ k < 18446744073709551616 := by
  have h1 : IntKind.u64.min ≤ n ∧ n ≤ IntKind.u64.max := by simpa [Lit.wf] using h
  have e1 : IntKind.u64.min = 0 := rfl
  have e2 : IntKind.u64.max = 18446744073709551615 := rfl
  exact ⟨n.toNat, by omega, by omega⟩
theorem words_of {zs : List Int} (h : ∀ y ∈ zs, (Lit.int .u64 y).wf = true) : ∃ l : List Nat, zs = ints l ∧ ∀ x ∈ l, x < 18446744073709551616 := by
  induction zs with
  | nil => exact ⟨[], rfl, nofun⟩
  | cons z zs ih =>
    obtain ⟨l, rfl, hl⟩ := ih (fun y hy => h y (by simp [hy]))
    obtain ⟨k, rfl, hk⟩ := nat_u64 (h z (by simp))
    refine ⟨k :: l, rfl, fun y hy => ?_⟩
    rcases List.mem_cons.1 hy with rfl | hy
    · exact hk
    · exact hl y hy
theorem list3 {α : Type} {l : List α} (h : l.length = 3) : ∃ a b c, l = [a, b, c] := by
  match l, h with
  | [a, b, c], _ => exact ⟨a, b, c, rfl⟩
variable {H : Type} {enc : TypeId × Value → H} {W : World}
/-- Words that came in. -/
theorem open_words {fuel : Nat} {v : Value} {x : DataW H × List MemPlace} (hf : DataW.trod enc Try.prog W 0 (fun _ => true) true fuel 39 [v] = some x) :
    ∃ (a : Option Addr) (l : List Nat) (cap : Nat), v = .slice a l.length cap ∧ Seen .u64 W a (ints l) ∧ (∀ y ∈ l, y < 18446744073709551616) ∧ (a = none → cap = 0) ∧ l.length ≤ cap ∧ cap ≤ maxLen ∧ ((∀ n ∈ x.1.weights Try.prog 39, n ≤ reachBytes) → l.length ≤ 17592186044415) := by
  rcases open_ints Try.underlying39 Try.underlying61 (by kernel_rfl) hf with ⟨hcs, rfl⟩ | ⟨x, len, c, zs, hcs, _, hl, hm, hz, rfl, hcell, hwz⟩
  · simp at hcs
    exact ⟨none, [], 0, hcs, .inl rfl, nofun, fun _ => rfl, Nat.le_refl _, by unfold maxLen; omega, fun _ => by decide⟩
  · simp at hcs
    obtain ⟨l, rfl, hlb⟩ := words_of hwz
    have hz' : l.length = c := by simpa using hz
    refine ⟨some x, l.take len, c, by rw [hcs]; simp; omega, ?_, fun y hy => hlb y (List.mem_of_mem_take hy), nofun, by simp; omega, hm, fun hw => ?_⟩
    · by_cases h0 : len = 0
      · exact .inl (by simp [h0])
      · obtain ⟨b, off, spot⟩ := x
        have hc := hcell 0 (by simp; omega)
        have hspot : spot = none := by simpa [Addr.add] using World.cell?_spot hc
        subst hspot
        rw [ints_take]
        refine .inr ⟨b, off, rfl, World.block_lt_of_cell? _ _ hc, fun i hi => ?_⟩
        have h1 := hcell i (by simp at hi ⊢; omega)
        rw [addr_add] at h1
        rw [h1]
        have h2 : i < (ints l).length := by simp at hi ⊢; omega
        simp [List.getD_eq_getElem?_getD, List.getElem?_eq_getElem h2]
    · have := hw (((lits (H := H) .u64 ((ints l).take len)).length + (lits (H := H) .u64 ((ints l).drop len)).length) * Try.prog.bytesOf 61) (by simp [DataW.weights, Try.underlying39])
      rw [bytes79] at this
      have e : (lits (H := H) .u64 ((ints l).take len)).length + (lits (H := H) .u64 ((ints l).drop len)).length = l.length := by
        simp [lits]; omega
      rw [e] at this
      unfold reachBytes at this
      simp
      omega

theorem open_loss {fuel : Nat} {cs : List Value} {x : DataW H × List MemPlace} (h : DataW.trod enc Try.prog W 0 (fun _ => true) true fuel 41 cs = some x) :
    ∃ (a : Option Addr) (c : Nat) (l : Loss), cs = [.slice a l.keep.length c, .int .i64 l.torn, .int .i64 l.off] ∧ LossAt W l a c ∧ ((∀ n ∈ x.1.weights Try.prog 41, n ≤ reachBytes) → l.keep.length ≤ 17592186044415) := by
  obtain ⟨ys, n, _, rfl, hl, hlen, hf⟩ := DataW.trod_struct Try.underlying41 h
  rw [cells26] at hl
  obtain ⟨c0, c1, c2, rfl⟩ := list3 hl
  have hlen' : ys.length = 3 := by simpa using hlen
  obtain ⟨y0, y1, y2, rfl⟩ := list3 hlen'
  have f0 := hf 0 _ rfl
  have f1 := hf 1 _ rfl
  have f2 := hf 2 _ rfl
  simp [cells3, cells24] at f0 f1 f2
  obtain ⟨a, l, cap, rfl, q1, q2, q3, q4, q5, q6⟩ := open_words f0
  obtain ⟨tn, e1, _, w1⟩ := DataW.trod_int Try.underlying3 f1
  obtain ⟨off, e2, _, w2⟩ := DataW.trod_int Try.underlying3 f2
  simp at e1 e2
  subst e1 e2
  refine ⟨a, cap, ⟨l, tn, off⟩, rfl, ⟨q1, q3, q4, ⟨q2, rng_i64 w1, rng_i64 w2⟩⟩, fun hw => q6 (fun n hn => hw n ?_)⟩
  simp only [DataW.weights, Try.underlying41]
  exact DataW.weights_mem_each (j := 0) (t := 39) rfl rfl n hn


/-- Numbers that came in. -/
theorem open_list {fuel : Nat} {v : Value} {x : DataW H × List MemPlace} (hf : DataW.trod enc Try.prog W 0 (fun _ => true) true fuel 38 [v] = some x) :
    ∃ (a : Option Addr) (l : List Int) (cap : Nat), v = .slice a l.length cap ∧ Seen .i64 W a l ∧ l.length ≤ cap ∧ cap ≤ maxLen := by
  rcases open_ints Try.underlying38 Try.underlying3 (by kernel_rfl) hf with ⟨hcs, rfl⟩ | ⟨x, len, c, zs, hcs, _, hl, hm, hz, rfl, hcell, hwz⟩
  · simp at hcs
    exact ⟨none, [], 0, hcs, .inl rfl, Nat.le_refl _, by unfold maxLen; omega⟩
  · simp at hcs
    have hz' : zs.length = c := by simpa using hz
    refine ⟨some x, zs.take len, c, by rw [hcs]; simp; omega, ?_, by simp; omega, hm⟩
    by_cases h0 : len = 0
    · exact .inl (by simp [h0])
    · obtain ⟨b, off, spot⟩ := x
      have hc := hcell 0 (by omega)
      have hspot : spot = none := by simpa [Addr.add] using World.cell?_spot hc
      subst hspot
      refine .inr ⟨b, off, rfl, World.block_lt_of_cell? _ _ hc, fun i hi => ?_⟩
      have h1 := hcell i (by simp at hi ⊢; omega)
      rw [addr_add] at h1
      rw [h1]
      have h2 : i < zs.length := by simp at hi ⊢; omega
      simp [List.getD_eq_getElem?_getD, List.getElem?_eq_getElem h2]
set_option maxRecDepth 100000 in
/-- A loss that is handed in is laid out so. -/
theorem okWide_loss {W : World} {base : Nat} {v : Value} (h : Value.okWide Try.prog W .any base 41 v) : ∃ cs, v = .agg cs := by
  obtain ⟨cs, e, _⟩ := okWide_struct Try.underlying41 h
  exact ⟨cs, e⟩
end Go.Proofs.Ytapjbgkmcplpbaa
