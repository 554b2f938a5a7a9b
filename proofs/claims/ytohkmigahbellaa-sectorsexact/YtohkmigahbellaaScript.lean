import Derived.Test.YtohkmigahbellaaImage
import Derived.Test.YtohkmigahbellaaOpen
namespace Go.Proofs.Ytohkmigahbellaa
open Go.ChangeShapes Go.WideShapes Go.ChangeAt Go.RowKit Go.Deep Go.QK

theorem list8 {α : Type} {l : List α} (h : l.length = 8) : ∃ a b c d e f g i, l = [a, b, c, d, e, f, g, i] := by
  match l, h with
  | [a, b, c, d, e, f, g, i], _ => exact ⟨a, b, c, d, e, f, g, i, rfl⟩
theorem list6 {α : Type} {l : List α} (h : l.length = 6) : ∃ a b c d e f, l = [a, b, c, d, e, f] := by
  match l, h with
  | [a, b, c, d, e, f], _ => exact ⟨a, b, c, d, e, f, rfl⟩
theorem weightsAll_mem {H : Type} {P : Program} {e : TypeId} : {l : List (DataW H)} → {d : DataW H} → d ∈ l → ∀ n ∈ d.weights P e, n ∈ DataW.weightsAll P e l
  | x :: l, d, h, n, hn => by
    simp only [DataW.weightsAll, List.mem_append]
    rcases List.mem_cons.1 h with rfl | h
    · exact .inl hn
    · exact .inr (weightsAll_mem h n hn)

variable {H : Type} {enc : TypeId × Value → H} {W : World}
set_option maxRecDepth 100000 in
theorem open_op {fuel : Nat} {cs : List Value} {x : DataW H × List MemPlace} (h : DataW.trod enc Try.prog W 0 (fun _ => true) true fuel 39 cs = some x) :
    ∃ (o : OpM) (a : Option Addr) (c : Nat), cs = (o.v a c).toList ∧ LossAt W o.l a c ∧ ((∀ n ∈ x.1.weights Try.prog 39, n ≤ reachBytes) → o.l.keep.length ≤ 17592186044415) ∧ -9223372036854775808 ≤ o.i ∧ o.i ≤ 9223372036854775807 ∧ o.fill < 256 := by
  obtain ⟨ys, n, _, rfl, hl, hlen, hf⟩ := DataW.trod_struct Try.underlying39 h
  rw [cells39] at hl
  obtain ⟨c0, c1, c2, c3, c4, c5, c6, c7, rfl⟩ := list8 hl
  have hlen' : ys.length = 6 := by simpa using hlen
  obtain ⟨y0, y1, y2, y3, y4, y5, rfl⟩ := list6 hlen'
  have f0 := hf 0 _ rfl
  have f1 := hf 1 _ rfl
  have f2 := hf 2 _ rfl
  have f3 := hf 3 _ rfl
  have f4 := hf 4 _ rfl
  have f5 := hf 5 _ rfl
  simp [cells3, cells4, cells5, cells26] at f0 f1 f2 f3 f4 f5
  obtain ⟨k, e0, _, _⟩ := DataW.trod_int Try.underlying3 f0
  obtain ⟨two, e1, _⟩ := DataW.trod_bool Try.underlying4 f1
  obtain ⟨i, e2, _, wi⟩ := DataW.trod_int Try.underlying3 f2
  obtain ⟨fl, e3, _, w3⟩ := DataW.trod_int Try.underlying5 f3
  obtain ⟨len, e4, _, _⟩ := DataW.trod_int Try.underlying3 f4
  obtain ⟨a, c, l, e5, hl5, hw5⟩ := open_loss f5
  obtain ⟨fill, rfl, hfill⟩ := nat_u8 w3
  simp at e0 e1 e2 e3 e4 e5
  obtain ⟨e5, e6, e7⟩ := e5
  subst e0 e1 e2 e3 e4 e5 e6 e7
  refine ⟨⟨k, two, i, fill, len, l⟩, a, c, rfl, hl5, fun hw => hw5 (fun n hn => hw n ?_), (rng_i64 wi).1, (rng_i64 wi).2, hfill⟩
  simp only [DataW.weights, Try.underlying39]
  exact DataW.weights_mem_each (j := 5) (t := 26) rfl rfl n hn

set_option maxRecDepth 100000 in
theorem open_script {fuel : Nat} {a : Option Addr} {len cap : Nat} {x : DataW H × List MemPlace} (hf : DataW.trod enc Try.prog W 0 (fun _ => true) true fuel 53 [.slice a len cap] = some x) (hsz : ∀ n ∈ x.1.weights Try.prog 53, n ≤ reachBytes) :
    len ≤ maxLen ∧ ScriptAt W a len := by
  rcases open_slice Try.underlying53 hf with ⟨hcs, _⟩ | ⟨x, l, c, m, n, D, Pl, hcs, _, hl, hm, hmm, rfl, hx⟩
  · simp at hcs
    obtain ⟨rfl, rfl, rfl⟩ := hcs
    exact ⟨by unfold maxLen; omega, nofun⟩
  · simp at hcs
    obtain ⟨rfl, rfl, rfl⟩ := hcs
    refine ⟨Nat.le_trans hl hm, fun i hi => ?_⟩
    simp at hmm
    obtain ⟨cs, h1, h2⟩ := hx i (by omega)
    rw [cells39] at h1
    obtain ⟨_, _, hc⟩ := World.cells?_some h1
    obtain ⟨o, oa, oc, rfl, hlo, hw, _⟩ := open_op h2
    obtain ⟨b, off, spot⟩ := x
    have hspot : spot = none := by
      obtain ⟨cs0, g1, g2⟩ := hx 0 (by omega)
      rw [cells39] at g1
      obtain ⟨_, _, gc⟩ := World.cells?_some g1
      obtain ⟨_, _, _, rfl, _⟩ := open_op g2
      have q0 := gc 0 (by omega)
      have := World.cell?_spot (q0.trans rfl)
      simpa [Addr.add] using this
    subst hspot
    have hc' : ∀ j, j < 8 → W.cell? ⟨b, off + i * 8 + j, none⟩ = (o.v oa oc).toList[j]? := by
      intro j hj
      have := hc j hj
      rw [addr_add, addr_add] at this
      exact this
    have hk := hw (fun n hn => hsz n (by
      simp only [DataW.weights, Try.underlying53]
      refine List.mem_cons_of_mem _ (List.mem_append_left _ (weightsAll_mem ?_ n hn))
      exact List.mem_map.2 ⟨i, by simpa using hi, rfl⟩))
    refine ⟨b, off, rfl, World.block_lt_of_cell? _ ⟨b, off + i * 8 + 0, none⟩ ((hc' 0 (by omega)).trans rfl), o, oa, oc, ⟨hlo, hk⟩, hlo.low, fun j v hv => ?_⟩
    have hj : j < 8 := by
      obtain ⟨hh, _⟩ := Array.getElem?_eq_some_iff.1 hv
      exact hh
    rw [hc' j hj]
    simpa using hv
end Go.Proofs.Ytohkmigahbellaa
