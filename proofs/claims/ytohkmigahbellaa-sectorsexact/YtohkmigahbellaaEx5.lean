import Derived.Test.YtohkmigahbellaaEx4
namespace Go.Proofs.Ytohkmigahbellaa
open Go.ChangeShapes Go.WideShapes Go.ChangeAt Go.RowKit Go.Deep Go.QK
variable {H : Type} {enc : TypeId × Value → H} {W : World}
set_option maxRecDepth 100000 in
theorem open_script2 {fuel : Nat} {a : Option Addr} {len cap : Nat} {x : DataW H × List MemPlace} (hf : DataW.trod enc Try.prog W 0 (fun _ => true) true fuel 53 [.slice a len cap] = some x) (hsz : ∀ n ∈ x.1.weights Try.prog 53, n ≤ reachBytes) :
    len ≤ maxLen ∧ ScriptAt2 W a len := by
  rcases open_slice Try.underlying53 hf with ⟨hcs, _⟩ | ⟨x, l, c, m, n, D, Pl, hcs, _, hl, hm, hmm, rfl, hx⟩
  · simp at hcs
    obtain ⟨rfl, rfl, rfl⟩ := hcs
    exact ⟨by unfold maxLen; omega, nofun⟩
  · simp at hcs
    obtain ⟨rfl, rfl, rfl⟩ := hcs
    refine ⟨Nat.le_trans hl hm, fun i hi => ?_⟩
    simp at hmm
    obtain ⟨cs, h1, h2⟩ := hx i (by omega)
    rw [cells39] at h1
    obtain ⟨_, _, hc⟩ := World.cells?_some h1
    obtain ⟨o, oa, oc, rfl, hlo, hw, _, hoi, _⟩ := open_op h2
    obtain ⟨b, off, spot⟩ := x
    have hspot : spot = none := by
      obtain ⟨cs0, g1, g2⟩ := hx 0 (by omega)
      rw [cells39] at g1
      obtain ⟨_, _, gc⟩ := World.cells?_some g1
      obtain ⟨_, _, _, rfl, _⟩ := open_op g2
      have q0 := gc 0 (by omega)
      have := World.cell?_spot (q0.trans rfl)
      simpa [Addr.add] using this
    subst hspot
    have hc' : ∀ j, j < 8 → W.cell? ⟨b, off + i * 8 + j, none⟩ = (o.v oa oc).toList[j]? := by
      intro j hj
      have := hc j hj
      rw [addr_add, addr_add] at this
      exact this
    have hk := hw (fun n hn => hsz n (by
      simp only [DataW.weights, Try.underlying53]
      refine List.mem_cons_of_mem _ (List.mem_append_left _ (weightsAll_mem ?_ n hn))
      exact List.mem_map.2 ⟨i, by simpa using hi, rfl⟩))
    refine ⟨b, off, rfl, World.block_lt_of_cell? _ ⟨b, off + i * 8 + 0, none⟩ ((hc' 0 (by omega)).trans rfl), o, oa, oc, ⟨hlo, hk⟩, hlo.low, hoi, fun j v hv => ?_⟩
    have hj : j < 8 := by
      obtain ⟨hh, _⟩ := Array.getElem?_eq_some_iff.1 hv
      exact hh
    rw [hc' j hj]
    simpa using hv
end Go.Proofs.Ytohkmigahbellaa
