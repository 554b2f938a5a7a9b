import Derived.Test.YtakjpljpdlhicaaDoorOpen
namespace Go.Proofs.YtakjpljpdlhicaaDoor
open Go.ChangeShapes Go.WideShapes Go.ChangeAt Go.RowKit Go.Deep Go.QK Go.Joins
theorem bytes5 : Tryd.prog.bytesOf 5 = 1 := by kernel_rfl
variable {H : Type} {enc : TypeId × Value → H} {W : World}
/-- Bytes that came in. -/
theorem open_bytes2 {fuel : Nat} {v : Value} {x : DataW H × List MemPlace} (hf : DataW.trod enc Tryd.prog W 0 (fun _ => true) true fuel 22 [v] = some x) :
    ∃ (a : Option Addr) (l : List Nat) (cap : Nat), v = .slice a l.length cap ∧ Seen .u8 W a (ints l) ∧ AllB l ∧ (a = none → cap = 0) ∧ l.length ≤ cap ∧ cap ≤ maxLen ∧ ((∀ n ∈ x.1.weights Tryd.prog 22, n ≤ reachBytes) → l.length ≤ 140737488351232) := by
  rcases open_ints Tryd.underlying22 Tryd.underlying5 (by kernel_rfl) hf with ⟨hcs, rfl⟩ | ⟨x, len, c, zs, hcs, _, hl, hm, hz, rfl, hcell, hwz⟩
  · simp at hcs
    exact ⟨none, [], 0, hcs, .inl rfl, nofun, fun _ => rfl, Nat.le_refl _, by unfold maxLen; omega, fun _ => by decide⟩
  · simp at hcs
    obtain ⟨l, rfl, hlb⟩ := ints_of hwz
    have hz' : l.length = c := by simpa using hz
    refine ⟨some x, l.take len, c, by rw [hcs]; simp; omega, ?_, fun y hy => hlb y (List.mem_of_mem_take hy), nofun, by simp; omega, hm, fun hw => ?_⟩
    · by_cases h0 : len = 0
      · exact .inl (by simp [h0])
      · obtain ⟨b, off, spot⟩ := x
        have hc := hcell 0 (by simp; omega)
        have hspot : spot = none := by simpa [Addr.add] using World.cell?_spot hc
        subst hspot
        rw [ints_take]
        refine .inr ⟨b, off, rfl, World.block_lt_of_cell? _ _ hc, fun i hi => ?_⟩
        have h1 := hcell i (by simp at hi ⊢; omega)
        rw [addr_add] at h1
        rw [h1]
        have h2 : i < (ints l).length := by simp at hi ⊢; omega
        simp [List.getD_eq_getElem?_getD, List.getElem?_eq_getElem h2]
    · have := hw (((lits (H := H) .u8 ((ints l).take len)).length + (lits (H := H) .u8 ((ints l).drop len)).length) * Tryd.prog.bytesOf 5) (by simp [DataW.weights, Tryd.underlying22])
      rw [bytes5] at this
      have e : (lits (H := H) .u8 ((ints l).take len)).length + (lits (H := H) .u8 ((ints l).drop len)).length = l.length := by
        simp [lits]; omega
      rw [e] at this
      unfold reachBytes at this
      simp
      omega


end Go.Proofs.YtakjpljpdlhicaaDoor
