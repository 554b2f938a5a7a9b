import Derived.Test.YtllpfojkbeloeaaDoorPuts
namespace Go.Proofs.YtllpfojkbeloeaaDoor
open Go.RowKit Go.QK

/-- A row of slices of bytes that is the program's own. -/
def SRow (w : World) (B : Nat) (v : Value) (vs : List Value) : Prop := w.ownsRow B 29 1 v vs.length vs

section
variable {S : Nat → Prop} {w w' : World} {B : Nat} {v : Value} {vs : List Value}
theorem SRow.nil (w : World) (B : Nat) : SRow w B (.slice none 0 0) [] := World.ownsRow_nil _ _ _ _
theorem SRow.lt (h : SRow w B v vs) : ∀ b, v.ownBlock = some b → B ≤ b ∧ b < w.heap.size := fun b hb => World.ownsRow.lt h b hb
theorem SRow.keep (h : SRow w B v vs) (hb : Keep S w w') (hn : ∀ g, v.ownBlock = some g → ¬ S g) : SRow w' B v vs := by
  refine ⟨h.1, ?_⟩
  rcases h.2 with q | ⟨g, cap, cur, q, hbg, hg, rest⟩
  · exact .inl q
  · have hlt := (World.ownsRow.lt h g (by rw [q]; rfl)).2
    exact .inr ⟨g, cap, cur, q, hbg, (hb.block g hlt (hn g (by rw [q]; rfl))).trans hg, rest⟩
theorem SRow.below (h : SRow w B v vs) (hb : Below w.heap.size w w') : SRow w' B v vs := h.keep (Keep.of_below (S := fun _ => False) hb) (fun _ _ => id)
theorem SRow.form (h : SRow w B v vs) : ∃ a c, v = .slice a vs.length c ∧ vs.length ≤ c ∧ c ≤ maxLen ∧ (a = none → c = 0) ∧ (∀ i (_ : i < vs.length), ∃ b, a = some ⟨b, 0, none⟩ ∧ b < w.heap.size ∧ w.cell? ⟨b, i, none⟩ = some vs[i]) := by
  rcases h.2 with ⟨rfl, hn⟩ | ⟨g, cap, cur, rfl, hb, hg, hle, hm, hs, ht⟩
  · have : vs = [] := List.eq_nil_of_length_eq_zero hn
    subst this
    exact ⟨none, 0, rfl, Nat.le_refl _, by unfold maxLen; omega, fun _ => rfl, fun i hi => by simp at hi⟩
  · refine ⟨_, cap, rfl, hle, hm, nofun, fun i hi => ⟨g, rfl, (World.ownsRow.lt h g rfl).2, ?_⟩⟩
    have := World.ownsRow.cells h (g := g) rfl i vs[i] (by simp [hi])
    rw [addr_add] at this
    simpa using this
end

theorem info29 : (Tryd.prog.info? 29).map (fun i => (i.zero, i.size, i.bytes)) = some (some (.slice none 0 0), 1, 24) := by kernel_rfl
theorem und61 : Tryd.prog.underlying 61 = some (.slice 29) := by kernel_rfl
theorem pushS {w : World} {ops : Array Oper} {rest : List Oper} {o : Oper} {a : Act} {Q : Exit → Act → World → Prop} (hgd : o.guard = none) (s x : Operand)
    (ho : o.op = .call { callee := .builtin .append, args := #[s, x], argTypes := #[61, 61] })
    (B : Nat) (v : Value) (vs : List Value) (hs : a.eval s = v) (ad : Addr) (y : Value) (hx : a.eval x = .slice (some ad) 1 1) (hown : SRow w B v vs) (hc : w.cell? ad = some y) (hy : y.oneCell' = true)
    (h63 : vs.length + 1 ≤ 2000000) (hB : B ≤ w.heap.size)
    (h : ∀ v' w', SRow w' B v' (vs ++ [y]) → w.grownBy w' v.ownBlock → (v'.ownBlock = v.ownBlock ∨ v'.ownBlock = some w.heap.size) → wpList Tryd.prog ops Q rest (a.put o.dst v') w') : wpList Tryd.prog ops Q (o :: rest) a w := by
  obtain ⟨i0, hi, hz⟩ : ∃ i0, Tryd.prog.info? 29 = some i0 ∧ i0.zero = some (.slice none 0 0) ∧ i0.size = 1 ∧ i0.bytes = 24 := by
    have := info29
    cases hq : Tryd.prog.info? 29 with
    | none => rw [hq] at this; cases this
    | some i0 =>
      rw [hq] at this
      simp only [Option.map_some, Option.some.injEq, Prod.mk.injEq] at this
      exact ⟨i0, rfl, this⟩
  refine wpList_append_own_at w hgd s x 61 ho B 29 i0 (.slice none 0 0) 1 24 und61 hi hz.1 hz.2.1 hz.2.2 rfl (by decide) v vs.length _ hs hown ad 1 1 [y] hx rfl ?_ ?_ (by unfold maxLen; omega) (by omega) hB ?_
  · intro j u hj
    match j, hj with
    | 0, hj =>
      simp at hj
      subst hj
      simpa [Addr.add] using hc
  · intro u hu
    simp at hu
    subst hu
    exact hy
  · intro v' w' h1 h2 _ h4
    exact h v' w' (by unfold SRow; simpa using h1) h2 h4
end Go.Proofs.YtllpfojkbeloeaaDoor
