import Derived.Test.YtoocbpbaieedmaaAp30
namespace Go.Proofs.Ytoocbpbaieedmaa
open Go.RowKit Go.QK Quota
set_option maxRecDepth 100000
/-- A row of the program's own whose first k elements bear the mark m. -/
def GM (w : World) (e : TypeId) (sz : Nat) (v : Value) (n : Nat) (m : Int) (k : Nat) : Prop := ∃ X, GRow w 0 e sz v n X ∧ ∀ j, j < k → X[j * sz]? = some (.int .i64 m)
theorem GM.start {w : World} {e : TypeId} {sz : Nat} {v : Value} {n : Nat} {X : List Value} (h : GRow w 0 e sz v n X) (m : Int) : GM w e sz v n m 0 := ⟨X, h, fun j hj => by omega⟩
theorem GM.keep {T : Nat → Prop} {w w' : World} {e : TypeId} {sz : Nat} {v : Value} {n : Nat} {m : Int} {k : Nat} (h : GM w e sz v n m k) (hk : Keep T w w') (hn : ∀ g, v.ownBlock = some g → ¬ T g) : GM w' e sz v n m k := by
  obtain ⟨X, h1, h2⟩ := h
  exact ⟨X, GRow.keep h1 hk hn, h2⟩
theorem GM.below {w w' : World} {e : TypeId} {sz : Nat} {v : Value} {n : Nat} {m : Int} {k : Nat} (h : GM w e sz v n m k) (hk : Below w.heap.size w w') : GM w' e sz v n m k := h.keep (Keep.of_below (S := fun _ => False) hk) (fun _ _ => id)
theorem GM.mark {w : World} {e : TypeId} {sz : Nat} {v : Value} {n : Nat} {m : Int} (h : GM w e sz v n m n) (hn : n ≤ 1000) : Mk w sz v m := by
  obtain ⟨X, h1, h2⟩ := h
  obtain ⟨a, c, e1, hl, _, _, _, hz⟩ := GRow.lies h1
  refine ⟨a, n, c, e1, hn, ?_⟩
  by_cases h0 : n = 0
  · exact .inl h0
  · rcases hl with hl | ⟨g, off, ha, hlt, hc⟩
    · have := h2 0 (by omega)
      rw [hl] at this
      simp at this
    · have := hz _ ha
      obtain ⟨rfl, _⟩ := this
      refine .inr ⟨g, ha, hlt, fun i hi => ?_⟩
      obtain ⟨hi2, hi3⟩ := List.getElem?_eq_some_iff.1 (h2 i hi)
      have := hc (i * sz) hi2
      rw [Nat.zero_add, hi3] at this
      exact this
/-- One more element is written over, cell by cell. -/
theorem GM.cell {w : World} {e : TypeId} {sz : Nat} {g n cap : Nat} {m : Int} {k : Nat} (h : GM w e sz (.slice (some ⟨g, 0, none⟩) n cap) n m k) (i : Nat) (u : Value) (hi : ∀ j, j < k → j * sz ≠ i) : GM (w.setCell ⟨g, i, none⟩ u) e sz (.slice (some ⟨g, 0, none⟩) n cap) n m k := by
  obtain ⟨X, h1, h2⟩ := h
  refine ⟨X.set i u, (World.ownsRow.stored h1 i u).1, fun j hj => ?_⟩
  rw [List.getElem?_set_ne (fun q => hi j hj q.symm)]
  exact h2 j hj
theorem GM.first {w : World} {e : TypeId} {sz : Nat} {g n cap : Nat} {m : Int} {k : Nat} (h : GM w e sz (.slice (some ⟨g, 0, none⟩) n cap) n m k) (hk : k < n) (hs : 0 < sz) : GM (w.setCell ⟨g, k * sz, none⟩ (.int .i64 m)) e sz (.slice (some ⟨g, 0, none⟩) n cap) n m (k + 1) := by
  obtain ⟨X, h1, h2⟩ := h
  have hl := h1.1
  have hlt : k * sz < X.length := by rw [hl]; exact Nat.mul_lt_mul_of_pos_right hk hs
  refine ⟨X.set (k * sz) (.int .i64 m), (World.ownsRow.stored h1 _ _).1, fun j hj => ?_⟩
  by_cases q : j = k
  · subst q
    rw [List.getElem?_set_self hlt]
  · rw [List.getElem?_set_ne (fun z => q (Nat.eq_of_mul_eq_mul_right hs z.symm))]
    exact h2 j (by omega)
theorem GM.at {w : World} {e : TypeId} {sz : Nat} {g n cap : Nat} {m : Int} {k i j : Nat} (h : GM w e sz (.slice (some ⟨g, 0, none⟩) n cap) n m k) (hi : i < n) (hj : j < sz) : (∃ u, w.cell? ⟨g, i * sz + j, none⟩ = some u) ∧ w.frozen? ⟨g, i * sz + j, none⟩ = false ∧ g < w.heap.size := by
  obtain ⟨X, h1, h2⟩ := h
  have hl := h1.1
  have hlt : i * sz + j < X.length := by
    rw [hl]
    have : (i + 1) * sz ≤ n * sz := Nat.mul_le_mul_right _ hi
    rw [Nat.succ_mul] at this
    omega
  refine ⟨⟨X[i * sz + j], ?_⟩, World.ownsRow.frozenAt h1 _, (World.ownsRow.lt h1 g rfl).2⟩
  obtain ⟨a, c, e1, hlies, _⟩ := GRow.lies h1
  cases e1
  rcases hlies with q | ⟨g', off, ha, _, hc⟩
  · rw [q] at hlt; simp at hlt
  · cases ha
    have := hc (i * sz + j) hlt
    rw [Nat.zero_add] at this
    exact this
/-- 'append(v, element with the mark)': v is marked as it was, the new list whole. -/
theorem GM.more {w : World} {t e : TypeId} {z : Value} {sz bytes : Nat} (hu : Try.prog.underlying t = some (.slice e)) (hin : (Try.prog.info? e).map (fun i => (i.zero, i.size, i.bytes)) = some (some z, sz, bytes)) (hz : z.cells.size = sz) (hs : 0 < sz) (hby : bytes ≤ 100) (ty : TypeId) {v : Value} {n : Nat} {m : Int} (h : GM w e sz v n m n) (hn : n ≤ 900) (news : List Value) (hl : news.length = 1 * sz) (h0 : news[0]? = some (.int .i64 m)) (h1 : ∀ u ∈ news, u.oneCell' = true) :
    ∃ a' n' c' w2, (Builtin.append_ #[t, t] ty #[v, .slice (some ⟨w.heap.size, 0, none⟩) 1 1]).run Try.prog (w.alloc (.cells news.toArray e)) = .ok (.slice a' n' c') w2 ∧ Mk w2 sz (.slice a' n' c') m ∧ Mk w2 sz v m ∧ Keep (fun z => v.ownBlock = some z) w w2 ∧ (∀ g, (Value.slice a' n' c').ownBlock = some g → (v.ownBlock = some g ∨ w.heap.size < g) ∧ g < w2.heap.size) := by
  have A1 := alloc_below w (.cells news.toArray e)
  obtain ⟨X, g1, g2⟩ := h.below A1
  obtain ⟨v', w2, hr, hO, hg, hnn, hold⟩ := run_moreR hu hin hz hs hby ty (w.alloc (.cells news.toArray e)) 0 v n X g1 ⟨w.heap.size, 0, none⟩ news hl (lies_new w news e) h1 (by omega) (Nat.zero_le _)
  obtain ⟨a', c', e', -⟩ := GRow.lies hO
  subst e'
  have K2 : Keep (fun z => v.ownBlock = some z) w w2 := (Keep.of_below A1).trans ((Keep.refl (fun z => v.ownBlock = some z) _).grown hg (fun _ e _ => e)) (fun _ _ q => q)
  have hXl := g1.1
  refine ⟨a', n + 1, c', w2, hr, ?_, ?_, K2, fun g q => ⟨?_, (World.ownsRow.lt hO g q).2⟩⟩
  · refine GM.mark (e := e) ⟨X ++ news, hO, fun j hj => ?_⟩ (by omega)
    by_cases q : j < n
    · have hlt : j * sz < X.length := by rw [hXl]; exact Nat.mul_lt_mul_of_pos_right q hs
      rw [List.getElem?_append_left hlt]
      exact g2 j q
    · have ej : j = n := by omega
      subst ej
      rw [List.getElem?_append_right (by omega), hXl, Nat.sub_self]
      exact h0
  · obtain ⟨a, c, e1, _, _, _, _, hzz⟩ := GRow.lies g1
    refine ⟨a, n, c, e1, by omega, ?_⟩
    by_cases q0 : n = 0
    · exact .inl q0
    · rcases hold a c e1 with q | ⟨g, off, ha, hlt, hc⟩
      · have := g2 0 (by omega)
        rw [q] at this
        simp at this
      · obtain ⟨rfl, _⟩ := hzz _ ha
        refine .inr ⟨g, ha, hlt, fun i hi => ?_⟩
        obtain ⟨hi2, hi3⟩ := List.getElem?_eq_some_iff.1 (g2 i hi)
        have := hc (i * sz) hi2
        rw [Nat.zero_add, hi3] at this
        exact this
  · rcases hnn with q2 | q2
    · exact .inl (by rw [← q2]; exact q)
    · rw [q2] at q
      cases q
      exact .inr (by simp)
end Go.Proofs.Ytoocbpbaieedmaa
