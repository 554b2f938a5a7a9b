import Derived.Test.YtohkmigahbellaaDisk
namespace Go.QK

/-! What a crash leaves, byte for byte. -/
theorem splice_getD (L : List Nat) (o : Nat) (c : List Nat) (h : o + c.length ≤ L.length) (i : Nat) : (splice L o c).getD i 0 = if o ≤ i ∧ i < o + c.length then c.getD (i - o) 0 else L.getD i 0 := by
  unfold splice
  have e : (L.take o).length = o := by simp; omega
  by_cases h1 : i < o
  · rw [if_neg (by omega)]
    simp only [List.getD_eq_getElem?_getD]
    rw [List.getElem?_append_left (by omega), List.getElem?_take, if_pos h1]
  · by_cases h2 : i < o + c.length
    · rw [if_pos ⟨by omega, h2⟩]
      simp only [List.getD_eq_getElem?_getD]
      rw [List.getElem?_append_right (by omega), e, List.getElem?_append_left (by omega)]
    · rw [if_neg (by omega)]
      simp only [List.getD_eq_getElem?_getD]
      rw [List.getElem?_append_right (by omega), e, List.getElem?_append_right (by omega), List.getElem?_drop]
      congr 2
      omega
theorem lay_getD {img : List Nat} {p : Nat × List Nat} {m : Nat} (hp : Fits m p) (hm : img.length = m) (n : Nat) (hn : n ≤ 512) (i : Nat) :
    (lay img p.1 p.2 n).getD i 0 = if p.1 = i / 512 ∧ i % 512 < n then p.2.getD (i % 512) 0 else img.getD i 0 := by
  obtain ⟨h1, h2, _⟩ := hp
  have hl : (p.2.take n).length = n := by simp; omega
  unfold lay
  rw [splice_getD _ _ _ (by omega), hl]
  by_cases q : p.1 = i / 512 ∧ i % 512 < n
  · rw [if_pos q, if_pos (by omega)]
    simp only [List.getD_eq_getElem?_getD]
    rw [List.getElem?_take, if_pos (by omega)]
    congr 2
    omega
  · rw [if_neg q, if_neg (by omega)]

section
variable {l : Loss} {es : List (Nat × List Nat)} {img : List Nat} {m : Nat}
theorem fall_byte (he : ∀ p ∈ es, Fits m p) (hm : img.length = m) (hb : AllB img) (i : Nat) : ∀ k, k ≤ es.length → (fallFrom l 0 (es.take k) img).getD i 0 = img.getD i 0 ∨ ∃ j, ∃ h : j < es.length, j < k ∧ es[j].1 = i / 512 ∧ (fallFrom l 0 (es.take k) img).getD i 0 = es[j].2.getD (i % 512) 0
  | 0, _ => .inl rfl
  | k + 1, hk => by
    have hl := (fallFrom_ok l (es.take k) 0 img (fun p hp => he p (List.mem_of_mem_take hp)) hm hb).1
    rw [fallFrom_take l es img k (by omega), lay_getD (he _ (List.getElem_mem _)) hl _ (leavesN_le l k)]
    by_cases q : es[k].1 = i / 512 ∧ i % 512 < leavesN l k
    · rw [if_pos q]
      exact .inr ⟨k, by omega, by omega, q.1, rfl⟩
    · rw [if_neg q]
      rcases fall_byte he hm hb i k (by omega) with h | ⟨j, hj, h1, h2, h3⟩
      · exact .inl h
      · exact .inr ⟨j, hj, by omega, h2, h3⟩
/-- The last pending write of byte i's sector, of the first k. -/
def lastTo (es : List (Nat × List Nat)) (i : Nat) : Nat → Int
  | 0 => -1
  | k + 1 => if (es.getD k (0, [])).1 = i / 512 then (k : Int) else lastTo es i k
theorem lastTo_lt (es : List (Nat × List Nat)) (i : Nat) : ∀ k, -1 ≤ lastTo es i k ∧ lastTo es i k < k
  | 0 => by simp [lastTo]
  | k + 1 => by
    have := lastTo_lt es i k
    unfold lastTo
    split <;> omega
theorem fall_last (he : ∀ p ∈ es, Fits m p) (hm : img.length = m) (hb : AllB img) (i : Nat) : ∀ k, k ≤ es.length → ∀ j : Nat, lastTo es i k = (j : Int) → keptN l.keep j = true → ∃ h : j < es.length, (fallFrom l 0 (es.take k) img).getD i 0 = es[j].2.getD (i % 512) 0
  | 0, _, j, h, _ => by simp [lastTo] at h
  | k + 1, hk, j, h, hj => by
    have hl := (fallFrom_ok l (es.take k) 0 img (fun p hp => he p (List.mem_of_mem_take hp)) hm hb).1
    have hk' : k < es.length := by omega
    have eg : es.getD k (0, []) = es[k] := by simp [hk']
    rw [fallFrom_take l es img k hk', lay_getD (he _ (List.getElem_mem _)) hl _ (leavesN_le l k)]
    unfold lastTo at h
    rw [eg] at h
    by_cases q : es[k].1 = i / 512
    · rw [if_pos q] at h
      have hjk : j = k := by omega
      subst hjk
      have hlv : leavesN l j = 512 := by unfold leavesN; rw [if_pos hj]
      refine ⟨hk', ?_⟩
      rw [if_pos ⟨q, by rw [hlv]; exact Nat.mod_lt _ (by decide)⟩]
    · rw [if_neg q] at h
      obtain ⟨h1, h2⟩ := fall_last he hm hb i k (by omega) j h hj
      exact ⟨h1, by rw [if_neg (fun r => q r.1)]; exact h2⟩
end
/-- May byte i, which is x, be so, by the first k writes? -/
def mayTo (es : List (Nat × List Nat)) (i x y : Nat) : Nat → Bool
  | 0 => decide (x = y)
  | k + 1 => if (es.getD k (0, [])).1 = i / 512 then (mayTo es i x y k || decide (x = (es.getD k (0, [])).2.getD (i % 512) 0)) else mayTo es i x y k
theorem mayTo_base {es : List (Nat × List Nat)} {i x y : Nat} (h : x = y) : ∀ k, mayTo es i x y k = true
  | 0 => by simp [mayTo, h]
  | k + 1 => by
    unfold mayTo
    rw [mayTo_base h k]
    split <;> rfl
theorem mayTo_at {es : List (Nat × List Nat)} {i x y j : Nat} (h1 : (es.getD j (0, [])).1 = i / 512) (h2 : x = (es.getD j (0, [])).2.getD (i % 512) 0) : ∀ k, j < k → mayTo es i x y k = true
  | 0, h => by omega
  | k + 1, h => by
    unfold mayTo
    by_cases q : j = k
    · subst q
      rw [if_pos h1, decide_eq_true h2]
      simp
    · rw [mayTo_at h1 h2 k (by omega)]
      split <;> rfl
theorem mayTo_of {es : List (Nat × List Nat)} {i x y n : Nat} (h : x = y ∨ ∃ j, ∃ h : j < es.length, j < n ∧ es[j].1 = i / 512 ∧ x = es[j].2.getD (i % 512) 0) : mayTo es i x y n = true := by
  rcases h with q | ⟨j, hj, q0, q1, q2⟩
  · exact mayTo_base q _
  · have e : es.getD j (0, []) = es[j] := by simp [hj]
    exact mayTo_at (by rw [e]; exact q1) (by rw [e]; exact q2) _ q0
end Go.QK
