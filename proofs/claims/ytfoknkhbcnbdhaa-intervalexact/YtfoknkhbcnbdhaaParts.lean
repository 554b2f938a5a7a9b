import Derived.Test.YtfoknkhbcnbdhaaSums
import Derived.Maps.AppendAt
namespace Go.Proofs.Ytfoknkhbcnbdhaa
open Go.RowKit Quota

theorem lows_reverse (xs : List Int) : lows xs.reverse = lows xs := by
  induction xs with
  | nil => rfl
  | cons x r ih => simp only [List.reverse_cons, lows_append, ih, lows]; omega
theorem highs_reverse (xs : List Int) : highs xs.reverse = highs xs := by
  induction xs with
  | nil => rfl
  | cons x r ih => simp only [List.reverse_cons, highs_append, ih, highs]; omega

/-- Those below 0, and those that are not. -/
def negs : List Int → List Int
  | [] => []
  | x :: r => if x < 0 then x :: negs r else negs r
def poss : List Int → List Int
  | [] => []
  | x :: r => if x < 0 then poss r else x :: poss r
theorem negs_append (a b : List Int) : negs (a ++ b) = negs a ++ negs b := by
  induction a with
  | nil => rfl
  | cons x r ih => simp only [List.cons_append, negs, ih]; split <;> simp
theorem poss_append (a b : List Int) : poss (a ++ b) = poss a ++ poss b := by
  induction a with
  | nil => rfl
  | cons x r ih => simp only [List.cons_append, poss, ih]; split <;> simp
theorem isum_negs (xs : List Int) : isum (negs xs) = lows xs := by
  induction xs with
  | nil => rfl
  | cons x r ih => simp only [negs, lows]; split <;> simp only [isum, ih]; omega
theorem isum_poss (xs : List Int) : isum (poss xs) = highs xs := by
  induction xs with
  | nil => rfl
  | cons x r ih => simp only [poss, highs]; split <;> simp only [isum, ih]; omega
theorem negs_len (xs : List Int) : (negs xs).length ≤ xs.length ∧ (poss xs).length ≤ xs.length := by
  induction xs with
  | nil => simp [negs, poss]
  | cons x r ih => simp only [negs, poss]; split <;> simp <;> omega
theorem all_negs {xs : List Int} (h : All xs) : All (negs xs) ∧ All (poss xs) := by
  induction xs with
  | nil => exact ⟨nofun, nofun⟩
  | cons x r ih =>
    have hx := h x (by simp)
    obtain ⟨h1, h2⟩ := ih (fun y hy => h y (by simp [hy]))
    simp only [negs, poss]
    split
    · refine ⟨fun y hy => ?_, h2⟩
      rcases List.mem_cons.1 hy with e | e
      · rw [e]; exact hx
      · exact h1 y e
    · refine ⟨h1, fun y hy => ?_⟩
      rcases List.mem_cons.1 hy with e | e
      · rw [e]; exact hx
      · exact h2 y e
theorem negs_step (xs : List Int) (k : Nat) (h : k < xs.length) (hn : xs[k] < 0) : negs (xs.take (k + 1)) = negs (xs.take k) ++ [xs[k]] ∧ poss (xs.take (k + 1)) = poss (xs.take k) := by
  rw [List.take_succ_eq_append_getElem h, negs_append, poss_append]; simp [negs, poss, hn]
theorem poss_step (xs : List Int) (k : Nat) (h : k < xs.length) (hn : ¬ xs[k] < 0) : negs (xs.take (k + 1)) = negs (xs.take k) ∧ poss (xs.take (k + 1)) = poss (xs.take k) ++ [xs[k]] := by
  rw [List.take_succ_eq_append_getElem h, negs_append, poss_append]; simp [negs, poss, hn]

/-- 'append(v, y)' onto a slice of the program's own: and where the new one lies. -/
theorem push_own {w : World} {ops : Array Oper} {rest : List Oper} {o : Oper} {a : Act} {Q : Exit → Act → World → Prop} (hgd : o.guard = none) (s x : Operand)
    (ho : o.op = .call { callee := .builtin .append, args := #[s, x], argTypes := #[35, 35] })
    (B : Nat) (v : Value) (xs : List Int) (hs : a.eval s = v) (ad : Addr) (y : Int) (hx : a.eval x = .slice (some ad) 1 1) (hown : Owns w B v xs) (hc : w.cell? ad = some (.int .i64 y))
    (hlen : xs.length + 1 ≤ 1000000) (hB : B ≤ w.heap.size)
    (h : ∀ v' w', Owns w' B v' (xs ++ [y]) → w.grownBy w' v.ownBlock → (v'.ownBlock = v.ownBlock ∨ v'.ownBlock = some w.heap.size) → wpList Try.prog ops Q rest (a.put o.dst v') w') : wpList Try.prog ops Q (o :: rest) a w := by
  obtain ⟨i0, hi, hz0, hz1, hz2⟩ := info_parts info2
  refine wpList_append_own_at w hgd s x 35 ho B 2 i0 (.int .i64 0) 1 8 Try.underlying35 hi hz0 hz1 hz2 rfl (by decide) v xs.length _ hs hown ad 1 1 [.int .i64 y] hx rfl ?_ ?_ ?_ ?_ hB ?_
  · intro j u hj
    match j, hj with
    | 0, hj =>
      simp at hj
      subst hj
      simpa [Addr.add] using hc
  · intro u hu
    simp at hu
    subst hu
    rfl
  · unfold maxLen; omega
  · omega
  · intro v' w' h1 h2 _ h4
    exact h v' w' (by unfold Owns; simpa using h1) h2 h4

theorem Owns.lit (w : World) (x : Int) (B : Nat) (hB : B ≤ w.heap.size) : Owns (w.alloc (.cells #[.int .i64 x] 2)) B (.slice (some ⟨w.heap.size, 0, none⟩) 1 1) [x] := by
  have := World.ownsRow_lit (base := B) (e := 2) (size := 1) w #[.int .i64 x] 1 hB (by unfold maxLen; omega) rfl
  simpa [Owns] using this

theorem Owns.kept {w w' : World} {B : Nat} {v u : Value} {xs : List Int} (h : Owns w B v xs) (hg : w.grownBy w' u.ownBlock) (hne : v.ownBlock ≠ u.ownBlock) : Owns w' B v xs := World.ownsRow.kept h hg (.inr hne)
theorem Owns.block {w : World} {B : Nat} {v : Value} {xs : List Int} (h : Owns w B v xs) : v.ownBlock ≠ some w.heap.size := fun e => by have := (World.ownsRow.lt h _ e).2; omega

theorem two_lits (w : World) (p q x : Int) :
    Owns (((w.alloc (.cells #[.int .i64 p, .int .i64 q] 24)).alloc (.cells #[.int .i64 x] 2)).alloc (.cells #[.int .i64 x] 2)) (w.heap.size + 1) (.slice (some ⟨w.heap.size + 1, 0, none⟩) 1 1) [x] ∧
    Owns (((w.alloc (.cells #[.int .i64 p, .int .i64 q] 24)).alloc (.cells #[.int .i64 x] 2)).alloc (.cells #[.int .i64 x] 2)) (w.heap.size + 1) (.slice (some ⟨w.heap.size + 1 + 1, 0, none⟩) 1 1) [x] ∧
    Below w.heap.size w (((w.alloc (.cells #[.int .i64 p, .int .i64 q] 24)).alloc (.cells #[.int .i64 x] 2)).alloc (.cells #[.int .i64 x] 2)) := by
  refine ⟨?_, ?_, (((Below.refl _ _).alloc (Nat.le_refl _) _).alloc (by simp) _).alloc (by simp; omega) _⟩
  · have := (Owns.lit (w.alloc (.cells #[.int .i64 p, .int .i64 q] 24)) x (w.heap.size + 1) (by simp)).alloc (.cells #[.int .i64 x] 2)
    simpa using this
  · have := Owns.lit ((w.alloc (.cells #[.int .i64 p, .int .i64 q] 24)).alloc (.cells #[.int .i64 x] 2)) x (w.heap.size + 1) (by simp)
    simpa using this

theorem check_ok {lo hi : Int} (h : ¬ hi < lo) (w : World) : Calls Try.prog 11 #[rng lo hi] w fun r w' => r = .returned (.int .i64 0) ∧ Below w.heap.size w w' := by
  have k := check_any lo hi w
  rw [show chkE lo hi = 0 by simp [chkE, h]] at k
  exact k
theorem has_ok {lo hi v : Int} (h1 : lo ≤ v) (h2 : v ≤ hi) (w : World) : Calls Try.prog 12 #[rng lo hi, .int .i64 v] w fun r w' => r = .returned (.bool true) ∧ Below w.heap.size w w' := by
  have k := has_any lo hi v w
  rw [show hasB lo hi v = true by simp [hasB, h1, h2]] at k
  exact k

theorem out_step (xs : List Int) (k : Nat) (h : k < xs.length) (b s : Int) (h1 : b + lows (xs.take k) ≤ s) (h2 : s ≤ b + highs (xs.take k)) :
    (b + lows (xs.take (k + 1)) ≤ s ∧ s ≤ b + highs (xs.take (k + 1))) ∧ (b + lows (xs.take (k + 1)) ≤ s + xs[k] ∧ s + xs[k] ≤ b + highs (xs.take (k + 1))) := by
  by_cases hn : xs[k] < 0
  · obtain ⟨e1, e2⟩ := lows_neg xs k h hn
    rw [e1, e2]
    omega
  · obtain ⟨e1, e2⟩ := lows_pos xs k h hn
    rw [e1, e2]
    omega

/-- Two lists of the program's own: the one grows, the other stays. -/
theorem grow_two {w4 wr w' : World} {o : Obj} {u v v' : Value} {xs ys zs : List Int} (O1 : Owns wr (w4.heap.size + 1) u xs) (O2 : Owns wr (w4.heap.size + 1) v ys) (hne : u.ownBlock ≠ v.ownBlock) (hb : Below w4.heap.size w4 wr) (hz : w4.heap.size + 1 ≤ wr.heap.size)
    (hN : Owns w' (w4.heap.size + 1) v' zs) (hg : (wr.alloc o).grownBy w' u.ownBlock) (hat : v'.ownBlock = u.ownBlock ∨ v'.ownBlock = some (wr.heap.size + 1)) :
    Owns w' (w4.heap.size + 1) v' zs ∧ Owns w' (w4.heap.size + 1) v ys ∧ v'.ownBlock ≠ v.ownBlock ∧ Below w4.heap.size w4 w' ∧ w4.heap.size + 1 ≤ w'.heap.size := by
  have hb' := grown_below (O1.alloc o) (by simp; omega) hg
  refine ⟨hN, (O2.alloc o).kept hg hne.symm, ?_, (hb.alloc (by omega) o).trans (hb'.mono (by omega)), ?_⟩
  · rcases hat with h | h
    · rw [h]; exact hne
    · rw [h]
      have := ((O2.alloc o).block).symm
      simpa using this
  · have := hb'.size; simp at this; omega
end Go.Proofs.Ytfoknkhbcnbdhaa
