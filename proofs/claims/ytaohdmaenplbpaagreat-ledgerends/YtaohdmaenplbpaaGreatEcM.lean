import Derived.Test.YtaohdmaenplbpaaGreatBA
import Derived.Maps.OwnSet
import Derived.Maps.RangeWalk
import Derived.Maps.Ext
namespace Go.Proofs.YtaohdmaenplbpaaGreat
open Go.RowKit Quota Go.Maps

/-! The nets of an escrow: numbers of transactions, rising, and what each holds. -/
abbrev Nets := List (Int × Int)
def Rise (L : Nets) : Prop := L.Pairwise (fun p q => p.1 < q.1)
def netV (L : Nets) (k : Int) : Int := match L.find? (fun p => p.1 == k) with | some p => p.2 | none => 0
def holdB (L : Nets) (k : Int) : Bool := L.any (fun p => p.1 == k)
def putN (k v : Int) : Nets → Nets
  | [] => [(k, v)]
  | p :: r => if k < p.1 then (k, v) :: p :: r else if p.1 = k then (k, v) :: r else p :: putN k v r
def delN (L : Nets) (k : Int) : Nets := L.filter (fun p => !(p.1 == k))
def ent (p : Int × Int) : Lit × DataW Unit := (.int .i64 p.1, .lit (.int .i64 p.2))
def mapD (L : Nets) : DataW Unit := .map (L.map ent)

theorem same_ent (p : Int × Int) (k : Int) : (ent p).1.sameKey (.int .i64 k) = (p.1 == k) := by
  simp [ent, Lit.sameKey, BEq.beq]

theorem filter_ent (L : Nets) (k : Int) : (L.map ent).filter (fun p => !p.1.sameKey (.int .i64 k)) = (delN L k).map ent := by
  induction L with
  | nil => rfl
  | cons p r ih =>
    unfold delN at ih ⊢
    simp only [List.map_cons, List.filter_cons, same_ent]
    cases hk : (p.1 == k)
    · simp [ih]
    · simp [ih]

theorem mapD_del (L : Nets) (k : Int) : (mapD L).del (.int .i64 k) = mapD (delN L k) := by
  unfold mapD DataW.del
  simp only [filter_ent]

theorem mapD_has (L : Nets) (k : Int) : Maps.has (mapD L) (.int .i64 k) = holdB L k := by
  unfold mapD Maps.has holdB
  induction L with
  | nil => rfl
  | cons p r ih => simp only [List.map_cons, List.any_cons, same_ent, ih]

theorem mapD_size (L : Nets) : Maps.size (mapD L) = L.length := by simp [mapD, Maps.size]

theorem find_ent (L : Nets) (k : Int) : (L.map ent).find? (fun p => p.1.sameKey (.int .i64 k)) = (L.find? (fun p => p.1 == k)).map ent := by
  induction L with
  | nil => rfl
  | cons p r ih =>
    simp only [List.map_cons, List.find?_cons, same_ent, ih]
    cases hk : (p.1 == k) <;> simp

theorem mapD_at (L : Nets) (k : Int) : (mapD L).atKey (.int .i64 k) (.lit (.int .i64 0)) = .lit (.int .i64 (netV L k)) := by
  unfold mapD DataW.atKey netV
  simp only [find_ent]
  cases L.find? (fun p => p.1 == k) <;> simp [ent]

theorem Rise.tail {p : Int × Int} {r : Nets} (h : Rise (p :: r)) : Rise r := (List.pairwise_cons.1 h).2
theorem Rise.head {p : Int × Int} {r : Nets} (h : Rise (p :: r)) : ∀ q ∈ r, p.1 < q.1 := (List.pairwise_cons.1 h).1

theorem delN_none {L : Nets} {k : Int} (h : ∀ q ∈ L, q.1 ≠ k) : delN L k = L := by
  unfold delN
  rw [List.filter_eq_self]
  intro q hq
  simp [h q hq]

theorem mapD_put (L : Nets) (k v : Int) (h : Rise L) : (mapD L).put (.int .i64 k) (.lit (.int .i64 v)) = mapD (putN k v L) := by
  unfold mapD DataW.put
  simp only [filter_ent]
  congr 1
  induction L with
  | nil => rfl
  | cons p r ih =>
    have ih := ih h.tail
    by_cases h1 : k < p.1
    · rw [delN_none (fun q hq => by
        rcases List.mem_cons.1 hq with rfl | hq
        · omega
        · have := h.head q hq; omega)]
      simp [DataW.insert, putN, h1, ent, Lit.before]
    · by_cases h2 : p.1 = k
      · have e1 : delN (p :: r) k = r := by
          have := delN_none (L := r) (k := k) (fun q hq => by have := h.head q hq; omega)
          unfold delN at this ⊢
          simp [h2, this]
        rw [e1]
        simp only [putN, if_neg h1, if_pos h2, List.map_cons]
        cases r with
        | nil => rfl
        | cons q s =>
          have := h.head q (by simp)
          have h3 : k < q.1 := by omega
          simp [DataW.insert, ent, Lit.before, h3]
      · have e1 : delN (p :: r) k = p :: delN r k := by
          unfold delN
          simp [h2]
        rw [e1]
        simp only [putN, if_neg h1, if_neg h2, List.map_cons]
        rw [← ih]
        simp [DataW.insert, ent, Lit.before, h1]

/-- A sum of what f makes of each net. -/
def sumF (f : Int → Int) : Nets → Int
  | [] => 0
  | p :: r => f p.2 + sumF f r
def neg0 (z : Int) : Int := min z 0
def pos0 (z : Int) : Int := max z 0
abbrev lowS (L : Nets) : Int := sumF neg0 L
abbrev highS (L : Nets) : Int := sumF pos0 L
abbrev allS (L : Nets) : Int := sumF id L

theorem netV_none {L : Nets} {k : Int} (h : ∀ q ∈ L, q.1 ≠ k) : netV L k = 0 := by
  unfold netV
  rw [List.find?_eq_none.2 (fun q hq => by simp [h q hq])]
theorem netV_cons (p : Int × Int) (r : Nets) (k : Int) : netV (p :: r) k = if p.1 = k then p.2 else netV r k := by
  unfold netV
  by_cases h : p.1 = k <;> simp [h]
theorem holdB_cons (p : Int × Int) (r : Nets) (k : Int) : holdB (p :: r) k = (decide (p.1 = k) || holdB r k) := by
  unfold holdB
  simp [BEq.beq]

theorem sumF_put (f : Int → Int) (hf : f 0 = 0) {L : Nets} (k v : Int) (h : Rise L) : sumF f (putN k v L) = sumF f L - f (netV L k) + f v := by
  induction L with
  | nil => simp [putN, sumF, netV, hf]
  | cons p r ih =>
    have ih := ih h.tail
    by_cases h1 : k < p.1
    · rw [netV_none (fun q hq => by
        rcases List.mem_cons.1 hq with rfl | hq
        · omega
        · have := h.head q hq; omega), hf]
      simp only [putN, if_pos h1, sumF]
      omega
    · by_cases h2 : p.1 = k
      · simp only [putN, if_neg h1, if_pos h2, sumF, netV_cons]
        omega
      · simp only [putN, if_neg h1, if_neg h2, sumF, netV_cons]
        omega

theorem sumF_del (f : Int → Int) (hf : f 0 = 0) {L : Nets} (k : Int) (h : Rise L) : sumF f (delN L k) = sumF f L - f (netV L k) := by
  induction L with
  | nil => simp [delN, sumF, netV, hf]
  | cons p r ih =>
    have ih := ih h.tail
    by_cases h2 : p.1 = k
    · have e1 : delN (p :: r) k = r := by
        have := delN_none (L := r) (k := k) (fun q hq => by have := h.head q hq; omega)
        unfold delN at this ⊢
        simp [h2, this]
      rw [e1, netV_cons, if_pos h2]
      simp only [sumF]
      omega
    · have e1 : delN (p :: r) k = p :: delN r k := by
        unfold delN
        simp [h2]
      rw [e1, netV_cons, if_neg h2]
      simp only [sumF]
      omega

theorem mem_putN {k v : Int} {L : Nets} {q : Int × Int} (h : q ∈ putN k v L) : q = (k, v) ∨ q ∈ L := by
  induction L with
  | nil => simpa [putN] using h
  | cons p r ih =>
    unfold putN at h
    split at h
    · rcases List.mem_cons.1 h with rfl | h
      · exact .inl rfl
      · exact .inr h
    · split at h
      · rcases List.mem_cons.1 h with rfl | h
        · exact .inl rfl
        · exact .inr (by simp [h])
      · rcases List.mem_cons.1 h with rfl | h
        · exact .inr (by simp)
        · rcases ih h with h | h
          · exact .inl h
          · exact .inr (by simp [h])

theorem Rise.put {L : Nets} (h : Rise L) (k v : Int) : Rise (putN k v L) := by
  induction L with
  | nil => simp [putN, Rise]
  | cons p r ih =>
    have ih := ih h.tail
    unfold putN
    split
    · rename_i h1
      refine List.pairwise_cons.2 ⟨fun q hq => ?_, h⟩
      rcases List.mem_cons.1 hq with rfl | hq
      · exact h1
      · have := h.head q hq; show k < q.1; omega
    · rename_i h1
      split
      · rename_i h2
        refine List.pairwise_cons.2 ⟨fun q hq => ?_, h.tail⟩
        have := h.head q hq; show k < q.1; omega
      · rename_i h2
        refine List.pairwise_cons.2 ⟨fun q hq => ?_, ih⟩
        rcases mem_putN hq with rfl | hq
        · show p.1 < k; omega
        · exact h.head q hq

theorem Rise.del {L : Nets} (h : Rise L) (k : Int) : Rise (delN L k) := List.Pairwise.filter _ h
theorem mem_delN {L : Nets} {k : Int} {q : Int × Int} (h : q ∈ delN L k) : q ∈ L := (List.mem_filter.1 h).1

theorem length_putN (k v : Int) (L : Nets) : (putN k v L).length ≤ L.length + 1 := by
  induction L with
  | nil => simp [putN]
  | cons p r ih =>
    unfold putN
    split
    · simp
    · split <;> simp
      exact ih

theorem netV_put (k v : Int) {L : Nets} (h : Rise L) (j : Int) : netV (putN k v L) j = if j = k then v else netV L j := by
  induction L with
  | nil =>
    simp only [putN, netV_cons]
    by_cases e : k = j
    · simp [e]
    · have : ¬ j = k := fun x => e x.symm
      simp [e, this]
  | cons p r ih =>
    have ih := ih h.tail
    unfold putN
    split
    · rename_i h1
      rw [netV_cons]
      by_cases e : k = j
      · simp [e]
      · have : ¬ j = k := fun x => e x.symm
        simp [e, this]
    · rename_i h1
      split
      · rename_i h2
        rw [netV_cons, netV_cons]
        by_cases e : k = j
        · simp [e]
        · have : ¬ j = k := fun x => e x.symm
          have e2 : ¬ p.1 = j := by omega
          simp [e, this, e2]
      · rename_i h2
        rw [netV_cons, netV_cons, ih]
        by_cases e : p.1 = j
        · have : ¬ j = k := by omega
          simp [e, this]
        · simp [e]

theorem holdB_put (k v : Int) (L : Nets) (j : Int) : holdB (putN k v L) j = (decide (j = k) || holdB L j) := by
  induction L with
  | nil =>
    simp only [putN, holdB_cons]
    by_cases e : k = j
    · simp [e]
    · have : ¬ j = k := fun x => e x.symm
      simp [e, this]
  | cons p r ih =>
    unfold putN
    split
    · rename_i h1
      rw [holdB_cons]
      by_cases e : k = j
      · simp [e]
      · have : ¬ j = k := fun x => e x.symm
        simp [e, this]
    · rename_i h1
      split
      · rename_i h2
        rw [holdB_cons, holdB_cons]
        by_cases e : k = j
        · simp [e]
        · have : ¬ j = k := fun x => e x.symm
          have e2 : ¬ p.1 = j := by omega
          simp [e, this, e2]
      · rw [holdB_cons, holdB_cons, ih]
        cases decide (p.1 = j) <;> simp

theorem netV_mem {L : Nets} {k : Int} (h : holdB L k = true) : (k, netV L k) ∈ L := by
  induction L with
  | nil => simp [holdB] at h
  | cons p r ih =>
    rw [netV_cons]
    by_cases e : p.1 = k
    · rw [if_pos e, ← e]; simp
    · rw [if_neg e]
      rw [holdB_cons] at h
      simp [e] at h
      exact List.mem_cons_of_mem _ (ih h)
theorem netV_of_mem {L : Nets} (h : Rise L) {p : Int × Int} (hp : p ∈ L) : netV L p.1 = p.2 ∧ holdB L p.1 = true := by
  induction L with
  | nil => cases hp
  | cons q r ih =>
    rw [netV_cons, holdB_cons]
    rcases List.mem_cons.1 hp with rfl | hp
    · simp
    · have := h.head p hp
      have e : ¬ q.1 = p.1 := by omega
      obtain ⟨i1, i2⟩ := ih h.tail hp
      simp [e, i1, i2]
theorem holdB_false {L : Nets} {k : Int} (h : holdB L k = false) : ∀ q ∈ L, q.1 ≠ k := by
  intro q hq e
  unfold holdB at h
  rw [List.any_eq_false] at h
  exact h q hq (by simp [e])

/-- Sums of any part lie between those of all that are below nothing and all above. -/
theorem sum_between (L : Nets) (g : Int × Int → Bool) : lowS L ≤ allS (L.filter g) ∧ allS (L.filter g) ≤ highS L := by
  induction L with
  | nil => simp [sumF]
  | cons p r ih =>
    simp only [List.filter_cons]
    split
    · simp only [lowS, highS, allS, sumF, neg0, pos0, id]; simp only [lowS, highS, allS] at ih; omega
    · simp only [lowS, highS, allS, sumF, neg0, pos0]; simp only [lowS, highS, allS] at ih; omega
theorem low_nonpos (L : Nets) : lowS L ≤ 0 ∧ 0 ≤ highS L := by
  induction L with
  | nil => simp [sumF]
  | cons p r ih => simp only [sumF, neg0, pos0]; simp only [lowS, highS] at ih; omega
theorem sumF_perm (f : Int → Int) {L M : Nets} (h : L.Perm M) : sumF f L = sumF f M := by
  induction h with
  | nil => rfl
  | cons x _ ih => simp only [sumF, ih]
  | swap x y l => simp only [sumF]; omega
  | trans _ _ a b => exact a.trans b

/-- One more has been met on a way through the map. -/
theorem visit {L : Nets} (hr : Rise L) (left : Lit → Bool) {x c : Int} (hx : left (.int .i64 x) = true) (hat : ∀ zd : DataW Unit, (mapD L).atKey (.int .i64 x) zd = .lit (.int .i64 c)) :
    (L.filter (fun p => !(left (.int .i64 p.1) && !(Lit.int .i64 p.1).sameKey (.int .i64 x)))).Perm ((x, c) :: L.filter (fun p => !left (.int .i64 p.1))) ∧ (x, c) ∈ L := by
  have e1 : holdB L x = true ∧ netV L x = c := by
    have a1 := hat (.lit (.bool true))
    have a2 := hat (.lit (.int .i64 0))
    rw [mapD_at] at a2
    refine ⟨?_, by simpa using a2⟩
    unfold mapD DataW.atKey at a1
    simp only [find_ent] at a1
    unfold holdB
    rw [List.any_eq_true]
    cases hf : L.find? (fun p => p.1 == x) with
    | none => rw [hf] at a1; simp at a1
    | some q => exact ⟨q, List.mem_of_find?_eq_some hf, by simpa using List.find?_some hf⟩
  have hm := netV_mem e1.1
  rw [e1.2] at hm
  refine ⟨?_, hm⟩
  clear hat e1
  induction L with
  | nil => cases hm
  | cons p r ih =>
    simp only [List.filter_cons]
    by_cases hp : p.1 = x
    · have e2 : p = (x, c) := by
        rcases List.mem_cons.1 hm with h | h
        · exact h.symm
        · have := hr.head _ h; simp at this; omega
      have e3 : r.filter (fun p => !(left (.int .i64 p.1) && !(Lit.int .i64 p.1).sameKey (.int .i64 x))) = r.filter (fun p => !left (.int .i64 p.1)) := by
        apply List.filter_congr
        intro q hq
        have := hr.head q hq
        have : (Lit.int .i64 q.1).sameKey (.int .i64 x) = false := by simp [Lit.sameKey]; omega
        simp [this]
      have e4 : (Lit.int .i64 p.1).sameKey (.int .i64 x) = true := by simp [Lit.sameKey, hp]
      have e5 : left (.int .i64 p.1) = true := by rw [hp]; exact hx
      rw [e3, e4, e5, e2]
      simp
    · have hm' : (x, c) ∈ r := by
        rcases List.mem_cons.1 hm with h | h
        · rw [← h] at hp; exact absurd rfl hp
        · exact h
      have ih := ih hr.tail hm'
      have e4 : (Lit.int .i64 p.1).sameKey (.int .i64 x) = false := by simp [Lit.sameKey, hp]
      rw [e4]
      cases hl : left (.int .i64 p.1)
      · simp only [Bool.false_and, Bool.not_false, if_true]
        exact (List.Perm.cons p ih).trans (List.Perm.swap _ _ _)
      · simpa using ih

theorem rise_eq {L M : List Int} (hp : L.Perm M) (h1 : L.Pairwise (· ≤ ·)) (h2 : M.Pairwise (· ≤ ·)) : L = M :=
  List.Perm.eq_of_pairwise (fun _ _ _ _ h k => Int.le_antisymm h k) h1 h2 hp
theorem Rise.keys {L : Nets} (h : Rise L) : (L.map Prod.fst).Pairwise (· ≤ ·) := by
  rw [List.pairwise_map]
  exact List.Pairwise.imp (fun h => by omega) h
end Go.Proofs.YtaohdmaenplbpaaGreat
