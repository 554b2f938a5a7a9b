import Derived.WalkKit
namespace Go.QP

/-! Lists of dirty pages in plain numbers: a page's number, since when it is dirty. -/
abbrev Dr := Int × Int
def mayE (d : Dr) : Int := if d.1 < 0 then 4 else if 64 ≤ d.1 then 4 else if d.2 < 1 then 23 else if 2147483647 < d.2 then 23 else 0
def faultE : List Dr → Int
  | [] => 0
  | d :: r => if mayE d = 0 then faultE r else mayE d
abbrev Good (d : Dr) : Prop := 0 ≤ d.1 ∧ d.1 < 64 ∧ 1 ≤ d.2 ∧ d.2 ≤ 2147483647
def Fine (l : List Dr) : Prop := ∀ d ∈ l, Good d
theorem mayE_good (d : Dr) : mayE d = 0 ↔ Good d := by
  unfold mayE Good
  by_cases h1 : d.1 < 0
  · rw [if_pos h1]; omega
  · rw [if_neg h1]
    by_cases h2 : 64 ≤ d.1
    · rw [if_pos h2]; omega
    · rw [if_neg h2]
      by_cases h3 : d.2 < 1
      · rw [if_pos h3]; omega
      · rw [if_neg h3]
        by_cases h4 : 2147483647 < d.2
        · rw [if_pos h4]; omega
        · rw [if_neg h4]; omega
theorem faultE_append (a b : List Dr) : faultE (a ++ b) = if faultE a = 0 then faultE b else faultE a := by
  induction a with
  | nil => simp [faultE]
  | cons d r ih =>
    have e : ∀ l, faultE (d :: l) = if mayE d = 0 then faultE l else mayE d := fun _ => rfl
    rw [List.cons_append, e, e]
    by_cases h : mayE d = 0
    · rw [if_pos h, if_pos h]; exact ih
    · rw [if_neg h, if_neg h, if_neg h]
theorem fault_fine (l : List Dr) : faultE l = 0 ↔ Fine l := by
  induction l with
  | nil => simp [faultE, Fine]
  | cons d r ih =>
    simp only [faultE]
    by_cases h : mayE d = 0
    · rw [if_pos h, ih]
      have := (mayE_good d).1 h
      simp only [Fine, List.mem_cons, forall_eq_or_imp]
      exact ⟨fun q => ⟨this, q⟩, fun q => q.2⟩
    · rw [if_neg h]
      refine ⟨fun q => absurd q h, fun q => absurd ((mayE_good d).2 (q d (by simp))) h⟩
theorem Fine.append {a b : List Dr} (h1 : Fine a) (h2 : Fine b) : Fine (a ++ b) := by
  intro d hd
  rcases List.mem_append.1 hd with h | h
  · exact h1 d h
  · exact h2 d h
theorem Fine.nil : Fine [] := by intro d hd; cases hd
theorem Fine.take {a : List Dr} (h : Fine a) (k : Nat) : Fine (a.take k) := fun d hd => h d (List.mem_of_mem_take hd)

/-! Since when each page is dirty. -/
def lesser : Option Int → Int → Int
  | none, s => s
  | some t, s => if s < t then s else t
def upd (f : Int → Option Int) (d : Dr) : Int → Option Int := fun n => if n = d.1 then some (lesser (f n) d.2) else f n
def lst (l : List Dr) : Int → Option Int := l.foldl upd (fun _ => none)
def omin : Option Int → Option Int → Option Int
  | none, y => y
  | some a, none => some a
  | some a, some b => some (if b < a then b else a)
theorem lst_nil (n : Int) : lst [] n = none := rfl
theorem lst_snoc (l : List Dr) (d : Dr) : lst (l ++ [d]) = upd (lst l) d := by
  unfold lst
  rw [List.foldl_append]
  rfl
theorem omin_none (x : Option Int) : omin x none = x := by cases x <;> rfl
theorem omin_comm (x y : Option Int) : omin x y = omin y x := by
  cases x <;> cases y <;> simp only [omin]
  congr 1
  split <;> split <;> omega
theorem omin_assoc (x y z : Option Int) : omin (omin x y) z = omin x (omin y z) := by
  cases x <;> cases y <;> cases z <;> simp only [omin]
  congr 1
  omega
theorem omin_self (x : Option Int) : omin x x = x := by
  cases x <;> simp [omin]
theorem lesser_omin (x y : Option Int) (s : Int) : some (lesser (omin x y) s) = omin x (some (lesser y s)) := by
  cases x with
  | none => rfl
  | some a =>
    cases y with
    | none => rfl
    | some b =>
      show some (if s < (if b < a then b else a) then s else (if b < a then b else a)) = some (if (if s < b then s else b) < a then (if s < b then s else b) else a)
      exact congrArg some (by omega)
theorem rev_ind {p : List Dr → Prop} (h0 : p []) (h1 : ∀ l d, p l → p (l ++ [d])) (l : List Dr) : p l := by
  have key : ∀ r : List Dr, p r.reverse := by
    intro r
    induction r with
    | nil => exact h0
    | cons d r ih => rw [List.reverse_cons]; exact h1 _ _ ih
  have := key l.reverse
  rwa [List.reverse_reverse] at this
theorem lst_append (a b : List Dr) (n : Int) : lst (a ++ b) n = omin (lst a n) (lst b n) := by
  revert b
  refine rev_ind ?_ ?_
  · rw [List.append_nil, lst_nil, omin_none]
  · intro l d ih
    rw [← List.append_assoc, lst_snoc, lst_snoc]
    unfold upd
    by_cases h : n = d.1
    · rw [if_pos h, if_pos h, ih, lesser_omin]
    · rw [if_neg h, if_neg h, ih]
theorem lst_none {l : List Dr} {n : Int} : lst l n = none → ∀ d ∈ l, d.1 ≠ n := by
  refine rev_ind (p := fun l => lst l n = none → ∀ d ∈ l, d.1 ≠ n) ?_ ?_ l
  · intro _ d hd; cases hd
  · intro l d ih h e he
    rw [lst_snoc] at h
    unfold upd at h
    by_cases q : n = d.1
    · rw [if_pos q] at h; cases h
    · rw [if_neg q] at h
      rcases List.mem_append.1 he with he | he
      · exact ih h e he
      · rw [List.mem_singleton.1 he]; omega
theorem lst_some {l : List Dr} {n s : Int} : lst l n = some s → (n, s) ∈ l ∧ ∀ d ∈ l, d.1 = n → s ≤ d.2 := by
  revert s
  refine rev_ind (p := fun l => ∀ {s : Int}, lst l n = some s → (n, s) ∈ l ∧ ∀ d ∈ l, d.1 = n → s ≤ d.2) ?_ ?_ l
  · intro s h; cases h
  · intro l d ih s h
    rw [lst_snoc] at h
    unfold upd at h
    by_cases q : n = d.1
    · rw [if_pos q] at h
      have hs := Option.some.inj h
      cases hl : lst l n with
      | none =>
        rw [hl] at hs
        have e : d = (n, s) := by rw [q, ← hs]; rfl
        refine ⟨by rw [e]; simp, fun x hx hn => ?_⟩
        rcases List.mem_append.1 hx with hx | hx
        · exact absurd hn (lst_none hl x hx)
        · rw [List.mem_singleton.1 hx, e]; exact Int.le_refl _
      | some t =>
        rw [hl] at hs
        obtain ⟨i1, i2⟩ := ih hl
        simp only [lesser] at hs
        by_cases r : d.2 < t
        · rw [if_pos r] at hs
          have e : d = (n, s) := by rw [q, ← hs]
          refine ⟨by rw [e]; simp, fun x hx hn => ?_⟩
          rcases List.mem_append.1 hx with hx | hx
          · have := i2 x hx hn; omega
          · rw [List.mem_singleton.1 hx, e]; exact Int.le_refl _
        · rw [if_neg r] at hs
          refine ⟨List.mem_append_left _ (by rw [← hs]; exact i1), fun x hx hn => ?_⟩
          rcases List.mem_append.1 hx with hx | hx
          · have := i2 x hx hn; omega
          · rw [List.mem_singleton.1 hx]; omega
    · rw [if_neg q] at h
      obtain ⟨i1, i2⟩ := ih h
      refine ⟨List.mem_append_left _ i1, fun x hx hn => ?_⟩
      rcases List.mem_append.1 hx with hx | hx
      · exact i2 x hx hn
      · rw [List.mem_singleton.1 hx] at hn; omega
theorem lst_pos {l : List Dr} (h : Fine l) {n s : Int} (q : lst l n = some s) : Good (n, s) := h _ (lst_some q).1

/-! Told by number. -/
def one (f : Int → Option Int) (k : Nat) : List Dr := match f (k : Int) with
  | none => []
  | some s => [((k : Int), s)]
def told (f : Int → Option Int) : Nat → List Dr
  | 0 => []
  | k + 1 => told f k ++ one f k
def tidy (l : List Dr) : List Dr := told (lst l) 64
def mergeL (a b : List Dr) : List Dr := tidy (tidy a ++ tidy b)
theorem told_len (f : Int → Option Int) (k : Nat) : (told f k).length ≤ k := by
  induction k with
  | zero => exact Nat.le_refl _
  | succ k ih =>
    simp only [told, one, List.length_append]
    split <;> simp <;> omega
theorem told_congr {f g : Int → Option Int} (k : Nat) (h : ∀ n : Int, 0 ≤ n → n < k → f n = g n) : told f k = told g k := by
  induction k with
  | zero => rfl
  | succ k ih =>
    simp only [told, one]
    rw [ih (fun n h1 h2 => h n h1 (by omega)), h (k : Int) (by omega) (by omega)]
theorem lst_told (f : Int → Option Int) (k : Nat) (n : Int) : lst (told f k) n = if 0 ≤ n ∧ n < k then f n else none := by
  induction k with
  | zero => rw [if_neg (by omega)]; rfl
  | succ k ih =>
    simp only [told]
    rw [lst_append, ih]
    have h1 : lst (one f k) n = if n = (k : Int) then f n else none := by
      unfold one
      split
      · rename_i h
        rw [lst_nil]
        split
        · rename_i q; rw [q, h]
        · rfl
      · rename_i s h
        show upd (fun _ => none) ((k : Int), s) n = _
        unfold upd
        by_cases q : n = (k : Int)
        · rw [if_pos q, if_pos q, q, h]; rfl
        · rw [if_neg q, if_neg q]
    rw [h1]
    by_cases q : n = (k : Int)
    · rw [if_neg (by omega), if_pos q, if_pos (by omega)]; rfl
    · rw [if_neg q, omin_none]
      by_cases r : 0 ≤ n ∧ n < k
      · rw [if_pos r, if_pos (by omega)]
      · rw [if_neg r, if_neg (by omega)]
theorem lst_out {l : List Dr} (h : Fine l) {n : Int} (hn : ¬ (0 ≤ n ∧ n < 64)) : lst l n = none := by
  cases q : lst l n with
  | none => rfl
  | some s => have := lst_pos h q; simp only [Good] at this; omega
theorem lst_tidy {l : List Dr} (h : Fine l) (n : Int) : lst (tidy l) n = lst l n := by
  unfold tidy
  rw [lst_told]
  by_cases q : 0 ≤ n ∧ n < ((64 : Nat) : Int)
  · rw [if_pos q]
  · rw [if_neg q, lst_out h (by omega)]
theorem tidy_congr {a b : List Dr} (h : ∀ n, lst a n = lst b n) : tidy a = tidy b := told_congr 64 (fun n _ _ => h n)
theorem told_mem {f : Int → Option Int} {k : Nat} {d : Dr} (h : d ∈ told f k) : 0 ≤ d.1 ∧ d.1 < k ∧ f d.1 = some d.2 := by
  induction k with
  | zero => cases h
  | succ k ih =>
    simp only [told, one] at h
    rcases List.mem_append.1 h with h | h
    · obtain ⟨h1, h2, h3⟩ := ih h; exact ⟨h1, by omega, h3⟩
    · split at h
      · cases h
      · rename_i s q
        rw [List.mem_singleton.1 h]
        exact ⟨by simp, by simp; omega, q⟩
theorem mem_told {f : Int → Option Int} {k : Nat} {n s : Int} (h0 : 0 ≤ n) (h1 : n < k) (h2 : f n = some s) : (n, s) ∈ told f k := by
  induction k with
  | zero => omega
  | succ k ih =>
    simp only [told, one]
    by_cases q : n = (k : Int)
    · subst q
      rw [h2]
      simp
    · exact List.mem_append_left _ (ih (by omega))
theorem tidy_fine {l : List Dr} (h : Fine l) : Fine (tidy l) := by
  intro d hd
  have := told_mem hd
  exact lst_pos h this.2.2
theorem mergeL_eq {a b : List Dr} (ha : Fine a) (hb : Fine b) : mergeL a b = tidy (a ++ b) := by
  unfold mergeL
  refine tidy_congr (fun n => ?_)
  rw [lst_append, lst_append, lst_tidy ha, lst_tidy hb]
theorem told_up (f : Int → Option Int) (k : Nat) : (told f k).Pairwise (fun p q => p.1 < q.1) := by
  induction k with
  | zero => exact List.Pairwise.nil
  | succ k ih =>
    simp only [told]
    refine List.pairwise_append.2 ⟨ih, ?_, fun p hp q hq => ?_⟩
    · unfold one; split <;> simp
    · have h1 := told_mem hp
      unfold one at hq
      split at hq
      · cases hq
      · rw [List.mem_singleton.1 hq]; exact h1.2.1
theorem tidy_len (l : List Dr) : (tidy l).length ≤ 64 := told_len _ _

/-! Merging is the same in any order and any brackets. -/
abbrev mg (a b : List Dr) : List Dr := tidy (a ++ b)
theorem mg_fine {a b : List Dr} (ha : Fine a) (hb : Fine b) : Fine (mg a b) := tidy_fine (ha.append hb)
theorem mg_comm (a b : List Dr) : mg a b = mg b a := tidy_congr (fun n => by rw [lst_append, lst_append, omin_comm])
theorem mg_assoc {a b c : List Dr} (ha : Fine a) (hb : Fine b) (hc : Fine c) : mg (mg a b) c = mg a (mg b c) := tidy_congr (fun n => by
  rw [lst_append, lst_append, lst_tidy (ha.append hb), lst_tidy (hb.append hc), lst_append, lst_append, omin_assoc])
theorem mg_self (a : List Dr) : mg a a = mg a [] := tidy_congr (fun n => by rw [lst_append, lst_append, lst_nil, omin_none, omin_self])
theorem mg_again {a b : List Dr} (ha : Fine a) (hb : Fine b) : mg (mg a b) (mg a b) = mg a b := tidy_congr (fun n => by
  rw [lst_append, lst_tidy (ha.append hb), omin_self])
theorem mg_more {a b : List Dr} (ha : Fine a) (hb : Fine b) : mg (mg a b) a = mg a b := tidy_congr (fun n => by
  rw [lst_append, lst_tidy (ha.append hb), lst_append, omin_comm, ← omin_assoc, omin_self])

/-! The least Since. -/
def low (m : Int) (d : Dr) : Int := min m d.2
def fromL : List Dr → Int
  | [] => 0
  | d :: r => r.foldl low d.2
theorem foldl_low (r : List Dr) (m : Int) : (r.foldl low m = m ∨ ∃ d ∈ r, r.foldl low m = d.2) ∧ r.foldl low m ≤ m ∧ ∀ d ∈ r, r.foldl low m ≤ d.2 := by
  induction r generalizing m with
  | nil => exact ⟨.inl rfl, Int.le_refl _, fun d hd => by cases hd⟩
  | cons x r ih =>
    obtain ⟨h1, h2, h3⟩ := ih (low m x)
    simp only [List.foldl_cons]
    have e : low m x ≤ m ∧ low m x ≤ x.2 ∧ (low m x = m ∨ low m x = x.2) := by unfold low; omega
    refine ⟨?_, by omega, fun d hd => ?_⟩
    · rcases h1 with h1 | ⟨d, hd, h1⟩
      · rcases e.2.2 with q | q
        · exact .inl (by omega)
        · exact .inr ⟨x, by simp, by omega⟩
      · exact .inr ⟨d, List.mem_cons_of_mem _ hd, h1⟩
    · rcases List.mem_cons.1 hd with rfl | hd
      · omega
      · exact h3 d hd
theorem fromL_spec {l : List Dr} (h : l ≠ []) : (∃ d ∈ l, fromL l = d.2) ∧ ∀ d ∈ l, fromL l ≤ d.2 := by
  cases l with
  | nil => exact absurd rfl h
  | cons x r =>
    obtain ⟨h1, h2, h3⟩ := foldl_low r x.2
    simp only [fromL]
    refine ⟨?_, fun d hd => ?_⟩
    · rcases h1 with h1 | ⟨d, hd, h1⟩
      · exact ⟨x, by simp, h1⟩
      · exact ⟨d, List.mem_cons_of_mem _ hd, h1⟩
    · rcases List.mem_cons.1 hd with rfl | hd
      · exact h2
      · exact h3 d hd
theorem fromL_of {l : List Dr} {m : Int} (h1 : ∃ d ∈ l, m = d.2) (h2 : ∀ d ∈ l, m ≤ d.2) : fromL l = m := by
  obtain ⟨d, hd, rfl⟩ := h1
  have hne : l ≠ [] := by intro q; rw [q] at hd; cases hd
  obtain ⟨⟨e, he, q⟩, h4⟩ := fromL_spec hne
  have := h4 d hd
  have := h2 e he
  omega
theorem tidy_from {l : List Dr} (h : Fine l) : fromL (tidy l) = fromL l := by
  by_cases hn : l = []
  · subst hn; rfl
  · obtain ⟨⟨d, hd, q⟩, h4⟩ := fromL_spec hn
    rw [q] at h4 ⊢
    have hin : ∀ e ∈ tidy l, d.2 ≤ e.2 := by
      intro e he
      have := (lst_some (told_mem he).2.2).1
      exact h4 _ this
    refine fromL_of ?_ hin
    cases hs : lst l d.1 with
    | none => exact absurd rfl (lst_none hs d hd)
    | some s =>
      have hm : (d.1, s) ∈ tidy l := mem_told (h d hd).1 (by have := (h d hd).2.1; omega) hs
      refine ⟨(d.1, s), hm, ?_⟩
      have a1 := (lst_some hs).2 d hd rfl
      have a2 := hin _ hm
      simp only at a2 ⊢
      omega
theorem from_append {a b : List Dr} (ha : a ≠ []) (hb : b ≠ []) : fromL (a ++ b) = min (fromL a) (fromL b) := by
  obtain ⟨⟨d, hd, q⟩, h4⟩ := fromL_spec ha
  obtain ⟨⟨e, he, r⟩, h5⟩ := fromL_spec hb
  refine fromL_of ?_ (fun x hx => ?_)
  · by_cases h : d.2 ≤ e.2
    · exact ⟨d, List.mem_append_left _ hd, by omega⟩
    · exact ⟨e, List.mem_append_right _ he, by omega⟩
  · rcases List.mem_append.1 hx with hx | hx
    · have := h4 x hx; omega
    · have := h5 x hx; omega
theorem mg_from {a b : List Dr} (ha : Fine a) (hb : Fine b) : fromL (mg a b) = if a = [] then fromL b else if b = [] then fromL a else min (fromL a) (fromL b) := by
  unfold mg
  rw [tidy_from (ha.append hb)]
  by_cases h1 : a = []
  · subst h1; simp
  · rw [if_neg h1]
    by_cases h2 : b = []
    · subst h2; simp
    · rw [if_neg h2, from_append h1 h2]
end Go.QP
