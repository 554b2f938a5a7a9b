import Derived.Test.YtimakfnlcgedkaaMapE
namespace Go.QR
open Go.QM

/-! The registry in plain numbers: how many pages; the counters with their groups, the groups, as they came. -/
def place : List Int → Int → Option Nat
  | [], _ => none
  | x :: r, n => if x = n then some 0 else (place r n).map (· + 1)
theorem place_push (l : List Int) (x n : Int) : place (l ++ [x]) n = (place l n).or (if x = n then some l.length else none) := by
  induction l with
  | nil => by_cases h : x = n <;> simp [place, h]
  | cons y r ih =>
    simp only [List.cons_append, place]
    by_cases h : y = n
    · simp [h]
    · rw [if_neg h, if_neg h, ih]
      cases place r n <;> by_cases q : x = n <;> simp [q]
theorem place_some {l : List Int} {n : Int} {k : Nat} (h : place l n = some k) : l[k]? = some n := by
  induction l generalizing k with
  | nil => cases h
  | cons y r ih =>
    simp only [place] at h
    by_cases q : y = n
    · rw [if_pos q] at h; cases h; simp [q]
    · rw [if_neg q] at h
      cases hp : place r n with
      | none => rw [hp] at h; cases h
      | some j => rw [hp] at h; simp at h; subst h; simpa using ih hp
theorem place_lt {l : List Int} {n : Int} {k : Nat} (h : place l n = some k) : k < l.length := (List.getElem?_eq_some_iff.1 (place_some h)).1
theorem place_none {l : List Int} {n : Int} : place l n = none ↔ n ∉ l := by
  induction l with
  | nil => simp [place]
  | cons y r ih =>
    simp only [place]
    by_cases q : y = n
    · simp [q]
    · rw [if_neg q]
      simp [ih]
      intro _ e; exact q e.symm
theorem place_mem {l : List Int} {n : Int} (h : n ∈ l) : ∃ k, place l n = some k := by
  cases hp : place l n with
  | none => exact absurd h (place_none.1 hp)
  | some k => exact ⟨k, rfl⟩
theorem place_inj {l : List Int} {a b : Int} {k : Nat} (h1 : place l a = some k) (h2 : place l b = some k) : a = b := by
  have e1 := place_some h1
  have e2 := place_some h2
  rw [e1] at e2
  exact Option.some.inj e2
theorem place_at {l : List Int} (hn : l.Nodup) {k : Nat} (h : k < l.length) : place l l[k] = some k := by
  obtain ⟨j, hj⟩ := place_mem (List.getElem_mem h)
  have e := place_some hj
  obtain ⟨h1, h2⟩ := List.getElem?_eq_some_iff.1 e
  rw [hj]
  have := (List.getElem_inj (h₀ := h1) (h₁ := h) hn).1 h2
  rw [this]

abbrev SlotN := Int × Int
def low (k : Nat) : SlotN := (((k / 31 : Nat) : Int), ((k % 31 : Nat) : Int))
def high (P k : Nat) : SlotN := ((P : Int) - 1 - ((k / 84 : Nat) : Int), ((k % 84 : Nat) : Int))
def needs (n each : Nat) : Nat := (n + each - 1) / each
structure Reg where
  P : Nat
  C : List (Int × Int)
  G : List Int
def Reg.nums (r : Reg) : List Int := r.C.map Prod.fst
def inR (c g : Int) : Bool := !(decide (c < 1) || decide (1048576 < c) || decide (g < 1) || decide (1048576 < g))
/-- The group's place: where it stands, or would. -/
def Reg.gAt (r : Reg) (g : Int) : Nat := (place r.G g).getD r.G.length
def Reg.gMore (r : Reg) (g : Int) : Nat := if (place r.G g).isSome then r.G.length else r.G.length + 1
def Reg.room (r : Reg) (g : Int) : Bool := decide (needs (r.C.length + 1) 31 + needs (r.gMore g) 84 ≤ r.P)
def Reg.planE (r : Reg) (c g : Int) : Int := if inR c g = false then 4 else if (place r.nums c).isSome then 121 else if r.room g then 0 else 6
def Reg.planW (r : Reg) (c g : Int) : SlotN := if r.planE c g = 0 then low r.C.length else (0, 0)
def Reg.planS (r : Reg) (c g : Int) : SlotN := if r.planE c g = 0 then high r.P (r.gAt g) else (0, 0)
def Reg.more (r : Reg) (c g : Int) : Reg := ⟨r.P, r.C ++ [(c, g)], if (place r.G g).isSome then r.G else r.G ++ [g]⟩
def Reg.takeE (r : Reg) (c g : Int) (a b : SlotN) : Int := if r.planE c g = 0 then (if a = r.planW c g ∧ b = r.planS c g then 0 else 83) else r.planE c g
def Reg.take (r : Reg) (c g : Int) (a b : SlotN) : Reg := if r.takeE c g a b = 0 then r.more c g else r
structure Reg.Ok (r : Reg) : Prop where
  two : 2 ≤ r.P
  most : r.P ≤ 64
  nc : r.nums.Nodup
  ng : r.G.Nodup
  grp : ∀ p ∈ r.C, p.2 ∈ r.G
  fits : needs r.C.length 31 + needs r.G.length 84 ≤ r.P
  inn : ∀ p ∈ r.C, 1 ≤ p.1 ∧ p.1 ≤ 1048576 ∧ 1 ≤ p.2 ∧ p.2 ≤ 1048576
  ing : ∀ g ∈ r.G, 1 ≤ g ∧ g ≤ 1048576
theorem Reg.Ok.lens {r : Reg} (h : r.Ok) : r.C.length ≤ 1984 ∧ r.G.length ≤ 5376 := by
  have h1 := h.fits
  have h2 := h.most
  unfold needs at h1
  constructor <;> omega
theorem Reg.Ok.new {P : Nat} (h1 : 2 ≤ P) (h2 : P ≤ 64) : Reg.Ok ⟨P, [], []⟩ :=
  ⟨h1, h2, List.nodup_nil, List.nodup_nil, nofun, by simp [needs], nofun, nofun⟩
theorem planE_cases (r : Reg) (c g : Int) : r.planE c g = 4 ∨ r.planE c g = 121 ∨ r.planE c g = 6 ∨ r.planE c g = 0 := by
  unfold Reg.planE
  split
  · exact .inl rfl
  · split
    · exact .inr (.inl rfl)
    · split
      · exact .inr (.inr (.inr rfl))
      · exact .inr (.inr (.inl rfl))
theorem planE_zero {r : Reg} {c g : Int} (h : r.planE c g = 0) : inR c g = true ∧ place r.nums c = none ∧ r.room g = true := by
  unfold Reg.planE at h
  split at h
  · cases h
  · rename_i h1
    split at h
    · cases h
    · rename_i h2
      split at h
      · rename_i h3
        exact ⟨by simpa using h1, by simpa using h2, h3⟩
      · cases h
theorem Reg.nums_more (r : Reg) (c g : Int) : (r.more c g).nums = r.nums ++ [c] := by simp [Reg.nums, Reg.more]
theorem inR_true {c g : Int} (h : inR c g = true) : 1 ≤ c ∧ c ≤ 1048576 ∧ 1 ≤ g ∧ g ≤ 1048576 := by
  unfold inR at h
  simp at h
  omega
theorem Reg.Ok.more {r : Reg} (h : r.Ok) {c g : Int} (hp : r.planE c g = 0) : (r.more c g).Ok := by
  obtain ⟨h1, h2, h3⟩ := planE_zero hp
  have h1 := inR_true h1
  unfold Reg.room Reg.gMore at h3
  have h3 := of_decide_eq_true h3
  refine ⟨h.two, h.most, ?_, ?_, ?_, ?_, ?_, ?_⟩
  · rw [Reg.nums_more]
    refine List.nodup_append.2 ⟨h.nc, by simp, ?_⟩
    intro a ha b hb
    simp at hb
    subst hb
    intro e
    subst e
    exact place_none.1 h2 ha
  · simp only [Reg.more]
    split
    · exact h.ng
    · rename_i q
      refine List.nodup_append.2 ⟨h.ng, by simp, ?_⟩
      intro a ha b hb
      simp at hb
      subst hb
      intro e
      subst e
      exact place_none.1 (by simpa using q) ha
  · intro p hp
    simp only [Reg.more] at hp ⊢
    rcases List.mem_append.1 hp with hp | hp
    · have := h.grp p hp
      split
      · exact this
      · exact List.mem_append_left _ this
    · simp at hp
      subst hp
      split
      · rename_i q
        exact Classical.not_not.1 (fun hn => by rw [place_none.2 hn] at q; cases q)
      · simp
  · simp only [Reg.more]
    split
    · rename_i q; rw [if_pos q] at h3; simpa using h3
    · rename_i q; rw [if_neg q] at h3; simpa using h3
  · intro p hp
    simp only [Reg.more] at hp
    rcases List.mem_append.1 hp with hp | hp
    · exact h.inn p hp
    · simp at hp; subst hp; exact h1
  · intro x hx
    simp only [Reg.more] at hx
    split at hx
    · exact h.ing x hx
    · rcases List.mem_append.1 hx with hx | hx
      · exact h.ing x hx
      · simp at hx; subst hx; exact ⟨h1.2.2.1, h1.2.2.2⟩
theorem Reg.Ok.take {r : Reg} (h : r.Ok) (c g : Int) (a b : SlotN) : (r.take c g a b).Ok := by
  unfold Reg.take
  split
  · rename_i q
    refine h.more ?_
    unfold Reg.takeE at q
    split at q
    · assumption
    · exact q
  · exact h

/-! What is told of one. -/
def Reg.entry (r : Reg) (c : Int) : Option (SlotN × Int) := (place r.nums c).map (fun k => (low k, (r.C.getD k (0, 0)).2))
def Reg.gslot (r : Reg) (g : Int) : Option SlotN := (place r.G g).map (high r.P)
theorem entry_more {r : Reg} {c g : Int} (hp : r.planE c g = 0) (n : Int) : (r.more c g).entry n = if n = c then some (low r.C.length, g) else r.entry n := by
  obtain ⟨_, h2, _⟩ := planE_zero hp
  unfold Reg.entry
  rw [Reg.nums_more, place_push]
  have hl : r.nums.length = r.C.length := by simp [Reg.nums]
  by_cases q : n = c
  · subst q
    rw [h2, if_pos rfl, if_pos rfl]
    simp [Reg.more, hl]
  · rw [if_neg q, if_neg (fun e => q e.symm)]
    cases hk : place r.nums n with
    | none => simp
    | some k =>
      have hlt := place_lt hk
      rw [hl] at hlt
      simp [Reg.more, List.getElem?_append_left hlt]
theorem gslot_more {r : Reg} (c g : Int) (n : Int) : (r.more c g).gslot n = if n = g then some (high r.P (r.gAt g)) else r.gslot n := by
  unfold Reg.gslot Reg.gAt Reg.more
  simp only
  cases hp : place r.G g with
  | some k =>
    simp only [Option.isSome_some, if_true, Option.getD_some]
    by_cases q : n = g
    · subst q; rw [if_pos rfl, hp]; rfl
    · rw [if_neg q]
  | none =>
    simp only [Option.isSome_none, Bool.false_eq_true, if_false, Option.getD_none]
    rw [place_push]
    by_cases q : n = g
    · subst q; rw [if_pos rfl, hp, if_pos rfl]; rfl
    · rw [if_neg q, if_neg (fun e => q e.symm)]
      cases place r.G n <;> rfl
def Reg.findE (r : Reg) (c : Int) : Int := if (place r.nums c).isSome then 0 else 120
def Reg.findW (r : Reg) (c : Int) : SlotN := ((r.entry c).map Prod.fst).getD (0, 0)
def Reg.findG (r : Reg) (c : Int) : Int := ((r.entry c).map Prod.snd).getD 0
def Reg.findS (r : Reg) (c : Int) : SlotN := match r.entry c with | some p => (r.gslot p.2).getD (0, 0) | none => (0, 0)
def Reg.groupE (r : Reg) (g : Int) : Int := if (place r.G g).isSome then 0 else 122
def Reg.groupS (r : Reg) (g : Int) : SlotN := (r.gslot g).getD (0, 0)
/-- A list, rising. -/
def rise (l : List Int) : List Int := l.mergeSort (fun x y => decide (x ≤ y))
theorem rise_perm (l : List Int) : (rise l).Perm l := List.mergeSort_perm _ _
theorem rise_sorted (l : List Int) : (rise l).Pairwise (fun x y => x ≤ y) := by
  have := List.pairwise_mergeSort (le := fun x y : Int => decide (x ≤ y)) (by simp; omega) (by simp; omega) l
  unfold rise
  simpa using this
theorem sorted_eq {l m : List Int} (h : l.Perm m) (hl : l.Pairwise (· ≤ ·)) (hm : m.Pairwise (· ≤ ·)) : l = m := by
  exact List.Perm.eq_of_pairwise (le := (· ≤ ·)) (fun a b _ _ => Int.le_antisymm) hl hm h
theorem rise_of {l m : List Int} (h : l.Perm m) (hl : l.Pairwise (· ≤ ·)) : l = rise m := sorted_eq (h.trans (rise_perm m).symm) hl (rise_sorted m)
end Go.QR
