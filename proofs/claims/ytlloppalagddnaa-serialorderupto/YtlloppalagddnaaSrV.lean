import Derived.Test.YtlloppalagddnaaSrT
namespace Go.QS
open Go.QM Quota
/-! Counters that may start. -/
structure Cn where
  id : Int
  grp : Int
  lo : Int
  hi : Int
  val : Int
def Cn.set (x : Cn) (v : Int) : Cn := { x with val := v }
def newE (lo hi v : Int) : Int := if hi < lo then 11 else if lo ≤ v ∧ v ≤ hi then 0 else 110
abbrev Cs := Prs Cn
def stE (C : Cs) (x : Cn) : Int := if x.id < 1 ∨ 1048576 < x.id ∨ x.grp < 1 ∨ 1048576 < x.grp then 4 else if (getM C x.id).isSome then 121 else newE x.lo x.hi x.val
def staE : Cs → List Cn → Int
  | _, [] => 0
  | C, x :: r => if stE C x = 0 then staE (putM x.id x C) r else stE C x
def staC : Cs → List Cn → Cs
  | C, [] => C
  | C, x :: r => staC (putM x.id x C) r
def Cn.Ok (x : Cn) : Prop := I64 x.grp ∧ I64 x.lo ∧ I64 x.hi ∧ I64 x.val ∧ I64 x.id
/-- Counters by number, each within its bounds. -/
structure CsOk (C : Cs) : Prop where
  up : Up C
  ids : ∀ p ∈ C, p.2.id = p.1 ∧ 1 ≤ p.1 ∧ p.1 ≤ 1048576
  ok : ∀ p ∈ C, p.2.Ok
  bnd : ∀ p ∈ C, p.2.lo ≤ p.2.val ∧ p.2.val ≤ p.2.hi
theorem CsOk.nil : CsOk [] := ⟨List.Pairwise.nil, (fun p hp => by cases hp), (fun p hp => by cases hp), (fun p hp => by cases hp)⟩
theorem CsOk.put {C : Cs} (h : CsOk C) {x : Cn} (he : stE C x = 0) (hx : x.Ok) : CsOk (putM x.id x C) := by
  unfold stE at he
  split at he
  · cases he
  · rename_i h1
    split at he
    · cases he
    · unfold newE at he
      split at he
      · cases he
      · split at he
        · rename_i h2
          refine ⟨h.up.put _ _, fun p hp => ?_, fun p hp => ?_, fun p hp => ?_⟩
          · rcases mem_putM hp with rfl | q
            · exact ⟨rfl, by simp only; omega, by simp only; omega⟩
            · exact h.ids p q
          · rcases mem_putM hp with rfl | q
            · exact hx
            · exact h.ok p q
          · rcases mem_putM hp with rfl | q
            · exact h2
            · exact h.bnd p q
        · cases he
theorem staE_app (C : Cs) (a b : List Cn) : staE C (a ++ b) = if staE C a = 0 then staE (staC C a) b else staE C a := by
  induction a generalizing C with
  | nil => simp [staE, staC]
  | cons r rs ih =>
    simp only [List.cons_append, staE, staC]
    split
    · exact ih _
    · rfl
theorem staC_app (C : Cs) (a b : List Cn) : staC C (a ++ b) = staC (staC C a) b := by
  induction a generalizing C with
  | nil => rfl
  | cons r rs ih => exact ih _
theorem staE_take {C : Cs} {l : List Cn} (k : Nat) (hk : k < l.length) (h : staE C (l.take k) = 0) : staE C (l.take (k + 1)) = stE (staC C (l.take k)) l[k] := by
  rw [List.take_succ_eq_append_getElem hk, staE_app, if_pos h]
  simp only [staE]
  split
  · rename_i q; exact q.symm
  · rfl
theorem staC_take {C : Cs} {l : List Cn} (k : Nat) (hk : k < l.length) : staC C (l.take (k + 1)) = putM l[k].id l[k] (staC C (l.take k)) := by
  rw [List.take_succ_eq_append_getElem hk, staC_app]
  rfl
theorem staE_stop {C : Cs} {l : List Cn} (k : Nat) (h : staE C (l.take k) ≠ 0) : staE C l = staE C (l.take k) := by
  have e : l = l.take k ++ l.drop k := (List.take_append_drop k l).symm
  conv => lhs; rw [e]
  rw [staE_app, if_neg h]
theorem CsOk.sta {C : Cs} (h : CsOk C) {l : List Cn} (hl : ∀ x ∈ l, x.Ok) (he : staE C l = 0) : CsOk (staC C l) := by
  induction l generalizing C with
  | nil => exact h
  | cons r rs ih =>
    simp only [staE] at he
    split at he
    · rename_i q
      exact ih (h.put q (hl r (by simp))) (fun x hx => hl x (by simp [hx])) he
    · rename_i q
      exact absurd he q
end Go.QS
