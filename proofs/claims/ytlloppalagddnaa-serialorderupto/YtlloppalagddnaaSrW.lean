import Derived.Test.YtlloppalagddnaaSr18
set_option linter.all false
namespace Go.Proofs.Ytlloppalagddnaa
open Go.RowKit Go.QK Quota Go.Maps Go.QM Go.QS
set_option maxRecDepth 100000
/-! Runs as they are handed in. -/
structure RI where
  tx : Int
  a : Option Addr
  c : Nat
  l : List Hn
def riC (r : RI) : List Value := [.int .i64 r.tx, .slice r.a r.l.length r.c]
structure RunsIn (w : World) (a : Option Addr) (rs : List RI) : Prop where
  row : Lies w a (rowsC riC rs)
  nets : ∀ r ∈ rs, Lies w r.a (hns r.l) ∧ ∀ ad, r.a = some ad → ad.block < w.heap.size
  fit : ∀ r ∈ rs, ∀ x ∈ r.l, I64 x.2.1 ∧ I64 x.2.2
theorem RunsIn.below {w w' : World} {a : Option Addr} {rs : List RI} (h : RunsIn w a rs) (k : Below w.heap.size w w') : RunsIn w' a rs :=
  ⟨h.row.below k, fun r hr => ⟨(h.nets r hr).1.below k, fun ad e => Nat.lt_of_lt_of_le ((h.nets r hr).2 ad e) k.size⟩, h.fit⟩
theorem ri_at {w : World} {a : Option Addr} {l : List RI} (h : Lies w a (rowsC riC l)) (k : Nat) (hk : k < l.length) : ∃ b off, a = some ⟨b, off, none⟩ ∧ b < w.heap.size ∧ w.cell? ⟨b, off + k * 2, none⟩ = some (.int .i64 l[k].tx) ∧ w.cell? ⟨b, off + k * 2 + 1, none⟩ = some (.slice l[k].a l[k].l.length l[k].c) := by
  obtain ⟨b, off, e, hb, hc⟩ := Lies.rowAt riC 2 (fun _ => rfl) h k hk (by omega)
  exact ⟨b, off, e, hb, by have := hc 0 _ rfl; rwa [Nat.add_zero] at this, hc 1 _ rfl⟩
/-! Play: one run behind the other. -/
def netsOf (rs : List RI) : List (List Hn) := rs.map RI.l
def pyE : Cs → List (List Hn) → Int
  | _, [] => 0
  | C, l :: r => if plyE C l = 0 then pyE (plyC C l) r else plyE C l
def pyK : Cs → List (List Hn) → Nat
  | _, [] => 0
  | C, l :: r => if plyE C l = 0 then (if pyE (plyC C l) r = 0 then 0 else pyK (plyC C l) r + 1) else 0
def pyC : Cs → List (List Hn) → Cs
  | C, [] => C
  | C, l :: r => pyC (plyC C l) r
theorem pyE_app (C : Cs) (a b : List (List Hn)) : pyE C (a ++ b) = if pyE C a = 0 then pyE (pyC C a) b else pyE C a := by
  induction a generalizing C with
  | nil => simp [pyE, pyC]
  | cons r rs ih =>
    simp only [List.cons_append, pyE, pyC]
    split
    · exact ih _
    · rfl
theorem pyC_app (C : Cs) (a b : List (List Hn)) : pyC C (a ++ b) = pyC (pyC C a) b := by
  induction a generalizing C with
  | nil => rfl
  | cons r rs ih => exact ih _
theorem pyE_take {C : Cs} {l : List (List Hn)} (k : Nat) (hk : k < l.length) (h : pyE C (l.take k) = 0) : pyE C (l.take (k + 1)) = plyE (pyC C (l.take k)) l[k] := by
  rw [List.take_succ_eq_append_getElem hk, pyE_app, if_pos h]
  simp only [pyE]
  split
  · rename_i q; exact q.symm
  · rfl
theorem pyC_take {C : Cs} {l : List (List Hn)} (k : Nat) (hk : k < l.length) : pyC C (l.take (k + 1)) = plyC (pyC C (l.take k)) l[k] := by
  rw [List.take_succ_eq_append_getElem hk, pyC_app]
  rfl
theorem pyE_stop {C : Cs} {l : List (List Hn)} (k : Nat) (h : pyE C (l.take k) ≠ 0) : pyE C l = pyE C (l.take k) := by
  have e : l = l.take k ++ l.drop k := (List.take_append_drop k l).symm
  conv => lhs; rw [e]
  rw [pyE_app, if_neg h]
theorem pyK_stop {C : Cs} {l : List (List Hn)} (k : Nat) (hk : k < l.length) (h : pyE C (l.take k) = 0) (h2 : plyE (pyC C (l.take k)) l[k] ≠ 0) : pyK C l = k := by
  induction l generalizing C k with
  | nil => simp at hk
  | cons r rs ih =>
    cases k with
    | zero =>
      simp only [List.take_zero, pyC, List.getElem_cons_zero] at h2
      simp only [pyK]
      rw [if_neg h2]
    | succ k =>
      have hk' : k < rs.length := by simpa using hk
      simp only [List.take_succ_cons, pyE, pyC, List.getElem_cons_succ] at h h2
      split at h
      · rename_i q
        simp only [pyK]
        rw [if_pos q, ih k hk' h h2, if_neg]
        have := pyE_stop (C := plyC C r) (l := rs) (k + 1) (by rw [pyE_take k hk' h]; exact h2)
        rw [this, pyE_take k hk' h]
        exact h2
      · rename_i q
        exact absurd h q
theorem plyE_ok {C : Cs} {l : List Hn} (h : plyE C l = 0) : C.all (inC (fun k => isum (dl l k))) = true := by
  unfold plyE at h
  split at h
  · split at h
    · assumption
    · cases h
  · cases h
theorem pyC_ok {C : Cs} (hC : CsOk C) {l : List (List Hn)} (h : pyE C l = 0) : CsOk (pyC C l) := by
  induction l generalizing C with
  | nil => exact hC
  | cons r rs ih =>
    simp only [pyE] at h
    split at h
    · rename_i q
      exact ih (CsOk.add hC (plyE_ok q)) h
    · rename_i q
      exact absurd h q
/-! Values: all runs as if they were one. -/
def vaE (C : Cs) (rs : List (List Hn)) : Int := if thereB C rs.flatten then (if C.all (fun p => fitB (p.2.val + isum (dl rs.flatten p.1))) then 0 else 10) else 120
def vaC (C : Cs) (rs : List (List Hn)) : Cs := addC C (fun k => isum (dl rs.flatten k))
def pyErr (l : List Cn) (rs : List (List Hn)) : Int := if staE [] l = 0 then pyE (staC [] l) rs else staE [] l
def pyAt (l : List Cn) (rs : List (List Hn)) : Nat := if staE [] l = 0 then pyK (staC [] l) rs else 0
def pyL (l : List Cn) (rs : List (List Hn)) : List Cn := if pyErr l rs = 0 then cnL (pyC (staC [] l) rs) else []
def vaErr (l : List Cn) (rs : List (List Hn)) : Int := if staE [] l = 0 then vaE (staC [] l) rs else staE [] l
def vaL (l : List Cn) (rs : List (List Hn)) : List Cn := if vaErr l rs = 0 then cnL (vaC (staC [] l) rs) else []
end Go.Proofs.Ytlloppalagddnaa
