import Derived.Test.YtoocbpbaieedmaaApK
namespace Go.Proofs.Ytoocbpbaieedmaa
open Go.RowKit Go.QK Quota
/-! THE PLAIN MODEL: pages, records, and what a record does to a page. -/
structure Ctr where
  (id grp lo hi val : Int)
structure Grp where
  (id sum : Int)
structure Pg where
  (num lsn : Int)
  (cs : List Ctr)
  (gs : List Grp)
structure Rc where
  (lsn k tx prev wp wi sp si delta : Int)
  (c : Ctr)
  (x y z : Value)
def chg (k : Int) : Bool := k == 2 || (k == 3 || k == 4)
def ckE (num : Int) (r : Rc) : Int := if chg r.k = false then 70 else if r.lsn < 1 ∨ 2147483647 < r.lsn ∨ r.wp = r.sp then 23 else if num ≠ r.wp ∧ num ≠ r.sp then 82 else 0
def mv (r : Rc) (n : Int) : Int := if r.k = 2 then n + r.c.val else if r.k = 3 then n + r.delta else n - r.delta
def ctrAt (l : List Ctr) (i : Int) : Ctr := l.getD i.toNat ⟨0, 0, 0, 0, 0⟩
def grpAt (l : List Grp) (i : Int) : Grp := l.getD i.toNat ⟨0, 0⟩
abbrev isC (p : Pg) (r : Rc) : Prop := p.gs.length = 0 ∧ (if r.k = 2 then r.wi = p.cs.length ∧ p.cs.length < 31 else 0 ≤ r.wi ∧ r.wi < p.cs.length ∧ (ctrAt p.cs r.wi).id = r.c.id)
abbrev isS (p : Pg) (r : Rc) : Prop := p.cs.length = 0 ∧ (if 0 ≤ r.si ∧ r.si < p.gs.length then (r.k = 2 → (grpAt p.gs r.si).id = r.c.grp) else r.k = 2 ∧ r.si = p.gs.length ∧ p.gs.length < 84)
def putV (l : List Ctr) (i v : Int) : List Ctr := l.set i.toNat ⟨(ctrAt l i).id, (ctrAt l i).grp, (ctrAt l i).lo, (ctrAt l i).hi, v⟩
def putS (l : List Grp) (i v : Int) : List Grp := l.set i.toNat ⟨(grpAt l i).id, v⟩
def grown (l : List Grp) (r : Rc) : List Grp := if r.si = l.length then l ++ [⟨r.c.grp, 0⟩] else l
def ctrE (p : Pg) (r : Rc) : Int := if isC p r then (if r.k = 2 then 0 else fitE (mv r (ctrAt p.cs r.wi).val)) else 83
def ctrP (p : Pg) (r : Rc) : Pg := if r.k = 2 then ⟨p.num, p.lsn, p.cs ++ [r.c], p.gs⟩ else ⟨p.num, p.lsn, putV p.cs r.wi (mv r (ctrAt p.cs r.wi).val), p.gs⟩
def sumE (p : Pg) (r : Rc) : Int := if isS p r then fitE (mv r (grpAt (grown p.gs r) r.si).sum) else 83
def sumP (p : Pg) (r : Rc) : Pg := ⟨p.num, p.lsn, p.cs, putS (grown p.gs r) r.si (mv r (grpAt (grown p.gs r) r.si).sum)⟩
def chgE (p : Pg) (r : Rc) : Int := if p.num = r.wp then ctrE p r else sumE p r
def chgP (p : Pg) (r : Rc) : Pg := if p.num = r.wp then ctrP p r else sumP p r
def doE (p : Pg) (r : Rc) : Int := if ckE p.num r ≠ 0 then ckE p.num r else if r.lsn ≤ p.lsn then 0 else chgE p r
def didB (p : Pg) (r : Rc) : Bool := decide (ckE p.num r = 0 ∧ ¬ r.lsn ≤ p.lsn ∧ chgE p r = 0)
def none_ : Pg := ⟨0, 0, [], []⟩
def setL (p : Pg) (n : Int) : Pg := ⟨p.num, n, p.cs, p.gs⟩
def doP (p : Pg) (r : Rc) : Pg := if doE p r ≠ 0 then none_ else if r.lsn ≤ p.lsn then p else setL (chgP p r) r.lsn

theorem chgP_num (p : Pg) (r : Rc) : (chgP p r).num = p.num := by
  unfold chgP ctrP sumP
  split <;> (try split) <;> rfl
/-- Numbers of 64 bits. -/
structure Rc.Fit (r : Rc) : Prop where
  d : I64 r.delta
  v : I64 r.c.val
structure Pg.Fit (p : Pg) : Prop where
  c : ∀ x ∈ p.cs, I64 x.val
  g : ∀ x ∈ p.gs, I64 x.sum
  lc : p.cs.length ≤ 200
  lg : p.gs.length ≤ 200
theorem none_fit : none_.Fit := ⟨nofun, nofun, by simp [none_], by simp [none_]⟩
theorem fitE_zero {z : Int} : fitE z = 0 ↔ I64 z := by
  unfold fitE
  rw [← fitB_true]
  split <;> simp_all
theorem doE_zero {p : Pg} {r : Rc} (h : doE p r = 0) : ckE p.num r = 0 ∧ (r.lsn ≤ p.lsn ∨ chgE p r = 0) := by
  unfold doE at h
  split at h
  · rename_i h1; exact absurd h h1
  · rename_i h1
    refine ⟨by simpa using h1, ?_⟩
    split at h
    · rename_i h2; exact .inl h2
    · exact .inr h
theorem did_iff {p : Pg} {r : Rc} : didB p r = true ↔ doE p r = 0 ∧ p.lsn < r.lsn := by
  unfold didB
  rw [decide_eq_true_iff]
  constructor
  · rintro ⟨h1, h2, h3⟩
    refine ⟨?_, by omega⟩
    unfold doE
    rw [if_neg (by simpa using h1), if_neg h2]
    exact h3
  · rintro ⟨h1, h2⟩
    obtain ⟨a, b⟩ := doE_zero h1
    refine ⟨a, by omega, ?_⟩
    rcases b with b | b
    · omega
    · exact b
theorem mem_putV {l : List Ctr} {i v : Int} {x : Ctr} (h : x ∈ putV l i v) : x ∈ l ∨ x.val = v := by
  rcases List.mem_or_eq_of_mem_set h with h | h
  · exact .inl h
  · exact .inr (by rw [h])
theorem mem_putS {l : List Grp} {i v : Int} {x : Grp} (h : x ∈ putS l i v) : x ∈ l ∨ x.sum = v := by
  rcases List.mem_or_eq_of_mem_set h with h | h
  · exact .inl h
  · exact .inr (by rw [h])
theorem Pg.Fit.ctr {p : Pg} {r : Rc} (h : p.Fit) (hr : r.Fit) (he : ctrE p r = 0) : (ctrP p r).Fit := by
  unfold ctrE at he
  split at he
  · rename_i hi
    unfold ctrP
    split
    · rename_i hk
      refine ⟨fun x hx => ?_, h.g, ?_, h.lg⟩
      · simp at hx
        rcases hx with hx | rfl
        · exact h.c x hx
        · exact hr.v
      · have := hi.2
        rw [if_pos hk] at this
        simp
        omega
    · rename_i hk
      rw [if_neg hk] at he
      refine ⟨fun x hx => ?_, h.g, by simpa [putV] using h.lc, h.lg⟩
      rcases mem_putV hx with hx | hx
      · exact h.c x hx
      · rw [hx]; exact fitE_zero.1 he
  · cases he
theorem grown_mem {l : List Grp} {r : Rc} {x : Grp} (h : x ∈ grown l r) : x ∈ l ∨ x.sum = 0 := by
  unfold grown at h
  split at h
  · simp at h
    rcases h with h | rfl
    · exact .inl h
    · exact .inr rfl
  · exact .inl h
theorem Pg.Fit.sum {p : Pg} {r : Rc} (h : p.Fit) (he : sumE p r = 0) : (sumP p r).Fit := by
  unfold sumE at he
  split at he
  · rename_i hi
    unfold sumP
    refine ⟨h.c, fun x hx => ?_, h.lc, ?_⟩
    · rcases mem_putS hx with hx | hx
      · rcases grown_mem hx with hx | hx
        · exact h.g x hx
        · rw [hx]; unfold I64; omega
      · rw [hx]; exact fitE_zero.1 he
    · have h2 := hi.2
      have := h.lg
      simp [putS]
      unfold grown
      split at h2
      · rw [if_neg (by omega)]
        exact h.lg
      · rw [if_pos h2.2.1]
        simp
        omega
  · cases he
theorem Pg.Fit.chg {p : Pg} {r : Rc} (h : p.Fit) (hr : r.Fit) (he : chgE p r = 0) : (chgP p r).Fit := by
  unfold chgE at he
  unfold chgP
  split
  · rename_i q
    rw [if_pos q] at he
    exact h.ctr hr he
  · rename_i q
    rw [if_neg q] at he
    exact h.sum he
theorem Pg.Fit.set {p : Pg} (h : p.Fit) (n : Int) : (setL p n).Fit := ⟨h.c, h.g, h.lc, h.lg⟩
theorem Pg.Fit.do_ {p : Pg} {r : Rc} (h : p.Fit) (hr : r.Fit) : (doP p r).Fit := by
  unfold doP
  split
  · exact none_fit
  · rename_i q
    split
    · exact h
    · rename_i q2
      have q' : doE p r = 0 := by simpa using q
      rcases (doE_zero q').2 with e | e
      · exact absurd e q2
      · exact (h.chg hr e).set _
theorem doP_num {p : Pg} {r : Rc} (h : doE p r = 0) : (doP p r).num = p.num := by
  unfold doP
  rw [if_neg (by simpa using h)]
  split
  · rfl
  · exact chgP_num p r
theorem doP_lsn {p : Pg} {r : Rc} (h : doE p r = 0) : r.lsn ≤ (doP p r).lsn ∧ p.lsn ≤ (doP p r).lsn ∧ (didB p r = true → (doP p r).lsn = r.lsn) := by
  unfold doP
  rw [if_neg (by simpa using h)]
  split
  · rename_i q
    refine ⟨q, Int.le_refl _, fun e => ?_⟩
    have := did_iff.1 e
    omega
  · rename_i q
    exact ⟨Int.le_refl _, by show p.lsn ≤ r.lsn; omega, fun _ => rfl⟩
theorem doP_not {p : Pg} {r : Rc} (h : doE p r = 0) (hd : didB p r = false) : doP p r = p := by
  have : ¬ p.lsn < r.lsn := fun q => by rw [did_iff.2 ⟨h, q⟩] at hd; cases hd
  unfold doP
  rw [if_neg (by simpa using h), if_pos (by omega)]
/-- What is no younger does nothing. -/
theorem do_old {p : Pg} {r : Rc} (h : r.lsn ≤ p.lsn) : doE p r = ckE p.num r ∧ didB p r = false ∧ (doE p r = 0 → doP p r = p) := by
  have e : doE p r = ckE p.num r := by
    unfold doE
    by_cases q : ckE p.num r = 0
    · rw [if_neg (by simpa using q), if_pos h, q]
    · rw [if_pos q]
  refine ⟨e, ?_, fun q => ?_⟩
  · cases hd : didB p r with
    | false => rfl
    | true => have := did_iff.1 hd; omega
  · unfold doP
    rw [if_neg (by simpa using q), if_pos h]
theorem did_ok {p : Pg} {r : Rc} (h : doE p r ≠ 0) : didB p r = false := by
  cases hd : didB p r with
  | false => rfl
  | true => exact absurd (did_iff.1 hd).1 h
end Go.Proofs.Ytoocbpbaieedmaa
