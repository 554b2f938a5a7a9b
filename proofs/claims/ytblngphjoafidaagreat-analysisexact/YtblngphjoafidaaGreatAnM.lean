import Derived.Test.YtblngphjoafidaaGreatRec
namespace Go.Proofs.YtblngphjoafidaaGreat
open Go.RowKit Go.QK Go.QM Go.QT

/-! The first pass of a restart, in plain numbers. -/
def lvOf (l : LiveM) : Lv := ⟨l.tx, l.last, l.com, l.und⟩
def mlOf (l : Lv) : LiveM := ⟨l.tx, l.last, l.com, l.und⟩
def mark (s : Nat → Int) (p : Int) (l : Int) : Nat → Int := fun i => if (i : Int) = p ∧ s i = 0 then l else s i
def marks (s : Nat → Int) : List DirtyM → Nat → Int
  | [] => s
  | d :: ds => marks (mark s d.page d.since) ds
structure PassM where
  tb : TbM
  pg : Nat → Int
def chg (k : Int) : Bool := decide (k = 2) || decide (k = 3) || decide (k = 4)
def PassM.noteE (p : PassM) (r : RecM) : Int := p.tb.noteE r.lsn r.kind r.tx r.prev
def stepPg (s : Nat → Int) (r : RecM) : Nat → Int := if chg r.kind = true then mark (mark s r.wp r.lsn) r.sp r.lsn else s
def PassM.step (p : PassM) (r : RecM) : PassM := ⟨p.tb.noteT r.lsn r.kind r.tx r.prev, stepPg p.pg r⟩
def goP : PassM → List RecM → Option PassM
  | p, [] => some p
  | p, r :: rs => if p.noteE r = 0 then goP (p.step r) rs else none
def faultE : Int → List RecM → Int
  | _, [] => 0
  | n, r :: rs => if r.lsn = n then (if chkE r = 0 then faultE (n + 1) rs else (chkE r : Int)) else 60
def pass0 : PassM := ⟨⟨[], 1⟩, fun _ => 0⟩
def standP (r : RecM) : PassM := ⟨⟨r.live.map lvOf, r.next⟩, marks (fun _ => 0) r.dirty⟩
structure FoundM where
  live : List Lv
  dirty : List DirtyM
  fr : Int
  next : Int
def toldL (s : Nat → Int) : Nat → List DirtyM
  | 0 => []
  | n + 1 => toldL s n ++ (if s n = 0 then [] else [⟨(n : Int), s n⟩])
def leastL (s : Nat → Int) : Nat → Int
  | 0 => 0
  | n + 1 => if s n ≠ 0 ∧ (leastL s n = 0 ∨ s n < leastL s n) then s n else leastL s n
def PassM.found (p : PassM) : FoundM := ⟨p.tb.L, toldL p.pg 64, leastL p.pg 64, p.tb.next⟩
def zeroF : FoundM := ⟨[], [], 0, 0⟩
def startP (rs : List RecM) (point : Int) : Option PassM :=
  if point = 0 then some pass0
  else if point < 1 ∨ (rs.length : Int) < point then none
  else match rs[(point - 1).toNat]? with
    | some r => if r.kind = 8 then some (standP r) else none
    | none => none
def runO (rs : List RecM) (point : Int) : Option PassM :=
  match startP rs point with
  | some p => goP p (rs.drop point.toNat)
  | none => none
def runE (rs : List RecM) (point : Int) : Int :=
  if faultE 1 rs = 0 then
    match startP rs point with
    | some p => (match goP p (rs.drop point.toNat) with | some _ => 0 | none => 60)
    | none => 4
  else faultE 1 rs
def runF (rs : List RecM) (point : Int) : FoundM :=
  if runE rs point = 0 then (match runO rs point with | some p => p.found | none => zeroF) else zeroF

theorem fromB_iff {a n b : Int} : fromB a n b = true ↔ a ≤ n ∧ n ≤ b := by simp [fromB]
structure GoodR (r : RecM) : Prop where
  k1 : 1 ≤ r.kind
  k8 : r.kind ≤ 8
  ok : okB r = true
theorem chk_zero {r : RecM} (h : chkE r = 0) : GoodR r := by
  unfold chkE at h
  split at h
  · rename_i h1
    split at h
    · rename_i h2
      have := fromB_iff.1 h1
      exact ⟨this.1, this.2, h2⟩
    · cases h
  · cases h
theorem GoodR.chk {r : RecM} (h : GoodR r) : chkE r = 0 := by
  unfold chkE
  rw [if_pos (fromB_iff.2 ⟨h.k1, h.k8⟩), if_pos h.ok]
theorem GoodR.lsn {r : RecM} (h : GoodR r) : 0 ≤ r.lsn ∧ r.lsn ≤ 2147483647 := by
  have := h.ok
  simp only [okB, Bool.and_eq_true] at this
  exact fromB_iff.1 this.1.1.1.1.1.1.1.1
theorem GoodR.tx {r : RecM} (h : GoodR r) : 0 ≤ r.tx ∧ r.tx ≤ 2147483647 ∧ (hTx r.kind = true → 1 ≤ r.tx) ∧ (hTx r.kind = false → r.tx = 0) := by
  have := h.ok
  simp only [okB, Bool.and_eq_true] at this
  have h1 := this.1.1.1.1.1.1.2
  unfold oneB at h1
  cases hq : hTx r.kind with
  | true => rw [hq] at h1; have := fromB_iff.1 h1; exact ⟨by omega, by omega, fun _ => this.1, nofun⟩
  | false => rw [hq] at h1; simp at h1; exact ⟨by omega, by omega, nofun, fun _ => h1⟩
theorem GoodR.pages {r : RecM} (h : GoodR r) (hk : chg r.kind = true) : 0 ≤ r.wp ∧ r.wp ≤ 63 ∧ 0 ≤ r.sp ∧ r.sp ≤ 63 := by
  have := h.ok
  simp only [okB, Bool.and_eq_true] at this
  have h1 := this.1.1.1.1.2
  have hc : hCtr r.kind = true := hk
  rw [hc] at h1
  simp only [slotsB, cond_true, Bool.and_eq_true, slotB] at h1
  have a := fromB_iff.1 h1.1.1.1
  have b := fromB_iff.1 h1.1.2.1
  omega
theorem live_ok {next lsn : Int} {ls : List LiveM} {least : Int} (h : liveB next lsn least ls = true) : okFrom (least - 1) next (ls.map lvOf) = true := by
  induction ls generalizing least with
  | nil => rfl
  | cons l ls ih =>
    simp only [liveB, Bool.and_eq_true] at h
    obtain ⟨⟨⟨h1, h2⟩, h3⟩, h4⟩ := h
    have h1 := fromB_iff.1 h1
    simp only [recB, Bool.and_eq_true] at h2
    have h5 := fromB_iff.1 h2.1
    have i := ih h4
    have e : l.tx + 1 - 1 = l.tx := by omega
    rw [e] at i
    simp only [List.map_cons, okFrom, lvOf, isLsn, Bool.and_eq_true, decide_eq_true_eq]
    refine ⟨⟨⟨⟨by omega, by omega⟩, by omega, by omega⟩, h3⟩, i⟩
structure Dirties (ds : List DirtyM) : Prop where
  each : ∀ d ∈ ds, 0 ≤ d.page ∧ d.page ≤ 63 ∧ 1 ≤ d.since
theorem dirty_ok {lsn least : Int} (hl : 0 ≤ least) {ds : List DirtyM} (h : dirtyB lsn least ds = true) : ∀ d ∈ ds, 0 ≤ d.page ∧ d.page ≤ 63 ∧ 1 ≤ d.since ∧ d.since ≤ 2147483647 := by
  induction ds generalizing least with
  | nil => intro d hd; cases hd
  | cons x ds ih =>
    simp only [dirtyB, Bool.and_eq_true, recB] at h
    obtain ⟨⟨h1, h2⟩, h3⟩ := h
    have h1 := fromB_iff.1 h1
    have h4 := fromB_iff.1 h2.1
    intro d hd
    rcases List.mem_cons.1 hd with rfl | hd
    · omega
    · exact ih (by omega) h3 d hd
structure PtsOk (r : RecM) : Prop where
  load : loadOk (r.live.map lvOf) r.next = true
  dirty : ∀ d ∈ r.dirty, 0 ≤ d.page ∧ d.page ≤ 63 ∧ 1 ≤ d.since ∧ d.since ≤ 2147483647
  few : r.live.length ≤ 32
  less : r.dirty.length ≤ 16
theorem GoodR.pts {r : RecM} (h : GoodR r) (hk : r.kind = 8) : PtsOk r := by
  have := h.ok
  simp only [okB, Bool.and_eq_true] at this
  have h1 := this.2
  have hp : hPts r.kind = true := by simp [hPts, hk]
  rw [hp] at h1
  simp only [pointsB, cond_true, Bool.and_eq_true, decide_eq_true_eq] at h1
  obtain ⟨⟨h2, h3, h4⟩, h5, h6⟩ := h1
  have h2 := fromB_iff.1 h2
  refine ⟨?_, dirty_ok (by omega) h6, h3, h5⟩
  simp only [loadOk, isNext, Bool.and_eq_true, decide_eq_true_eq, List.length_map]
  exact ⟨⟨by omega, h3⟩, by have := live_ok h4; simpa using this⟩
theorem fault_each {n : Int} {rs : List RecM} (h : faultE n rs = 0) (i : Nat) (hi : i < rs.length) : rs[i].lsn = n + i ∧ GoodR rs[i] := by
  induction rs generalizing n i with
  | nil => simp at hi
  | cons r rs ih =>
    unfold faultE at h
    split at h
    · rename_i h1
      split at h
      · rename_i h2
        cases i with
        | zero => exact ⟨by simpa using h1, chk_zero h2⟩
        | succ i =>
          have := ih h i (by simpa using hi)
          refine ⟨?_, this.2⟩
          rw [List.getElem_cons_succ, this.1]
          omega
      · rename_i h2; omega
    · cases h
theorem fault_of {n : Int} {rs : List RecM} (h : ∀ (i : Nat) (hi : i < rs.length), rs[i].lsn = n + i ∧ GoodR rs[i]) : faultE n rs = 0 := by
  induction rs generalizing n with
  | nil => rfl
  | cons r rs ih =>
    have h0 := h 0 (by simp)
    unfold faultE
    rw [if_pos (by simpa using h0.1), if_pos (by have := h0.2.chk; simpa using this)]
    refine ih (fun i hi => ?_)
    have := h (i + 1) (by simpa using hi)
    simp only [List.getElem_cons_succ] at this
    exact ⟨by rw [this.1]; omega, this.2⟩
theorem fault_skip {n : Int} {rs : List RecM} {k : Nat} (h : ∀ (i : Nat) (hi : i < rs.length), i < k → rs[i].lsn = n + i ∧ GoodR rs[i]) (hk : k ≤ rs.length) : faultE n rs = faultE (n + k) (rs.drop k) := by
  induction k generalizing n rs with
  | zero => simp
  | succ k ih =>
    cases rs with
    | nil => simp at hk
    | cons r rs =>
      have h0 := h 0 (by simp) (by omega)
      have e := ih (n := n + 1) (rs := rs) (fun i hi hik => by
        have := h (i + 1) (by simpa using hi) (by omega)
        simp only [List.getElem_cons_succ] at this
        exact ⟨by rw [this.1]; omega, this.2⟩) (by simpa using hk)
      have e0 : faultE n (r :: rs) = faultE (n + 1) rs := by
        show (if r.lsn = n then (if chkE r = 0 then faultE (n + 1) rs else (chkE r : Int)) else 60) = _
        rw [if_pos (by simpa using h0.1), if_pos (by have := h0.2.chk; simpa using this)]
      rw [e0, e]
      have e1 : n + 1 + (k : Int) = n + ((k + 1 : Nat) : Int) := by omega
      rw [e1]
      rfl
theorem cells_lv (L : List LiveM) : liveCs L = rowsC lvC (L.map lvOf) := by
  unfold liveCs rowsC
  rw [List.flatMap_map]
  rfl
theorem cells_ml (L : List Lv) : liveCs (L.map mlOf) = rowsC lvC L := by
  unfold liveCs rowsC
  rw [List.flatMap_map]
  rfl
theorem lv_ml (L : List Lv) : (L.map mlOf).map lvOf = L := by
  rw [List.map_map]
  have : lvOf ∘ mlOf = id := rfl
  rw [this, List.map_id]
theorem ml_lv (L : List LiveM) : (L.map lvOf).map mlOf = L := by
  rw [List.map_map]
  have : mlOf ∘ lvOf = id := rfl
  rw [this, List.map_id]
end Go.Proofs.YtblngphjoafidaaGreat
