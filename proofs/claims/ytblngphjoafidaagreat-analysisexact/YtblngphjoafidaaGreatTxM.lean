import Derived.Test.YtblngphjoafidaaGreatMapE
namespace Go.QT
open Go Go.QM
/-! The table of live transactions in plain numbers. -/
structure Lv where
  tx : Int
  last : Int
  com : Bool
  und : Bool
structure TbM where
  L : List Lv
  next : Int
abbrev Rise (L : List Lv) : Prop := L.Pairwise (fun x y => x.tx < y.tx)
def getT (L : List Lv) (k : Int) : Option Lv := L.find? (fun x => x.tx == k)
def delT (L : List Lv) (k : Int) : List Lv := L.filter (fun x => !(x.tx == k))
def setT (L : List Lv) (v : Lv) : List Lv := L.map (fun x => if x.tx = v.tx then v else x)
def isLsn (n : Int) : Bool := decide (1 ≤ n) && decide (n ≤ 2147483647)
def isNext (n : Int) : Bool := decide (1 ≤ n) && decide (n ≤ 2147483648)
structure Lv.Ok (x : Lv) (next : Int) : Prop where
  tx1 : 1 ≤ x.tx
  tx2 : x.tx < next
  l1 : 1 ≤ x.last
  l2 : x.last ≤ 2147483647
  one : (x.com && x.und) = false
structure TbM.Ok (t : TbM) : Prop where
  n1 : 1 ≤ t.next
  n2 : t.next ≤ 2147483648
  few : t.L.length ≤ 32
  rise : Rise t.L
  each : ∀ x ∈ t.L, x.Ok t.next
def TbM.full (t : TbM) : Bool := decide (32 ≤ t.L.length) || decide (2147483647 < t.next)
def TbM.begun (t : TbM) (lsn : Int) : TbM := ⟨t.L ++ [⟨t.next, lsn, false, false⟩], t.next + 1⟩
def TbM.beginE (t : TbM) (lsn : Int) : Int := if isLsn lsn then (if t.full then 131 else 0) else 4
def TbM.beginN (t : TbM) (lsn : Int) : Int := if t.beginE lsn = 0 then t.next else 0
def TbM.beginT (t : TbM) (lsn : Int) : TbM := if t.beginE lsn = 0 then t.begun lsn else t
def fitsK (k : Int) (x : Lv) : Bool := if k = 4 then x.und else if k = 7 then (x.com || x.und) else !(x.com || x.und)
def gone (k lsn : Int) (x : Lv) : Lv := ⟨x.tx, lsn, x.com || decide (k = 5), x.und || decide (k = 6)⟩
def TbM.chainE (t : TbM) (lsn k tx prev : Int) : Int :=
  match getT t.L tx with
  | none => 130
  | some x => if prev = x.last ∧ x.last < lsn then (if fitsK k x then 0 else 70) else 4
def TbM.nextE (t : TbM) (tx : Int) : Int := if tx = t.next then (if t.full then 131 else 0) else 130
def TbM.noteE (t : TbM) (lsn k tx prev : Int) : Int :=
  if isLsn lsn then
    if k < 1 ∨ 8 < k then 70
    else if k = 2 ∨ k = 8 then 0
    else if k = 1 then t.nextE tx
    else t.chainE lsn k tx prev
  else 4
def TbM.went (t : TbM) (lsn k tx : Int) : TbM :=
  if k = 2 ∨ k = 8 then t
  else if k = 1 then t.begun lsn
  else if k = 7 then ⟨delT t.L tx, t.next⟩
  else match getT t.L tx with
    | none => t
    | some x => ⟨setT t.L (gone k lsn x), t.next⟩
def TbM.noteT (t : TbM) (lsn k tx prev : Int) : TbM := if t.noteE lsn k tx prev = 0 then t.went lsn k tx else t

theorem getT_mem {L : List Lv} {k : Int} {x : Lv} (h : getT L k = some x) : x ∈ L ∧ x.tx = k := ⟨List.mem_of_find?_eq_some h, by simpa using List.find?_some h⟩
theorem getT_none {L : List Lv} {k : Int} (h : getT L k = none) : ∀ x ∈ L, x.tx ≠ k := by
  intro x hx
  have := List.find?_eq_none.1 h x hx
  simpa using this
theorem getT_of {L : List Lv} (h : Rise L) {x : Lv} (hx : x ∈ L) : getT L x.tx = some x := by
  induction L with
  | nil => cases hx
  | cons y r ih =>
    obtain ⟨h1, h2⟩ := List.pairwise_cons.1 h
    unfold getT
    rw [List.find?_cons]
    rcases List.mem_cons.1 hx with rfl | hx
    · simp
    · have := h1 x hx
      have e : (y.tx == x.tx) = false := by simp; omega
      rw [e]
      exact ih h2 hx
theorem Rise.set {L : List Lv} (h : Rise L) (v : Lv) : Rise (setT L v) := by
  unfold setT
  rw [Rise, List.pairwise_map]
  refine h.imp ?_
  intro a b hab
  split
  · split
    · rename_i h1 h2; omega
    · rename_i h1 h2; omega
  · split
    · rename_i h1 h2; omega
    · exact hab
theorem Rise.del {L : List Lv} (h : Rise L) (k : Int) : Rise (delT L k) := List.Pairwise.filter _ h
theorem Rise.snoc {L : List Lv} (h : Rise L) {v : Lv} (hv : ∀ x ∈ L, x.tx < v.tx) : Rise (L ++ [v]) := by
  rw [Rise, List.pairwise_append]
  refine ⟨h, by simp, fun a ha b hb => ?_⟩
  simp at hb
  subst hb
  exact hv a ha
theorem mem_setT {L : List Lv} {v x : Lv} (h : x ∈ setT L v) : x = v ∨ x ∈ L := by
  unfold setT at h
  rw [List.mem_map] at h
  obtain ⟨y, hy, e⟩ := h
  split at e
  · exact .inl e.symm
  · exact .inr (by rw [← e]; exact hy)
theorem Lv.Ok.mono {x : Lv} {n m : Int} (h : x.Ok n) (hm : n ≤ m) : x.Ok m := ⟨h.tx1, by have := h.tx2; omega, h.l1, h.l2, h.one⟩
theorem TbM.Ok.new {n : Int} (h : isNext n = true) : TbM.Ok ⟨[], n⟩ := by
  simp [isNext] at h
  exact ⟨h.1, h.2, by simp, List.Pairwise.nil, fun x hx => by cases hx⟩
theorem TbM.Ok.begun {t : TbM} (h : t.Ok) {lsn : Int} (hl : isLsn lsn = true) (hf : t.full = false) : (t.begun lsn).Ok := by
  simp [TbM.full] at hf
  simp [isLsn] at hl
  have := h.n1
  refine ⟨by show 1 ≤ t.next + 1; omega, by show t.next + 1 ≤ 2147483648; omega, by simp [TbM.begun]; omega, h.rise.snoc (fun x hx => (h.each x hx).tx2), fun x hx => ?_⟩
  have hx : x ∈ t.L ++ [⟨t.next, lsn, false, false⟩] := hx
  rcases List.mem_append.1 hx with hx | hx
  · exact (h.each x hx).mono (by show t.next ≤ t.next + 1; omega)
  · simp at hx
    subst hx
    exact ⟨h.n1, by show t.next < t.next + 1; omega, hl.1, hl.2, rfl⟩
theorem TbM.beginE_ok {t : TbM} {lsn : Int} (h : t.beginE lsn = 0) : isLsn lsn = true ∧ t.full = false := by
  unfold TbM.beginE at h
  cases h1 : isLsn lsn <;> cases h2 : t.full <;> rw [h1, h2] at h <;> simp_all
theorem TbM.Ok.beginT {t : TbM} (h : t.Ok) (lsn : Int) : (t.beginT lsn).Ok := by
  unfold TbM.beginT
  split
  · rename_i e
    obtain ⟨h1, h2⟩ := TbM.beginE_ok e
    exact h.begun h1 h2
  · exact h
theorem TbM.Ok.noteT {t : TbM} (h : t.Ok) (lsn k tx prev : Int) : (t.noteT lsn k tx prev).Ok := by
  unfold TbM.noteT
  split
  · rename_i e
    unfold TbM.noteE at e
    cases h1 : isLsn lsn with
    | false => rw [h1] at e; simp at e
    | true =>
      rw [h1, if_pos rfl] at e
      unfold TbM.went
      by_cases k0 : k < 1 ∨ 8 < k
      · rw [if_pos k0] at e; cases e
      rw [if_neg k0] at e
      by_cases k1 : k = 2 ∨ k = 8
      · rw [if_pos k1]; exact h
      · rw [if_neg k1] at e ⊢
        by_cases k2 : k = 1
        · rw [if_pos k2] at e ⊢
          unfold TbM.nextE at e
          cases hf : t.full with
          | true => rw [hf] at e; split at e <;> simp at e
          | false => exact h.begun h1 hf
        · rw [if_neg k2] at e ⊢
          unfold TbM.chainE at e
          cases hg : getT t.L tx with
          | none => rw [hg] at e; cases e
          | some x =>
            rw [hg] at e
            obtain ⟨hm, -⟩ := getT_mem hg
            have hx := h.each x hm
            by_cases k3 : k = 7
            · rw [if_pos k3]
              exact ⟨h.n1, h.n2, Nat.le_trans (List.length_filter_le _ _) h.few, h.rise.del tx, fun y hy => h.each y (List.mem_filter.1 hy).1⟩
            · rw [if_neg k3]
              refine ⟨h.n1, h.n2, by simpa [setT] using h.few, h.rise.set _, fun y hy => ?_⟩
              rcases mem_setT hy with rfl | hy
              · simp [isLsn] at h1
                refine ⟨hx.tx1, hx.tx2, h1.1, h1.2, ?_⟩
                simp only at e
                split at e
                · unfold fitsK at e
                  have := hx.one
                  unfold gone
                  by_cases k5 : k = 5
                  · subst k5
                    cases hc : x.com <;> cases hu : x.und <;> simp_all
                  · by_cases k6 : k = 6
                    · subst k6
                      cases hc : x.com <;> cases hu : x.und <;> simp_all
                    · simp [k5, k6, this]
                · cases e
              · exact h.each y hy
  · exact h
/-- May these points be a table's? -/
def okFrom (ahead next : Int) : List Lv → Bool
  | [] => true
  | x :: r => decide (ahead < x.tx) && decide (x.tx < next) && isLsn x.last && !(x.com && x.und) && okFrom x.tx next r
def loadOk (L : List Lv) (next : Int) : Bool := isNext next && decide (L.length ≤ 32) && okFrom 0 next L
theorem okFrom_spec {a n : Int} {L : List Lv} (h : okFrom a n L = true) : Rise L ∧ ∀ x ∈ L, a < x.tx ∧ x.tx < n ∧ isLsn x.last = true ∧ (x.com && x.und) = false := by
  induction L generalizing a with
  | nil => exact ⟨List.Pairwise.nil, fun x hx => by cases hx⟩
  | cons y r ih =>
    simp only [okFrom, Bool.and_eq_true, decide_eq_true_eq, Bool.not_eq_true'] at h
    obtain ⟨⟨⟨⟨h1, h2⟩, h3⟩, h4⟩, h5⟩ := h
    obtain ⟨i1, i2⟩ := ih h5
    refine ⟨List.pairwise_cons.2 ⟨fun x hx => (i2 x hx).1, i1⟩, fun x hx => ?_⟩
    rcases List.mem_cons.1 hx with rfl | hx
    · exact ⟨h1, h2, h3, h4⟩
    · have := i2 x hx
      exact ⟨by omega, this.2⟩
theorem TbM.Ok.load {L : List Lv} {n : Int} (h : loadOk L n = true) : TbM.Ok ⟨L, n⟩ := by
  simp only [loadOk, Bool.and_eq_true, decide_eq_true_eq] at h
  obtain ⟨⟨h1, h2⟩, h3⟩ := h
  simp [isNext] at h1
  obtain ⟨i1, i2⟩ := okFrom_spec h3
  refine ⟨h1.1, h1.2, h2, i1, fun x hx => ?_⟩
  obtain ⟨j1, j2, j3, j4⟩ := i2 x hx
  simp [isLsn] at j3
  exact ⟨by omega, j2, j3.1, j3.2, j4⟩
theorem okFrom_of {a n : Int} {L : List Lv} (hr : Rise L) (h : ∀ x ∈ L, x.Ok n) (ha : ∀ x ∈ L, a < x.tx) : okFrom a n L = true := by
  induction L generalizing a with
  | nil => rfl
  | cons y r ih =>
    obtain ⟨h1, h2⟩ := List.pairwise_cons.1 hr
    have hy := h y (by simp)
    have := ha y (by simp)
    have i := ih (a := y.tx) h2 (fun x hx => h x (by simp [hx])) h1
    have := hy.tx2
    have := hy.l1
    have := hy.l2
    simp [okFrom, i, isLsn, hy.one]
    omega
theorem loadOk_of {t : TbM} (h : t.Ok) : loadOk t.L t.next = true := by
  have i := okFrom_of (a := 0) h.rise h.each (fun x hx => by have := (h.each x hx).tx1; omega)
  have := h.n1
  have := h.n2
  have := h.few
  simp [loadOk, isNext, i]
  omega

/-! As a list of pairs. -/
def lvV (x : Lv) : Value := .agg #[.int .i64 x.tx, .int .i64 x.last, .bool x.com, .bool x.und]
abbrev lvC (x : Lv) : List Value := [.int .i64 x.tx, .int .i64 x.last, .bool x.com, .bool x.und]
def prT (L : List Lv) : Prs Value := L.map (fun x => (x.tx, lvV x))
theorem prT_up {L : List Lv} (h : Rise L) : Up (prT L) := by
  unfold prT Up
  rw [List.pairwise_map]
  exact h
theorem getM_prT (L : List Lv) (k : Int) : getM (prT L) k = (getT L k).map lvV := by
  induction L with
  | nil => rfl
  | cons x r ih =>
    unfold prT at ih ⊢
    rw [List.map_cons, getM_cons, ih]
    unfold getT
    rw [List.find?_cons]
    by_cases h : x.tx = k
    · simp [h]
    · have e : (x.tx == k) = false := by simpa using h
      rw [if_neg h, e]
theorem delM_prT (L : List Lv) (k : Int) : delM (prT L) k = prT (delT L k) := by
  unfold delM prT delT
  rw [List.filter_map]
  rfl
theorem putM_snoc {L : List Lv} {v : Lv} (h : ∀ x ∈ L, x.tx < v.tx) : putM v.tx (lvV v) (prT L) = prT (L ++ [v]) := by
  induction L with
  | nil => rfl
  | cons x r ih =>
    have hx := h x (by simp)
    have i := ih (fun y hy => h y (by simp [hy]))
    unfold prT at i ⊢
    simp only [List.map_cons, List.cons_append, putM]
    rw [if_neg (by omega), if_neg (by omega), i]
theorem putM_set {L : List Lv} {v y : Lv} (hr : Rise L) (h : getT L v.tx = some y) : putM v.tx (lvV v) (prT L) = prT (setT L v) := by
  induction L with
  | nil => cases h
  | cons x r ih =>
    obtain ⟨h1, h2⟩ := List.pairwise_cons.1 hr
    unfold prT setT at ih ⊢
    simp only [List.map_cons, putM]
    by_cases e : x.tx = v.tx
    · rw [if_neg (by omega), if_pos e, if_pos e]
      congr 1
      rw [List.map_map]
      apply List.map_congr_left
      intro z hz
      have := h1 z hz
      simp only [Function.comp]
      rw [if_neg (by omega)]
    · have hg : getT r v.tx = some y := by
        unfold getT at h ⊢
        rw [List.find?_cons] at h
        have : (x.tx == v.tx) = false := by simpa using e
        rw [this] at h
        exact h
      have hm := getT_mem hg
      have := h1 y hm.1
      rw [if_neg (by omega), if_neg e, if_neg e, ih h2 hg]
theorem prT_len (L : List Lv) : (prT L).length = L.length := by simp [prT]
end Go.QT
