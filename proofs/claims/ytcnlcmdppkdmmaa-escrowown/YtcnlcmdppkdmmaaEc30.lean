import Derived.Test.YtcnlcmdppkdmmaaEc18
namespace Go.Proofs.Ytcnlcmdppkdmmaa
open Go.RowKit Go.QK Quota Go.Maps
set_option maxRecDepth 100000

/-! Holders that end, each its way: dn says who has ended, wy whose net was settled. -/
def stF (e : Esc) (dn wy : Int → Bool) : Esc := ⟨e.lo, e.hi, e.base + allS (e.nets.filter (fun p => dn p.1 && wy p.1)), e.nets.filter (fun p => !dn p.1)⟩
theorem split_sum (L : Nets) (dn wy : Int → Bool) : lowS L ≤ allS (L.filter (fun p => dn p.1 && wy p.1)) + lowS (L.filter (fun p => !dn p.1)) ∧ allS (L.filter (fun p => dn p.1 && wy p.1)) + highS (L.filter (fun p => !dn p.1)) ≤ highS L := by
  induction L with
  | nil => simp [sumF]
  | cons p r ih =>
    simp only [List.filter_cons]
    cases h1 : dn p.1 <;> cases h2 : wy p.1 <;> simp only [Bool.false_and, Bool.true_and, Bool.not_false, Bool.not_true, if_true, if_false, lowS, highS, allS, sumF, neg0, pos0, id, Bool.false_eq_true] at * <;> omega
theorem stF_in {e : Esc} (dn wy : Int → Bool) : e.low ≤ (stF e dn wy).low ∧ (stF e dn wy).high ≤ e.high := by
  have := split_sum e.nets dn wy
  unfold stF Esc.low Esc.high
  simp only
  omega
theorem stF_ok {e : Esc} (h : e.Ok) (dn wy : Int → Bool) : (stF e dn wy).Ok := by
  have h1 := stF_in (e := e) dn wy
  have b1 := h.b1
  have b2 := h.b2
  refine ⟨h.i1, h.i2, ?_, ?_, List.Pairwise.filter _ h.rise, fun p hp => h.keys p (List.mem_filter.1 hp).1, fun p hp => h.all p (List.mem_filter.1 hp).1⟩
  · show e.lo ≤ _; omega
  · show _ ≤ e.hi; omega
theorem val_in {e : Esc} : e.low ≤ e.val ∧ e.val ≤ e.high := by
  have := sum_between e.nets (fun _ => true)
  rw [List.filter_eq_self.2 (by simp)] at this
  unfold Esc.low Esc.high Esc.val
  omega
abbrev addK (dn : Int → Bool) (t : Int) : Int → Bool := fun x => dn x || (x == t)

theorem filter_hold (L : Nets) (dn : Int → Bool) (t : Int) (h : dn t = false) : holdB (L.filter (fun p => !dn p.1)) t = holdB L t ∧ netV (L.filter (fun p => !dn p.1)) t = netV L t := by
  induction L with
  | nil => exact ⟨rfl, rfl⟩
  | cons p r ih =>
    simp only [List.filter_cons]
    by_cases e : p.1 = t
    · rw [e, h]
      simp only [Bool.not_false, if_true]
      rw [holdB_cons, holdB_cons, netV_cons, netV_cons]
      simp [e]
    · cases hd : dn p.1
      · simp only [Bool.not_false, if_true]
        rw [holdB_cons, holdB_cons, netV_cons, netV_cons, ih.1, ih.2]
        exact ⟨rfl, rfl⟩
      · simp only [Bool.not_true, Bool.false_eq_true, if_false]
        rw [holdB_cons, netV_cons, ih.1, ih.2]
        simp [e]
theorem filter_gone (L : Nets) (dn : Int → Bool) (t : Int) (h : dn t = true) : holdB (L.filter (fun p => !dn p.1)) t = false := by
  unfold holdB
  rw [List.any_eq_false]
  intro p hp
  have := (List.mem_filter.1 hp).2
  simp at this ⊢
  intro q
  rw [q, h] at this
  cases this
theorem filter_add (L : Nets) (dn : Int → Bool) (t : Int) : delN (L.filter (fun p => !dn p.1)) t = L.filter (fun p => !addK dn t p.1) := by
  unfold delN
  rw [List.filter_filter]
  apply List.filter_congr
  intro p _
  show (!(p.1 == t) && !dn p.1) = !(dn p.1 || (p.1 == t))
  cases dn p.1 <;> cases (p.1 == t) <;> rfl
theorem sum_add {L : Nets} (hr : Rise L) (dn wy : Int → Bool) (t : Int) (h : dn t = false) : allS (L.filter (fun p => addK dn t p.1 && wy p.1)) = allS (L.filter (fun p => dn p.1 && wy p.1)) + if wy t then netV L t else 0 := by
  induction L with
  | nil => simp [sumF, netV]
  | cons p r ih =>
    have ih := ih hr.tail
    simp only [List.filter_cons]
    by_cases e : p.1 = t
    · have hn : netV r t = 0 := netV_none (fun q hq => by have := hr.head q hq; omega)
      rw [netV_cons, if_pos e]
      rw [hn] at ih
      have ea : addK dn t p.1 = true := by unfold addK; simp [e]
      rw [ea, e, h]
      cases hw : wy t
      · rw [hw] at ih
        simpa [hw] using ih
      · rw [hw] at ih
        simp only [Bool.true_and, Bool.false_and, if_true, allS, sumF, id, Bool.false_eq_true, if_false] at *
        omega
    · have ea : addK dn t p.1 = dn p.1 := by unfold addK; simp [e]
      rw [netV_cons, if_neg e, ea]
      cases hd : (dn p.1 && wy p.1)
      · simpa using ih
      · simp only [if_true, allS, sumF, id] at *
        omega
theorem stF_set {e : Esc} (ok : e.Ok) (dn wy : Int → Bool) {t : Int} (h1 : dn t = false) (h2 : holdB e.nets t = true) (hw : wy t = true) : holdB (stF e dn wy).nets t = true ∧ setN (stF e dn wy) t = stF e (addK dn t) wy := by
  obtain ⟨f1, f2⟩ := filter_hold e.nets dn t h1
  have hh : holdB (stF e dn wy).nets t = true := by show holdB (e.nets.filter (fun p => !dn p.1)) t = true; rw [f1, h2]
  refine ⟨hh, ?_⟩
  rw [setN_yes hh]
  have s := sum_add ok.rise dn wy t h1
  rw [hw] at s
  unfold stF
  simp only [f2, filter_add]
  rw [s]
  simp only [if_true]
  congr 1
  omega
theorem stF_rel {e : Esc} (ok : e.Ok) (dn wy : Int → Bool) {t : Int} (h1 : dn t = false) (h2 : holdB e.nets t = true) (hw : wy t = false) : holdB (stF e dn wy).nets t = true ∧ relN (stF e dn wy) t = stF e (addK dn t) wy := by
  obtain ⟨f1, f2⟩ := filter_hold e.nets dn t h1
  have hh : holdB (stF e dn wy).nets t = true := by show holdB (e.nets.filter (fun p => !dn p.1)) t = true; rw [f1, h2]
  refine ⟨hh, ?_⟩
  rw [relN_yes hh]
  have s := sum_add ok.rise dn wy t h1
  rw [hw] at s
  unfold stF
  simp only [filter_add]
  rw [s]
  simp
theorem stF_gone (e : Esc) (dn wy : Int → Bool) (t : Int) : holdB (stF e (addK dn t) wy).nets t = false := filter_gone e.nets (addK dn t) t (by unfold addK; simp)

/-! Who has ended behind i rounds: the keys at the places s 0, s 1, .. -/
def keyAt (L : Nets) (j : Nat) : Int := (L.getD j (0, 0)).1
def dnS (L : Nets) (s : Nat → Nat) (i : Nat) : Int → Bool := fun t => (List.range i).any (fun j => keyAt L (s j) == t)
theorem dnS_succ (L : Nets) (s : Nat → Nat) (i : Nat) : dnS L s (i + 1) = addK (dnS L s i) (keyAt L (s i)) := by
  funext t
  unfold dnS addK
  rw [List.range_succ, List.any_append]
  simp only [List.any_cons, List.any_nil, Bool.or_false]
  congr 1
  rw [Bool.eq_iff_iff]
  simp
  exact ⟨fun h => h.symm, fun h => h.symm⟩
theorem keyAt_eq {L : Nets} {j : Nat} (h : j < L.length) : keyAt L j = L[j].1 := by unfold keyAt; simp [List.getD_eq_getElem?_getD, h]
theorem keyAt_inj {L : Nets} (hr : Rise L) {i j : Nat} (hi : i < L.length) (hj : j < L.length) (h : keyAt L i = keyAt L j) : i = j := by
  rw [keyAt_eq hi, keyAt_eq hj] at h
  rcases Nat.lt_trichotomy i j with q | q | q
  · have := List.pairwise_iff_getElem.1 hr i j hi hj q; omega
  · exact q
  · have := List.pairwise_iff_getElem.1 hr j i hj hi q; omega
theorem dnS_new {L : Nets} (hr : Rise L) {s : Nat → Nat} (hs : ∀ i, i < L.length → s i < L.length) (hin : ∀ i j, i < L.length → j < L.length → s i = s j → i = j) {i : Nat} (hi : i < L.length) : dnS L s i (keyAt L (s i)) = false := by
  unfold dnS
  rw [List.any_eq_false]
  intro j hj
  have hj := List.mem_range.1 hj
  simp
  intro q
  have := hin j i (by omega) hi (keyAt_inj hr (hs j (by omega)) (hs i hi) q)
  omega
theorem dnS_all {L : Nets} {s : Nat → Nat} (hs : ∀ j, j < L.length → ∃ i, i < L.length ∧ s i = j) (p : Int × Int) (hp : p ∈ L) : dnS L s L.length p.1 = true := by
  obtain ⟨j, hj, rfl⟩ := List.getElem_of_mem hp
  obtain ⟨i, hi, hsi⟩ := hs j hj
  unfold dnS
  rw [List.any_eq_true]
  exact ⟨i, List.mem_range.2 hi, by rw [hsi, keyAt_eq hj]; simp⟩
theorem stF_end {e : Esc} {dn wy : Int → Bool} (h : ∀ p ∈ e.nets, dn p.1 = true) : stF e dn wy = ⟨e.lo, e.hi, e.base + allS (e.nets.filter (fun p => wy p.1)), []⟩ := by
  have e1 : e.nets.filter (fun p => !dn p.1) = [] := by
    rw [List.filter_eq_nil_iff]
    intro p hp
    simp [h p hp]
  have e2 : e.nets.filter (fun p => dn p.1 && wy p.1) = e.nets.filter (fun p => wy p.1) := by
    apply List.filter_congr
    intro p hp
    rw [h p hp, Bool.true_and]
  unfold stF
  rw [e1, e2]
/-- Whose net is to be settled: by the place of its key. -/
def wyB (L : Nets) (ws : List Bool) : Int → Bool := fun t => (List.range L.length).any (fun j => keyAt L j == t && ws.getD j false)
theorem wyB_at {L : Nets} (hr : Rise L) (ws : List Bool) {j : Nat} (hj : j < L.length) : wyB L ws (keyAt L j) = ws.getD j false := by
  unfold wyB
  rw [Bool.eq_iff_iff, List.any_eq_true]
  constructor
  · rintro ⟨i, hi, q⟩
    simp only [Bool.and_eq_true, beq_iff_eq] at q
    have := keyAt_inj hr (List.mem_range.1 hi) hj q.1
    rw [← this]
    exact q.2
  · intro h
    exact ⟨j, List.mem_range.2 hj, by simp only [Bool.and_eq_true, beq_iff_eq]; exact ⟨trivial, h⟩⟩
/-- The other order of the places. -/
def turnS (n T i : Nat) : Nat := n - 1 - (i + T) % n
theorem add_mod_cases {n T i : Nat} (hi : i < n) : (i + T) % n = if i + T % n < n then i + T % n else i + T % n - n := by
  have hn : 0 < n := by omega
  have hT := Nat.mod_lt T hn
  rw [Nat.add_mod, Nat.mod_eq_of_lt hi]
  split
  · exact Nat.mod_eq_of_lt (by assumption)
  · rw [Nat.mod_eq_sub_mod (by omega), Nat.mod_eq_of_lt (by omega)]
theorem turnS_lt {n T i : Nat} (hi : i < n) : turnS n T i < n := by unfold turnS; omega
theorem turnS_inj {n T i j : Nat} (hi : i < n) (hj : j < n) (h : turnS n T i = turnS n T j) : i = j := by
  have h1 := Nat.mod_lt (i + T) (show 0 < n by omega)
  have h2 := Nat.mod_lt (j + T) (show 0 < n by omega)
  unfold turnS at h
  have h3 : (i + T) % n = (j + T) % n := by omega
  rw [add_mod_cases hi, add_mod_cases hj] at h3
  have hT := Nat.mod_lt T (show 0 < n by omega)
  split at h3 <;> split at h3 <;> omega
theorem turnS_all {n T j : Nat} (hj : j < n) : ∃ i, i < n ∧ turnS n T i = j := by
  have hT := Nat.mod_lt T (show 0 < n by omega)
  by_cases q : T % n ≤ n - 1 - j
  · refine ⟨n - 1 - j - T % n, by omega, ?_⟩
    unfold turnS
    rw [add_mod_cases (by omega), if_pos (by omega)]
    omega
  · refine ⟨n - 1 - j + n - T % n, by omega, ?_⟩
    unfold turnS
    rw [add_mod_cases (by omega), if_neg (by omega)]
    omega
end Go.Proofs.Ytcnlcmdppkdmmaa
