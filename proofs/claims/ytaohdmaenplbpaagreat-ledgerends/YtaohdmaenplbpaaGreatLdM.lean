import Derived.Test.YtaohdmaenplbpaaGreatEc10
import Derived.Test.YtaohdmaenplbpaaGreatMapE
set_option linter.all false
namespace Go.Proofs.YtaohdmaenplbpaaGreat
open Go.RowKit Go.QK Quota Go.Maps Go.QM
set_option maxRecDepth 100000

/-! The ledger in plain numbers: the counters by number, each with its group and its escrow. -/
structure Ctr where
  grp : Int
  e : Esc
abbrev Ctrs := Prs Ctr
/-- A group's sum, the least and the greatest that may come of it. -/
def sumG (C : Ctrs) (g : Int) : Int := sumM (fun p => if p.2.grp = g then p.2.e.val else 0) C
def lowG (C : Ctrs) (g : Int) : Int := sumM (fun p => if p.2.grp = g then p.2.e.low else 0) C
def highG (C : Ctrs) (g : Int) : Int := sumM (fun p => if p.2.grp = g then p.2.e.high else 0) C
def thereG (C : Ctrs) (g : Int) : Bool := C.any (fun p => decide (p.2.grp = g))
structure LOk (C : Ctrs) : Prop where
  up : Up C
  all : ∀ p ∈ C, p.2.e.Ok
  ids : ∀ p ∈ C, (1 ≤ p.1 ∧ p.1 ≤ 1048576) ∧ 1 ≤ p.2.grp ∧ p.2.grp ≤ 1048576
  lo : ∀ g, I64 (lowG C g)
  hi : ∀ g, I64 (highG C g)

theorem val_in2 {e : Esc} : e.low ≤ e.val ∧ e.val ≤ e.high := by
  have := sum_between e.nets (fun _ => true)
  rw [List.filter_eq_self.2 (by simp)] at this
  unfold Esc.low Esc.high Esc.val
  omega
theorem sumM_le {α : Type} {L : Prs α} {f g : Int × α → Int} (h : ∀ p ∈ L, f p ≤ g p) : sumM f L ≤ sumM g L := by
  induction L with
  | nil => exact Int.le_refl _
  | cons p r ih =>
    have h1 := h p List.mem_cons_self
    have h2 := ih (fun q hq => h q (List.mem_cons_of_mem _ hq))
    simp only [sumM]
    omega
theorem sumG_in (C : Ctrs) (g : Int) : lowG C g ≤ sumG C g ∧ sumG C g ≤ highG C g := by
  constructor
  · exact sumM_le (fun p _ => by split; exact val_in2.1; exact Int.le_refl _)
  · exact sumM_le (fun p _ => by split; exact val_in2.2; exact Int.le_refl _)
/-- A counter's escrow turns: the groups' three numbers. -/
theorem sumM_turn {C : Ctrs} (hu : Up C) {id : Int} {c : Ctr} (hc : getM C id = some c) (e' : Esc) (F : Esc → Int) (g : Int) :
    sumM (fun p : Int × Ctr => if p.2.grp = g then F p.2.e else 0) (putM id ⟨c.grp, e'⟩ C) = sumM (fun p : Int × Ctr => if p.2.grp = g then F p.2.e else 0) C + if c.grp = g then F e' - F c.e else 0 := by
  rw [sumM_put _ hu, hc]
  simp only
  split <;> omega
theorem turn_sum {C : Ctrs} (hu : Up C) {id : Int} {c : Ctr} (hc : getM C id = some c) (e' : Esc) (g : Int) : sumG (putM id ⟨c.grp, e'⟩ C) g = sumG C g + if c.grp = g then e'.val - c.e.val else 0 := sumM_turn hu hc e' Esc.val g
theorem turn_low {C : Ctrs} (hu : Up C) {id : Int} {c : Ctr} (hc : getM C id = some c) (e' : Esc) (g : Int) : lowG (putM id ⟨c.grp, e'⟩ C) g = lowG C g + if c.grp = g then e'.low - c.e.low else 0 := sumM_turn hu hc e' Esc.low g
theorem turn_high {C : Ctrs} (hu : Up C) {id : Int} {c : Ctr} (hc : getM C id = some c) (e' : Esc) (g : Int) : highG (putM id ⟨c.grp, e'⟩ C) g = highG C g + if c.grp = g then e'.high - c.e.high else 0 := sumM_turn hu hc e' Esc.high g
/-- A new counter. -/
theorem new_sum {C : Ctrs} (hu : Up C) {id : Int} (hn : getM C id = none) (c : Ctr) (g : Int) : sumG (putM id c C) g = sumG C g + (if c.grp = g then c.e.val else 0) ∧ lowG (putM id c C) g = lowG C g + (if c.grp = g then c.e.low else 0) ∧ highG (putM id c C) g = highG C g + (if c.grp = g then c.e.high else 0) := by
  unfold sumG lowG highG
  rw [sumM_put _ hu, sumM_put _ hu, sumM_put _ hu, hn]
  simp only
  refine ⟨by omega, by omega, by omega⟩

/-! What a net does to the three numbers of its escrow. -/
theorem allS_put {L : Nets} (h : Rise L) (k v : Int) : allS (putN k v L) = allS L - netV L k + v := sumF_put id rfl k v h
theorem allS_del {L : Nets} (h : Rise L) (k : Int) : allS (delN L k) = allS L - netV L k := sumF_del id rfl k h
theorem add_val {e : Esc} (ok : e.Ok) {tx d : Int} (h : mayE e tx d = 0) : (addN e tx d).val = e.val + d := by
  rw [addN_yes h]
  unfold Esc.val
  simp only
  rw [allS_put ok.rise]
  omega
theorem set_val {e : Esc} (ok : e.Ok) (tx : Int) : (setN e tx).val = e.val := by
  cases q : holdB e.nets tx
  · rw [setN_no q]
  · rw [setN_yes q]
    unfold Esc.val
    simp only
    rw [allS_del ok.rise]
    omega
theorem rel_val {e : Esc} (ok : e.Ok) {tx : Int} (q : holdB e.nets tx = true) : (relN e tx).val = e.val - netV e.nets tx := by
  rw [relN_yes q]
  unfold Esc.val
  simp only
  rw [allS_del ok.rise]
  omega
/-- Without a net the worst case lies within the one with it: so what is reckoned on the way fits. -/
theorem without_in (C : Ctrs) {id : Int} {c : Ctr} (hu : Up C) (hc : getM C id = some c) (ok : c.e.Ok) (tx : Int) :
    lowG C c.grp ≤ lowG C c.grp - neg0 (netV c.e.nets tx) ∧ lowG C c.grp - neg0 (netV c.e.nets tx) ≤ highG C c.grp - pos0 (netV c.e.nets tx) ∧ highG C c.grp - pos0 (netV c.e.nets tx) ≤ highG C c.grp := by
  have n1 : neg0 (netV c.e.nets tx) ≤ 0 := by unfold neg0; omega
  have n2 : 0 ≤ pos0 (netV c.e.nets tx) := by unfold pos0; omega
  refine ⟨by omega, ?_, by omega⟩
  have ho := (ok.others tx).2.2
  -- the counter's escrow, turned to one whose ends are those without the net
  have t1 := turn_low hu hc (relN c.e tx) c.grp
  have t2 := turn_high hu hc (relN c.e tx) c.grp
  rw [if_pos rfl] at t1 t2
  have key : (relN c.e tx).low = c.e.low - neg0 (netV c.e.nets tx) ∧ (relN c.e tx).high = c.e.high - pos0 (netV c.e.nets tx) := by
    cases q : holdB c.e.nets tx
    · have e0 : netV c.e.nets tx = 0 := netV_none (holdB_false q)
      rw [relN_no q, e0]
      simp [neg0, pos0]
    · exact relN_low ok q
  have hb := sumG_in (putM id ⟨c.grp, relN c.e tx⟩ C) c.grp
  rw [t1, t2, key.1, key.2] at hb
  omega

/-! The answers. -/
def mayL (C : Ctrs) (tx id d : Int) : Int :=
  if tx < 1 ∨ 2147483647 < tx then 130 else
  match getM C id with
  | none => 120
  | some c => if mayE c.e tx d = 0 then (if fitB (lowG C c.grp + mLow c.e tx d - c.e.low) && fitB (highG C c.grp + mHigh c.e tx d - c.e.high) then 0 else 10) else mayE c.e tx d
def addL (C : Ctrs) (tx id d : Int) : Ctrs :=
  match getM C id with
  | none => C
  | some c => if mayL C tx id d = 0 then putM id ⟨c.grp, addN c.e tx d⟩ C else C

theorem LOk.turn {C : Ctrs} (h : LOk C) {id : Int} {c : Ctr} (hc : getM C id = some c) {e' : Esc} (ok : e'.Ok) (h1 : I64 (lowG C c.grp + e'.low - c.e.low)) (h2 : I64 (highG C c.grp + e'.high - c.e.high)) : LOk (putM id ⟨c.grp, e'⟩ C) := by
  have hm := getM_mem hc
  refine ⟨h.up.put _ _, fun p hp => ?_, fun p hp => ?_, fun g => ?_, fun g => ?_⟩
  · rcases mem_putM hp with rfl | q
    · exact ok
    · exact h.all p q
  · rcases mem_putM hp with rfl | q
    · exact h.ids (id, c) hm
    · exact h.ids p q
  · rw [turn_low h.up hc]
    split
    · rename_i q
      rw [← q]
      unfold I64 at h1 ⊢
      omega
    · have := h.lo g; unfold I64 at this ⊢; omega
  · rw [turn_high h.up hc]
    split
    · rename_i q
      rw [← q]
      unfold I64 at h2 ⊢
      omega
    · have := h.hi g; unfold I64 at this ⊢; omega
theorem mayL_zero {C : Ctrs} {tx id d : Int} {c : Ctr} (hc : getM C id = some c) (h : mayL C tx id d = 0) : mayE c.e tx d = 0 ∧ I64 (lowG C c.grp + mLow c.e tx d - c.e.low) ∧ I64 (highG C c.grp + mHigh c.e tx d - c.e.high) := by
  unfold mayL at h
  split at h
  · cases h
  · rw [hc] at h
    simp only at h
    split at h
    · rename_i h0
      split at h
      · rename_i h1
        rw [Bool.and_eq_true] at h1
        exact ⟨h0, fitB_true.1 h1.1, fitB_true.1 h1.2⟩
      · cases h
    · rename_i h0
      exact absurd h h0
theorem addL_ok {C : Ctrs} (h : LOk C) (tx id d : Int) : LOk (addL C tx id d) := by
  unfold addL
  cases hc : getM C id with
  | none => exact h
  | some c =>
    simp only
    split
    · rename_i h0
      obtain ⟨h1, h2, h3⟩ := mayL_zero hc h0
      have ok := h.all _ (getM_mem hc)
      obtain ⟨l1, l2⟩ := addN_low ok h1
      exact h.turn hc (addN_ok ok tx d) (by rw [l1]; exact h2) (by rw [l2]; exact h3)
    · exact h
theorem LOk.shrink {C : Ctrs} (h : LOk C) {id : Int} {c : Ctr} (hc : getM C id = some c) {e' : Esc} (ok : e'.Ok) (h1 : c.e.low ≤ e'.low) (h2 : e'.high ≤ c.e.high) : LOk (putM id ⟨c.grp, e'⟩ C) := by
  have b := sumG_in (putM id ⟨c.grp, e'⟩ C) c.grp
  rw [turn_low h.up hc, turn_high h.up hc, if_pos rfl, if_pos rfl] at b
  have a1 := h.lo c.grp
  have a2 := h.hi c.grp
  refine h.turn hc ok ?_ ?_ <;> unfold I64 at a1 a2 ⊢ <;> omega
theorem settle_in {e : Esc} (ok : e.Ok) (tx : Int) : e.low ≤ (setN e tx).low ∧ (setN e tx).high ≤ e.high := by
  cases q : holdB e.nets tx
  · rw [setN_no q]; exact ⟨Int.le_refl _, Int.le_refl _⟩
  · obtain ⟨a, b⟩ := setN_low ok q
    rw [a, b]
    unfold pos0 neg0
    omega
theorem release_in {e : Esc} (ok : e.Ok) (tx : Int) : e.low ≤ (relN e tx).low ∧ (relN e tx).high ≤ e.high := by
  cases q : holdB e.nets tx
  · rw [relN_no q]; exact ⟨Int.le_refl _, Int.le_refl _⟩
  · obtain ⟨a, b⟩ := relN_low ok q
    rw [a, b]
    unfold pos0 neg0
    omega
theorem LOk.settle {C : Ctrs} (h : LOk C) {id : Int} {c : Ctr} (hc : getM C id = some c) (tx : Int) : LOk (putM id ⟨c.grp, setN c.e tx⟩ C) := by
  have ok := h.all _ (getM_mem hc)
  exact h.shrink hc (setN_ok ok tx) (settle_in ok tx).1 (settle_in ok tx).2
theorem LOk.release {C : Ctrs} (h : LOk C) {id : Int} {c : Ctr} (hc : getM C id = some c) (tx : Int) : LOk (putM id ⟨c.grp, relN c.e tx⟩ C) := by
  have ok := h.all _ (getM_mem hc)
  exact h.shrink hc (relN_ok ok tx) (release_in ok tx).1 (release_in ok tx).2
/-- A counter that is made. -/
def newL (C : Ctrs) (id grp lo hi v : Int) : Int :=
  if id < 1 ∨ 1048576 < id ∨ grp < 1 ∨ 1048576 < grp then 4 else
  if hasM C id then 121 else
  if newE lo hi v = 0 then (if fitB (lowG C grp + v) && fitB (highG C grp + v) then 0 else 10) else newE lo hi v
def makeL (C : Ctrs) (id grp lo hi v : Int) : Ctrs := if newL C id grp lo hi v = 0 then putM id ⟨grp, ⟨lo, hi, v, []⟩⟩ C else C
theorem empty_esc (lo hi v : Int) : (⟨lo, hi, v, []⟩ : Esc).low = v ∧ (⟨lo, hi, v, []⟩ : Esc).high = v ∧ (⟨lo, hi, v, []⟩ : Esc).val = v := by
  unfold Esc.low Esc.high Esc.val
  simp [sumF]
theorem LOk.empty : LOk [] := ⟨List.Pairwise.nil, nofun, nofun, fun g => by unfold lowG sumM I64; omega, fun g => by unfold highG sumM I64; omega⟩
theorem LOk.new {C : Ctrs} (h : LOk C) {id grp lo hi v : Int} (i1 : I64 lo) (i2 : I64 hi) : LOk (makeL C id grp lo hi v) := by
  unfold makeL
  split
  · rename_i h0
    unfold newL at h0
    split at h0
    · cases h0
    · rename_i hp
      split at h0
      · cases h0
      · rename_i ht
        split at h0
        · rename_i hn
          split at h0
          · rename_i hf
            rw [Bool.and_eq_true] at hf
            have f1 := fitB_true.1 hf.1
            have f2 := fitB_true.1 hf.2
            have hg : getM C id = none := by
              rw [hasM_get] at ht
              simpa using ht
            have ns := fun g => new_sum h.up hg ⟨grp, ⟨lo, hi, v, []⟩⟩ g
            obtain ⟨e1, e2, _⟩ := empty_esc lo hi v
            refine ⟨h.up.put _ _, fun p hp => ?_, fun p hp => ?_, fun g => ?_, fun g => ?_⟩
            · rcases mem_putM hp with rfl | q
              · exact new_ok hn i1 i2
              · exact h.all p q
            · rcases mem_putM hp with rfl | q
              · simp only; omega
              · exact h.ids p q
            · rw [(ns g).2.1, e1]
              split
              · rename_i q
                simp only at q
                rw [← q]; exact f1
              · rw [Int.add_zero]; exact h.lo g
            · rw [(ns g).2.2, e2]
              split
              · rename_i q
                simp only at q
                rw [← q]; exact f2
              · rw [Int.add_zero]; exact h.hi g
          · cases h0
        · rename_i hn
          exact absurd h0 hn
  · exact h
/-- Lists that rise and tell the same are the same. -/
theorem up_ext {α : Type} {L M : Prs α} (h1 : Up L) (h2 : Up M) (h : ∀ k, getM L k = getM M k) : L = M := by
  induction L generalizing M with
  | nil =>
    cases M with
    | nil => rfl
    | cons q s =>
      have := h q.1
      rw [getM_cons, if_pos rfl] at this
      simp [getM] at this
  | cons p r ih =>
    cases M with
    | nil =>
      have := h p.1
      rw [getM_cons, if_pos rfl] at this
      simp [getM] at this
    | cons q s =>
      have hp := h p.1
      have hq := h q.1
      rw [getM_cons, if_pos rfl, getM_cons] at hp
      rw [getM_cons, getM_cons, if_pos rfl] at hq
      have e1 : p.1 = q.1 := by
        by_cases e : q.1 = p.1
        · exact e.symm
        · rw [if_neg e] at hp
          rw [if_neg (fun r => e r.symm)] at hq
          have a1 := h2.head _ (getM_mem hp.symm)
          have a2 := h1.head _ (getM_mem hq)
          simp at a1 a2
          omega
      rw [if_pos e1.symm] at hp
      have e2 : p = q := by
        obtain ⟨a, b⟩ := p
        obtain ⟨c, d⟩ := q
        simp at e1 hp
        rw [e1, hp]
      subst e2
      congr 1
      refine ih h1.tail h2.tail (fun k => ?_)
      have hk := h k
      rw [getM_cons, getM_cons] at hk
      by_cases e : p.1 = k
      · have n1 : getM r k = none := getM_none (fun x hx => by have := h1.head x hx; omega)
        have n2 : getM s k = none := getM_none (fun x hx => by have := h2.head x hx; omega)
        rw [n1, n2]
      · rw [if_neg e, if_neg e] at hk
        exact hk
/-- A transaction ends: at every counter, or at those of a list, one behind the other. -/
def endL (one : Esc → Int → Esc) (C : Ctrs) (tx : Int) : Ctrs := C.map (fun p => (p.1, ⟨p.2.grp, one p.2.e tx⟩))
def endIds (one : Esc → Int → Esc) (tx : Int) (C : Ctrs) (ids : List Int) : Ctrs := ids.foldl (fun C id => match getM C id with | some c => putM id ⟨c.grp, one c.e tx⟩ C | none => C) C
theorem getM_map {α β : Type} (f : α → β) (L : Prs α) (k : Int) : getM (L.map (fun p => (p.1, f p.2))) k = (getM L k).map f := by
  induction L with
  | nil => rfl
  | cons p r ih =>
    rw [List.map_cons, getM_cons, getM_cons, ih]
    split <;> rfl
theorem endIds_get (one : Esc → Int → Esc) (tx : Int) {C : Ctrs} (hu : Up C) {ids : List Int} (hn : ids.Nodup) : Up (endIds one tx C ids) ∧ ∀ k, getM (endIds one tx C ids) k = (getM C k).map (fun c => if k ∈ ids then ⟨c.grp, one c.e tx⟩ else c) := by
  induction ids generalizing C with
  | nil => exact ⟨hu, fun k => by simp [endIds]⟩
  | cons i r ih =>
    have hn' := List.nodup_cons.1 hn
    unfold endIds
    rw [List.foldl_cons]
    cases hc : getM C i with
    | none =>
      simp only
      obtain ⟨a, b⟩ := ih hu hn'.2
      refine ⟨a, fun k => (b k).trans ?_⟩
      by_cases e : k = i
      · rw [e, hc]; rfl
      · cases getM C k with
        | none => rfl
        | some c => simp [e]
    | some c =>
      simp only
      obtain ⟨a, b⟩ := ih (hu.put i ⟨c.grp, one c.e tx⟩) hn'.2
      refine ⟨a, fun k => (b k).trans ?_⟩
      rw [getM_put hu]
      by_cases e : k = i
      · subst e
        rw [if_pos rfl, hc]
        simp [hn'.1]
      · rw [if_neg e]
        cases getM C k with
        | none => rfl
        | some c => simp [e]
theorem endIds_all (one : Esc → Int → Esc) (tx : Int) (h1 : ∀ e, holdB e.nets tx = false → one e tx = e) {C : Ctrs} (hu : Up C) {ids : List Int} (hn : ids.Nodup) (hall : ∀ p ∈ C, holdB p.2.e.nets tx = true → p.1 ∈ ids) : endIds one tx C ids = endL one C tx := by
  obtain ⟨a, b⟩ := endIds_get one tx hu hn
  refine up_ext a ?_ (fun k => ?_)
  · unfold endL Up
    rw [List.pairwise_map]
    exact hu
  · rw [b]
    unfold endL
    rw [getM_map (fun c : Ctr => (⟨c.grp, one c.e tx⟩ : Ctr))]
    cases hc : getM C k with
    | none => rfl
    | some c =>
      simp only [Option.map_some, Option.some.injEq]
      split
      · rfl
      · rename_i hk
        have hh : holdB c.e.nets tx = false := by
          cases q : holdB c.e.nets tx
          · rfl
          · exact absurd (hall _ (getM_mem hc) q) hk
        rw [h1 _ hh]

/-! Of each transaction the counters of which it holds something. -/
abbrev Helds := Prs (List Int)
def idsOf (G : Helds) (tx : Int) : List Int := (getM G tx).getD []
structure HOk (C : Ctrs) (G : Helds) : Prop where
  up : Up G
  nodup : ∀ tx, (idsOf G tx).Nodup
  iff : ∀ tx id, id ∈ idsOf G tx ↔ ∃ c, getM C id = some c ∧ holdB c.e.nets tx = true
theorem HOk.empty : HOk [] [] := ⟨List.Pairwise.nil, fun tx => List.nodup_nil, fun tx id => ⟨fun h => by simp [idsOf, getM] at h, fun ⟨c, h, _⟩ => by simp [getM] at h⟩⟩
theorem holdB_del (L : Nets) (k j : Int) : holdB (delN L k) j = (holdB L j && !decide (j = k)) := by
  induction L with
  | nil => rfl
  | cons p r ih =>
    unfold delN at ih ⊢
    rw [List.filter_cons]
    by_cases h1 : p.1 = k
    · simp only [h1, beq_self_eq_true, Bool.not_true, Bool.false_eq_true, if_false]
      rw [ih, holdB_cons]
      by_cases h2 : j = k
      · simp [h2]
      · have : ¬ p.1 = j := by omega
        simp [this]
    · have : (!(p.1 == k)) = true := by simpa using h1
      rw [this, if_pos rfl, holdB_cons, holdB_cons, ih]
      by_cases h2 : j = k
      · have : ¬ p.1 = j := by omega
        simp [h2, h1]
      · simp [h2]
theorem hold_set (e : Esc) (tx j : Int) : holdB (setN e tx).nets j = (holdB e.nets j && !decide (j = tx)) := by
  cases q : holdB e.nets tx
  · rw [setN_no q]
    by_cases h : j = tx
    · rw [h, q]; rfl
    · simp [h]
  · rw [setN_yes q]
    exact holdB_del e.nets tx j
theorem hold_rel (e : Esc) (tx j : Int) : holdB (relN e tx).nets j = (holdB e.nets j && !decide (j = tx)) := by
  cases q : holdB e.nets tx
  · rw [relN_no q]
    by_cases h : j = tx
    · rw [h, q]; rfl
    · simp [h]
  · rw [relN_yes q]
    exact holdB_del e.nets tx j
theorem idsOf_put {G : Helds} (h : Up G) (k : Int) (v : List Int) (j : Int) : idsOf (putM k v G) j = if j = k then v else idsOf G j := by
  unfold idsOf
  rw [getM_put h]
  split <;> rfl
theorem getM_del {α : Type} (G : Prs α) (k j : Int) : getM (delM G k) j = if j = k then none else getM G j := by
  induction G with
  | nil => simp [delM, getM]
  | cons p r ih =>
    unfold delM at ih ⊢
    rw [List.filter_cons, getM_cons]
    by_cases h1 : p.1 = k
    · simp only [h1, beq_self_eq_true, Bool.not_true, Bool.false_eq_true, if_false]
      rw [ih]
      by_cases h2 : j = k
      · simp [h2]
      · have : ¬ k = j := fun r => h2 r.symm
        simp [h2, this]
    · have : (!(p.1 == k)) = true := by simpa using h1
      rw [this, if_pos rfl, getM_cons, ih]
      by_cases h2 : j = k
      · have : ¬ p.1 = j := by omega
        simp [h2, h1]
      · simp [h2]
def heldL (C : Ctrs) (G : Helds) (tx id : Int) : Helds :=
  match getM C id with
  | some c => if holdB c.e.nets tx then G else putM tx (idsOf G tx ++ [id]) G
  | none => G
theorem HOk.add {C : Ctrs} {G : Helds} (h : HOk C G) (hu : Up C) {tx id d : Int} {c : Ctr} (hc : getM C id = some c) (h0 : mayL C tx id d = 0) : HOk (addL C tx id d) (heldL C G tx id) := by
  have hm := (mayL_zero hc h0).1
  have eA : addL C tx id d = putM id ⟨c.grp, addN c.e tx d⟩ C := by unfold addL; rw [hc]; simp only; rw [if_pos h0]
  have hh : ∀ j, holdB (addN c.e tx d).nets j = (decide (j = tx) || holdB c.e.nets j) := by
    intro j
    rw [addN_yes hm]
    exact holdB_put tx _ c.e.nets j
  have hg : ∀ j i, (∃ c', getM (putM id ⟨c.grp, addN c.e tx d⟩ C) i = some c' ∧ holdB c'.e.nets j = true) ↔ ((j = tx ∧ i = id) ∨ ∃ c', getM C i = some c' ∧ holdB c'.e.nets j = true) := by
    intro j i
    rw [getM_put hu]
    by_cases e : i = id
    · rw [if_pos e]
      constructor
      · rintro ⟨c', e1, e2⟩
        cases e1
        rw [hh j] at e2
        simp at e2
        rcases e2 with q | q
        · exact .inl ⟨q, e⟩
        · exact .inr ⟨c, by rw [e]; exact hc, q⟩
      · rintro (⟨q, _⟩ | ⟨c', e1, e2⟩)
        · exact ⟨_, rfl, by rw [hh j]; simp [q]⟩
        · rw [e, hc] at e1
          cases e1
          exact ⟨_, rfl, by rw [hh j, e2]; simp⟩
    · rw [if_neg e]
      constructor
      · intro q; exact .inr q
      · rintro (⟨_, q⟩ | q)
        · exact absurd q e
        · exact q
  rw [eA]
  unfold heldL
  rw [hc]
  simp only
  split
  · rename_i hd
    refine ⟨h.up, h.nodup, fun j i => (h.iff j i).trans ?_⟩
    rw [hg]
    constructor
    · intro q; exact .inr q
    · rintro (⟨q1, q2⟩ | q)
      · exact ⟨c, by rw [q2]; exact hc, by rw [q1]; exact hd⟩
      · exact q
  · rename_i hd
    have hni : id ∉ idsOf G tx := by
      intro q
      obtain ⟨c', e1, e2⟩ := (h.iff tx id).1 q
      rw [hc] at e1
      cases e1
      exact hd e2
    refine ⟨h.up.put _ _, fun j => ?_, fun j i => ?_⟩
    · rw [idsOf_put h.up]
      split
      · exact List.nodup_append.2 ⟨h.nodup tx, by simp, fun a ha b hb => by
          simp at hb
          rw [hb]
          exact fun q => hni (q ▸ ha)⟩
      · exact h.nodup j
    · rw [idsOf_put h.up, hg]
      by_cases e : j = tx
      · rw [if_pos e, List.mem_append]
        subst e
        constructor
        · rintro (q | q)
          · exact .inr ((h.iff j i).1 q)
          · simp at q; exact .inl ⟨rfl, q⟩
        · rintro (⟨_, q⟩ | q)
          · exact .inr (by simp [q])
          · exact .inl ((h.iff j i).2 q)
      · rw [if_neg e, h.iff j i]
        constructor
        · intro q; exact .inr q
        · rintro (⟨q, _⟩ | q)
          · exact absurd q e
          · exact q
theorem HOk.end {C : Ctrs} {G : Helds} (h : HOk C G) (one : Esc → Int → Esc) (tx : Int) (ho : ∀ e j, holdB (one e tx).nets j = (holdB e.nets j && !decide (j = tx))) : HOk (endL one C tx) (delM G tx) := by
  have gi : ∀ j, idsOf (delM G tx) j = if j = tx then [] else idsOf G j := by
    intro j
    unfold idsOf
    rw [getM_del]
    split <;> rfl
  refine ⟨h.up.del tx, fun j => ?_, fun j i => ?_⟩
  · rw [gi]
    split
    · exact List.nodup_nil
    · exact h.nodup j
  · rw [gi]
    unfold endL
    rw [getM_map (fun c : Ctr => (⟨c.grp, one c.e tx⟩ : Ctr))]
    by_cases e : j = tx
    · rw [if_pos e]
      constructor
      · intro q; cases q
      · rintro ⟨c', e1, e2⟩
        cases hc : getM C i with
        | none => rw [hc] at e1; cases e1
        | some c =>
          rw [hc] at e1
          cases e1
          rw [ho, e] at e2
          simp at e2
    · rw [if_neg e, h.iff j i]
      constructor
      · rintro ⟨c, e1, e2⟩
        exact ⟨_, by rw [e1]; rfl, by rw [ho, e2]; simp [e]⟩
      · rintro ⟨c', e1, e2⟩
        cases hc : getM C i with
        | none => rw [hc] at e1; cases e1
        | some c =>
          rw [hc] at e1
          cases e1
          rw [ho] at e2
          exact ⟨c, rfl, by
            cases q : holdB c.e.nets j
            · rw [q] at e2; cases e2
            · rfl⟩
end Go.Proofs.YtaohdmaenplbpaaGreat
