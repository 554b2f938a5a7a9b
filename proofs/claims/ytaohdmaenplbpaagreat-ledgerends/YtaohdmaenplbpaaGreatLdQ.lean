import Derived.Test.YtaohdmaenplbpaaGreatLdC
set_option linter.all false
namespace Go.Proofs.YtaohdmaenplbpaaGreat
open Go.RowKit Go.QK Quota Go.Maps Go.QM
set_option maxRecDepth 100000

theorem putM_map {α β : Type} (f : α → β) (k : Int) (v : α) (L : Prs α) : (putM k v L).map (fun p => (p.1, f p.2)) = putM k (f v) (L.map (fun p => (p.1, f p.2))) := by
  induction L with
  | nil => rfl
  | cons p r ih =>
    simp only [putM, List.map_cons]
    split
    · rfl
    · split
      · rfl
      · simp [ih]
theorem up_map {α β : Type} (f : α → β) {L : Prs α} : Up (L.map (fun p => (p.1, f p.2))) ↔ Up L := by
  unfold Up
  rw [List.pairwise_map]
theorem up_len {α : Type} {L : Prs α} (h : Up L) {a b : Int} (hr : ∀ p ∈ L, a ≤ p.1 ∧ p.1 ≤ b) : L.length ≤ (b + 1 - a).toNat := by
  induction L generalizing a with
  | nil => simp
  | cons p r ih =>
    have h1 := hr p (by simp)
    have := ih h.tail (a := p.1 + 1) (fun q hq => ⟨by have := h.head q hq; omega, (hr q (by simp [hq])).2⟩)
    simp only [List.length_cons]
    omega
theorem there_iff {C : Ctrs} (hu : Up C) (g : Int) : thereG C g = true ↔ ∃ id c, getM C id = some c ∧ c.grp = g := by
  unfold thereG
  rw [List.any_eq_true]
  constructor
  · rintro ⟨p, hp, h⟩
    exact ⟨p.1, p.2, getM_of_mem hu hp, by simpa using h⟩
  · rintro ⟨id, c, hc, h⟩
    exact ⟨_, getM_mem hc, by simpa using h⟩
theorem there_new {C : Ctrs} (hu : Up C) {id : Int} (hn : getM C id = none) (c : Ctr) (g : Int) : thereG (putM id c C) g = (decide (c.grp = g) || thereG C g) := by
  apply Bool.eq_iff_iff.2
  rw [there_iff (hu.put _ _), Bool.or_eq_true, there_iff hu]
  constructor
  · rintro ⟨j, d, hd, e⟩
    rw [getM_put hu] at hd
    split at hd
    · cases hd; exact .inl (by simpa using e)
    · exact .inr ⟨j, d, hd, e⟩
  · rintro (h | ⟨j, d, hd, e⟩)
    · exact ⟨id, c, by rw [getM_put hu, if_pos rfl], by simpa using h⟩
    · refine ⟨j, d, ?_, e⟩
      rw [getM_put hu, if_neg (fun q => by rw [q, hn] at hd; cases hd)]
      exact hd
theorem sumM_zero {α : Type} {L : Prs α} {f : Int × α → Int} (h : ∀ p ∈ L, f p = 0) : sumM f L = 0 := by
  induction L with
  | nil => rfl
  | cons p r ih =>
    simp only [sumM]
    rw [h p (by simp), ih (fun q hq => h q (by simp [hq]))]
    rfl
theorem there_no {C : Ctrs} {g : Int} (h : thereG C g = false) : sumG C g = 0 ∧ lowG C g = 0 ∧ highG C g = 0 := by
  unfold thereG at h
  rw [List.any_eq_false] at h
  have q : ∀ p ∈ C, ¬ p.2.grp = g := fun p hp e => h p hp (by simpa using e)
  exact ⟨sumM_zero fun p hp => if_neg (q p hp), sumM_zero fun p hp => if_neg (q p hp), sumM_zero fun p hp => if_neg (q p hp)⟩
theorem HOk.new {C : Ctrs} {G : Helds} (h : HOk C G) (hu : Up C) {id : Int} (hn : getM C id = none) (grp lo hi v : Int) : HOk (putM id ⟨grp, ⟨lo, hi, v, []⟩⟩ C) G := by
  refine ⟨h.up, h.nodup, fun tx j => ?_⟩
  rw [h.iff, getM_put hu]
  constructor
  · rintro ⟨c, hc, hh⟩
    refine ⟨c, ?_, hh⟩
    rw [if_neg (fun q => by rw [q, hn] at hc; cases hc)]
    exact hc
  · rintro ⟨c, hc, hh⟩
    split at hc
    · cases hc; simp [holdB] at hh
    · exact ⟨c, hc, hh⟩
/-- The groups' totals as the map has them. -/
theorem PL.totD {lab : Nat → Nat} {B : Nat} {w : World} {l : Led} (h : PL lab B w l) (g : Int) : (getM (l.G.map (fun (p : Int × Int × Int × Int) => (p.1, totV p.2))) g).getD (tot 0 0 0) = tot (sumG l.ctrs g) (lowG l.ctrs g) (highG l.ctrs g) := by
  rw [getM_mapV totV l.G g, h.grp]
  cases q : thereG l.ctrs g
  · obtain ⟨a, b, c⟩ := there_no q
    rw [a, b, c]; rfl
  · rfl
theorem PL.upK {lab : Nat → Nat} {B : Nat} {w : World} {l : Led} (h : PL lab B w l) : Up l.K := (up_map Lm.c).1 h.ok.up
theorem PL.lenK {lab : Nat → Nat} {B : Nat} {w : World} {l : Led} (h : PL lab B w l) : l.K.length ≤ 1048576 := by
  have := up_len h.upK (a := 1) (b := 1048576) (fun p hp => (h.ok.ids (p.1, p.2.c) (List.mem_map.2 ⟨p, hp, rfl⟩)).1)
  omega
theorem PL.lenG {lab : Nat → Nat} {B : Nat} {w : World} {l : Led} (h : PL lab B w l) : l.G.length ≤ 1048576 := by
  have := up_len h.gup (a := 1) (b := 1048576) (fun p hp => by
    have e := h.grp p.1
    rw [getM_of_mem h.gup hp] at e
    cases q : thereG l.ctrs p.1
    · rw [q] at e; cases e
    · obtain ⟨id, c, hc, hg⟩ := (there_iff h.ok.up p.1).1 q
      have := (h.ok.ids _ (getM_mem hc)).2
      simp only at this
      omega)
  omega
/-- All that a ledger stands on lies below. -/
theorem PL.lt {lab : Nat → Nat} {B : Nat} {w : World} {l : Led} (h : PL lab B w l) : l.lb < w.heap.size ∧ l.mc < w.heap.size ∧ l.mg < w.heap.size ∧ l.mh < w.heap.size ∧ (∀ p ∈ l.K, p.2.b < w.heap.size ∧ p.2.m < w.heap.size) ∧ (∀ p ∈ l.D, ∀ g, p.2.1.ownBlock = some g → g < w.heap.size) :=
  ⟨h.box.1, World.ownsMap.lt h.cm, World.ownsMap.lt h.gm, World.ownsMap.lt h.hm, fun p hp => (h.esc p hp).lt, fun p hp g hg => (World.ownsRow.lt (h.own p hp).1 g hg).2⟩
def Led.made (l : Led) (id grp lo hi v : Int) (b m : Nat) : Led := { l with K := putM id ⟨⟨grp, ⟨lo, hi, v, []⟩⟩, b, m⟩ l.K, G := putM grp (sumG l.ctrs grp + v, lowG l.ctrs grp + v, highG l.ctrs grp + v) l.G }
theorem made_ctrs (l : Led) (id grp lo hi v : Int) (b m : Nat) : (l.made id grp lo hi v b m).ctrs = putM id ⟨grp, ⟨lo, hi, v, []⟩⟩ l.ctrs := putM_map Lm.c id _ l.K
/-- The labels of what is new: the counter's. -/
def labN (lab : Nat → Nat) (n : Nat) (id : Int) (x : Nat) : Nat := if x < n then lab x else 10 + 2 * id.toNat
theorem PL.make {lab : Nat → Nat} {B n : Nat} {w y : World} {l : Led} {id grp lo hi v : Int} {b m : Nat} (h0 : PL lab B w l)
    (hn : l.lb < n ∧ l.mc < n ∧ l.mg < n ∧ l.mh < n ∧ (∀ p ∈ l.K, p.2.b < n ∧ p.2.m < n) ∧ (∀ p ∈ l.D, ∀ g, p.2.1.ownBlock = some g → g < n)) (hB : B ≤ n)
    (e0 : newL l.ctrs id grp lo hi v = 0) (i1 : I64 lo) (i2 : I64 hi) (hb : n ≤ b) (hm : n ≤ m) (hp : PE y b m ⟨lo, hi, v, []⟩) (hk : Keep (fun z => z = l.mc ∨ z = l.mg) w y)
    (h1 : AnyAt Tryz.prog 3 y l.mc (putM id (.agg #[.int .i64 grp, ptr b]) (l.K.map (fun p => (p.1, entV p.2)))))
    (h2 : AnyAt Tryz.prog 3 y l.mg (putM grp (tot (sumG l.ctrs grp + v) (lowG l.ctrs grp + v) (highG l.ctrs grp + v)) (l.G.map (fun (p : Int × Int × Int × Int) => (p.1, totV p.2))))) :
    PL (labN lab n id) B y (l.made id grp lo hi v b m) := by
  have ho := h0.ok.new (id := id) (grp := grp) (v := v) i1 i2
  unfold makeL at ho
  rw [if_pos e0] at ho
  have hnone : getM l.ctrs id = none := by
    unfold newL at e0
    split at e0
    · cases e0
    · split at e0
      · cases e0
      · rename_i q
        rw [hasM_get] at q
        simpa using q
  obtain ⟨n1, n2, n3, n4, n5, n6⟩ := hn
  have lk : ∀ x, x < n → labN lab n id x = lab x := fun x hx => if_pos hx
  have nl := h0.l1
  have nc := h0.l2
  have ng := h0.l3
  have nh := h0.l4
  have d1 : l.lb ≠ l.mc := fun q => by rw [q] at nl; omega
  have d2 : l.lb ≠ l.mg := fun q => by rw [q] at nl; omega
  have d3 : l.mh ≠ l.mc := fun q => by rw [q] at nh; omega
  have d4 : l.mh ≠ l.mg := fun q => by rw [q] at nh; omega
  refine ⟨h0.box.keep hk (by rintro (q | q); exact d1 q; exact d2 q), ?_, ?_, anyAt_keep h0.hm hk (by rintro (q | q); exact d3 q; exact d4 q), fun p hp' => ?_, fun p hp' => ⟨(h0.own p hp').1.keep hk (fun g hg => ?_), (h0.own p hp').2⟩, ?_, ?_, h0.gup.put _ _, fun g => ?_, (lk _ n1).trans nl, (lk _ n2).trans nc, (lk _ n3).trans ng, (lk _ n4).trans nh, fun p hp' => ?_, fun p hp' g hg => (lk _ (n6 p hp' g hg)).trans (h0.l6 p hp' g hg), ⟨h0.low.1, h0.low.2.1, h0.low.2.2.1, h0.low.2.2.2.1, fun p hp' => ?_⟩⟩
  · show AnyAt Tryz.prog 3 y l.mc ((putM id ⟨⟨grp, ⟨lo, hi, v, []⟩⟩, b, m⟩ l.K).map (fun (p : Int × Lm) => (p.1, entV p.2)))
    rw [putM_map entV]
    exact h1
  · show AnyAt Tryz.prog 3 y l.mg ((putM grp (sumG l.ctrs grp + v, lowG l.ctrs grp + v, highG l.ctrs grp + v) l.G).map (fun (p : Int × Int × Int × Int) => (p.1, totV p.2)))
    rw [putM_map totV]
    exact h2
  · rcases mem_putM hp' with rfl | q
    · exact hp
    · have := h0.l5 p q
      exact (h0.esc p q).keep hk (by rintro (r | r) <;> rw [r] at this <;> omega) (by rintro (r | r) <;> rw [r] at this <;> omega)
  · have := h0.l6 p hp' g hg
    rintro (r | r) <;> rw [r] at this <;> omega
  · rw [made_ctrs]; exact ho
  · rw [made_ctrs]; exact h0.hok.new h0.ok.up hnone grp lo hi v
  · rw [made_ctrs]
    show getM (putM grp _ l.G) g = _
    have ns := new_sum h0.ok.up hnone ⟨grp, ⟨lo, hi, v, []⟩⟩ g
    obtain ⟨f1, f2, f3⟩ := empty_esc lo hi v
    rw [f1, f2, f3] at ns
    rw [getM_put h0.gup, there_new h0.ok.up hnone, ns.1, ns.2.1, ns.2.2]
    by_cases q : g = grp
    · subst q; simp
    · rw [if_neg q, h0.grp]
      have q2 : ¬ grp = g := fun r => q r.symm
      simp [q2]
  · rcases mem_putM hp' with rfl | q
    · exact ⟨if_neg (by show ¬ b < n; omega), if_neg (by show ¬ m < n; omega)⟩
    · exact ⟨(lk _ (n5 p q).1).trans (h0.l5 p q).1, (lk _ (n5 p q).2).trans (h0.l5 p q).2⟩
  · rcases mem_putM hp' with rfl | q
    · exact ⟨by show B ≤ b; omega, by show B ≤ m; omega⟩
    · exact h0.low.2.2.2.2 p q
end Go.Proofs.YtaohdmaenplbpaaGreat
