import Derived.Test.YtaohdmaenplbpaaGreatLdU
set_option linter.all false
namespace Go.Proofs.YtaohdmaenplbpaaGreat
open Go.RowKit Go.QK Quota Go.Maps Go.QM
set_option maxRecDepth 100000

/-- A ledger in memory while a transaction ends: the lists of what is held are not asked. -/
structure PL0 (lab : Nat → Nat) (B : Nat) (w : World) (l : Led) : Prop where
  box : Cells w l.lb [.map (some l.mc), .map (some l.mg), .map (some l.mh)]
  cm : AnyAt Tryz.prog 3 w l.mc (l.K.map (fun p => (p.1, entV p.2)))
  gm : AnyAt Tryz.prog 3 w l.mg (l.G.map (fun p => (p.1, totV p.2)))
  hm : AnyAt Tryz.prog 3 w l.mh (l.D.map (fun p => (p.1, p.2.1)))
  esc : ∀ p ∈ l.K, PE w p.2.b p.2.m p.2.c.e
  own : ∀ p ∈ l.D, Owns .i64 3 w B p.2.1 p.2.2 ∧ p.2.1.ownBlock ≠ none
  ok : LOk l.ctrs
  gup : Up l.G
  grp : ∀ g, getM l.G g = if thereG l.ctrs g then some (sumG l.ctrs g, lowG l.ctrs g, highG l.ctrs g) else none
  l1 : lab l.lb = 1
  l2 : lab l.mc = 2
  l3 : lab l.mg = 3
  l4 : lab l.mh = 4
  l5 : ∀ p ∈ l.K, lab p.2.b = 10 + 2 * p.1.toNat ∧ lab p.2.m = 10 + 2 * p.1.toNat
  l6 : ∀ p ∈ l.D, ∀ g, p.2.1.ownBlock = some g → lab g = 11 + 2 * p.1.toNat
  low : B ≤ l.lb ∧ B ≤ l.mc ∧ B ≤ l.mg ∧ B ≤ l.mh ∧ ∀ p ∈ l.K, B ≤ p.2.b ∧ B ≤ p.2.m
theorem PL.p0 {lab : Nat → Nat} {B : Nat} {w : World} {l : Led} (h : PL lab B w l) : PL0 lab B w l := ⟨h.box, h.cm, h.gm, h.hm, h.esc, h.own, h.ok, h.gup, h.grp, h.l1, h.l2, h.l3, h.l4, h.l5, h.l6, h.low⟩
theorem PL0.pl {lab : Nat → Nat} {B : Nat} {w : World} {l : Led} (h : PL0 lab B w l) (q : HOk l.ctrs l.helds) : PL lab B w l := ⟨h.box, h.cm, h.gm, h.hm, h.esc, h.own, h.ok, q, h.gup, h.grp, h.l1, h.l2, h.l3, h.l4, h.l5, h.l6, h.low⟩
theorem PL0.below {lab : Nat → Nat} {B : Nat} {w w' : World} {l : Led} (h : PL0 lab B w l) (k : Below w.heap.size w w') : PL0 lab B w' l :=
  ⟨h.box.below k, anyAt_below h.cm k, anyAt_below h.gm k, anyAt_below h.hm k, fun p hp => (h.esc p hp).below k, fun p hp => ⟨(h.own p hp).1.below k, (h.own p hp).2⟩, h.ok, h.gup, h.grp, h.l1, h.l2, h.l3, h.l4, h.l5, h.l6, h.low⟩
theorem PL0.upK {lab : Nat → Nat} {B : Nat} {w : World} {l : Led} (h : PL0 lab B w l) : Up l.K := (up_map Lm.c).1 h.ok.up
theorem PL0.totD {lab : Nat → Nat} {B : Nat} {w : World} {l : Led} (h : PL0 lab B w l) (g : Int) : (getM (l.G.map (fun (p : Int × Int × Int × Int) => (p.1, totV p.2))) g).getD (tot 0 0 0) = tot (sumG l.ctrs g) (lowG l.ctrs g) (highG l.ctrs g) := by
  rw [getM_mapV totV l.G g, h.grp]
  cases q : thereG l.ctrs g
  · obtain ⟨a, b, c⟩ := there_no q
    rw [a, b, c]; rfl
  · rfl
theorem PL0.lenG {lab : Nat → Nat} {B : Nat} {w : World} {l : Led} (h : PL0 lab B w l) : l.G.length ≤ 1048576 := by
  have := up_len h.gup (a := 1) (b := 1048576) (fun p hp => by
    have e := h.grp p.1
    rw [getM_of_mem h.gup hp] at e
    cases q : thereG l.ctrs p.1
    · rw [q] at e; cases e
    · obtain ⟨id, c, hc, hg⟩ := (there_iff h.ok.up p.1).1 q
      have := (h.ok.ids _ (getM_mem hc)).2
      simp only at this
      omega)
  omega
/-- One counter's escrow becomes e'. -/
def Led.turned (l : Led) (id : Int) (x : Lm) (e' : Esc) : Led :=
  { l with
    K := putM id ⟨⟨x.c.grp, e'⟩, x.b, x.m⟩ l.K
    G := putM x.c.grp (sumG l.ctrs x.c.grp + (e'.val - x.c.e.val), lowG l.ctrs x.c.grp + (e'.low - x.c.e.low), highG l.ctrs x.c.grp + (e'.high - x.c.e.high)) l.G }
theorem turned_ctrs (l : Led) (id : Int) (x : Lm) (e' : Esc) : (l.turned id x e').ctrs = putM id ⟨x.c.grp, e'⟩ l.ctrs := putM_map Lm.c id _ l.K
def turnS (l : Led) (x : Lm) (z : Nat) : Prop := z = l.mg ∨ z = x.b ∨ z = x.m
theorem PL0.turn {lab : Nat → Nat} {B : Nat} {w y : World} {l : Led} {id : Int} {x : Lm} {e' : Esc} (h0 : PL0 lab B w l) (hk : getM l.K id = some x) (ho : LOk (putM id ⟨x.c.grp, e'⟩ l.ctrs)) (hp : PE y x.b x.m e') (hkp : Keep (turnS l x) w y)
    (h2 : AnyAt Tryz.prog 3 y l.mg (putM x.c.grp (tot (sumG l.ctrs x.c.grp + (e'.val - x.c.e.val)) (lowG l.ctrs x.c.grp + (e'.low - x.c.e.low)) (highG l.ctrs x.c.grp + (e'.high - x.c.e.high))) (l.G.map (fun (p : Int × Int × Int × Int) => (p.1, totV p.2))))) :
    PL0 lab B y (l.turned id x e') := by
  have hc : getM l.ctrs id = some x.c := by rw [getC, hk]; rfl
  have hmem := getM_mem hk
  have idr := (h0.ok.ids _ (getM_mem hc)).1
  simp only at idr
  have lx := h0.l5 _ hmem
  simp only at lx
  have nS : ∀ z, turnS l x z → lab z = 3 ∨ lab z = 10 + 2 * id.toNat := by
    rintro z (q | q | q)
    · left; rw [q]; exact h0.l3
    · right; rw [q]; exact lx.1
    · right; rw [q]; exact lx.2
  refine ⟨h0.box.keep hkp (fun q => by have := nS l.lb q; have := h0.l1; omega), ?_, ?_, anyAt_keep h0.hm hkp (fun q => by have := nS l.mh q; have := h0.l4; omega), fun p hp' => ?_, fun p hp' => ⟨(h0.own p hp').1.keep hkp (fun g hg r => by have := nS _ r; have := h0.l6 p hp' g hg; omega), (h0.own p hp').2⟩, by rw [turned_ctrs]; exact ho, h0.gup.put _ _, fun g => ?_, h0.l1, h0.l2, h0.l3, h0.l4, fun p hp' => ?_, h0.l6, ⟨h0.low.1, h0.low.2.1, h0.low.2.2.1, h0.low.2.2.2.1, fun p hp' => ?_⟩⟩
  · show AnyAt Tryz.prog 3 y l.mc ((putM id ⟨⟨x.c.grp, e'⟩, x.b, x.m⟩ l.K).map (fun (p : Int × Lm) => (p.1, entV p.2)))
    rw [entV_same (y := ⟨⟨x.c.grp, e'⟩, x.b, x.m⟩) h0.upK hk rfl]
    exact anyAt_keep h0.cm hkp (fun q => by have := nS _ q; have := h0.l2; omega)
  · show AnyAt Tryz.prog 3 y l.mg ((putM x.c.grp _ l.G).map (fun (p : Int × Int × Int × Int) => (p.1, totV p.2)))
    rw [putM_map totV]
    exact h2
  · have hpx : p ∈ putM id ⟨⟨x.c.grp, e'⟩, x.b, x.m⟩ l.K := hp'
    have e2 := getM_of_mem (h0.upK.put _ _) hpx
    rw [getM_put h0.upK] at e2
    split at e2
    · have e3 : (⟨⟨x.c.grp, e'⟩, x.b, x.m⟩ : Lm) = p.2 := Option.some.inj e2
      rw [← e3]
      exact hp
    · rename_i hid
      have q := getM_mem e2
      have q : p ∈ l.K := q
      have l5 := h0.l5 p q
      have i5 := (h0.ok.ids (p.1, p.2.c) (List.mem_map.2 ⟨p, q, rfl⟩)).1
      simp only at i5
      exact (h0.esc p q).keep hkp (fun r => by have := nS _ r; omega) (fun r => by have := nS _ r; omega)
  · rw [turned_ctrs]
    show getM (putM x.c.grp _ l.G) g = _
    have t1 := turn_sum h0.ok.up hc e' g
    have t2 := turn_low h0.ok.up hc e' g
    have t3 := turn_high h0.ok.up hc e' g
    have tt : thereG (putM id ⟨x.c.grp, e'⟩ l.ctrs) g = thereG l.ctrs g := by
      apply Bool.eq_iff_iff.2
      rw [there_iff (h0.ok.up.put _ _), there_iff h0.ok.up]
      constructor
      · rintro ⟨j, c, hj, e⟩
        rw [getM_put h0.ok.up] at hj
        split at hj
        · cases hj; exact ⟨id, x.c, hc, e⟩
        · exact ⟨j, c, hj, e⟩
      · rintro ⟨j, c, hj, e⟩
        by_cases q : j = id
        · refine ⟨id, ⟨x.c.grp, e'⟩, by rw [getM_put h0.ok.up, if_pos rfl], ?_⟩
          rw [q, hc] at hj
          cases hj
          exact e
        · exact ⟨j, c, by rw [getM_put h0.ok.up, if_neg q]; exact hj, e⟩
    rw [getM_put h0.gup, tt, t1, t2, t3]
    by_cases q : g = x.c.grp
    · rw [if_pos q, q, there_of hc, if_pos rfl, if_pos rfl, if_pos rfl, if_pos rfl]
    · have q2 : ¬ x.c.grp = g := fun r => q r.symm
      rw [if_neg q, if_neg q2, if_neg q2, if_neg q2, h0.grp]
      simp
  · rcases mem_putM hp' with rfl | q
    · exact lx
    · exact h0.l5 p q
  · rcases mem_putM hp' with rfl | q
    · exact h0.low.2.2.2.2 (id, x) hmem
    · exact h0.low.2.2.2.2 p q
end Go.Proofs.YtaohdmaenplbpaaGreat
