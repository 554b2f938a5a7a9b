import Derived.Test.YtaohdmaenplbpaaGreatLdR
set_option linter.all false
namespace Go.Proofs.YtaohdmaenplbpaaGreat
open Go.RowKit Go.QK Quota Go.Maps Go.QM
set_option maxRecDepth 100000

theorem putM_same {α : Type} {L : Prs α} (h : Up L) {k : Int} {v : α} (hk : getM L k = some v) : putM k v L = L := by
  refine up_ext (h.put k v) h (fun j => ?_)
  rw [getM_put h]
  split
  · rename_i q; rw [q, hk]
  · rfl
/-- A counter whose group and escrow stay where they are: the map stays as it is. -/
theorem entV_same {K : Prs Lm} (h : Up K) {id : Int} {x y : Lm} (hk : getM K id = some x) (e : entV y = entV x) : (putM id y K).map (fun (p : Int × Lm) => (p.1, entV p.2)) = K.map (fun (p : Int × Lm) => (p.1, entV p.2)) := by
  rw [putM_map entV, e]
  exact putM_same ((up_map entV).2 h) (by rw [getM_mapV entV, hk]; rfl)
theorem nodup_len (N : Nat) : ∀ (l : List Int), l.Nodup → (∀ x ∈ l, 1 ≤ x ∧ x ≤ N) → l.length ≤ N := by
  induction N with
  | zero =>
    intro l _ h
    cases l with
    | nil => simp
    | cons a r => have := h a (by simp); omega
  | succ N ih =>
    intro l hn h
    have h1 := ih (l.erase ((N + 1 : Nat) : Int)) (hn.erase _) (fun x hx => by
      have h2 := (List.Nodup.mem_erase_iff hn).1 hx
      have h3 := h x h2.2
      have h4 : x ≠ ((N + 1 : Nat) : Int) := h2.1
      omega)
    have h5 := List.length_erase (a := ((N + 1 : Nat) : Int)) (l := l)
    split at h5 <;> omega
theorem PL.lenI {lab : Nat → Nat} {B : Nat} {w : World} {l : Led} (h : PL lab B w l) (tx : Int) : (idsOf l.helds tx).length ≤ 1048576 := by
  refine nodup_len 1048576 _ (h.hok.nodup tx) (fun id hid => ?_)
  obtain ⟨c, hc, _⟩ := (h.hok.iff tx id).1 hid
  have := (h.ok.ids _ (getM_mem hc)).1
  simpa using this
theorem PL.upD {lab : Nat → Nat} {B : Nat} {w : World} {l : Led} (h : PL lab B w l) : Up l.D := (up_map (fun (x : Value × List Int) => x.2)).1 h.hok.up
/-- The list that a transaction holds, as the map has it. -/
def Led.heldV (l : Led) (tx : Int) : Value := ((getM l.D tx).map Prod.fst).getD (.slice none 0 0)
theorem PL.heldO {lab : Nat → Nat} {B : Nat} {w : World} {l : Led} (h : PL lab B w l) (tx : Int) : Owns .i64 3 w B (l.heldV tx) (idsOf l.helds tx) := by
  have e : getM l.helds tx = (getM l.D tx).map Prod.snd := getM_map (fun (x : Value × List Int) => x.2) l.D tx
  unfold Led.heldV idsOf
  rw [e]
  cases q : getM l.D tx with
  | none => exact Owns.nil _ _ _ _
  | some u => exact (h.own _ (getM_mem q)).1
theorem PL.heldL {lab : Nat → Nat} {B : Nat} {w : World} {l : Led} (h : PL lab B w l) {tx : Int} {g : Nat} (hg : (l.heldV tx).ownBlock = some g) : lab g = 11 + 2 * tx.toNat := by
  unfold Led.heldV at hg
  cases q : getM l.D tx with
  | none => rw [q] at hg; cases hg
  | some u => rw [q] at hg; exact h.l6 _ (getM_mem q) g hg
/-- What a delta makes of it; v: the transaction's new list, where it held nothing. -/
def Led.added (l : Led) (tx id d : Int) (x : Lm) (v : Value) : Led :=
  { l with
    K := putM id ⟨⟨x.c.grp, addN x.c.e tx d⟩, x.b, x.m⟩ l.K
    G := putM x.c.grp (sumG l.ctrs x.c.grp - netV x.c.e.nets tx + (netV x.c.e.nets tx + d), lowG l.ctrs x.c.grp - min (netV x.c.e.nets tx) 0 + min (netV x.c.e.nets tx + d) 0, highG l.ctrs x.c.grp - max (netV x.c.e.nets tx) 0 + max (netV x.c.e.nets tx + d) 0) l.G
    D := if holdB x.c.e.nets tx then l.D else putM tx (v, idsOf l.helds tx ++ [id]) l.D }
theorem added_ctrs (l : Led) {tx id d : Int} {x : Lm} (v : Value) (hk : getM l.K id = some x) (e0 : mayL l.ctrs tx id d = 0) : (l.added tx id d x v).ctrs = addL l.ctrs tx id d := by
  have hc : getM l.ctrs id = some x.c := by rw [getC, hk]; rfl
  unfold addL
  rw [hc]
  simp only
  rw [if_pos e0]
  exact putM_map Lm.c id _ l.K
theorem added_helds (l : Led) {tx id d : Int} {x : Lm} (v : Value) (hk : getM l.K id = some x) : (l.added tx id d x v).helds = Go.Proofs.YtaohdmaenplbpaaGreat.heldL l.ctrs l.helds tx id := by
  have hc : getM l.ctrs id = some x.c := by rw [getC, hk]; rfl
  unfold Go.Proofs.YtaohdmaenplbpaaGreat.heldL
  rw [hc]
  simp only
  unfold Led.added Led.helds
  simp only
  split
  · rfl
  · exact putM_map (fun (x : Value × List Int) => x.2) tx _ l.D
def labH (lab : Nat → Nat) (n : Nat) (tx : Int) (x : Nat) : Nat := if x < n then lab x else 11 + 2 * tx.toNat
/-- The blocks that a delta may touch. -/
def addS (l : Led) (tx : Int) (x : Lm) (z : Nat) : Prop := z = l.mg ∨ z = l.mh ∨ z = x.b ∨ z = x.m ∨ (l.heldV tx).ownBlock = some z
theorem PL.add {lab : Nat → Nat} {B n : Nat} {w y : World} {l : Led} {tx id d : Int} {x : Lm} {v : Value} (h0 : PL lab B w l)
    (hn : l.lb < n ∧ l.mc < n ∧ l.mg < n ∧ l.mh < n ∧ (∀ p ∈ l.K, p.2.b < n ∧ p.2.m < n) ∧ (∀ p ∈ l.D, ∀ g, p.2.1.ownBlock = some g → g < n))
    (hk : getM l.K id = some x) (e0 : mayL l.ctrs tx id d = 0) (hp : PE y x.b x.m (addN x.c.e tx d)) (hkp : Keep (addS l tx x) w y)
    (h2 : AnyAt Tryz.prog 3 y l.mg (putM x.c.grp (tot (sumG l.ctrs x.c.grp - netV x.c.e.nets tx + (netV x.c.e.nets tx + d)) (lowG l.ctrs x.c.grp - min (netV x.c.e.nets tx) 0 + min (netV x.c.e.nets tx + d) 0) (highG l.ctrs x.c.grp - max (netV x.c.e.nets tx) 0 + max (netV x.c.e.nets tx + d) 0)) (l.G.map (fun (p : Int × Int × Int × Int) => (p.1, totV p.2)))))
    (h3 : AnyAt Tryz.prog 3 y l.mh (if holdB x.c.e.nets tx then l.D.map (fun (p : Int × Value × List Int) => (p.1, p.2.1)) else putM tx v (l.D.map (fun (p : Int × Value × List Int) => (p.1, p.2.1)))))
    (h4 : holdB x.c.e.nets tx = false → Owns .i64 3 y B v (idsOf l.helds tx ++ [id]) ∧ (v.ownBlock = (l.heldV tx).ownBlock ∨ ∃ g, v.ownBlock = some g ∧ n ≤ g)) 
    (h5 : holdB x.c.e.nets tx = true → ∀ g, (l.heldV tx).ownBlock = some g → Owns .i64 3 y B (l.heldV tx) (idsOf l.helds tx)) :
    PL (labH lab n tx) B y (l.added tx id d x v) := by
  have hc : getM l.ctrs id = some x.c := by rw [getC, hk]; rfl
  have hmem := getM_mem hk
  have ok := h0.ok.all _ (getM_mem hc)
  have idr := (h0.ok.ids _ (getM_mem hc)).1
  simp only at idr ok
  have hz := (mayL_zero hc e0).1
  have htx : 1 ≤ tx := by
    unfold mayL at e0
    split at e0
    · cases e0
    · omega
  obtain ⟨n1, n2, n3, n4, n5, n6⟩ := hn
  have lk : ∀ z, z < n → labH lab n tx z = lab z := fun z hz => if_pos hz
  have lx := h0.l5 _ hmem
  simp only at lx
  have nS : ∀ z, addS l tx x z → lab z = 3 ∨ lab z = 4 ∨ lab z = 10 + 2 * id.toNat ∨ lab z = 11 + 2 * tx.toNat := by
    rintro z (q | q | q | q | q)
    · left; rw [q]; exact h0.l3
    · right; left; rw [q]; exact h0.l4
    · right; right; left; rw [q]; exact lx.1
    · right; right; left; rw [q]; exact lx.2
    · right; right; right; exact PL.heldL h0 q
  refine ⟨h0.box.keep hkp (fun q => by have := nS _ q; have := h0.l1; omega), ?_, ?_, ?_, fun p hp' => ?_, fun p hp' => ?_, ?_, ?_, h0.gup.put _ _, fun g => ?_, (lk _ n1).trans h0.l1, (lk _ n2).trans h0.l2, (lk _ n3).trans h0.l3, (lk _ n4).trans h0.l4, fun p hp' => ?_, fun p hp' g hg => ?_, ⟨h0.low.1, h0.low.2.1, h0.low.2.2.1, h0.low.2.2.2.1, fun p hp' => ?_⟩⟩
  · show AnyAt Tryz.prog 3 y l.mc ((putM id ⟨⟨x.c.grp, addN x.c.e tx d⟩, x.b, x.m⟩ l.K).map (fun (p : Int × Lm) => (p.1, entV p.2)))
    rw [entV_same (y := ⟨⟨x.c.grp, addN x.c.e tx d⟩, x.b, x.m⟩) h0.upK hk rfl]
    exact anyAt_keep h0.cm hkp (fun q => by have := nS _ q; have := h0.l2; omega)
  · show AnyAt Tryz.prog 3 y l.mg ((putM x.c.grp _ l.G).map (fun (p : Int × Int × Int × Int) => (p.1, totV p.2)))
    rw [putM_map totV]
    exact h2
  · show AnyAt Tryz.prog 3 y l.mh ((if holdB x.c.e.nets tx then l.D else putM tx (v, idsOf l.helds tx ++ [id]) l.D).map (fun (p : Int × Value × List Int) => (p.1, p.2.1)))
    cases q : holdB x.c.e.nets tx
    · rw [q] at h3
      simp only [Bool.false_eq_true, if_false] at h3 ⊢
      rw [putM_map (fun (x : Value × List Int) => x.1) tx (v, idsOf l.helds tx ++ [id]) l.D]
      exact h3
    · rw [q] at h3
      exact h3
  · rcases mem_putM hp' with rfl | q
    · exact hp
    · by_cases hid : p.1 = id
      · have e1 : getM l.K p.1 = some p.2 := getM_of_mem h0.upK q
        rw [hid, hk] at e1
        cases e1
        have hpx : p ∈ putM id ⟨⟨p.2.c.grp, addN p.2.c.e tx d⟩, p.2.b, p.2.m⟩ l.K := hp'
        have e2 := getM_of_mem (h0.upK.put _ _) hpx
        rw [getM_put h0.upK, if_pos hid] at e2
        have e3 : (⟨⟨p.2.c.grp, addN p.2.c.e tx d⟩, p.2.b, p.2.m⟩ : Lm) = p.2 := Option.some.inj e2
        have := hp
        rw [← e3]
        exact hp
      · have l5 := h0.l5 p q
        have i5 := (h0.ok.ids (p.1, p.2.c) (List.mem_map.2 ⟨p, q, rfl⟩)).1
        simp only at i5
        exact (h0.esc p q).keep hkp (fun r => by have := nS _ r; omega) (fun r => by have := nS _ r; omega)
  · have old : ∀ p ∈ l.D, p.1 ≠ tx → Owns .i64 3 y B p.2.1 p.2.2 ∧ p.2.1.ownBlock ≠ none := fun p hp ne => ⟨(h0.own p hp).1.keep hkp (fun g hg r => by have := nS _ r; have := h0.l6 p hp g hg; omega), (h0.own p hp).2⟩
    have hp2 : p ∈ (if holdB x.c.e.nets tx then l.D else putM tx (v, idsOf l.helds tx ++ [id]) l.D) := hp'
    have eH : ∀ p ∈ l.D, p.1 = tx → l.heldV tx = p.2.1 ∧ idsOf l.helds tx = p.2.2 := fun p hp e => by
      have e1 := getM_of_mem h0.upD hp
      rw [e] at e1
      have e2 : getM l.helds tx = (getM l.D tx).map Prod.snd := getM_map (fun (x : Value × List Int) => x.2) l.D tx
      unfold Led.heldV idsOf
      rw [e2, e1]
      exact ⟨rfl, rfl⟩
    cases q : holdB x.c.e.nets tx
    · rw [q] at hp2
      simp only [Bool.false_eq_true, if_false] at hp2
      obtain ⟨o1, o2⟩ := h4 q
      have hne : v.ownBlock ≠ none := by
        rcases o1.2 with ⟨e, e2⟩ | ⟨g, cap, cur, e, _⟩
        · simp at e2
        · rw [e]; exact fun q => by cases q
      have e2 := getM_of_mem (h0.upD.put _ _) hp2
      rw [getM_put h0.upD] at e2
      split at e2
      · have e3 : (v, idsOf l.helds tx ++ [id]) = p.2 := Option.some.inj e2
        rw [← e3]
        exact ⟨o1, hne⟩
      · rename_i ne
        exact old p (by
          rcases mem_putM hp2 with r | r
          · rw [r] at ne; exact absurd rfl ne
          · exact r) ne
    · rw [q] at hp2
      simp only [if_true] at hp2
      by_cases e : p.1 = tx
      · obtain ⟨e1, e2⟩ := eH p hp2 e
        have ob := (h0.own p hp2).2
        obtain ⟨g, hg⟩ := Option.ne_none_iff_exists'.1 ob
        have := h5 q g (by rw [e1]; exact hg)
        rw [e1, e2] at this
        exact ⟨this, ob⟩
      · exact old p hp2 e
  · rw [added_ctrs l v hk e0]; exact addL_ok h0.ok tx id d
  · rw [added_ctrs l v hk e0, added_helds l v hk]; exact h0.hok.add h0.ok.up hc e0
  · rw [added_ctrs l v hk e0]
    have ea : addL l.ctrs tx id d = putM id ⟨x.c.grp, addN x.c.e tx d⟩ l.ctrs := by unfold addL; rw [hc]; simp only; rw [if_pos e0]
    rw [ea]
    show getM (putM x.c.grp _ l.G) g = _
    have t1 := turn_sum h0.ok.up hc (addN x.c.e tx d) g
    have t2 := turn_low h0.ok.up hc (addN x.c.e tx d) g
    have t3 := turn_high h0.ok.up hc (addN x.c.e tx d) g
    have a1 := add_val ok hz
    obtain ⟨a2, a3⟩ := addN_low ok hz
    unfold mLow neg0 at a2
    unfold mHigh pos0 at a3
    rw [a1] at t1
    rw [a2] at t2
    rw [a3] at t3
    have tt : thereG (putM id ⟨x.c.grp, addN x.c.e tx d⟩ l.ctrs) g = thereG l.ctrs g := by
      apply Bool.eq_iff_iff.2
      rw [there_iff (h0.ok.up.put _ _), there_iff h0.ok.up]
      constructor
      · rintro ⟨j, c, hj, e⟩
        rw [getM_put h0.ok.up] at hj
        split at hj
        · cases hj; exact ⟨id, x.c, hc, e⟩
        · exact ⟨j, c, hj, e⟩
      · rintro ⟨j, c, hj, e⟩
        by_cases q : j = id
        · refine ⟨id, ⟨x.c.grp, addN x.c.e tx d⟩, by rw [getM_put h0.ok.up, if_pos rfl], ?_⟩
          rw [q, hc] at hj
          cases hj
          exact e
        · exact ⟨j, c, by rw [getM_put h0.ok.up, if_neg q]; exact hj, e⟩
    rw [getM_put h0.gup, tt, t1, t2, t3]
    by_cases q : g = x.c.grp
    · rw [if_pos q, q, there_of hc, if_pos rfl, if_pos rfl, if_pos rfl, if_pos rfl]
      congr 2
      · omega
      · congr 1 <;> omega
    · have q2 : ¬ x.c.grp = g := fun r => q r.symm
      rw [if_neg q, if_neg q2, if_neg q2, if_neg q2, h0.grp]
      simp
  · rcases mem_putM hp' with rfl | q
    · exact ⟨(lk _ (n5 _ hmem).1).trans lx.1, (lk _ (n5 _ hmem).2).trans lx.2⟩
    · exact ⟨(lk _ (n5 p q).1).trans (h0.l5 p q).1, (lk _ (n5 p q).2).trans (h0.l5 p q).2⟩
  · have hp2 : p ∈ (if holdB x.c.e.nets tx then l.D else putM tx (v, idsOf l.helds tx ++ [id]) l.D) := hp'
    have old : p ∈ l.D → labH lab n tx g = 11 + 2 * p.1.toNat := fun hp => (lk _ (n6 p hp g hg)).trans (h0.l6 p hp g hg)
    cases q : holdB x.c.e.nets tx
    · rw [q] at hp2
      simp only [Bool.false_eq_true, if_false] at hp2
      rcases mem_putM hp2 with rfl | r
      · obtain ⟨_, o2⟩ := h4 q
        simp only at hg ⊢
        rcases o2 with o | ⟨g', o, og⟩
        · rw [o] at hg
          have lg := PL.heldL h0 hg
          unfold labH
          split
          · exact lg
          · rfl
        · rw [o] at hg
          cases hg
          exact if_neg (by omega)
      · exact old r
    · rw [q] at hp2
      exact old hp2
  · rcases mem_putM hp' with rfl | q
    · exact h0.low.2.2.2.2 (id, x) hmem
    · exact h0.low.2.2.2.2 p q
end Go.Proofs.YtaohdmaenplbpaaGreat
