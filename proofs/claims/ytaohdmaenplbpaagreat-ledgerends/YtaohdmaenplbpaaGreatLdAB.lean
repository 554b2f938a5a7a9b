import Derived.Test.YtaohdmaenplbpaaGreatLdAA
set_option linter.all false
namespace Go.Proofs.YtaohdmaenplbpaaGreat
open Go.RowKit Go.QK Quota Go.Maps Go.QM
/-! A ledger in memory, by what it holds and by the set of its blocks alone: so that several lie side by side. -/
theorem PL.relab {lab lab' : Nat → Nat} {B : Nat} {w : World} {l : Led} (h : PL lab B w l) (e : ∀ z, z < w.heap.size → lab' z = lab z) : PL lab' B w l := by
  obtain ⟨q1, q2, q3, q4, q5, q6⟩ := h.lt
  exact ⟨h.box, h.cm, h.gm, h.hm, h.esc, h.own, h.ok, h.hok, h.gup, h.grp, (e _ q1).trans h.l1, (e _ q2).trans h.l2, (e _ q3).trans h.l3, (e _ q4).trans h.l4, fun p hp => ⟨(e _ (q5 p hp).1).trans (h.l5 p hp).1, (e _ (q5 p hp).2).trans (h.l5 p hp).2⟩, fun p hp g hg => (e _ (q6 p hp g hg)).trans (h.l6 p hp g hg), h.low⟩
theorem PL.lowD {lab : Nat → Nat} {B : Nat} {w : World} {l : Led} (h : PL lab B w l) {p : Int × Value × List Int} (hp : p ∈ l.D) {g : Nat} (hg : p.2.1.ownBlock = some g) : B ≤ g := (World.ownsRow.lt (h.own p hp).1 g hg).1
/-- Nothing of it is in the set that changes. -/
theorem PL.keep {lab : Nat → Nat} {B : Nat} {w w' : World} {l : Led} {T : Nat → Prop} (h : PL lab B w l) (k : Keep T w w') (n : ∀ z, z < w.heap.size → B ≤ z → lab z ≠ 0 → ¬ T z) : PL lab B w' l := by
  obtain ⟨q1, q2, q3, q4, q5, q6⟩ := h.lt
  obtain ⟨b1, b2, b3, b4, b5⟩ := h.low
  have l1 := h.l1
  have l2 := h.l2
  have l3 := h.l3
  have l4 := h.l4
  exact ⟨h.box.keep k (n _ q1 b1 (by omega)), anyAt_keep h.cm k (n _ q2 b2 (by omega)), anyAt_keep h.gm k (n _ q3 b3 (by omega)), anyAt_keep h.hm k (n _ q4 b4 (by omega)), fun p hp => (h.esc p hp).keep k (n _ (q5 p hp).1 (b5 p hp).1 (by have := (h.l5 p hp).1; omega)) (n _ (q5 p hp).2 (b5 p hp).2 (by have := (h.l5 p hp).2; omega)), fun p hp => ⟨(h.own p hp).1.keep k (fun g hg => n _ (q6 p hp g hg) (h.lowD hp hg) (by have := h.l6 p hp g hg; omega)), (h.own p hp).2⟩, h.ok, h.hok, h.gup, h.grp, h.l1, h.l2, h.l3, h.l4, h.l5, h.l6, h.low⟩
/-- The ledger lb, whose blocks are among S, holds C and H. -/
structure LG (S : Nat → Prop) (w : World) (lb : Nat) (C : Ctrs) (H : Helds) : Prop where
  lt : ∀ z, S z → z < w.heap.size
  is : ∃ lab B l, PL lab B w l ∧ l.lb = lb ∧ l.ctrs = C ∧ l.helds = H ∧ ∀ z, z < w.heap.size → B ≤ z → lab z ≠ 0 → S z
theorem LG.keep {S T : Nat → Prop} {w w' : World} {lb : Nat} {C : Ctrs} {H : Helds} (h : LG S w lb C H) (k : Keep T w w') (n : ∀ z, S z → ¬ T z) : LG S w' lb C H := by
  obtain ⟨lt, lab, B, l, hp, e1, e2, e3, hS⟩ := h
  have hs := k.size
  have q := (hp.relab (lab' := fun z => if z < w.heap.size then lab z else 0) (fun z hz => if_pos hz)).keep k (fun z hz hb hl => n z (hS z hz hb (by simpa [hz] using hl)))
  refine ⟨fun z hz => by have := lt z hz; omega, _, B, l, q, e1, e2, e3, fun z hz hb hl => ?_⟩
  by_cases hz' : z < w.heap.size
  · exact hS z hz' hb (by simpa [hz'] using hl)
  · simp [hz'] at hl
theorem LG.below {S : Nat → Prop} {w w' : World} {lb : Nat} {C : Ctrs} {H : Helds} (h : LG S w lb C H) (k : Below w.heap.size w w') : LG S w' lb C H := h.keep (T := fun _ => False) (Keep.of_below k) (fun _ _ => id)
theorem LG.ok {S : Nat → Prop} {w : World} {lb : Nat} {C : Ctrs} {H : Helds} (h : LG S w lb C H) : LOk C ∧ HOk C H := by
  obtain ⟨-, lab, B, l, hp, -, rfl, rfl, -⟩ := h
  exact ⟨hp.ok, hp.hok⟩
/-- What a call leaves: the ledger's blocks are the old ones, and new ones; of the rest nothing is touched. -/
def Left (S : Nat → Prop) (w w' : World) (lb : Nat) (C : Ctrs) (H : Helds) : Prop := ∃ S' : Nat → Prop, LG S' w' lb C H ∧ Keep S w w' ∧ ∀ z, S' z → S z ∨ w.heap.size ≤ z
theorem LG.left {S : Nat → Prop} {w w' : World} {lb : Nat} {C : Ctrs} {H : Helds} (h : LG S w lb C H) (k : Below w.heap.size w w') : Left S w w' lb C H := ⟨S, h.below k, Keep.of_below k, fun _ => .inl⟩
theorem PL.left {S T : Nat → Prop} {lab lab' : Nat → Nat} {B : Nat} {w w' : World} {l' : Led} (hS : ∀ z, z < w.heap.size → B ≤ z → lab z ≠ 0 → S z) (hp : PL lab' B w' l') (e : ∀ z, z < w.heap.size → lab' z = lab z) (k : Keep T w w') (hT : ∀ z, z < w.heap.size → T z → S z) : Left S w w' l'.lb l'.ctrs l'.helds := by
  refine ⟨fun z => z < w'.heap.size ∧ B ≤ z ∧ lab' z ≠ 0, ⟨fun z hz => hz.1, lab', B, l', hp, rfl, rfl, rfl, fun z h1 h2 h3 => ⟨h1, h2, h3⟩⟩, k.mono hT, fun z hz => ?_⟩
  by_cases q : z < w.heap.size
  · exact .inl (hS z q hz.2.1 (by rw [← e z q]; exact hz.2.2))
  · exact .inr (by omega)
theorem lg_new (w : World) : Calls Tryz.prog 46 #[] w fun r w' => ∃ lb S, r = .returned (ptr lb) ∧ LG S w' lb [] [] ∧ (∀ z, S z → w.heap.size ≤ z) ∧ Below w.heap.size w w' := by
  refine (newL_any w).mono ?_
  rintro r w' ⟨rfl, hp, hb⟩
  exact ⟨_, fun z => z < w'.heap.size ∧ w.heap.size ≤ z, rfl, ⟨fun z h => h.1, _, _, _, hp, rfl, rfl, rfl, fun z h1 h2 _ => ⟨h1, h2⟩⟩, fun z h => h.2, hb⟩
theorem lg_copy {S : Nat → Prop} {w : World} {lb : Nat} {C : Ctrs} {H : Helds} (h : LG S w lb C H) (hl : H.length < 3000000000) : Calls Tryz.prog 21 #[ptr lb] w fun r w' => ∃ lb' S', r = .returned (ptr lb') ∧ LG S' w' lb' C H ∧ (∀ z, S' z → w.heap.size ≤ z) ∧ Below w.heap.size w w' := by
  obtain ⟨lt, lab, B, l, hp, rfl, rfl, rfl, hS⟩ := h
  refine (copyL_any lab B l w hp (by simpa [Led.helds] using hl)).mono ?_
  rintro r w' ⟨lab', l', rfl, hp', e1, e2, hb⟩
  exact ⟨_, fun z => z < w'.heap.size ∧ w.heap.size ≤ z, rfl, ⟨fun z h => h.1, _, _, _, hp', rfl, e1, e2, fun z h1 h2 _ => ⟨h1, h2⟩⟩, fun z h => h.2, hb⟩
theorem lg_may {S : Nat → Prop} {w : World} {lb : Nat} {C : Ctrs} {H : Helds} (h : LG S w lb C H) {tx id d : Int} (hx : I64 tx) (hi : I64 id) (hd : I64 d) : Calls Tryz.prog 27 #[ptr lb, .int .i64 tx, .int .i64 id, .int .i64 d] w fun r w' => r = .returned (.int .i64 (mayL C tx id d)) ∧ Below w.heap.size w w' := by
  obtain ⟨lt, lab, B, l, hp, rfl, rfl, rfl, hS⟩ := h
  exact mayL_any lab B l tx id d w hp hx hi hd
theorem lg_create {S : Nat → Prop} {w : World} {lb : Nat} {C : Ctrs} {H : Helds} (h : LG S w lb C H) {id grp lo hi v : Int} (i1 : I64 lo) (i2 : I64 hi) (i3 : I64 v) : Calls Tryz.prog 22 #[ptr lb, cV id grp lo hi v] w fun r w' => r = .returned (.int .i64 (newL C id grp lo hi v)) ∧ Left S w w' lb (makeL C id grp lo hi v) H := by
  have h' := h
  obtain ⟨lt, lab, B, l, hp, rfl, rfl, rfl, hS⟩ := h
  have e := newL_chL l id grp lo hi v
  unfold makeL
  by_cases hE : chL l.K id grp lo hi v = 0
  · rw [if_pos hE] at e
    by_cases hF : (fitB (lowG l.ctrs grp + v) && fitB (highG l.ctrs grp + v)) = true
    · rw [if_pos hF] at e
      rw [e, if_pos rfl]
      refine (create_yes lab B l id grp lo hi v w hp i1 i2 i3 e hE hF).mono ?_
      rintro r w' ⟨rfl, b, m, hp', hk, -, -⟩
      obtain ⟨q1, q2, q3, q4, q5, q6⟩ := hp.lt
      obtain ⟨b1, b2, b3, b4, b5⟩ := hp.low
      have l2 := hp.l2
      have l3 := hp.l3
      have r := PL.left hS hp' (fun z hz => if_pos hz) hk (fun z hz q => by
        rcases q with rfl | rfl
        · exact hS _ q2 b2 (by omega)
        · exact hS _ q3 b3 (by omega))
      rw [made_ctrs] at r
      exact ⟨rfl, r⟩
    · rw [if_neg hF] at e
      rw [e, if_neg (by omega)]
      refine (create_full lab B l id grp lo hi v w hp i1 i2 i3 hE (by simpa using hF)).mono ?_
      rintro r w' ⟨rfl, hb⟩
      exact ⟨rfl, h'.left hb⟩
  · rw [if_neg hE] at e
    rw [e, if_neg hE]
    refine (create_bad lab B l id grp lo hi v w hp hE).mono ?_
    rintro r w' ⟨rfl, hb⟩
    exact ⟨rfl, h'.left hb⟩
/-- The lists of ids behind Add. -/
def heldA (C : Ctrs) (H : Helds) (tx id d : Int) : Helds := if mayL C tx id d = 0 then heldL C H tx id else H
theorem addS_in {S : Nat → Prop} {lab : Nat → Nat} {B : Nat} {w : World} {l : Led} (hp : PL lab B w l) (hS : ∀ z, z < w.heap.size → B ≤ z → lab z ≠ 0 → S z) {tx id : Int} {x : Lm} (hk : getM l.K id = some x) : ∀ z, z < w.heap.size → addS l tx x z → S z := by
  intro z hz q
  obtain ⟨q1, q2, q3, q4, q5, q6⟩ := hp.lt
  obtain ⟨b1, b2, b3, b4, b5⟩ := hp.low
  have l3 := hp.l3
  have l4 := hp.l4
  have l5 := hp.l5 _ (getM_mem hk)
  have b6 := b5 _ (getM_mem hk)
  simp only at l5 b6
  rcases q with rfl | rfl | rfl | rfl | q
  · exact hS _ hz b3 (by omega)
  · exact hS _ hz b4 (by omega)
  · exact hS _ hz b6.1 (by omega)
  · exact hS _ hz b6.2 (by omega)
  · exact hS _ hz (World.ownsRow.lt (hp.heldO tx) z q).1 (by have := hp.heldL q; omega)
theorem lg_add {S : Nat → Prop} {w : World} {lb : Nat} {C : Ctrs} {H : Helds} (h : LG S w lb C H) {tx id d : Int} (hx : I64 tx) (hi : I64 id) (hd : I64 d) (hn : ∀ c, getM C id = some c → c.e.nets.length < 1000000000) (hl : H.length < 3000000000) : Calls Tryz.prog 48 #[ptr lb, .int .i64 tx, .int .i64 id, .int .i64 d] w fun r w' => r = .returned (.int .i64 (mayL C tx id d)) ∧ Left S w w' lb (addL C tx id d) (heldA C H tx id d) := by
  have h' := h
  obtain ⟨lt, lab, B, l, hp, rfl, rfl, rfl, hS⟩ := h
  have hlD : l.D.length < 3000000000 := by simpa [Led.helds] using hl
  by_cases e0 : mayL l.ctrs tx id d = 0
  · cases hk : getM l.K id with
    | none =>
      have hc : getM l.ctrs id = none := by rw [getC, hk]; rfl
      unfold mayL at e0
      rw [hc] at e0
      simp only at e0
      split at e0 <;> omega
    | some x =>
      have hc : getM l.ctrs id = some x.c := by rw [getC, hk]; rfl
      have fin : ∀ (r : Ending) (w' : World), (r = .returned (.int .i64 0) ∧ ∃ v, PL (labH lab w.heap.size tx) B w' (l.added tx id d x v) ∧ Keep (addS l tx x) w w') → r = .returned (.int .i64 (mayL l.ctrs tx id d)) ∧ Left S w w' l.lb (addL l.ctrs tx id d) (heldA l.ctrs l.helds tx id d) := by
        rintro r w' ⟨rfl, v, hp', hk'⟩
        have r := PL.left hS hp' (fun z hz => if_pos hz) hk' (addS_in hp hS hk)
        rw [added_ctrs l v hk e0, added_helds l v hk] at r
        unfold heldA
        rw [e0, if_pos rfl]
        exact ⟨rfl, r⟩
      cases hold : holdB x.c.e.nets tx with
      | false => exact (addL_new lab B l tx id d x w hp hx hi hd hk e0 (hn _ hc) hlD hold).mono fin
      | true => exact (addL_old lab B l tx id d x w hp hx hi hd hk e0 (hn _ hc) hlD hold).mono fin
  · refine (addL_no lab B l tx id d w hp hx hi hd e0).mono ?_
    rintro r w' ⟨rfl, hb⟩
    have e1 : addL l.ctrs tx id d = l.ctrs := by
      unfold addL
      cases getM l.ctrs id with
      | none => rfl
      | some c => exact if_neg e0
    unfold heldA
    rw [e1, if_neg e0]
    exact ⟨rfl, h'.left hb⟩
theorem endS_in {S : Nat → Prop} {lab : Nat → Nat} {B : Nat} {w : World} {l : Led} (hp : PL lab B w l) (hS : ∀ z, z < w.heap.size → B ≤ z → lab z ≠ 0 → S z) : ∀ z, z < w.heap.size → (endS l z ∨ z = l.mh) → S z := by
  intro z hz q
  obtain ⟨b1, b2, b3, b4, b5⟩ := hp.low
  have l3 := hp.l3
  have l4 := hp.l4
  rcases q with (rfl | ⟨k, x, hk, q⟩) | rfl
  · exact hS _ hz b3 (by omega)
  · have l5 := hp.l5 _ (getM_mem hk)
    have b6 := b5 _ (getM_mem hk)
    simp only at l5 b6
    rcases q with rfl | rfl
    · exact hS _ hz b6.1 (by omega)
    · exact hS _ hz b6.2 (by omega)
  · exact hS _ hz b4 (by omega)
theorem lg_settle {S : Nat → Prop} {w : World} {lb : Nat} {C : Ctrs} {H : Helds} (h : LG S w lb C H) {tx : Int} (hx : I64 tx) : Calls Tryz.prog 42 #[ptr lb, .int .i64 tx] w fun r w' => r = .returned (.int .i64 ((idsOf H tx).length : Int)) ∧ Left S w w' lb (endL setN C tx) (delM H tx) := by
  obtain ⟨lt, lab, B, l, hp, rfl, rfl, rfl, hS⟩ := h
  refine (settleL_any lab B l tx w hp hx).mono ?_
  rintro r w' ⟨rfl, hp', hk⟩
  have r := PL.left hS hp' (fun _ _ => rfl) hk (endS_in hp hS)
  rw [ended_ctrs hp setN tx (fun e q => setN_no q), ended_helds, show (l.ended setN tx).lb = l.lb from (endK_same setN tx _ l).1] at r
  exact ⟨rfl, r⟩
theorem lg_release {S : Nat → Prop} {w : World} {lb : Nat} {C : Ctrs} {H : Helds} (h : LG S w lb C H) {tx : Int} (hx : I64 tx) : Calls Tryz.prog 35 #[ptr lb, .int .i64 tx] w fun r w' => r = .returned (.int .i64 ((idsOf H tx).length : Int)) ∧ Left S w w' lb (endL relN C tx) (delM H tx) := by
  obtain ⟨lt, lab, B, l, hp, rfl, rfl, rfl, hS⟩ := h
  refine (releaseL_any lab B l tx w hp hx).mono ?_
  rintro r w' ⟨rfl, hp', hk⟩
  have r := PL.left hS hp' (fun _ _ => rfl) hk (endS_in hp hS)
  rw [ended_ctrs hp relN tx (fun e q => relN_no q), ended_helds, show (l.ended relN tx).lb = l.lb from (endK_same relN tx _ l).1] at r
  exact ⟨rfl, r⟩
/-! What it tells. -/
def netC (C : Ctrs) (tx id : Int) : Int := match getM C id with | some c => netV c.e.nets tx | none => 0
def hdR (C : Ctrs) (tx id : Int) : List Value := [.int .i64 tx, .int .i64 id, .int .i64 (netC C tx id)]
def heldR (H : Helds) (tx : Int) : List Int := (idsOf H tx).mergeSort fun x y => decide (x ≤ y)
def kR (p : Int × Ctr) : List Value := [.int .i64 p.1, .int .i64 p.2.grp, .int .i64 p.2.e.lo, .int .i64 p.2.e.hi, .int .i64 p.2.e.val]
def sumA (C : Ctrs) (g : Int) : Int × Int × Int := if thereG C g then (sumG C g, lowG C g, highG C g) else (0, 0, 0)
def sumE (C : Ctrs) (g : Int) : Int := if thereG C g then 0 else 122
def readA (C : Ctrs) (id : Int) : Value := match getM C id with | some c => rng c.e.low c.e.high | none => rng 0 0
def readF (C : Ctrs) (id : Int) : Int := match getM C id with | some _ => 0 | none => 120
theorem lg_holdings {S : Nat → Prop} {w : World} {lb : Nat} {C : Ctrs} {H : Helds} (h : LG S w lb C H) {tx : Int} (hx : I64 tx) : Calls Tryz.prog 17 #[ptr lb, .int .i64 tx] w fun r w' => ∃ v, r = .returned v ∧ GRow w' w.heap.size 53 3 v (heldR H tx).length (rowsC (hdR C tx) (heldR H tx)) ∧ Below w.heap.size w w' := by
  obtain ⟨lt, lab, B, l, hp, rfl, rfl, rfl, hS⟩ := h
  have e : hdR l.ctrs tx = hdC l tx := by
    funext id
    have q : netC l.ctrs tx id = netL l tx id := by unfold netC netL; rw [getC]; cases getM l.K id <;> rfl
    unfold hdR
    rw [q]
  rw [e]
  exact holdings_any lab B l tx w hp hx
theorem lg_counters {S : Nat → Prop} {w : World} {lb : Nat} {C : Ctrs} {H : Helds} (h : LG S w lb C H) : Calls Tryz.prog 12 #[ptr lb] w fun r w' => ∃ v, r = .returned v ∧ GRow w' w.heap.size 43 5 v C.length (rowsC kR C) ∧ v.ownBlock ≠ none ∧ Below w.heap.size w w' := by
  obtain ⟨lt, lab, B, l, hp, rfl, rfl, rfl, hS⟩ := h
  have e : rowsC kR l.ctrs = rowsC kC l.K := by unfold rowsC Led.ctrs; rw [List.flatMap_map]; rfl
  have e2 : l.ctrs.length = l.K.length := List.length_map _
  rw [e, e2]
  exact countersL_any lab B l w hp
theorem lg_groups {S : Nat → Prop} {w : World} {lb : Nat} {C : Ctrs} {H : Helds} (h : LG S w lb C H) : ∃ G : Prs (Int × Int × Int), Up G ∧ (∀ g, getM G g = if thereG C g then some (sumG C g, lowG C g, highG C g) else none) ∧ Calls Tryz.prog 31 #[ptr lb] w fun r w' => ∃ v, r = .returned v ∧ GRow w' w.heap.size 84 2 v G.length (rowsC gC G) ∧ v.ownBlock ≠ none ∧ Below w.heap.size w w' := by
  obtain ⟨lt, lab, B, l, hp, rfl, rfl, rfl, hS⟩ := h
  exact ⟨l.G, hp.gup, hp.grp, groupsL_any lab B l w hp⟩
theorem lg_sum {S : Nat → Prop} {w : World} {lb : Nat} {C : Ctrs} {H : Helds} (h : LG S w lb C H) {g : Int} (hg : I64 g) : Calls Tryz.prog 36 #[ptr lb, .int .i64 g] w fun r w' => r = .returned (.tuple #[.int .i64 (sumA C g).1, .int .i64 (sumE C g)]) ∧ Below w.heap.size w w' := by
  obtain ⟨lt, lab, B, l, hp, rfl, rfl, rfl, hS⟩ := h
  exact sumL_any lab B l g w hp hg
theorem lg_worst {S : Nat → Prop} {w : World} {lb : Nat} {C : Ctrs} {H : Helds} (h : LG S w lb C H) {g : Int} (hg : I64 g) : Calls Tryz.prog 37 #[ptr lb, .int .i64 g] w fun r w' => r = .returned (.tuple #[rng (sumA C g).2.1 (sumA C g).2.2, .int .i64 (sumE C g)]) ∧ Below w.heap.size w w' := by
  obtain ⟨lt, lab, B, l, hp, rfl, rfl, rfl, hS⟩ := h
  exact worstL_any lab B l g w hp hg
theorem lg_read {S : Nat → Prop} {w : World} {lb : Nat} {C : Ctrs} {H : Helds} (h : LG S w lb C H) {id : Int} (hg : I64 id) : Calls Tryz.prog 13 #[ptr lb, .int .i64 id] w fun r w' => r = .returned (.tuple #[readA C id, .int .i64 (readF C id)]) ∧ Below w.heap.size w w' := by
  obtain ⟨lt, lab, B, l, hp, rfl, rfl, rfl, hS⟩ := h
  have e : readA l.ctrs id = readR l id ∧ readF l.ctrs id = readE l id := by
    unfold readA readF readR readE
    rw [hasM_get, getC]
    cases getM l.K id <;> exact ⟨rfl, rfl⟩
  rw [e.1, e.2]
  exact read_any lab B l id w hp hg
end Go.Proofs.YtaohdmaenplbpaaGreat
