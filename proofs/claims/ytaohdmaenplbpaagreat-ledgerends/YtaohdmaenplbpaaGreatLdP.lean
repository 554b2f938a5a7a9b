import Derived.Test.YtaohdmaenplbpaaGreatLdT
set_option linter.all false
namespace Go.Proofs.YtaohdmaenplbpaaGreat
open Go.RowKit Go.QK Quota Go.Maps Go.QM
set_option maxRecDepth 100000

/-! A ledger in memory: a counter's escrow lies at b, its map at m; a transaction's list of counters is the slice v. -/
structure Lm where
  c : Ctr
  b : Nat
  m : Nat
structure Led where
  lb : Nat
  mc : Nat
  mg : Nat
  mh : Nat
  K : Prs Lm
  G : Prs (Int × Int × Int)
  D : Prs (Value × List Int)
def Led.ctrs (l : Led) : Ctrs := l.K.map (fun p => (p.1, p.2.c))
def Led.helds (l : Led) : Helds := l.D.map (fun p => (p.1, p.2.2))
abbrev entV (x : Lm) : Value := .agg #[.int .i64 x.c.grp, ptr x.b]
abbrev totV (t : Int × Int × Int) : Value := tot t.1 t.2.1 t.2.2
/-- Whose block is it? 1 the ledger's own, 2 3 4 its maps', 10 + 2 id a counter's escrow's, 11 + 2 tx a list's. -/
structure PL (lab : Nat → Nat) (B : Nat) (w : World) (l : Led) : Prop where
  box : Cells w l.lb [.map (some l.mc), .map (some l.mg), .map (some l.mh)]
  cm : AnyAt Tryz.prog 3 w l.mc (l.K.map (fun p => (p.1, entV p.2)))
  gm : AnyAt Tryz.prog 3 w l.mg (l.G.map (fun p => (p.1, totV p.2)))
  hm : AnyAt Tryz.prog 3 w l.mh (l.D.map (fun p => (p.1, p.2.1)))
  esc : ∀ p ∈ l.K, PE w p.2.b p.2.m p.2.c.e
  own : ∀ p ∈ l.D, Owns .i64 3 w B p.2.1 p.2.2 ∧ p.2.1.ownBlock ≠ none
  ok : LOk l.ctrs
  hok : HOk l.ctrs l.helds
  gup : Up l.G
  grp : ∀ g, getM l.G g = if thereG l.ctrs g then some (sumG l.ctrs g, lowG l.ctrs g, highG l.ctrs g) else none
  l1 : lab l.lb = 1
  l2 : lab l.mc = 2
  l3 : lab l.mg = 3
  l4 : lab l.mh = 4
  l5 : ∀ p ∈ l.K, lab p.2.b = 10 + 2 * p.1.toNat ∧ lab p.2.m = 10 + 2 * p.1.toNat
  l6 : ∀ p ∈ l.D, ∀ g, p.2.1.ownBlock = some g → lab g = 11 + 2 * p.1.toNat
  low : B ≤ l.lb ∧ B ≤ l.mc ∧ B ≤ l.mg ∧ B ≤ l.mh ∧ ∀ p ∈ l.K, B ≤ p.2.b ∧ B ≤ p.2.m
theorem anyAt_keep {S : Nat → Prop} {P : Program} {k : TypeId} {w w' : World} {m : Nat} {L : Prs Value} (h : AnyAt P k w m L) (hk : Keep S w w') (hn : ¬ S m) : AnyAt P k w' m L := by
  have hlt := World.ownsMap.lt h
  obtain ⟨es, clock, hb, F, hs, hD⟩ := h
  exact ⟨es, clock, (hk.block m hlt hn).trans hb, F, hs, hD⟩
theorem anyAt_below {P : Program} {k : TypeId} {w w' : World} {m : Nat} {L : Prs Value} (h : AnyAt P k w m L) (hk : Below w.heap.size w w') : AnyAt P k w' m L := anyAt_keep h (Keep.of_below (S := fun _ => False) hk) id
theorem PL.below {lab : Nat → Nat} {B : Nat} {w w' : World} {l : Led} (h : PL lab B w l) (k : Below w.heap.size w w') : PL lab B w' l :=
  ⟨h.box.below k, anyAt_below h.cm k, anyAt_below h.gm k, anyAt_below h.hm k, fun p hp => (h.esc p hp).below k, fun p hp => ⟨(h.own p hp).1.below k, (h.own p hp).2⟩, h.ok, h.hok, h.gup, h.grp, h.l1, h.l2, h.l3, h.l4, h.l5, h.l6, h.low⟩

theorem zeroT (w : World) : (zeroValue 125).run Tryz.prog w = .ok (tot 0 0 0) w := by kernel_rfl
theorem zeroE (w : World) : (zeroValue 110).run Tryz.prog w = .ok (.agg #[.int .i64 0, .pointer none]) w := by kernel_rfl
theorem getM_mapV {α β : Type} (f : α → β) (L : Prs α) (k : Int) : getM (L.map (fun p => (p.1, f p.2))) k = (getM L k).map f := getM_map f L k

/-- What a group's totals are, and whether it is there. -/
def totE (l : Led) (g : Int) : Int := if thereG l.ctrs g then 0 else 122
def totR (l : Led) (g : Int) : Int × Int × Int := if thereG l.ctrs g then (sumG l.ctrs g, lowG l.ctrs g, highG l.ctrs g) else (0, 0, 0)
set_option maxHeartbeats 2000000 in
theorem total_any (lab : Nat → Nat) (B : Nat) (l : Led) (g : Int) (w : World) (h : PL lab B w l) (hg : I64 g) :
    Calls Tryz.prog 69 #[ptr l.lb, .int .i64 g] w fun r w' => r = .returned (.tuple #[totV (totR l g), .int .i64 (totE l g)]) ∧ Below w.heap.size w w' := by
  obtain ⟨k1, k1f⟩ := h.box.get 1 _ rfl
  have hlt := h.box.1
  have hgp := h.grp g
  have hm := h.gm
  have hat : getM (l.G.map (fun p => (p.1, totV p.2))) g = (getM l.G g).map totV := getM_mapV totV l.G g
  unfold AnyAt at hm
  unfold totR totE
  have a0 := alloc_below w (.cells #[.int .i64 0, .int .i64 0, .int .i64 0] 125)
  have hm1 := World.ownsMap.alloc hm (.cells #[.int .i64 0, .int .i64 0, .int .i64 0] 125)
  have k2 := (a0.cell (p := ⟨l.lb, 1, none⟩) hlt).trans k1
  clear hm h k1 k1f
  cases ht : thereG l.ctrs g
  · rw [ht] at hgp
    simp only [Bool.false_eq_true, if_false] at hgp ⊢
    have HG := hide hgp
    have HA := hide hat
    clear hgp hat ht
    go_enter Tryz.func69, Tryz.ntmps69
    go_wp2_with (at_lookup; refine wpList_lookup_own_ok _ rfl _ _ 105 rfl 3 125 lawK Tryz.underlying105 anyElem (zeroT _) (.held (tot 0 0 0)) [] rfl l.mg _ _ rfl hm1 _ _ rfl (keyI hg) ?_; intro v ps hv; obtain rfl := any_look hv; rw [mapE_has, hasM_get, HA.out, HG.out]; simp only [Option.map_none, Option.getD_none, Option.isSome_none])
    refine bodyPost_ret (v := .tuple #[tot 0 0 0, .int .i64 122]) (by simp [results, Tryz.results69, go_sem]) rfl ⟨rfl, ?_⟩
    exact (alloc_below _ _).alloc (by simp) _
  · rw [ht] at hgp
    simp only [if_true] at hgp ⊢
    generalize sumG l.ctrs g = s at *
    generalize lowG l.ctrs g = lo at *
    generalize highG l.ctrs g = hi at *
    have HG := hide hgp
    have HA := hide hat
    clear hgp hat ht
    go_enter Tryz.func69, Tryz.ntmps69
    go_wp2_with (at_lookup; refine wpList_lookup_own_ok _ rfl _ _ 105 rfl 3 125 lawK Tryz.underlying105 anyElem (zeroT _) (.held (tot 0 0 0)) [] rfl l.mg _ _ rfl hm1 _ _ rfl (keyI hg) ?_; intro v ps hv; obtain rfl := any_look hv; rw [mapE_has, hasM_get, HA.out, HG.out]; simp only [Option.map_some, Option.getD_some, Option.isSome_some])
    refine bodyPost_ret (v := .tuple #[tot s lo hi, .int .i64 0]) (by simp [results, Tryz.results69, go_sem]) rfl ⟨rfl, ?_⟩
    exact (alloc_below _ _).alloc (by simp) _

set_option maxHeartbeats 2000000 in
theorem sumL_any (lab : Nat → Nat) (B : Nat) (l : Led) (g : Int) (w : World) (h : PL lab B w l) (hg : I64 g) :
    Calls Tryz.prog 36 #[ptr l.lb, .int .i64 g] w fun r w' => r = .returned (.tuple #[.int .i64 (totR l g).1, .int .i64 (totE l g)]) ∧ Below w.heap.size w w' := by
  have K := fun w' (h : PL lab B w' l) => total_any lab B l g w' h hg
  have HP := hide h
  generalize totR l g = t at *
  generalize totE l g = e at *
  obtain ⟨s, lo, hi⟩ := t
  simp only [totV] at *
  clear h
  go_enter Tryz.func36, Tryz.ntmps36
  go_wp2_with fail
  refine (K _ HP.out).mono ?_
  rintro r w1 ⟨rfl, h1⟩
  have B1 := hide h1
  clear h1 HP K
  go_wp2_with fail
  go_ret2
  exact ⟨rfl, B1.out.alloc B1.out.size _⟩

set_option maxHeartbeats 2000000 in
theorem worstL_any (lab : Nat → Nat) (B : Nat) (l : Led) (g : Int) (w : World) (h : PL lab B w l) (hg : I64 g) :
    Calls Tryz.prog 37 #[ptr l.lb, .int .i64 g] w fun r w' => r = .returned (.tuple #[rng (totR l g).2.1 (totR l g).2.2, .int .i64 (totE l g)]) ∧ Below w.heap.size w w' := by
  have K := fun w' (h : PL lab B w' l) => total_any lab B l g w' h hg
  have HP := hide (h.below (alloc_below w (.cells #[.int .i64 0, .int .i64 0] 38)))
  generalize totR l g = t at *
  generalize totE l g = e at *
  obtain ⟨s, lo, hi⟩ := t
  simp only [totV] at *
  clear h
  go_enter Tryz.func37, Tryz.ntmps37
  go_wp2_with fail
  refine (K _ HP.out).mono ?_
  rintro r w1 ⟨rfl, h1⟩
  obtain ⟨c0, c1, f0, f1, z0⟩ := keep1 h1
  have B1 := hide (below1 h1)
  clear h1 HP K
  go_wp2_with fail
  have hne : w.heap.size ≠ w1.heap.size := by omega
  refine bodyPost_ret (v := .tuple #[rng lo hi, .int .i64 e]) (by simp [results, Tryz.results37, go_sem, c0, c1, z0]) rfl ⟨rfl, ?_⟩
  have K2 := (((Keep.refl (fun z => z = w.heap.size) w1).setCell (g := w.heap.size) (j := 0) (fun _ => rfl) (.int .i64 lo)).setCell (g := w.heap.size) (j := 1) (fun _ => rfl) (.int .i64 hi)).below B1.out.size (fun z hz q => by omega)
  have B2 := B1.out.trans K2
  exact B2.alloc B2.size _

/-- A counter's low and high. -/
def readE (l : Led) (id : Int) : Int := if hasM l.K id then 0 else 120
def readR (l : Led) (id : Int) : Value := match getM l.K id with | some x => rng x.c.e.low x.c.e.high | none => rng 0 0
set_option maxHeartbeats 2000000 in
theorem read_any (lab : Nat → Nat) (B : Nat) (l : Led) (id : Int) (w : World) (h : PL lab B w l) (hg : I64 id) :
    Calls Tryz.prog 13 #[ptr l.lb, .int .i64 id] w fun r w' => r = .returned (.tuple #[readR l id, .int .i64 (readE l id)]) ∧ Below w.heap.size w w' := by
  obtain ⟨k1, k1f⟩ := h.box.get 0 _ rfl
  have hlt := h.box.1
  have hm := h.cm
  have hat : getM (l.K.map (fun p => (p.1, entV p.2))) id = (getM l.K id).map entV := getM_mapV entV l.K id
  unfold AnyAt at hm
  unfold readR readE
  have a0 := alloc_below w (.cells #[.int .i64 0, .int .i64 0] 38)
  have hm1 := World.ownsMap.alloc hm (.cells #[.int .i64 0, .int .i64 0] 38)
  have k2 := (a0.cell (p := ⟨l.lb, 0, none⟩) hlt).trans k1
  rw [hasM_get]
  clear hm k1 k1f
  cases ht : getM l.K id with
  | none =>
    simp only [Option.isSome_none, Bool.false_eq_true, if_false]
    have HG := hide ht
    have HA := hide hat
    clear hat ht h
    go_enter Tryz.func13, Tryz.ntmps13
    go_wp2_with (at_lookup; refine wpList_lookup_own_ok _ rfl _ _ 104 rfl 3 110 lawK Tryz.underlying104 anyElem (zeroE _) (.held (.agg #[.int .i64 0, .pointer none])) [] rfl l.mc _ _ rfl hm1 _ _ rfl (keyI hg) ?_; intro v ps hv; obtain rfl := any_look hv; rw [mapE_has, hasM_get, HA.out, HG.out]; simp only [Option.map_none, Option.getD_none, Option.isSome_none])
    refine bodyPost_ret (v := .tuple #[rng 0 0, .int .i64 120]) (by simp [results, Tryz.results13, go_sem]) rfl ⟨rfl, ?_⟩
    exact (alloc_below _ _).alloc (by simp) _
  | some x =>
    have hp := h.esc _ (getM_mem ht)
    simp only at hp
    simp only [Option.isSome_some, if_true]
    have KI := fun w' (h : PE w' x.b x.m x.c.e) => interval_any x.b x.m x.c.e w' h
    have HP := hide hp
    generalize x.c.e.low = lo at *
    generalize x.c.e.high = hi at *
    have HG := hide ht
    have HA := hide hat
    clear hat ht h hp
    go_enter Tryz.func13, Tryz.ntmps13
    go_wp2_with (at_lookup; refine wpList_lookup_own_ok _ rfl _ _ 104 rfl 3 110 lawK Tryz.underlying104 anyElem (zeroE _) (.held (.agg #[.int .i64 0, .pointer none])) [] rfl l.mc _ _ rfl hm1 _ _ rfl (keyI hg) ?_; intro v ps hv; obtain rfl := any_look hv; rw [mapE_has, hasM_get, HA.out, HG.out]; simp only [Option.map_some, Option.getD_some, Option.isSome_some])
    refine (KI _ ((HP.out.below (alloc_below _ _)).below (alloc_below _ _))).mono ?_
    rintro r w1 ⟨rfl, h1⟩
    obtain ⟨c0, c1, _, _, _, _, z0, z1⟩ := keep2 h1
    have ff0 : w1.frozen? ⟨w.heap.size, 0, none⟩ = false := (h1.frozen (p := ⟨w.heap.size, 0, none⟩) (by simp; omega)).trans (by simp [go_sem])
    have ff1 : w1.frozen? ⟨w.heap.size, 1, none⟩ = false := (h1.frozen (p := ⟨w.heap.size, 1, none⟩) (by simp; omega)).trans (by simp [go_sem])
    have B1 := hide (below2 h1)
    clear h1 HP KI hm1 k2 a0
    go_wp2_with fail
    refine bodyPost_ret (v := .tuple #[rng lo hi, .int .i64 0]) (by simp [results, Tryz.results13, go_sem, c0, c1]) rfl ⟨rfl, ?_⟩
    exact B1.out.trans ((((Keep.refl (fun z => z = w.heap.size) w1).setCell (g := w.heap.size) (j := 0) (fun _ => rfl) (.int .i64 lo)).setCell (g := w.heap.size) (j := 1) (fun _ => rfl) (.int .i64 hi)).below B1.out.size (fun z hz q => by omega))

/-- A new ledger. -/
def newLed (n : Nat) : Led := ⟨n + 3, n, n + 1, n + 2, [], [], []⟩
set_option maxHeartbeats 2000000 in
theorem newL_any (w : World) : Calls Tryz.prog 46 #[] w fun r w' => r = .returned (ptr (w.heap.size + 3)) ∧ PL (fun x => x - w.heap.size + 2 - (if x = w.heap.size + 3 then 4 else 0)) w.heap.size w' (newLed w.heap.size) ∧ Below w.heap.size w w' := by
  have hmm := @run_makeMap Tryz.prog
  go_enter Tryz.func46, Tryz.ntmps46
  go_wp2_with fail
  go_ret
  refine ⟨rfl, ⟨?_, ?_, ?_, ?_, (fun p hp => by cases hp), (fun p hp => by cases hp), LOk.empty, HOk.empty, List.Pairwise.nil, fun g => rfl, ?_, ?_, ?_, ?_, (fun p hp => by cases hp), (fun p hp => by cases hp), ?_⟩, ?_⟩
  · have := Cells.new (((w.alloc (.map #[] 0)).alloc (.map #[] 0)).alloc (.map #[] 0)) #[.map (some w.heap.size), .map (some (w.heap.size + 1)), .map (some (w.heap.size + 1 + 1))] 108
    simpa [newLed] using this
  · exact anyAt_below (anyAt_below (anyAt_below (AnyAt.made Tryz.prog 3 w) (alloc_below _ _)) (alloc_below _ _)) (alloc_below _ _)
  · have := anyAt_below (anyAt_below (AnyAt.made Tryz.prog 3 (w.alloc (.map #[] 0))) (alloc_below _ (.map #[] 0))) (alloc_below _ (.cells #[.map (some w.heap.size), .map (some (w.heap.size + 1)), .map (some (w.heap.size + 1 + 1))] 108))
    simpa [newLed] using this
  · have := anyAt_below (AnyAt.made Tryz.prog 3 ((w.alloc (.map #[] 0)).alloc (.map #[] 0))) (alloc_below _ (.cells #[.map (some w.heap.size), .map (some (w.heap.size + 1)), .map (some (w.heap.size + 1 + 1))] 108))
    simpa [newLed] using this
  · simp [newLed]
  · simp [newLed]
  · simp [newLed]
  · simp [newLed]
  · exact ⟨by simp [newLed], by simp [newLed], by simp [newLed], by simp [newLed], fun p hp => by cases hp⟩
  · exact (((alloc_below _ _).alloc (by simp) _).alloc (by simp; omega) _).alloc (by simp; omega) _
end Go.Proofs.YtaohdmaenplbpaaGreat
