import Derived.Test.YtaohdmaenplbpaaGreatEcK
import Derived.Maps.OwnOps
set_option linter.all false
namespace Go.Proofs.YtaohdmaenplbpaaGreat
open Go.RowKit Go.QK Quota Go.Maps

/-- The bounds, the settled value, the nets. -/
structure Esc where
  lo : Int
  hi : Int
  base : Int
  nets : Nets
def Esc.low (e : Esc) : Int := e.base + lowS e.nets
def Esc.high (e : Esc) : Int := e.base + highS e.nets
structure Esc.Ok (e : Esc) : Prop where
  i1 : I64 e.lo
  i2 : I64 e.hi
  b1 : e.lo ≤ e.low
  b2 : e.high ≤ e.hi
  rise : Rise e.nets
  keys : ∀ p ∈ e.nets, 1 ≤ p.1 ∧ p.1 ≤ 2147483647
  all : ∀ p ∈ e.nets, I64 p.2
def escC (e : Esc) (m : Nat) : List Value := [.int .i64 e.lo, .int .i64 e.hi, .int .i64 e.base, .int .i64 e.low, .int .i64 e.high, .map (some m)]
def MapAt (w : World) (m : Nat) (L : Nets) : Prop := w.ownsMap Tryz.prog 3 (plainElem (H := Unit) Tryz.prog 2) m L.length (mapD L)
structure PE (w : World) (b m : Nat) (e : Esc) : Prop where
  cells : Cells w b (escC e m)
  map : MapAt w m e.nets
  ok : e.Ok

theorem lawK : Keyed Tryz.prog 3 := int_keyed Tryz.underlying3
theorem zero2 (w : World) : (zeroValue 2).run Tryz.prog w = .ok (.int .i64 0) w := by kernel_rfl
theorem wf64 {z : Int} (h : I64 z) : (Lit.int .i64 z).wf = true := WalkArith.wf_i64 h
theorem keyI {z : Int} (h : I64 z) : keyOf Tryz.prog 3 (.int .i64 z) = some (.int .i64 z) := keyOf_int_mk Tryz.underlying3 (wf64 h)

theorem MapAt.keep {S : Nat → Prop} {w w' : World} {m : Nat} {L : Nets} (h : MapAt w m L) (hk : Keep S w w') (hn : ¬ S m) : MapAt w' m L := by
  have hlt := h.lt
  obtain ⟨es, clock, hb, F, hs, hD⟩ := h
  exact ⟨es, clock, (hk.block m hlt hn).trans hb, F, hs, hD⟩
theorem MapAt.below {w w' : World} {m : Nat} {L : Nets} (h : MapAt w m L) (hk : Below w.heap.size w w') : MapAt w' m L := h.keep (Keep.of_below (S := fun _ => False) hk) id
theorem PE.keep {S : Nat → Prop} {w w' : World} {b m : Nat} {e : Esc} (h : PE w b m e) (hk : Keep S w w') (h1 : ¬ S b) (h2 : ¬ S m) : PE w' b m e := ⟨h.cells.keep hk h1, h.map.keep hk h2, h.ok⟩
theorem PE.below {w w' : World} {b m : Nat} {e : Esc} (h : PE w b m e) (hk : Below w.heap.size w w') : PE w' b m e := h.keep (Keep.of_below (S := fun _ => False) hk) id id
theorem PE.lt {w : World} {b m : Nat} {e : Esc} (h : PE w b m e) : b < w.heap.size ∧ m < w.heap.size := ⟨h.cells.1, h.map.lt⟩
theorem PE.ne {w : World} {b m : Nat} {e : Esc} (h : PE w b m e) : b ≠ m := by
  intro q
  subst q
  obtain ⟨es, clock, hb, _⟩ := h.map
  have := (h.cells.get 0 _ rfl).1
  simp [World.cell?, hb] at this

/-- Of one's own list of nets: so many as there are. -/
theorem MapAt.of {w : World} {m n : Nat} {L : Nets} (h : w.ownsMap Tryz.prog 3 (plainElem (H := Unit) Tryz.prog 2) m n (mapD L)) : MapAt w m L := by
  obtain ⟨es, clock, hb, F, hs, hD⟩ := h
  refine ⟨es, clock, hb, F, ?_, hD⟩
  have := congrArg Maps.size hD
  rw [mapD_size] at this
  simp [Maps.size, length_sorted] at this
  omega

/-! What the six cells say. -/
theorem PE.c0 {w : World} {b m : Nat} {e : Esc} (h : PE w b m e) : w.cell? ⟨b, 0, none⟩ = some (.int .i64 e.lo) := (h.cells.get 0 _ rfl).1
theorem PE.c1 {w : World} {b m : Nat} {e : Esc} (h : PE w b m e) : w.cell? ⟨b, 1, none⟩ = some (.int .i64 e.hi) := (h.cells.get 1 _ rfl).1
theorem PE.c2 {w : World} {b m : Nat} {e : Esc} (h : PE w b m e) : w.cell? ⟨b, 2, none⟩ = some (.int .i64 e.base) := (h.cells.get 2 _ rfl).1
theorem PE.c3 {w : World} {b m : Nat} {e : Esc} (h : PE w b m e) : w.cell? ⟨b, 3, none⟩ = some (.int .i64 e.low) := (h.cells.get 3 _ rfl).1
theorem PE.c4 {w : World} {b m : Nat} {e : Esc} (h : PE w b m e) : w.cell? ⟨b, 4, none⟩ = some (.int .i64 e.high) := (h.cells.get 4 _ rfl).1
theorem PE.c5 {w : World} {b m : Nat} {e : Esc} (h : PE w b m e) : w.cell? ⟨b, 5, none⟩ = some (.map (some m)) := (h.cells.get 5 _ rfl).1

abbrev ptr (b : Nat) : Value := .pointer (some ⟨b, 0, none⟩)

set_option maxHeartbeats 400000 in
theorem settled_any (b m : Nat) (e : Esc) (w : World) (h : PE w b m e) :
    Calls Tryz.prog 40 #[ptr b] w fun r w' => r = .returned (.int .i64 e.base) ∧ Below w.heap.size w w' := by
  have k2 := h.c2
  clear h
  go_enter Tryz.func40, Tryz.ntmps40
  go_wp2_with fail
  go_ret
  exact ⟨rfl, Below.refl _ _⟩

set_option maxHeartbeats 400000 in
theorem interval_any (b m : Nat) (e : Esc) (w : World) (h : PE w b m e) :
    Calls Tryz.prog 15 #[ptr b] w fun r w' => r = .returned (rng e.low e.high) ∧ Below w.heap.size w w' := by
  have k2 := h.c3
  have k3 := h.c4
  have hb := h.lt.1
  have hb' : b ≠ w.heap.size := by omega
  clear h
  go_enter Tryz.func15, Tryz.ntmps15
  go_wp2_with fail
  refine bodyPost_ret (v := rng e.low e.high) (by simp [results, Tryz.results15, go_sem]) rfl ⟨rfl, ?_⟩
  exact (Below.refl _ _).alloc (Nat.le_refl _) _

set_option maxHeartbeats 400000 in
theorem bounds_any (b m : Nat) (e : Esc) (w : World) (h : PE w b m e) :
    Calls Tryz.prog 51 #[ptr b] w fun r w' => r = .returned (rng e.lo e.hi) ∧ Below w.heap.size w w' := by
  have k2 := h.c0
  have k3 := h.c1
  have hb := h.lt.1
  have hb' : b ≠ w.heap.size := by omega
  clear h
  go_enter Tryz.func51, Tryz.ntmps51
  go_wp2_with fail
  refine bodyPost_ret (v := rng e.lo e.hi) (by simp [results, Tryz.results51, go_sem]) rfl ⟨rfl, ?_⟩
  exact (Below.refl _ _).alloc (Nat.le_refl _) _

set_option maxHeartbeats 400000 in
theorem net_any (b m : Nat) (e : Esc) (tx : Int) (w : World) (h : PE w b m e) (hx : I64 tx) :
    Calls Tryz.prog 18 #[ptr b, .int .i64 tx] w fun r w' => r = .returned (.tuple #[.int .i64 (netV e.nets tx), .bool (holdB e.nets tx)]) ∧ Below w.heap.size w w' := by
  have k5 := h.c5
  have hown := h.map
  unfold MapAt at hown
  clear h
  go_enter Tryz.func18, Tryz.ntmps18
  go_wp2_with (at_lookup; refine wpList_lookup_own_ok_int _ rfl _ _ 114 rfl 3 2 .i64 lawK Tryz.underlying114 Tryz.underlying2 (zero2 _) m _ _ rfl hown _ _ rfl (keyI hx) ?_; intro c hat hwc; rw [mapD_at] at hat; rw [mapD_has]; obtain rfl : netV e.nets tx = c := by simpa using hat)
  go_ret2
  exact ⟨rfl, Below.refl _ _⟩
end Go.Proofs.YtaohdmaenplbpaaGreat

namespace Go.Proofs.YtaohdmaenplbpaaGreat
open Go.RowKit Go.QK Quota Go.Maps

def newE (lo hi v : Int) : Int := if hi < lo then 11 else if lo ≤ v ∧ v ≤ hi then 0 else 110
theorem new_ok {lo hi v : Int} (h : newE lo hi v = 0) (h1 : I64 lo) (h2 : I64 hi) : (Esc.mk lo hi v []).Ok := by
  unfold newE at h
  split at h
  · cases h
  · split at h
    · rename_i h3
      exact ⟨h1, h2, by simp [Esc.low, sumF]; omega, by simp [Esc.high, sumF]; omega, List.Pairwise.nil, nofun, nofun⟩
    · cases h

set_option maxHeartbeats 1000000 in
theorem new_no (lo hi v : Int) (w : World) (h : newE lo hi v ≠ 0) :
    Calls Tryz.prog 47 #[rng lo hi, .int .i64 v] w fun r w' => r = .returned (.tuple #[.pointer none, .int .i64 (newE lo hi v)]) ∧ Below w.heap.size w w' := by
  by_cases h1 : hi < lo
  · have e1 : newE lo hi v = 11 := by unfold newE; rw [if_pos h1]
    have e2 : chkE lo hi = 11 := by unfold chkE; rw [if_pos h1]
    rw [e1]
    clear h e1 h1
    go_enter Tryz.func47, Tryz.ntmps47
    go_wp2_with fail
    refine (check_any lo hi _).mono ?_
    rintro r w1 ⟨rfl, hb⟩
    have HB := hide (below1 hb)
    rw [e2]
    clear hb e2
    go_wp2_with fail
    go_ret2
    exact ⟨rfl, HB.out⟩
  · have e1 : newE lo hi v = 110 := by
      unfold newE at h ⊢
      rw [if_neg h1] at h ⊢
      split at h
      · exact absurd rfl h
      · rename_i h2
        rw [if_neg h2]
    have e2 : chkE lo hi = 0 := by unfold chkE; rw [if_neg h1]
    have e3 : hasB lo hi v = false := by
      unfold newE at h
      rw [if_neg h1] at h
      unfold hasB
      by_cases q : lo ≤ v <;> by_cases q2 : v ≤ hi <;> simp [q, q2] at h ⊢
    rw [e1]
    clear h e1 h1
    go_enter Tryz.func47, Tryz.ntmps47
    go_wp2_with fail
    refine (check_any lo hi _).mono ?_
    rintro r w1 ⟨rfl, hb⟩
    have HB := hide (below1 hb)
    obtain ⟨c0, c1, _, _, hz⟩ := keep1 hb
    rw [e2]
    clear hb e2
    go_wp2_with fail
    refine (has_any lo hi v _).mono ?_
    rintro r w2 ⟨rfl, hb⟩
    have HB := hide (HB.out.trans (hb.mono HB.out.size))
    rw [e3]
    clear hb e3 c0 c1
    go_wp2_with fail
    go_ret2
    exact ⟨rfl, HB.out⟩

set_option maxHeartbeats 1000000 in
theorem new_yes (lo hi v : Int) (w : World) (h : newE lo hi v = 0) (i1 : I64 lo) (i2 : I64 hi) :
    Calls Tryz.prog 47 #[rng lo hi, .int .i64 v] w fun r w' => ∃ b m, r = .returned (.tuple #[ptr b, .int .i64 0]) ∧ Below w.heap.size w w' ∧ PE w' b m ⟨lo, hi, v, []⟩ ∧ w.heap.size ≤ b ∧ w.heap.size ≤ m := by
  have ok := hide (new_ok h i1 i2)
  have h1 : ¬ hi < lo := by intro q; simp [newE, q] at h
  have h2 : lo ≤ v ∧ v ≤ hi := by
    unfold newE at h
    rw [if_neg h1] at h
    split at h
    · assumption
    · cases h
  have e2 : chkE lo hi = 0 := by unfold chkE; rw [if_neg h1]
  have e3 : hasB lo hi v = true := by simp [hasB, h2.1, h2.2]
  have hmm := @run_makeMap Tryz.prog
  clear h h1 h2 i1 i2
  go_enter Tryz.func47, Tryz.ntmps47
  go_wp2_with fail
  refine (check_any lo hi _).mono ?_
  rintro r w1 ⟨rfl, hb⟩
  have HB := hide (below1 hb)
  obtain ⟨c0, c1, _, _, hz⟩ := keep1 hb
  rw [e2]
  clear e2
  go_wp2_with fail
  refine (has_any lo hi v _).mono ?_
  rintro r w2 ⟨rfl, hb2⟩
  have HB2 := hide (HB.out.trans (hb2.mono HB.out.size))
  obtain ⟨c0, c1, _, _, hz⟩ := keep1 (hb.trans (hb2.mono hb.size))
  rw [e3]
  clear e3 hb hb2 HB
  go_wp2_with fail
  go_ret2
  have s := HB2.out.size
  refine ⟨w2.heap.size + 1, w2.heap.size, by simp, ?_, ⟨?_, ?_, ok.out⟩, by omega, s⟩
  · exact (HB2.out.alloc s _).alloc (by simp; omega) _
  · have := Cells.new (w2.alloc (.map #[] 0)) #[.int .i64 lo, .int .i64 hi, .int .i64 v, .int .i64 v, .int .i64 v, .map (some w2.heap.size)] 116
    simpa [escC, Esc.low, Esc.high, sumF] using this
  · exact (World.ownsMap_made w2 _ _ _).alloc _

end Go.Proofs.YtaohdmaenplbpaaGreat

namespace Go.Proofs.YtaohdmaenplbpaaGreat
open Go.RowKit Go.QK Quota Go.Maps

theorem wrapI {z : Int} (h : I64 z) : wrap64 z = z := by unfold I64 at h; unfold wrap64; omega

set_option maxHeartbeats 1000000 in
theorem without_any (a b n : Int) (w : World) (h1 : I64 (a - neg0 n)) (h2 : I64 (b - pos0 n)) :
    Calls Tryz.prog 88 #[rng a b, .int .i64 n] w fun r w' => r = .returned (rng (a - neg0 n) (b - pos0 n)) ∧ Below w.heap.size w w' := by
  rcases Int.lt_trichotomy n 0 with hn | hn | hn
  · have e1 : neg0 n = n := by unfold neg0; omega
    have e2 : pos0 n = 0 := by unfold pos0; omega
    rw [e1] at h1 ⊢
    rw [e2] at h2 ⊢
    have w1 := wrapI h1
    have w2 := wrapI h2
    simp only [Int.sub_zero] at w1 w2 ⊢
    clear h1 h2 e1 e2
    go_enter Tryz.func88, Tryz.ntmps88
    go_wp2_with fail
    refine bodyPost_ret (v := rng (a - n) (b)) (by simp [results, Tryz.results88, go_sem]) rfl ⟨rfl, ?_⟩
    exact ((Below.refl _ _).alloc (Nat.le_refl _) _).alloc (by simp) _
  · have e1 : neg0 n = 0 := by unfold neg0; omega
    have e2 : pos0 n = 0 := by unfold pos0; omega
    rw [e1] at h1 ⊢
    rw [e2] at h2 ⊢
    have w1 := wrapI h1
    have w2 := wrapI h2
    simp only [Int.sub_zero] at w1 w2 ⊢
    clear h1 h2 e1 e2
    subst hn
    go_enter Tryz.func88, Tryz.ntmps88
    go_wp2_with fail
    refine bodyPost_ret (v := rng (a) (b)) (by simp [results, Tryz.results88, go_sem]) rfl ⟨rfl, ?_⟩
    exact ((Below.refl _ _).alloc (Nat.le_refl _) _).alloc (by simp) _
  · have e1 : neg0 n = 0 := by unfold neg0; omega
    have e2 : pos0 n = n := by unfold pos0; omega
    rw [e1] at h1 ⊢
    rw [e2] at h2 ⊢
    have w1 := wrapI h1
    have w2 := wrapI h2
    simp only [Int.sub_zero] at w1 w2 ⊢
    clear h1 h2 e1 e2
    go_enter Tryz.func88, Tryz.ntmps88
    go_wp2_with fail
    refine bodyPost_ret (v := rng (a) (b - n)) (by simp [results, Tryz.results88, go_sem]) rfl ⟨rfl, ?_⟩
    exact ((Below.refl _ _).alloc (Nat.le_refl _) _).alloc (by simp) _

set_option maxHeartbeats 1000000 in
theorem with_any (a b n : Int) (w : World) (h1 : I64 (a + pos0 n)) (h2 : I64 (b + neg0 n)) :
    Calls Tryz.prog 87 #[rng a b, .int .i64 n] w fun r w' => r = .returned (rng (a + pos0 n) (b + neg0 n)) ∧ Below w.heap.size w w' := by
  rcases Int.lt_trichotomy n 0 with hn | hn | hn
  · have e1 : pos0 n = 0 := by unfold pos0; omega
    have e2 : neg0 n = n := by unfold neg0; omega
    rw [e1] at h1 ⊢
    rw [e2] at h2 ⊢
    have w1 := wrapI h1
    have w2 := wrapI h2
    simp only [Int.add_zero] at w1 w2 ⊢
    clear h1 h2 e1 e2
    go_enter Tryz.func87, Tryz.ntmps87
    go_wp2_with fail
    refine bodyPost_ret (v := rng (a) (b + n)) (by simp [results, Tryz.results87, go_sem]) rfl ⟨rfl, ?_⟩
    exact ((Below.refl _ _).alloc (Nat.le_refl _) _).alloc (by simp) _
  · have e1 : pos0 n = 0 := by unfold pos0; omega
    have e2 : neg0 n = 0 := by unfold neg0; omega
    rw [e1] at h1 ⊢
    rw [e2] at h2 ⊢
    have w1 := wrapI h1
    have w2 := wrapI h2
    simp only [Int.add_zero] at w1 w2 ⊢
    clear h1 h2 e1 e2
    subst hn
    go_enter Tryz.func87, Tryz.ntmps87
    go_wp2_with fail
    refine bodyPost_ret (v := rng (a) (b)) (by simp [results, Tryz.results87, go_sem]) rfl ⟨rfl, ?_⟩
    exact ((Below.refl _ _).alloc (Nat.le_refl _) _).alloc (by simp) _
  · have e1 : pos0 n = n := by unfold pos0; omega
    have e2 : neg0 n = 0 := by unfold neg0; omega
    rw [e1] at h1 ⊢
    rw [e2] at h2 ⊢
    have w1 := wrapI h1
    have w2 := wrapI h2
    simp only [Int.add_zero] at w1 w2 ⊢
    clear h1 h2 e1 e2
    go_enter Tryz.func87, Tryz.ntmps87
    go_wp2_with fail
    refine bodyPost_ret (v := rng (a + n) (b)) (by simp [results, Tryz.results87, go_sem]) rfl ⟨rfl, ?_⟩
    exact ((Below.refl _ _).alloc (Nat.le_refl _) _).alloc (by simp) _

def rchB (a b : Int) (xs : List Int) : Bool := okW a xs && okW b xs
def rchE (a b : Int) (xs : List Int) : Int := if rchB a b xs then 0 else 10
def rchL (a b : Int) (xs : List Int) : Int := if rchB a b xs then a + lows xs else 0
def rchH (a b : Int) (xs : List Int) : Int := if rchB a b xs then b + highs xs else 0

theorem Box.stay {w w' : World} {b : Nat} {x y : Value} (h : Box w b x y) (hb : Below w.heap.size w w') : Box w' b x y := h.below hb

set_option maxHeartbeats 2000000 in
theorem reach_any (p q : Int) (xs : List Int) (ad : Option Addr) (cap : Nat) (w : World) (h0 : I64 p) (h1 : I64 q) (hs : Seen w ad xs) (hx : All xs) (hl : xs.length ≤ 1000000) :
    Calls Tryz.prog 96 #[rng p q, .slice ad xs.length cap] w fun r w' => r = .returned (.tuple #[rng (rchL p q xs) (rchH p q xs), .int .i64 (rchE p q xs)]) ∧ Below w.heap.size w w' := by
  by_cases o1 : okW p xs = true
  · by_cases o2 : okW q xs = true
    · have E := hide (show rchL p q xs = p + lows xs ∧ rchH p q xs = q + highs xs ∧ rchE p q xs = 0 from by simp [rchL, rchH, rchE, rchB, o1, o2])
      have A1 : loW p xs = p + lows xs ∧ hiW p xs = p + highs xs ∧ erW p xs = 0 := by simp [loW, hiW, erW, o1]
      have A2 : loW q xs = q + lows xs ∧ hiW q xs = q + highs xs ∧ erW q xs = 0 := by simp [loW, hiW, erW, o2]
      have K1 := fun w' (hs' : Seen w' ad xs) => worst_any p xs ad cap w' h0 hs' hx hl
      have K2 := fun w' (hs' : Seen w' ad xs) => worst_any q xs ad cap w' h1 hs' hx hl
      rw [A1.1, A1.2.1, A1.2.2] at K1
      rw [A2.1, A2.2.1, A2.2.2] at K2
      rw [E.out.1, E.out.2.1, E.out.2.2]
      generalize p + lows xs = pl at *
      generalize p + highs xs = ph at *
      generalize q + lows xs = ql at *
      generalize q + highs xs = qh at *
      clear A1 A2 E o1 o2 h0 h1 hx hl
      have HS := hide hs
      clear hs
      go_enter Tryz.func96, Tryz.ntmps96
      go_wp2_with fail
      refine (K1 _ (HS.out.below (((Below.refl _ _).alloc (Nat.le_refl _) _).alloc (by simp) _))).mono ?_
      rintro r w1 ⟨rfl, hb⟩
      obtain ⟨c0, c1, c2, c3, f2, f3, z0, z1⟩ := keep2 hb
      have HB := hide (below2 hb)
      clear hb K1
      go_wp2_with fail
      refine (K2 _ (HS.out.below (HB.out.alloc HB.out.size _))).mono ?_
      rintro r w2 ⟨rfl, hb⟩
      have s1 := HB.out.size
      have B1 := Box.below (Box.new w1 (.int .i64 pl) (.int .i64 ph) 38) hb
      have HB2 := hide ((HB.out.alloc s1 _).trans (hb.mono (by simp; omega)))
      have B2 := (show Box w1 (w.heap.size + 1) (.int .i64 0) (.int .i64 0) from ⟨z1, c2, c3, f2, f3⟩)
      have B2 := (B2.alloc (.cells #[.int .i64 pl, .int .i64 ph] 38)).below hb
      clear hb c0 c1 c2 c3 f2 f3 K2
      obtain ⟨y0, y1, y2, y3, y4⟩ := B1
      have B2' := B2
      obtain ⟨x0, x1, x2, x3, x4⟩ := B2
      have hne : w1.heap.size ≠ w2.heap.size := by omega
      have hne2 : w.heap.size + 1 ≠ w2.heap.size := by omega
      have hne3 : w.heap.size + 1 ≠ w1.heap.size := by omega
      go_wp2_with fail
      have BX := (Box.set B2' (.int .i64 pl) (.int .i64 qh)).alloc (.cells #[.int .i64 ql, .int .i64 qh] 38)
      obtain ⟨u0, u1, u2, u3, u4⟩ := BX
      refine bodyPost_ret (v := .tuple #[rng pl qh, .int .i64 0]) (by simp [results, Tryz.results96, go_sem, u1, u2]) rfl ⟨rfl, ?_⟩
      exact (((HB2.out.setCell (Nat.le_succ _) _).setCell (Nat.le_succ _) _).alloc (by simp; exact HB2.out.size) _)
    · have o2 : okW q xs = false := by simpa using o2
      have E := hide (show rchL p q xs = 0 ∧ rchH p q xs = 0 ∧ rchE p q xs = 10 from by simp [rchL, rchH, rchE, rchB, o2])
      have A1 : loW p xs = p + lows xs ∧ hiW p xs = p + highs xs ∧ erW p xs = 0 := by simp [loW, hiW, erW, o1]
      have A2 : loW q xs = 0 ∧ hiW q xs = 0 ∧ erW q xs = 10 := by simp [loW, hiW, erW, o2]
      have K1 := fun w' (hs' : Seen w' ad xs) => worst_any p xs ad cap w' h0 hs' hx hl
      have K2 := fun w' (hs' : Seen w' ad xs) => worst_any q xs ad cap w' h1 hs' hx hl
      rw [A1.1, A1.2.1, A1.2.2] at K1
      rw [A2.1, A2.2.1, A2.2.2] at K2
      rw [E.out.1, E.out.2.1, E.out.2.2]
      generalize p + lows xs = pl at *
      generalize p + highs xs = ph at *
      clear A1 A2 E o1 o2 h0 h1 hx hl
      have HS := hide hs
      clear hs
      go_enter Tryz.func96, Tryz.ntmps96
      go_wp2_with fail
      refine (K1 _ (HS.out.below (((Below.refl _ _).alloc (Nat.le_refl _) _).alloc (by simp) _))).mono ?_
      rintro r w1 ⟨rfl, hb⟩
      obtain ⟨c0, c1, c2, c3, f2, f3, z0, z1⟩ := keep2 hb
      have HB := hide (below2 hb)
      clear hb K1
      go_wp2_with fail
      refine (K2 _ (HS.out.below (HB.out.alloc HB.out.size _))).mono ?_
      rintro r w2 ⟨rfl, hb⟩
      have s1 := HB.out.size
      have HB2 := hide ((HB.out.alloc s1 _).trans (hb.mono (by simp; omega)))
      have B2 := (show Box w1 (w.heap.size + 1) (.int .i64 0) (.int .i64 0) from ⟨z1, c2, c3, f2, f3⟩)
      have B2 := (B2.alloc (.cells #[.int .i64 pl, .int .i64 ph] 38)).below hb
      clear hb c0 c1 c2 c3 f2 f3 K2
      have B2' := B2
      obtain ⟨x0, x1, x2, x3, x4⟩ := B2
      go_wp2_with fail
      have BX := (Box.set B2' (.int .i64 0) (.int .i64 0)).alloc (.cells #[.int .i64 0, .int .i64 0] 38)
      obtain ⟨u0, u1, u2, u3, u4⟩ := BX
      refine bodyPost_ret (v := .tuple #[rng 0 0, .int .i64 10]) (by simp [results, Tryz.results96, go_sem, u1, u2]) rfl ⟨rfl, ?_⟩
      exact (((HB2.out.setCell (Nat.le_succ _) _).setCell (Nat.le_succ _) _).alloc (by simp; exact HB2.out.size) _)
  · have o1 : okW p xs = false := by simpa using o1
    have E := hide (show rchL p q xs = 0 ∧ rchH p q xs = 0 ∧ rchE p q xs = 10 from by simp [rchL, rchH, rchE, rchB, o1])
    have A1 : loW p xs = 0 ∧ hiW p xs = 0 ∧ erW p xs = 10 := by simp [loW, hiW, erW, o1]
    have K1 := fun w' (hs' : Seen w' ad xs) => worst_any p xs ad cap w' h0 hs' hx hl
    rw [A1.1, A1.2.1, A1.2.2] at K1
    rw [E.out.1, E.out.2.1, E.out.2.2]
    clear A1 E o1 h0 h1 hx hl
    have HS := hide hs
    clear hs
    go_enter Tryz.func96, Tryz.ntmps96
    go_wp2_with fail
    refine (K1 _ (HS.out.below (((Below.refl _ _).alloc (Nat.le_refl _) _).alloc (by simp) _))).mono ?_
    rintro r w1 ⟨rfl, hb⟩
    obtain ⟨c0, c1, c2, c3, f2, f3, z0, z1⟩ := keep2 hb
    have HB := hide (below2 hb)
    clear hb K1
    have B2' := (show Box w1 (w.heap.size + 1) (.int .i64 0) (.int .i64 0) from ⟨z1, c2, c3, f2, f3⟩)
    go_wp2_with fail
    have BX := (Box.set B2' (.int .i64 0) (.int .i64 0)).alloc (.cells #[.int .i64 0, .int .i64 0] 38)
    obtain ⟨u0, u1, u2, u3, u4⟩ := BX
    refine bodyPost_ret (v := .tuple #[rng 0 0, .int .i64 10]) (by simp [results, Tryz.results96, go_sem, u1, u2]) rfl ⟨rfl, ?_⟩
    exact (((HB.out.setCell (Nat.le_succ _) _).setCell (Nat.le_succ _) _).alloc (by simp; exact HB.out.size) _)
end Go.Proofs.YtaohdmaenplbpaaGreat

namespace Go.Proofs.YtaohdmaenplbpaaGreat
open Go.RowKit Go.QK Quota Go.Maps

/-! What May answers: P10.3. -/
def mLow (e : Esc) (tx d : Int) : Int := e.low - neg0 (netV e.nets tx) + neg0 (netV e.nets tx + d)
def mHigh (e : Esc) (tx d : Int) : Int := e.high - pos0 (netV e.nets tx) + pos0 (netV e.nets tx + d)
def mayE (e : Esc) (tx d : Int) : Int :=
  if tx < 1 ∨ 2147483647 < tx then 130
  else if mLow e tx d < e.lo ∨ e.hi < mHigh e tx d then 110
  else if fitB (netV e.nets tx + d) then 0 else 10
def addN (e : Esc) (tx d : Int) : Esc := if mayE e tx d = 0 then { e with nets := putN tx (netV e.nets tx + d) e.nets } else e
def wN (e : Esc) (tx d : Int) : Int := if mayE e tx d = 0 then netV e.nets tx + d else 0
def wL (e : Esc) (tx d : Int) : Int := if mayE e tx d = 0 then mLow e tx d else 0
def wH (e : Esc) (tx d : Int) : Int := if mayE e tx d = 0 then mHigh e tx d else 0

theorem Esc.Ok.net {e : Esc} (h : e.Ok) (tx : Int) : I64 (netV e.nets tx) := by
  by_cases q : holdB e.nets tx = true
  · exact h.all _ (netV_mem q)
  · rw [netV_none (holdB_false (by simpa using q))]
    unfold I64; omega
/-- The worst cases of the others. -/
theorem Esc.Ok.others {e : Esc} (h : e.Ok) (tx : Int) : I64 (e.low - neg0 (netV e.nets tx)) ∧ I64 (e.high - pos0 (netV e.nets tx)) ∧ e.low - neg0 (netV e.nets tx) ≤ e.high - pos0 (netV e.nets tx) := by
  have h1 := sumF_del neg0 (by simp [neg0]) tx h.rise
  have h2 := sumF_del pos0 (by simp [pos0]) tx h.rise
  have k := low_nonpos (delN e.nets tx)
  have k1 := low_nonpos e.nets
  have a := h.i1
  have b := h.i2
  have c := h.b1
  have d := h.b2
  unfold I64 at *
  unfold Esc.low Esc.high at *
  simp only [lowS, highS] at *
  unfold neg0 pos0 at *
  omega
theorem Esc.Ok.rng {e : Esc} (h : e.Ok) : I64 e.low ∧ I64 e.high ∧ e.low ≤ e.high ∧ I64 e.base := by
  have k1 := low_nonpos e.nets
  have a := h.i1
  have b := h.i2
  have c := h.b1
  have d := h.b2
  unfold I64 at *
  unfold Esc.low Esc.high at *
  omega

/-- The parts of a net that fits, of one that does not. -/
theorem parts_one (n : Int) : lows [n] = neg0 n ∧ highs [n] = pos0 n := by
  simp only [lows, highs, neg0, pos0]
  split <;> omega
theorem parts_two {h d : Int} (hh : I64 h) (hd : I64 d) (hn : ¬ I64 (h + d)) : lows [h, d] = neg0 (h + d) ∧ highs [h, d] = pos0 (h + d) := by
  unfold I64 at *
  simp only [lows, highs, neg0, pos0]
  split <;> split <;> omega

/-- What weigh comes to, by its parts. -/
def prt (h d : Int) : List Int := if fitB (h + d) then [h + d] else [h, d]
theorem prt_sum {h d : Int} (hh : I64 h) (hd : I64 d) : lows (prt h d) = neg0 (h + d) ∧ highs (prt h d) = pos0 (h + d) := by
  unfold prt
  by_cases q : fitB (h + d) = true
  · rw [if_pos q]; exact parts_one _
  · rw [if_neg q]; exact parts_two hh hd (fitB_false.1 (by simpa using q))
theorem prt_all {h d : Int} (hh : I64 h) (hd : I64 d) : All (prt h d) ∧ (prt h d).length ≤ 2 := by
  unfold prt
  split
  · rename_i q
    exact ⟨fun x hx => by simp at hx; subst hx; exact fitB_true.1 q, by simp⟩
  · exact ⟨fun x hx => by simp at hx; rcases hx with rfl | rfl <;> assumption, by simp⟩

/-- Beyond 64 bits, or beyond the bounds: then the bounds are left. -/
theorem mayE_bounds {e : Esc} (ok : e.Ok) {tx d : Int} (hd : I64 d) {r : Bool}
    (hr : r = (!(rchB (e.low - neg0 (netV e.nets tx)) (e.high - pos0 (netV e.nets tx)) (prt (netV e.nets tx) d)) || !(inB (rchL (e.low - neg0 (netV e.nets tx)) (e.high - pos0 (netV e.nets tx)) (prt (netV e.nets tx) d)) (rchH (e.low - neg0 (netV e.nets tx)) (e.high - pos0 (netV e.nets tx)) (prt (netV e.nets tx) d)) e.lo e.hi))) :
    r = decide (mLow e tx d < e.lo ∨ e.hi < mHigh e tx d) := by
  have hn := ok.net tx
  obtain ⟨s1, s2⟩ := prt_sum hn hd
  obtain ⟨o1, o2, o3⟩ := ok.others tx
  have i1 := ok.i1
  have i2 := ok.i2
  subst hr
  generalize hA : e.low - neg0 (netV e.nets tx) = A at *
  generalize hB : e.high - pos0 (netV e.nets tx) = B at *
  have m1 : mLow e tx d = A + neg0 (netV e.nets tx + d) := by unfold mLow; omega
  have m2 : mHigh e tx d = B + pos0 (netV e.nets tx + d) := by unfold mHigh; omega
  rw [m1, m2]
  unfold rchB rchL rchH rchB okW
  rw [s1, s2]
  generalize hN : netV e.nets tx + d = n at *
  have p1 : neg0 n ≤ 0 ∧ 0 ≤ pos0 n ∧ (neg0 n = 0 ∨ pos0 n = 0) := by unfold neg0 pos0; omega
  unfold I64 at *
  unfold fitB inB hasB
  generalize neg0 n = x at *
  generalize pos0 n = y at *
  by_cases q1 : -9223372036854775808 ≤ A + x ∧ A + x ≤ 9223372036854775807 <;> by_cases q2 : -9223372036854775808 ≤ A + y ∧ A + y ≤ 9223372036854775807 <;> by_cases q3 : -9223372036854775808 ≤ B + x ∧ B + x ≤ 9223372036854775807 <;> by_cases q4 : -9223372036854775808 ≤ B + y ∧ B + y ≤ 9223372036854775807 <;>
    by_cases g1 : A + x < e.lo <;> by_cases g2 : e.hi < B + y <;> simp [q1, q2, q3, q4, g1, g2] <;> omega
end Go.Proofs.YtaohdmaenplbpaaGreat
