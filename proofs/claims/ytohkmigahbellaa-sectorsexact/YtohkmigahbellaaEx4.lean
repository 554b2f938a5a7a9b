import Derived.Test.YtohkmigahbellaaEx3
namespace Go.Proofs.Ytohkmigahbellaa
open Go.RowKit Go.QK

/-- A call of a script lies at block b from off on, its numbers within bounds. -/
def OpAt2 (B : Nat) (w : World) (b off : Nat) : Prop :=
  ∃ (o : OpM) (a : Option Addr) (c : Nat), OpOk w o a c ∧ (o.l.keep ≠ [] → ∀ ad, a = some ad → ad.block < B) ∧ o.i ≤ 9223372036854775807 ∧ ∀ j v, (o.v a c)[j]? = some v → w.cell? ⟨b, off + j, none⟩ = some v
theorem OpAt2.below {B : Nat} {w w' : World} {b off : Nat} (h : OpAt2 B w b off) (hlt : b < w.heap.size) (hb : Below w.heap.size w w') : OpAt2 B w' b off := by
  obtain ⟨o, a, c, h1, h2, h4, h3⟩ := h
  exact ⟨o, a, c, h1.below hb, h2, h4, fun j v hv => (hb.cell (p := ⟨b, off + j, none⟩) hlt).trans (h3 j v hv)⟩
def ScriptAt2 (w : World) (a : Option Addr) (n : Nat) : Prop := ∀ i, i < n → ∃ b off, a = some ⟨b, off, none⟩ ∧ b < w.heap.size ∧ OpAt2 w.heap.size w b (off + i * 8)

/-- The cells that a round reads: the variable of the pair, and the call. -/
def OB2 (t d c b off : Nat) (o : OpM) (oa : Option Addr) (oc : Nat) (x : World) : Prop :=
  x.cell? ⟨t, 0, none⟩ = some (.pointer (some ⟨d, 0, none⟩)) ∧ x.cell? ⟨t, 1, none⟩ = some (.pointer (some ⟨c, 0, none⟩)) ∧ x.cell? ⟨b, off, none⟩ = some (.int .i64 o.k) ∧ x.cell? ⟨b, off + 1, none⟩ = some (.bool o.two) ∧ x.cell? ⟨b, off + 2, none⟩ = some (.int .i64 o.i) ∧ x.cell? ⟨b, off + 3, none⟩ = some (.int .u8 (o.fill : Int)) ∧ x.cell? ⟨b, off + 4, none⟩ = some (.int .i64 o.len) ∧
  x.cell? ⟨b, off + 5, none⟩ = some (.slice oa o.l.keep.length oc) ∧ x.cell? ⟨b, off + 6, none⟩ = some (.int .i64 o.l.torn) ∧ x.cell? ⟨b, off + 7, none⟩ = some (.int .i64 o.l.off)
theorem OB2.keep {t d c b off : Nat} {o : OpM} {oa : Option Addr} {oc : Nat} {x y : World} {V : Nat → Prop} (h : OB2 t d c b off o oa oc x) (hk : Keep V x y) (h1 : t < x.heap.size) (n1 : ¬ V t) (h2 : b < x.heap.size) (n2 : ¬ V b) : OB2 t d c b off o oa oc y := by
  obtain ⟨x0, x1, z0, z1, z2, z3, z4, z5, z6, z7⟩ := h
  exact ⟨(hk.cell (p := ⟨t, 0, none⟩) h1 n1).trans x0, (hk.cell (p := ⟨t, 1, none⟩) h1 n1).trans x1, (hk.cell (p := ⟨b, off, none⟩) h2 n2).trans z0, (hk.cell (p := ⟨b, off + 1, none⟩) h2 n2).trans z1, (hk.cell (p := ⟨b, off + 2, none⟩) h2 n2).trans z2, (hk.cell (p := ⟨b, off + 3, none⟩) h2 n2).trans z3, (hk.cell (p := ⟨b, off + 4, none⟩) h2 n2).trans z4, (hk.cell (p := ⟨b, off + 5, none⟩) h2 n2).trans z5, (hk.cell (p := ⟨b, off + 6, none⟩) h2 n2).trans z6, (hk.cell (p := ⟨b, off + 7, none⟩) h2 n2).trans z7⟩

/-- Two pairs of devices, and the two variables that lead to them. -/
structure Table (B : Nat) (w0 w : World) (S1 T1 S2 T2 : Nat → Prop) (d1 c1 d2 c2 : Nat) (g1 g2 : Dev) (t7 t9 : Nat) : Prop where
  p1 : Pr w S1 d1 g1 T1 c1 g1
  p2 : Pr w S2 d2 g2 T2 c2 g2
  ap : ∀ b, (S1 b ∨ T1 b) → ¬ (S2 b ∨ T2 b)
  f1 : ∀ b, (S1 b ∨ T1 b) → B ≤ b
  f2 : ∀ b, (S2 b ∨ T2 b) → B ≤ b
  k7 : Cells w t7 [.pointer (some ⟨d1, 0, none⟩), .pointer (some ⟨c1, 0, none⟩)]
  k9 : Cells w t9 [.pointer (some ⟨d2, 0, none⟩), .pointer (some ⟨c2, 0, none⟩)]
  o7 : ¬ (S1 t7 ∨ T1 t7) ∧ ¬ (S2 t7 ∨ T2 t7)
  o9 : ¬ (S1 t9 ∨ T1 t9) ∧ ¬ (S2 t9 ∨ T2 t9)
  bel : Below B w0 w
  le : B ≤ w0.heap.size
section
variable {B : Nat} {w0 w w' : World} {S1 T1 S2 T2 S' T' : Nat → Prop} {d1 c1 d2 c2 : Nat} {g1 g2 g' : Dev} {t7 t9 : Nat}
theorem Table.left (h : Table B w0 w S1 T1 S2 T2 d1 c1 d2 c2 g1 g2 t7 t9) (hp : Pr w' S' d1 g' T' c1 g') (hs : Step w (fun b => S1 b ∨ T1 b) w' (fun b => S' b ∨ T' b)) : Table B w0 w' S' T' S2 T2 d1 c1 d2 c2 g' g2 t7 t9 := by
  have hB := Nat.le_trans h.le h.bel.size
  have up : ∀ x, x < w.heap.size → ¬ (S1 x ∨ T1 x) → ¬ (S' x ∨ T' x) := fun x hx hn q => (hs.2 x q).elim hn (fun r => by omega)
  refine ⟨hp, h.p2.keep hs.1 (fun b q r => h.ap b q r), fun b q r => ?_, fun b q => (hs.2 b q).elim (h.f1 b) (fun r => Nat.le_trans hB r), h.f2, h.k7.keep hs.1 h.o7.1, h.k9.keep hs.1 h.o9.1, ⟨up _ h.k7.1 h.o7.1, h.o7.2⟩, ⟨up _ h.k9.1 h.o9.1, h.o9.2⟩, h.bel.trans (hs.1.below hB (fun j hj q => by have := h.f1 j q; omega)), h.le⟩
  rcases hs.2 b q with q | q
  · exact h.ap b q r
  · rcases r with r | r
    · have := h.p2.one.lt b r; omega
    · have := h.p2.two.lt b r; omega
theorem Table.right (h : Table B w0 w S1 T1 S2 T2 d1 c1 d2 c2 g1 g2 t7 t9) (hp : Pr w' S' d2 g' T' c2 g') (hs : Step w (fun b => S2 b ∨ T2 b) w' (fun b => S' b ∨ T' b)) : Table B w0 w' S1 T1 S' T' d1 c1 d2 c2 g1 g' t7 t9 := by
  have hB := Nat.le_trans h.le h.bel.size
  have up : ∀ x, x < w.heap.size → ¬ (S2 x ∨ T2 x) → ¬ (S' x ∨ T' x) := fun x hx hn q => (hs.2 x q).elim hn (fun r => by omega)
  refine ⟨h.p1.keep hs.1 (fun b q r => h.ap b r q), hp, fun b r q => ?_, h.f1, fun b q => (hs.2 b q).elim (h.f2 b) (fun r => Nat.le_trans hB r), h.k7.keep hs.1 h.o7.2, h.k9.keep hs.1 h.o9.2, ⟨h.o7.1, up _ h.k7.1 h.o7.2⟩, ⟨h.o9.1, up _ h.k9.1 h.o9.2⟩, h.bel.trans (hs.1.below hB (fun j hj q => by have := h.f2 j q; omega)), h.le⟩
  rcases hs.2 b q with q | q
  · exact h.ap b r q
  · rcases r with r | r
    · have := h.p1.one.lt b r; omega
    · have := h.p1.two.lt b r; omega
theorem Table.below (h : Table B w0 w S1 T1 S2 T2 d1 c1 d2 c2 g1 g2 t7 t9) (hb : Below w.heap.size w w') : Table B w0 w' S1 T1 S2 T2 d1 c1 d2 c2 g1 g2 t7 t9 :=
  h.left (h.p1.below hb) (Step.of_below hb)
end
theorem playD_counts (g : Dev) (o : OpM) : (playD g o).pend.length ≤ g.pend.length + 1 ∧ (playD g o).calls ≤ g.calls + 1 := by
  have hc : ∀ x : Dev, x.crashes.pend.length ≤ x.pend.length ∧ x.crashes.calls = x.calls := by
    intro x
    unfold Dev.crashes
    cases x.loss with
    | none => exact ⟨Nat.le_refl _, rfl⟩
    | some l => exact ⟨Nat.zero_le _, rfl⟩
  unfold playD
  split
  · unfold Dev.write
    split
    · omega
    · split
      · have := hc (((g.push o.i.toNat (filledB o.fill (fillLen o.len))).strike))
        simp [Dev.push, Dev.strike] at this ⊢
        omega
      · simp [Dev.push, Dev.strike]
  · split
    · unfold Dev.sync
      split
      · omega
      · split
        · have := hc g.strike
          simp [Dev.strike] at this ⊢
          omega
        · simp [Dev.strike, Dev.settle]
    · split
      · unfold Dev.arm
        split <;> exact ⟨by simp, by simp⟩
      · split
        · unfold Dev.crash
          split
          · omega
          · exact ⟨Nat.zero_le _, Nat.le_succ _⟩
        · split
          · exact ⟨by simp [Dev.up], by simp [Dev.up]⟩
          · omega

set_option maxHeartbeats 4000000 in
set_option maxRecDepth 100000 in
theorem exact_walk (one two : Int) (a : Option Addr) (n c : Nat) (w : World) (hs : ScriptAt2 w a n) (hn : n ≤ maxLen) :
    Calls Try.prog 8 #[.int .i64 one, .int .i64 two, .slice a n c] w fun e w' => e = .returned (.bool true) ∧ Below w.heap.size w w' := by
  unfold maxLen at hn
  have HS := hide hs
  clear hs
  go_enter Try.func8, Try.ntmps8
  go_wp2_with fail
  refine (brought_any one 9 _ (by decide) (by decide)).mono ?_
  rintro e w' ⟨rfl, hw⟩
  obtain rfl : w = w' := hw.symm
  have hx9 := bring_lt one 9 (by decide)
  generalize bring one 9 = x at *
  go_wp2_with fail
  have NW := made_any (1 + x) w (by omega) (by omega)
  rw [show ((1 + x : Nat) : Int) = 1 + (x : Int) by omega] at NW
  refine NW.mono ?_
  rintro e w1 ⟨d1, S1, c1, T1, rfl, P1, f1, b1⟩
  have HP1 := hide P1
  have HB1 := hide b1
  clear P1 b1 NW
  go_wp2_with fail
  refine (brought_any two 9 _ (by decide) (by decide)).mono ?_
  rintro e w' ⟨rfl, hw⟩
  subst hw
  have hy9 := bring_lt two 9 (by decide)
  generalize bring two 9 = y at *
  go_wp2_with fail
  have bA := alloc_below w1 (.cells #[.pointer (some ⟨d1, 0, none⟩), .pointer (some ⟨c1, 0, none⟩)] 71)
  have CA := Cells.new w1 #[.pointer (some ⟨d1, 0, none⟩), .pointer (some ⟨c1, 0, none⟩)] 71
  have NW := made_any (1 + y) (w1.alloc (.cells #[.pointer (some ⟨d1, 0, none⟩), .pointer (some ⟨c1, 0, none⟩)] 71)) (by omega) (by omega)
  rw [show ((1 + y : Nat) : Int) = 1 + (y : Int) by omega] at NW
  refine NW.mono ?_
  rintro e w2 ⟨d2, S2, c2, T2, rfl, P2, f2, b2⟩
  have bC := alloc_below w2 (.cells #[.pointer (some ⟨d2, 0, none⟩), .pointer (some ⟨c2, 0, none⟩)] 71)
  have CC := Cells.new w2 #[.pointer (some ⟨d2, 0, none⟩), .pointer (some ⟨c2, 0, none⟩)] 71
  have z1 := HB1.out.size
  have z2 := b2.size
  rw [World.size_alloc] at z2
  have TB : Hid (Table w.heap.size w (w2.alloc (.cells #[.pointer (some ⟨d2, 0, none⟩), .pointer (some ⟨c2, 0, none⟩)] 71)) S1 T1 S2 T2 d1 c1 d2 c2 (Dev.new (1 + x)) (Dev.new (1 + y)) w1.heap.size w2.heap.size) := by
    have f2' : ∀ b, S2 b ∨ T2 b → w1.heap.size + 1 ≤ b := fun b q => by have := f2 b q; rw [World.size_alloc] at this; exact this
    have lt1 : ∀ b, S1 b ∨ T1 b → b < w1.heap.size := fun b q => q.elim (HP1.out.one.lt b) (HP1.out.two.lt b)
    have lt2 : ∀ b, S2 b ∨ T2 b → b < w2.heap.size := fun b q => q.elim (P2.one.lt b) (P2.two.lt b)
    exact ⟨((HP1.out.below bA).below b2).below bC, P2.below bC, fun b q r => by have := lt1 b q; have := f2' b r; omega, f1, fun b q => by have := f2' b q; omega, (CA.below b2).below bC, CC, ⟨fun q => by have := lt1 _ q; omega, fun q => by have := f2' _ q; omega⟩, ⟨fun q => by have := lt1 _ q; omega, fun q => by have := lt2 _ q; omega⟩, bnext (bnext (bnext HB1.out bA (Nat.le_refl _)) b2 (Nat.le_refl _)) bC (Nat.le_refl _), Nat.le_refl _⟩
  clear P2 f2 b2 NW bA CA bC CC HP1 HB1 f1
  go_wp2_with fail
  refine (awake_any _).mono ?_
  rintro e w3 ⟨rfl, b3⟩
  have TB3 := hide (TB.out.below b3)
  clear b3 TB
  generalize w1.heap.size = t7 at *
  generalize w2.heap.size = t9 at *
  go_wp2_with fail
  go_loopw [11] (fun i wr => ∃ j : Nat, j ≤ 300 ∧ j ≤ n ∧ i = .int .i64 (j : Int) ∧ ∃ S1 T1 S2 T2 g1 g2, Table w.heap.size w wr S1 T1 S2 T2 d1 c1 d2 c2 g1 g2 t7 t9 ∧ (g1.pend.length ≤ j ∧ g1.calls ≤ j) ∧ (g2.pend.length ≤ j ∧ g2.calls ≤ j)) (fun i _ => 300 - (intOf i).toNat)
  case atStart => exact ⟨0, by omega, by omega, rfl, S1, T1, S2, T2, _, _, TB3.out, ⟨Nat.le_refl _, Nat.le_refl _⟩, ⟨Nat.le_refl _, Nat.le_refl _⟩⟩
  case round =>
    obtain ⟨j, hj, hjn, rfl, S1, T1, S2, T2, g1, g2, hT, hc1, hc2⟩ := hrel
    have TB4 := hide hT
    obtain ⟨v0, _⟩ := hT.k7.get 0 _ rfl
    obtain ⟨v1, _⟩ := hT.k7.get 1 _ rfl
    obtain ⟨v2, _⟩ := hT.k9.get 0 _ rfl
    obtain ⟨v3, _⟩ := hT.k9.get 1 _ rfl
    clear hT TB3
    go_upto_region 6 with fail
    go_cut [45] from 38 to 77 (fun s w' => (∃ q : Bool, s = .bool q ∧ (q = true → j < n ∧ j < 300)) ∧ w' = wr)
    case first =>
      by_cases h1 : j < n
      · have d1 : decide ((j : Int) < (n : Int)) = true := by simp; omega
        go_wp2_with fail
        go_meet
        exact ⟨⟨_, rfl, fun q => ⟨h1, by simp at q; omega⟩⟩, rfl⟩
      · have d1 : decide ((j : Int) < (n : Int)) = false := by simp; omega
        go_wp2_with fail
        go_meet
        exact ⟨⟨_, rfl, fun q => by cases q⟩, rfl⟩
    case rest =>
      obtain ⟨⟨q, hs45, hq⟩, hwc⟩ := hcut
      subst hs45
      subst hwc
      cases q with
      | true =>
        obtain ⟨hl1, hl2⟩ := hq rfl
        obtain ⟨b, off, rfl, hbl, hop⟩ := HS.out j hl1
        have sj : w.heap.size ≤ wc.heap.size := TB4.out.bel.size
        have hb' : b < wc.heap.size := by omega
        have ht7 : t7 < wc.heap.size := TB4.out.k7.1
        have ht9 : t9 < wc.heap.size := TB4.out.k9.1
        obtain ⟨o, oa, oc, hok, hlow, hoi, hoc⟩ := hop.below hbl TB4.out.bel
        have q0 : wc.cell? ⟨b, off + j * 8 + 0, none⟩ = some (.int .i64 o.k) := hoc 0 _ rfl
        have q1 : wc.cell? ⟨b, off + j * 8 + 1, none⟩ = some (.bool o.two) := hoc 1 _ rfl
        have q2 : wc.cell? ⟨b, off + j * 8 + 2, none⟩ = some (.int .i64 o.i) := hoc 2 _ rfl
        have q3 : wc.cell? ⟨b, off + j * 8 + 3, none⟩ = some (.int .u8 (o.fill : Int)) := hoc 3 _ rfl
        have q4 : wc.cell? ⟨b, off + j * 8 + 4, none⟩ = some (.int .i64 o.len) := hoc 4 _ rfl
        have q5 : wc.cell? ⟨b, off + j * 8 + 5, none⟩ = some (.slice oa o.l.keep.length oc) := hoc 5 _ rfl
        have q6 : wc.cell? ⟨b, off + j * 8 + 6, none⟩ = some (.int .i64 o.l.torn) := hoc 6 _ rfl
        have q7 : wc.cell? ⟨b, off + j * 8 + 7, none⟩ = some (.int .i64 o.l.off) := hoc 7 _ rfl
        have hlj : (j : Int) < (n : Int) := by omega
        have HOK := hide hok
        have HLW := hide hlow
        have CN1 := playD_counts g1 o
        have CN2 := playD_counts g2 o
        rw [Nat.add_zero] at q0
        clear hop hok hoc hq hlow
        cases htw : o.two with
        | false =>
          have e1 : o.two = false := htw
          have p1 := q1
          rw [e1] at p1
          have Q1 := hide q1
          clear e1 htw q1
          go_upto_region 11 with fail
          obtain ⟨w5, hw5⟩ : ∃ w5, w5 = wc.alloc (.cells #[.pointer (some ⟨d1, 0, none⟩), .pointer (some ⟨c1, 0, none⟩)] 71) := ⟨_, rfl⟩
          rw [← hw5]
          have b5 : Below wc.heap.size wc w5 := by rw [hw5]; exact alloc_below _ _
          have C5 := (show Cells w5 wc.heap.size [.pointer (some ⟨d1, 0, none⟩), .pointer (some ⟨c1, 0, none⟩)] by rw [hw5]; exact Cells.new wc _ 71)
          have TB5 := hide (TB4.out.below b5.drew)
          have OK5 := hide (HOK.out.below b5.drew)
          have s5 : wc.heap.size < w5.heap.size := C5.1
          have ht12 : ¬ (S1 wc.heap.size ∨ T1 wc.heap.size) := fun q => q.elim (fun r => by have := TB4.out.p1.one.lt _ r; omega) (fun r => by have := TB4.out.p1.two.lt _ r; omega)
          have hbS : ¬ (S1 b ∨ T1 b) := fun q => by have := TB4.out.f1 b q; omega
          have hS0 : OB2 wc.heap.size d1 c1 b (off + j * 8) o oa oc w5 := ⟨(C5.get 0 _ rfl).1, (C5.get 1 _ rfl).1, (b5.cell (p := ⟨b, off + j * 8, none⟩) hb').trans q0, (b5.cell (p := ⟨b, off + j * 8 + 1, none⟩) hb').trans Q1.out, (b5.cell (p := ⟨b, off + j * 8 + 2, none⟩) hb').trans q2, (b5.cell (p := ⟨b, off + j * 8 + 3, none⟩) hb').trans q3, (b5.cell (p := ⟨b, off + j * 8 + 4, none⟩) hb').trans q4, (b5.cell (p := ⟨b, off + j * 8 + 5, none⟩) hb').trans q5, (b5.cell (p := ⟨b, off + j * 8 + 6, none⟩) hb').trans q6, (b5.cell (p := ⟨b, off + j * 8 + 7, none⟩) hb').trans q7⟩
          have PL := plays_any TB5.out.p1 o oa oc OK5.out hoi (fun hk ad had => ⟨fun q => by have := TB4.out.f1 _ (.inl q); have := HLW.out hk ad had; omega, fun q => by have := TB4.out.f1 _ (.inr q); have := HLW.out hk ad had; omega⟩) (by omega) (by omega)
          unfold OpM.v opC at PL
          have HPL := hide PL
          clear PL hw5 b5 C5 HOK TB4 v0 v1 v2 v3
          refine wp_region_held_drew (S := OB2 wc.heap.size d1 c1 b (off + j * 8) o oa oc) (by kernel_rfl) hS0 (fun hS => ?_)
          refine take_at 0 (some 55) (v := ?_) rfl rfl (by kernel_rfl) (by kernel_rfl) (by kernel_rfl) (fun _ _ _ h => h) ⟨by rfl, ?_⟩ hS ?_
          rotate_left
          · intro wq hSw; obtain ⟨x0, x1, z0, z1, z2, z3, z4, z5, z6, z7⟩ := hSw; go_simp; try rfl
          simp only [Act.put, List.setIfInBounds_toArray, List.set_cons_zero, List.set_cons_succ]
          refine take_at 1 (some 56) (v := ?_) rfl rfl (by kernel_rfl) (by kernel_rfl) (by kernel_rfl) (fun _ _ _ h => h) ⟨by rfl, ?_⟩ hS ?_
          rotate_left
          · intro wq hSw; obtain ⟨x0, x1, z0, z1, z2, z3, z4, z5, z6, z7⟩ := hSw; go_simp; try rfl
          simp only [Act.put, List.setIfInBounds_toArray, List.set_cons_zero, List.set_cons_succ]
          refine take_at 2 (some 57) (v := ?_) rfl rfl (by kernel_rfl) (by kernel_rfl) (by kernel_rfl) (fun _ _ _ h => h) ⟨by rfl, ?_⟩ hS ?_
          rotate_left
          · intro wq hSw; obtain ⟨x0, x1, z0, z1, z2, z3, z4, z5, z6, z7⟩ := hSw; go_simp; try rfl
          simp only [Act.put, List.setIfInBounds_toArray, List.set_cons_zero, List.set_cons_succ]
          refine take_at 3 (some 58) (v := ?_) rfl rfl (by kernel_rfl) (by kernel_rfl) (by kernel_rfl) (fun _ _ _ h => h) ⟨by rfl, ?_⟩ hS ?_
          rotate_left
          · intro wq hSw; obtain ⟨x0, x1, z0, z1, z2, z3, z4, z5, z6, z7⟩ := hSw; go_simp; try rfl
          simp only [Act.put, List.setIfInBounds_toArray, List.set_cons_zero, List.set_cons_succ]
          refine take_at 4 (some 59) (v := ?_) rfl rfl (by kernel_rfl) (by kernel_rfl) (by kernel_rfl) (fun _ _ _ h => h) ⟨by rfl, ?_⟩ hS ?_
          rotate_left
          · intro wq hSw; obtain ⟨x0, x1, z0, z1, z2, z3, z4, z5, z6, z7⟩ := hSw; go_simp; try rfl
          simp only [Act.put, List.setIfInBounds_toArray, List.set_cons_zero, List.set_cons_succ]
          refine wpAnyH_ready (rs := [5]) (by kernel_rfl) (by simp) ?_
          refine AllReadyH.cons rfl (fun K hK => ?_) AllReadyH.nil
          go_simp
          go_wp2_with fail
          refine HPL.out.mono ?_
          rintro e w6 ⟨S', T', rfl, P6, st6⟩
          have TB6 := hide (TB5.out.left P6 st6)
          have hS6 : OB2 wc.heap.size d1 c1 b (off + j * 8) o oa oc w6 := OB2.keep hS st6.1 (show wc.heap.size < w5.heap.size from s5) ht12 (show b < w5.heap.size by omega) hbS
          clear P6 st6 HPL TB5 hS0
          go_wp2_with fail
          refine hK.out _ _ hS6 (fun hS => ?_)
          clear hK K
          (try simp only [Act.put, List.setIfInBounds_toArray, List.set_cons_zero, List.set_cons_succ])
          refine take_at 6 (some 13) (v := ?_) rfl rfl (by kernel_rfl) (by kernel_rfl) (by kernel_rfl) (fun _ _ _ h => h) ⟨by rfl, ?_⟩ hS ?_
          rotate_left
          · intro wq hSw; obtain ⟨x0, x1, z0, z1, z2, z3, z4, z5, z6, z7⟩ := hSw; go_simp; try rfl
          simp only [Act.put, List.setIfInBounds_toArray, List.set_cons_zero, List.set_cons_succ]
          refine wpAnyH_done (by kernel_rfl) ?_ _
          obtain ⟨x0, x1, z0, z1, z2, z3, z4, z5, z6, z7⟩ := hS6
          clear p1 q0 q2 q3 q4 q5 q6 q7 hS
          by_cases hk7 : o.k = 7
          · have k7 : (o.k == 7) = true := by simp [hk7]
            clear hk7
            obtain ⟨v0, _⟩ := TB6.out.k7.get 0 _ rfl
            obtain ⟨v1, _⟩ := TB6.out.k7.get 1 _ rfl
            go_wp2_with fail
            refine (looks_any TB6.out.p1 (by omega)).mono ?_
            rintro e w7 ⟨rfl, b7⟩
            have TB7 := hide (TB6.out.below b7)
            obtain ⟨v2, _⟩ := TB7.out.k9.get 0 _ rfl
            obtain ⟨v3, _⟩ := TB7.out.k9.get 1 _ rfl
            clear b7 TB6 v0 v1
            go_wp2_with fail
            refine (looks_any TB7.out.p2 (by omega)).mono ?_
            rintro e w8 ⟨rfl, b8⟩
            have TB8 := hide (TB7.out.below b8)
            clear b8 TB7 v2 v3 x0 x1 z0 z1 z2 z3 z4 z5 z6 z7
            go_wp2_with fail
            go_roundw
            case rel => first | exact ⟨j + 1, by omega, by omega, by go_num, _, _, _, _, _, _, TB8.out, ⟨by omega, by omega⟩, ⟨by omega, by omega⟩⟩ | ((repeat apply Exists.intro); exact ⟨⟨j + 1, by omega, by omega, by go_num, _, _, _, _, _, _, TB8.out, ⟨by omega, by omega⟩, ⟨by omega, by omega⟩⟩, rfl⟩)
            case measure => simp [intOf]; omega
          · have k7 : (o.k == 7) = false := by simp [hk7]
            clear hk7
            go_wp2_with fail
            go_roundw
            case rel => first | exact ⟨j + 1, by omega, by omega, by go_num, _, _, _, _, _, _, TB6.out, ⟨by omega, by omega⟩, ⟨by omega, by omega⟩⟩ | ((repeat apply Exists.intro); exact ⟨⟨j + 1, by omega, by omega, by go_num, _, _, _, _, _, _, TB6.out, ⟨by omega, by omega⟩, ⟨by omega, by omega⟩⟩, rfl⟩)
            case measure => simp [intOf]; omega
        | true =>
          have e1 : o.two = true := htw
          have p1 := q1
          rw [e1] at p1
          have Q1 := hide q1
          clear e1 htw q1
          go_upto_region 11 with fail
          obtain ⟨w5, hw5⟩ : ∃ w5, w5 = wc.alloc (.cells #[.pointer (some ⟨d2, 0, none⟩), .pointer (some ⟨c2, 0, none⟩)] 71) := ⟨_, rfl⟩
          rw [← hw5]
          have b5 : Below wc.heap.size wc w5 := by rw [hw5]; exact alloc_below _ _
          have C5 := (show Cells w5 wc.heap.size [.pointer (some ⟨d2, 0, none⟩), .pointer (some ⟨c2, 0, none⟩)] by rw [hw5]; exact Cells.new wc _ 71)
          have TB5 := hide (TB4.out.below b5.drew)
          have OK5 := hide (HOK.out.below b5.drew)
          have s5 : wc.heap.size < w5.heap.size := C5.1
          have ht12 : ¬ (S2 wc.heap.size ∨ T2 wc.heap.size) := fun q => q.elim (fun r => by have := TB4.out.p2.one.lt _ r; omega) (fun r => by have := TB4.out.p2.two.lt _ r; omega)
          have hbS : ¬ (S2 b ∨ T2 b) := fun q => by have := TB4.out.f2 b q; omega
          have hS0 : OB2 wc.heap.size d2 c2 b (off + j * 8) o oa oc w5 := ⟨(C5.get 0 _ rfl).1, (C5.get 1 _ rfl).1, (b5.cell (p := ⟨b, off + j * 8, none⟩) hb').trans q0, (b5.cell (p := ⟨b, off + j * 8 + 1, none⟩) hb').trans Q1.out, (b5.cell (p := ⟨b, off + j * 8 + 2, none⟩) hb').trans q2, (b5.cell (p := ⟨b, off + j * 8 + 3, none⟩) hb').trans q3, (b5.cell (p := ⟨b, off + j * 8 + 4, none⟩) hb').trans q4, (b5.cell (p := ⟨b, off + j * 8 + 5, none⟩) hb').trans q5, (b5.cell (p := ⟨b, off + j * 8 + 6, none⟩) hb').trans q6, (b5.cell (p := ⟨b, off + j * 8 + 7, none⟩) hb').trans q7⟩
          have PL := plays_any TB5.out.p2 o oa oc OK5.out hoi (fun hk ad had => ⟨fun q => by have := TB4.out.f2 _ (.inl q); have := HLW.out hk ad had; omega, fun q => by have := TB4.out.f2 _ (.inr q); have := HLW.out hk ad had; omega⟩) (by omega) (by omega)
          unfold OpM.v opC at PL
          have HPL := hide PL
          clear PL hw5 b5 C5 HOK TB4 v0 v1 v2 v3
          refine wp_region_held_drew (S := OB2 wc.heap.size d2 c2 b (off + j * 8) o oa oc) (by kernel_rfl) hS0 (fun hS => ?_)
          refine take_at 0 (some 55) (v := ?_) rfl rfl (by kernel_rfl) (by kernel_rfl) (by kernel_rfl) (fun _ _ _ h => h) ⟨by rfl, ?_⟩ hS ?_
          rotate_left
          · intro wq hSw; obtain ⟨x0, x1, z0, z1, z2, z3, z4, z5, z6, z7⟩ := hSw; go_simp; try rfl
          simp only [Act.put, List.setIfInBounds_toArray, List.set_cons_zero, List.set_cons_succ]
          refine take_at 1 (some 56) (v := ?_) rfl rfl (by kernel_rfl) (by kernel_rfl) (by kernel_rfl) (fun _ _ _ h => h) ⟨by rfl, ?_⟩ hS ?_
          rotate_left
          · intro wq hSw; obtain ⟨x0, x1, z0, z1, z2, z3, z4, z5, z6, z7⟩ := hSw; go_simp; try rfl
          simp only [Act.put, List.setIfInBounds_toArray, List.set_cons_zero, List.set_cons_succ]
          refine take_at 2 (some 57) (v := ?_) rfl rfl (by kernel_rfl) (by kernel_rfl) (by kernel_rfl) (fun _ _ _ h => h) ⟨by rfl, ?_⟩ hS ?_
          rotate_left
          · intro wq hSw; obtain ⟨x0, x1, z0, z1, z2, z3, z4, z5, z6, z7⟩ := hSw; go_simp; try rfl
          simp only [Act.put, List.setIfInBounds_toArray, List.set_cons_zero, List.set_cons_succ]
          refine take_at 3 (some 58) (v := ?_) rfl rfl (by kernel_rfl) (by kernel_rfl) (by kernel_rfl) (fun _ _ _ h => h) ⟨by rfl, ?_⟩ hS ?_
          rotate_left
          · intro wq hSw; obtain ⟨x0, x1, z0, z1, z2, z3, z4, z5, z6, z7⟩ := hSw; go_simp; try rfl
          simp only [Act.put, List.setIfInBounds_toArray, List.set_cons_zero, List.set_cons_succ]
          refine take_at 4 (some 59) (v := ?_) rfl rfl (by kernel_rfl) (by kernel_rfl) (by kernel_rfl) (fun _ _ _ h => h) ⟨by rfl, ?_⟩ hS ?_
          rotate_left
          · intro wq hSw; obtain ⟨x0, x1, z0, z1, z2, z3, z4, z5, z6, z7⟩ := hSw; go_simp; try rfl
          simp only [Act.put, List.setIfInBounds_toArray, List.set_cons_zero, List.set_cons_succ]
          refine wpAnyH_ready (rs := [5]) (by kernel_rfl) (by simp) ?_
          refine AllReadyH.cons rfl (fun K hK => ?_) AllReadyH.nil
          go_simp
          go_wp2_with fail
          refine HPL.out.mono ?_
          rintro e w6 ⟨S', T', rfl, P6, st6⟩
          have TB6 := hide (TB5.out.right P6 st6)
          have hS6 : OB2 wc.heap.size d2 c2 b (off + j * 8) o oa oc w6 := OB2.keep hS st6.1 (show wc.heap.size < w5.heap.size from s5) ht12 (show b < w5.heap.size by omega) hbS
          clear P6 st6 HPL TB5 hS0
          go_wp2_with fail
          refine hK.out _ _ hS6 (fun hS => ?_)
          clear hK K
          (try simp only [Act.put, List.setIfInBounds_toArray, List.set_cons_zero, List.set_cons_succ])
          refine take_at 6 (some 13) (v := ?_) rfl rfl (by kernel_rfl) (by kernel_rfl) (by kernel_rfl) (fun _ _ _ h => h) ⟨by rfl, ?_⟩ hS ?_
          rotate_left
          · intro wq hSw; obtain ⟨x0, x1, z0, z1, z2, z3, z4, z5, z6, z7⟩ := hSw; go_simp; try rfl
          simp only [Act.put, List.setIfInBounds_toArray, List.set_cons_zero, List.set_cons_succ]
          refine wpAnyH_done (by kernel_rfl) ?_ _
          obtain ⟨x0, x1, z0, z1, z2, z3, z4, z5, z6, z7⟩ := hS6
          clear p1 q0 q2 q3 q4 q5 q6 q7 hS
          by_cases hk7 : o.k = 7
          · have k7 : (o.k == 7) = true := by simp [hk7]
            clear hk7
            obtain ⟨v0, _⟩ := TB6.out.k7.get 0 _ rfl
            obtain ⟨v1, _⟩ := TB6.out.k7.get 1 _ rfl
            go_wp2_with fail
            refine (looks_any TB6.out.p1 (by omega)).mono ?_
            rintro e w7 ⟨rfl, b7⟩
            have TB7 := hide (TB6.out.below b7)
            obtain ⟨v2, _⟩ := TB7.out.k9.get 0 _ rfl
            obtain ⟨v3, _⟩ := TB7.out.k9.get 1 _ rfl
            clear b7 TB6 v0 v1
            go_wp2_with fail
            refine (looks_any TB7.out.p2 (by omega)).mono ?_
            rintro e w8 ⟨rfl, b8⟩
            have TB8 := hide (TB7.out.below b8)
            clear b8 TB7 v2 v3 x0 x1 z0 z1 z2 z3 z4 z5 z6 z7
            go_wp2_with fail
            go_roundw
            case rel => first | exact ⟨j + 1, by omega, by omega, by go_num, _, _, _, _, _, _, TB8.out, ⟨by omega, by omega⟩, ⟨by omega, by omega⟩⟩ | ((repeat apply Exists.intro); exact ⟨⟨j + 1, by omega, by omega, by go_num, _, _, _, _, _, _, TB8.out, ⟨by omega, by omega⟩, ⟨by omega, by omega⟩⟩, rfl⟩)
            case measure => simp [intOf]; omega
          · have k7 : (o.k == 7) = false := by simp [hk7]
            clear hk7
            go_wp2_with fail
            go_roundw
            case rel => first | exact ⟨j + 1, by omega, by omega, by go_num, _, _, _, _, _, _, TB6.out, ⟨by omega, by omega⟩, ⟨by omega, by omega⟩⟩ | ((repeat apply Exists.intro); exact ⟨⟨j + 1, by omega, by omega, by go_num, _, _, _, _, _, _, TB6.out, ⟨by omega, by omega⟩, ⟨by omega, by omega⟩⟩, rfl⟩)
            case measure => simp [intOf]; omega
      | false =>
        clear hq
        go_wp2_with fail
        refine (looks_any TB4.out.p1 (by omega)).mono ?_
        rintro e w5 ⟨rfl, b5⟩
        have TB5 := hide (TB4.out.below b5)
        obtain ⟨v2, _⟩ := TB5.out.k9.get 0 _ rfl
        obtain ⟨v3, _⟩ := TB5.out.k9.get 1 _ rfl
        clear b5 TB4
        go_wp2_with fail
        refine (looks_any TB5.out.p2 (by omega)).mono ?_
        rintro e w6 ⟨rfl, b6⟩
        have BL := hide (bnext TB5.out.bel b6 (Nat.le_refl _))
        clear b6 TB5
        go_wp2_with fail
        go_ret
        exact ⟨rfl, BL.out⟩
end Go.Proofs.Ytohkmigahbellaa
