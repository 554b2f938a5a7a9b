import Derived.Test.YtohkmigahbellaaStep
namespace Go.Proofs.Ytohkmigahbellaa
open Go.RowKit Go.QK

/-- Two devices that answer alike: all but the calls is the same. -/
def Alike (g k : Dev) : Prop := g.img = k.img ∧ g.pend = k.pend ∧ g.down = k.down ∧ g.left = k.left ∧ g.loss = k.loss
theorem Alike.eq {g k : Dev} (h : Alike g k) : g = { k with calls := g.calls } := by
  obtain ⟨a, b, c, d, e, f⟩ := g
  obtain ⟨a', b', c', d', e', f'⟩ := k
  obtain ⟨h1, h2, h3, h4, h5⟩ := h
  dsimp only at *
  subst h1 h2 h3 h4 h5
  rfl
theorem stepE_calls (k : Dev) (n : Nat) (o : OpM) : stepE { k with calls := n } o = stepE k o := rfl
theorem stepB_calls (k : Dev) (n : Nat) (o : OpM) : stepB { k with calls := n } o = stepB k o := rfl
theorem fall_calls (k : Dev) (n : Nat) (l : Loss) : Alike (({ k with calls := n } : Dev).fall l) (k.fall l) := ⟨rfl, rfl, rfl, rfl, rfl⟩
theorem crashes_calls (g k : Dev) (h : Alike g k) : Alike g.crashes k.crashes := by
  rw [h.eq]
  obtain ⟨a, b, c, d, e, f⟩ := k
  cases f with
  | none => exact ⟨rfl, rfl, rfl, rfl, rfl⟩
  | some l => exact fall_calls _ _ _
theorem stepD_calls (k : Dev) (n : Nat) (o : OpM) : Alike (stepD { k with calls := n } o) (stepD k o) := by
  unfold stepD
  by_cases h2 : o.k = 2
  · rw [if_pos h2, if_pos h2, show Dev.n { k with calls := n } = k.n from rfl]
    unfold Dev.write
    by_cases q : k.reach (bring o.i (k.n + 1)) ≠ 0 ∨ (filledB o.fill (fillLen o.len)).length ≠ 512
    · rw [if_pos q, if_pos (show (Dev.reach { k with calls := n } _ ≠ 0 ∨ _) from q)]
      exact ⟨rfl, rfl, rfl, rfl, rfl⟩
    · rw [if_neg q, if_neg (show ¬ (Dev.reach { k with calls := n } _ ≠ 0 ∨ _) from q)]
      by_cases r : k.left = 1
      · rw [if_pos r, if_pos (show (Dev.left { k with calls := n } = 1) from r)]
        exact crashes_calls _ _ ⟨rfl, rfl, rfl, rfl, rfl⟩
      · rw [if_neg r, if_neg (show ¬ (Dev.left { k with calls := n } = 1) from r)]
        exact ⟨rfl, rfl, rfl, rfl, rfl⟩
  · rw [if_neg h2, if_neg h2]
    by_cases h3 : o.k = 3
    · rw [if_pos h3, if_pos h3]
      unfold Dev.sync
      by_cases q : k.down = true
      · rw [if_pos q, if_pos (show (Dev.down { k with calls := n } = true) from q)]
        exact ⟨rfl, rfl, rfl, rfl, rfl⟩
      · rw [if_neg q, if_neg (show ¬ (Dev.down { k with calls := n } = true) from q)]
        by_cases r : k.left = 1
        · rw [if_pos r, if_pos (show (Dev.left { k with calls := n } = 1) from r)]
          exact crashes_calls _ _ ⟨rfl, rfl, rfl, rfl, rfl⟩
        · rw [if_neg r, if_neg (show ¬ (Dev.left { k with calls := n } = 1) from r)]
          exact ⟨rfl, rfl, rfl, rfl, rfl⟩
    · rw [if_neg h3, if_neg h3]
      by_cases h4 : o.k = 4
      · rw [if_pos h4, if_pos h4]
        unfold Dev.arm
        by_cases q : k.down = true ∨ ((bring o.i 9 : Int) - 1) < 0
        · rw [if_pos q, if_pos (show (Dev.down { k with calls := n } = true ∨ _) from q)]
          exact ⟨rfl, rfl, rfl, rfl, rfl⟩
        · rw [if_neg q, if_neg (show ¬ (Dev.down { k with calls := n } = true ∨ _) from q)]
          exact ⟨rfl, rfl, rfl, rfl, rfl⟩
      · rw [if_neg h4, if_neg h4]
        by_cases h5 : o.k = 5
        · rw [if_pos h5, if_pos h5]
          unfold Dev.crash
          by_cases q : k.down = true
          · rw [if_pos q, if_pos (show (Dev.down { k with calls := n } = true) from q)]
            exact ⟨rfl, rfl, rfl, rfl, rfl⟩
          · rw [if_neg q, if_neg (show ¬ (Dev.down { k with calls := n } = true) from q)]
            exact ⟨rfl, rfl, rfl, rfl, rfl⟩
        · rw [if_neg h5, if_neg h5]
          by_cases h6 : o.k = 6
          · rw [if_pos h6, if_pos h6]; exact ⟨rfl, rfl, rfl, rfl, rfl⟩
          · rw [if_neg h6, if_neg h6]; exact ⟨rfl, rfl, rfl, rfl, rfl⟩
theorem Alike.step {g k : Dev} (h : Alike g k) (o : OpM) : stepE g o = stepE k o ∧ stepB g o = stepB k o ∧ Alike (stepD g o) (stepD k o) := by
  rw [h.eq]
  exact ⟨stepE_calls _ _ _, stepB_calls _ _ _, stepD_calls _ _ _⟩
theorem stepD_counts (g : Dev) (o : OpM) : (stepD g o).pend.length ≤ g.pend.length + 1 ∧ (stepD g o).calls ≤ g.calls + 1 := by
  have hc : ∀ x : Dev, x.crashes.pend.length ≤ x.pend.length ∧ x.crashes.calls = x.calls := by
    intro x
    unfold Dev.crashes
    cases x.loss with
    | none => exact ⟨Nat.le_refl _, rfl⟩
    | some l => exact ⟨Nat.zero_le _, rfl⟩
  unfold stepD
  split
  · unfold Dev.write
    split
    · omega
    · split
      · have := hc (((g.push (Int.toNat (bring o.i (g.n + 1))) (filledB o.fill (fillLen o.len))).strike))
        simp [Dev.push, Dev.strike] at this ⊢
        omega
      · simp [Dev.push, Dev.strike]
  · split
    · unfold Dev.sync
      split
      · omega
      · split
        · have := hc g.strike
          simp [Dev.strike] at this ⊢
          omega
        · simp [Dev.strike, Dev.settle]
    · split
      · unfold Dev.arm
        split <;> exact ⟨by simp, by simp⟩
      · split
        · unfold Dev.crash
          split
          · omega
          · exact ⟨Nat.zero_le _, Nat.le_succ _⟩
        · split
          · exact ⟨by simp [Dev.up], by simp [Dev.up]⟩
          · omega

/-- A device that is down has no pending writes. -/
def Dn (g : Dev) : Prop := g.down = true → g.pend = []
theorem Dn.crashes {g : Dev} (h : Dn g) : Dn g.crashes := by
  obtain ⟨a, b, c, d, e, f⟩ := g
  cases f with
  | none => exact h
  | some l => exact fun _ => rfl
theorem Dn.step {g : Dev} (h : Dn g) (o : OpM) : Dn (stepD g o) := by
  unfold stepD
  split
  · unfold Dev.write
    by_cases q : g.reach (bring o.i (g.n + 1)) ≠ 0 ∨ (filledB o.fill (fillLen o.len)).length ≠ 512
    · rw [if_pos q]; exact h
    · rw [if_neg q]
      have hd : g.down = false := by
        unfold Dev.reach at q
        cases hdn : g.down with
        | false => rfl
        | true => rw [hdn, if_pos rfl] at q; omega
      have hp : Dn ((g.push (Int.toNat (bring o.i (g.n + 1))) (filledB o.fill (fillLen o.len))).strike) := fun q => by
        have : g.down = true := q
        rw [hd] at this; cases this
      split
      · exact hp.crashes
      · exact hp
  · split
    · unfold Dev.sync
      split
      · exact h
      · split
        · exact Dn.crashes (g := g.strike) h
        · exact fun _ => rfl
    · split
      · unfold Dev.arm
        split
        · exact h
        · exact h
      · split
        · unfold Dev.crash
          split
          · exact h
          · exact fun _ => rfl
        · split
          · exact fun q => by cases q
          · exact h
/-- A call of a script lies at block b from off on. -/
def OpAt (B : Nat) (w : World) (b off : Nat) : Prop :=
  ∃ (o : OpM) (a : Option Addr) (c : Nat), OpOk w o a c ∧ (o.l.keep ≠ [] → ∀ ad, a = some ad → ad.block < B) ∧ ∀ j v, (o.v a c)[j]? = some v → w.cell? ⟨b, off + j, none⟩ = some v
theorem OpAt.below {B : Nat} {w w' : World} {b off : Nat} (h : OpAt B w b off) (hlt : b < w.heap.size) (hb : Below w.heap.size w w') : OpAt B w' b off := by
  obtain ⟨o, a, c, h1, h2, h3⟩ := h
  exact ⟨o, a, c, h1.below hb, h2, fun j v hv => (hb.cell (p := ⟨b, off + j, none⟩) hlt).trans (h3 j v hv)⟩
/-- A script that came in. -/
def ScriptAt (w : World) (a : Option Addr) (n : Nat) : Prop := ∀ i, i < n → ∃ b off, a = some ⟨b, off, none⟩ ∧ b < w.heap.size ∧ OpAt w.heap.size w b (off + i * 8)

set_option maxHeartbeats 4000000 in
set_option maxRecDepth 100000 in
theorem image_walk (size : Int) (a : Option Addr) (n c : Nat) (la : Option Addr) (lc : Nat) (l : Loss) (a' : Option Addr) (n' c' : Nat) (w : World) (hs : ScriptAt w a n) (hn : n ≤ maxLen) (hs' : ScriptAt w a' n') (hn' : n' ≤ maxLen) (hl : LossAt w l la lc) :
    Calls Try.prog 6 #[.int .i64 size, .slice a n c, .agg #[.slice la l.keep.length lc, .int .i64 l.torn, .int .i64 l.off], .slice a' n' c'] w fun e w' => e = .returned (.bool true) ∧ Below w.heap.size w w' := by
  unfold maxLen at hn hn'
  have B0 := alloc_below w (.cells #[.slice la l.keep.length lc, .int .i64 l.torn, .int .i64 l.off] 26)
  have HL := hide hl
  have HS := hide hs
  have HS' := hide hs'
  clear hl hs hs'
  go_enter Try.func6, Try.ntmps6
  go_wp2_with fail
  refine (brought_any size 9 _ (by decide) (by decide)).mono ?_
  rintro e w' ⟨rfl, hw⟩
  subst hw
  have hx9 := bring_lt size 9 (by decide)
  generalize bring size 9 = x at *
  go_wp2_with fail
  have NW := new_ok (1 + x) (w.alloc (.cells #[.slice la l.keep.length lc, .int .i64 l.torn, .int .i64 l.off] 26)) (by omega) (by omega)
  rw [show ((1 + x : Nat) : Int) = 1 + (x : Int) by omega] at NW
  refine NW.mono ?_
  rintro e w1 ⟨d, S, rfl, D1, f1, b1⟩
  have L1 := hide (show Live w.heap.size w w1 S d (Dev.new (1 + x)) from ⟨D1, fun b hb => by have := f1 b hb; simp at this; omega, bnext B0 b1 (Nat.le_refl _), Nat.le_refl _⟩)
  have A1 := hide (show Aside w1 (fun b => S b ∨ False) w.heap.size [.slice la l.keep.length lc, .int .i64 l.torn, .int .i64 l.off] by
    refine Aside.below (w := w.alloc (.cells #[.slice la l.keep.length lc, .int .i64 l.torn, .int .i64 l.off] 26)) ⟨fun j v hv => ?_, fun q => by have := f1 _ (q.resolve_right id); simp at this; omega, by simp⟩ b1
    rw [World.cell?_alloc_new]
    simpa using hv)
  clear D1 f1 b1 NW
  go_wp2_with fail
  refine (num_any _ _).mono ?_
  rintro e w' ⟨rfl, hw⟩
  obtain rfl : w1 = w' := hw.symm
  go_wp2_with fail
  refine (awake_any _).mono ?_
  rintro e w3 ⟨rfl, b3⟩
  have L3 := hide (L1.out.below b3)
  have A3 := hide (A1.out.below b3)
  clear b3 L1 A1
  go_wp2_with fail
  go_loopw [11] (fun i wr => ∃ j : Nat, j ≤ 60 ∧ j ≤ n ∧ i = .int .i64 (j : Int) ∧ ∃ S g, Live w.heap.size w wr S d g ∧ Aside wr (fun b => S b ∨ False) w.heap.size [.slice la l.keep.length lc, .int .i64 l.torn, .int .i64 l.off] ∧ g.pend.length ≤ j ∧ g.calls ≤ j ∧ Dn g) (fun i _ => 60 - (intOf i).toNat)
  case atStart => exact ⟨0, by omega, by omega, rfl, S, _, L3.out, A3.out, Nat.le_refl _, Nat.le_refl _, fun q => by cases q⟩
  case round =>
    obtain ⟨j, hj, hjn, rfl, S4, g, hL4, hA4, hgp, hgc, hdn⟩ := hrel
    have L4 := hide hL4
    have A4 := hide hA4
    clear hL4 hA4 L3 A3
    go_upto_region 5 with fail
    go_cut [45] from 38 to 53 (fun s w' => (∃ q : Bool, s = .bool q ∧ (q = true → j < n ∧ j < 60)) ∧ w' = wr)
    case first =>
      by_cases h1 : j < n
      · have d1 : decide ((j : Int) < (n : Int)) = true := by simp; omega
        go_wp2_with fail
        go_meet
        exact ⟨⟨_, rfl, fun q => ⟨h1, by simp at q; omega⟩⟩, rfl⟩
      · have d1 : decide ((j : Int) < (n : Int)) = false := by simp; omega
        go_wp2_with fail
        go_meet
        exact ⟨⟨_, rfl, fun q => by cases q⟩, rfl⟩
    case rest =>
      obtain ⟨⟨q, hs45, hq⟩, hwc⟩ := hcut
      subst hs45
      subst hwc
      cases q with
      | true =>
        obtain ⟨hl1, hl2⟩ := hq rfl
        obtain ⟨b, off, rfl, hbl, hop⟩ := HS.out j hl1
        obtain ⟨o, oa, oc, hok, hlow, hoc⟩ := hop.below hbl L4.out.bel
        have q0 := hoc 0 _ rfl
        have q1 := hoc 1 _ rfl
        have q2 := hoc 2 _ rfl
        have q3 := hoc 3 _ rfl
        have q4 := hoc 4 _ rfl
        have q5 := hoc 5 _ rfl
        have q6 := hoc 6 _ rfl
        have q7 := hoc 7 _ rfl
        have ST := hide (step_any L4.out.dev o oa oc hok (fun hk ad had q => by have := L4.out.far _ q; have := hlow hk ad had; omega) (by omega) (by omega))
        unfold OpM.v opC at ST
        have CN := stepD_counts g o
        have hlj : (j : Int) < (n : Int) := by omega
        clear hop hok hoc hq hlow
        rw [Nat.add_zero] at q0
        go_wp2_with fail
        refine ST.out.mono ?_
        rintro e w5 ⟨v5, S5, rfl, _, D5, st5⟩
        have L5 := hide (L4.out.step D5 st5)
        have A5 := hide (A4.out.left st5)
        clear D5 st5 L4 A4 ST q0 q1 q2 q3 q4 q5 q6 q7
        go_wp2_with fail
        go_roundw
        case rel => first | exact ⟨j + 1, by omega, by omega, by go_num, S5, _, L5.out, A5.out, by omega, by omega, hdn.step o⟩ | ((repeat apply Exists.intro); exact ⟨⟨j + 1, by omega, by omega, by go_num, S5, _, L5.out, A5.out, by omega, by omega, hdn.step o⟩, rfl⟩)
        case measure => simp [intOf]; omega
      | false =>
        clear hq
        have q0 := A4.out.cell 0 _ rfl
        have q1 := A4.out.cell 1 _ rfl
        have q2 := A4.out.cell 2 _ rfl
        have hX : ((((g.crashE : Nat) : Int) == 0) == g.down) = false := by
          unfold Dev.crashE
          cases hd : g.down <;> simp
        have G2 : ((g.crash l).up).pend = [] ∧ ((g.crash l).up).calls = g.calls := by
          unfold Dev.crash
          split
          · rename_i hd
            exact ⟨hdn hd, rfl⟩
          · exact ⟨rfl, rfl⟩
        obtain ⟨G2p, G2c⟩ := G2
        go_wp2_with fail
        refine (down_any L4.out.dev).mono ?_
        rintro e w' ⟨rfl, hw⟩
        obtain rfl : wc = w' := hw.symm
        go_wp2_with fail
        refine (crash_any L4.out.dev l la lc (HL.out.below L4.out.bel) (fun hk ad had q => by have := L4.out.far _ q; have := HL.out.low hk ad had; omega) (by omega)).mono ?_
        rintro e w5 ⟨rfl, D5, k5⟩
        have L5 := hide (L4.out.keep D5 k5)
        clear D5 k5 L4 A4 q0 q1 q2
        go_wp2_with fail
        refine (num_any _ _).mono ?_
        rintro e w' ⟨rfl, hw⟩
        obtain rfl : w5 = w' := hw.symm
        go_wp2_with fail
        refine (up_any L5.out.dev).mono ?_
        rintro e w6 ⟨rfl, D6, k6⟩
        have L6 := hide (L5.out.keep D6 k6)
        clear D6 k6 L5 hX
        obtain ⟨h, hh⟩ : ∃ h, h = (g.crash l).up := ⟨_, rfl⟩
        have A6 := hide (show Alike h (Dev.load h.img) by rw [hh]; exact ⟨rfl, G2p, rfl, rfl, rfl⟩)
        rw [← hh] at L6 G2p G2c
        have hp0 : h.pend.length ≤ 0 := by rw [G2p]; exact Nat.le_refl _
        have hc0 : h.calls ≤ 60 := by omega
        clear hh G2p G2c hdn
        go_wp2_with fail
        refine (num_any _ _).mono ?_
        rintro e w' ⟨rfl, hw⟩
        obtain rfl : w6 = w' := hw.symm
        go_wp2_with fail
        refine (image_any L6.out.dev).mono ?_
        rintro e w7 ⟨v7, rfl, o7, b7⟩
        obtain ⟨ia, ic, rfl, is7, in7, il7, _⟩ := o7.seen
        rw [ints_length] at il7 ⊢
        have L7 := hide (L6.out.below b7)
        have okh := L6.out.dev.ok
        have hlo : loads h.img.length := by
          obtain ⟨n, n1, n2, hn⟩ := okh.size
          exact ⟨by omega, by omega, by omega⟩
        have LO := hide (load_ok ia h.img ic w7 is7 il7 in7 okh.bytes hlo)
        clear o7 b7 L6 is7 hlo
        go_wp2_with fail
        refine LO.out.mono ?_
        rintro e w8 ⟨cc, T8, rfl, D8, f8, b8⟩
        have DU8 := hide (L7.out.join D8 f8 b8)
        clear D8 f8 b8 L7 LO
        go_wp2_with fail
        refine (num_any _ _).mono ?_
        rintro e w' ⟨rfl, hw⟩
        obtain rfl : w8 = w' := hw.symm
        go_wp2_with fail
        go_loopw [15] (fun i wr => ∃ j : Nat, j ≤ 60 ∧ j ≤ n' ∧ i = .int .i64 (j : Int) ∧ ∃ S T g k, Duo w.heap.size w wr S d g T cc k ∧ Alike g k ∧ g.pend.length ≤ j ∧ g.calls ≤ 60 + j ∧ k.calls ≤ j) (fun i _ => 60 - (intOf i).toNat)
        case atStart => exact ⟨0, by omega, by omega, rfl, _, _, _, _, DU8.out, A6.out, hp0, hc0, Nat.le_refl _⟩
        case round =>
          obtain ⟨j, hj, hjn, rfl, S9, T9, g, k, hdu, hal, hgp, hgc, hkc⟩ := hrel
          have DU9 := hide hdu
          have AL9 := hide hal
          have hkp : k.pend.length ≤ j := by rw [← hal.2.1]; exact hgp
          clear hdu hal DU8 A6
          go_upto_region 15 with fail
          go_cut [89] from 82 to 141 (fun s w' => (∃ q : Bool, s = .bool q ∧ (q = true → j < n' ∧ j < 60)) ∧ w' = wr)
          case first =>
            by_cases h1 : j < n'
            · have d1 : decide ((j : Int) < (n' : Int)) = true := by simp; omega
              go_wp2_with fail
              go_meet
              exact ⟨⟨_, rfl, fun q => ⟨h1, by simp at q; omega⟩⟩, rfl⟩
            · have d1 : decide ((j : Int) < (n' : Int)) = false := by simp; omega
              go_wp2_with fail
              go_meet
              exact ⟨⟨_, rfl, fun q => by cases q⟩, rfl⟩
          case rest =>
            obtain ⟨⟨q, hs89, hq⟩, hwc⟩ := hcut
            subst hs89
            subst hwc
            cases q with
            | false =>
              go_wp2_with fail
              go_ret
              exact ⟨rfl, DU9.out.one.bel⟩
            | true =>
              obtain ⟨hl1, hl2⟩ := hq rfl
              obtain ⟨b, off, rfl, hbl, hop⟩ := HS'.out j hl1
              obtain ⟨o, oa, oc, hok, hlow, hoc⟩ := id hop
              have hoc1 := fun i v hv => (DU9.out.one.bel.cell (p := ⟨b, off + j * 8 + i, none⟩) hbl).trans (hoc i v hv)
              have q0 := hoc1 0 _ rfl
              have q1 := hoc1 1 _ rfl
              have q2 := hoc1 2 _ rfl
              have q3 := hoc1 3 _ rfl
              have q4 := hoc1 4 _ rfl
              have q5 := hoc1 5 _ rfl
              have q6 := hoc1 6 _ rfl
              have q7 := hoc1 7 _ rfl
              have okg0 := DU9.out.one.dev.ok
              obtain ⟨r1, r2, r3⟩ := AL9.out.step o
              have R1 := hide r1
              have R2 := hide r2
              clear r1 r2
              have ST := hide (step_any DU9.out.one.dev o oa oc (hok.below DU9.out.one.bel) (fun hk ad had q => by have := DU9.out.one.far _ q; have := hlow hk ad had; omega) (by omega) (by omega))
              unfold OpM.v opC at ST
              have CG := stepD_counts g o
              have CK := stepD_counts k o
              have hlj : (j : Int) < (n' : Int) := by omega
              rw [Nat.add_zero] at q0
              have HOC := hide hoc
              clear hq hoc hoc1 hop
              go_wp2_with fail
              refine ST.out.mono ?_
              rintro e w10 ⟨v10, S10, rfl, o10, D10, st10⟩
              have DU10 := hide (DU9.out.left D10 st10)
              obtain ⟨xa, xc, rfl, xs10, _, _, _⟩ := o10.seen
              have hxl : ∀ ad, xa = some ad → wc.heap.size ≤ ad.block ∧ ad.block < w10.heap.size := fun ad had => World.ownsRow.lt o10 _ (by rw [had]; rfl)
              rw [ints_length]
              have X10 := hide xs10
              have hT9 := DU9.out.two.dev.lt
              have hoc1 := fun i v hv => (DU10.out.one.bel.cell (p := ⟨b, off + j * 8 + i, none⟩) hbl).trans (HOC.out i v hv)
              clear q0 q1 q2 q3 q4 q5 q6 q7 o10 D10 st10 xs10 ST DU9
              have q0 := hoc1 0 _ rfl
              have q1 := hoc1 1 _ rfl
              have q2 := hoc1 2 _ rfl
              have q3 := hoc1 3 _ rfl
              have q4 := hoc1 4 _ rfl
              have q5 := hoc1 5 _ rfl
              have q6 := hoc1 6 _ rfl
              have q7 := hoc1 7 _ rfl
              rw [Nat.add_zero] at q0
              have ST := hide (step_any DU10.out.two.dev o oa oc (hok.below DU10.out.one.bel) (fun hk ad had q => by have := DU10.out.two.far _ q; have := hlow hk ad had; omega) (by omega) (by omega))
              unfold OpM.v opC at ST
              rw [← R1.out, ← R2.out] at ST
              clear hoc1 HOC
              go_wp2_with fail
              refine ST.out.mono ?_
              rintro e w11 ⟨v11, T11, rfl, o11, D11, st11⟩
              have DU11 := hide (DU10.out.right D11 st11)
              have X11 := hide (Seen.keep X10.out st11.1 (fun ad had q => by have := hT9 _ q; have := hxl ad had; omega))
              obtain ⟨ya, yc, rfl, ys11, _, _, _⟩ := o11.seen
              rw [ints_length]
              have Y11 := hide ys11
              have okg := DU11.out.one.dev.ok
              have okk := DU11.out.two.dev.ok
              have hab : AllB (stepB g o) := by
                unfold stepB Dev.readB
                split
                · split
                  · exact content_allB okg0 _
                  · exact AllB.nil
                · exact AllB.nil
              clear q0 q1 q2 q3 q4 q5 q6 q7 o11 D11 st11 ys11 ST DU10 X10 hT9 hxl hok hlow
              have AL11 := hide r3
              go_wp2_with fail
              have SA := same_any xa ya (stepB g o) (stepB g o) xc yc w11 X11.out Y11.out hab hab
              rw [decide_eq_true rfl] at SA
              refine SA.mono ?_
              rintro e w' ⟨rfl, hw⟩
              obtain rfl : w11 = w' := hw.symm
              clear SA X11 Y11
              obtain ⟨y1, y2, y3, y4, y5⟩ := AL11.out
              have HY1 := hide y1
              have HY2 := hide y2
              have HY3 := hide y3
              clear y1 y2 y3 y4 y5 R1 R2 r3
              go_wp2_with fail
              refine (down_any DU11.out.one.dev).mono ?_
              rintro e w' ⟨rfl, hw⟩
              obtain rfl : w11 = w' := hw.symm
              go_wp2_with fail
              have DW := down_any DU11.out.two.dev
              rw [← HY3.out] at DW
              refine DW.mono ?_
              rintro e w' ⟨rfl, hw⟩
              obtain rfl : w11 = w' := hw.symm
              clear DW
              go_wp2_with fail
              refine (image_any DU11.out.one.dev).mono ?_
              rintro e w12 ⟨v12, rfl, o12, b12⟩
              have DU12 := hide (DU11.out.below b12)
              obtain ⟨ia, ic, rfl, is12, _, _, _⟩ := o12.seen
              rw [ints_length]
              have IS12 := hide is12
              clear o12 b12 DU11 is12
              go_wp2_with fail
              refine (image_any DU12.out.two.dev).mono ?_
              rintro e w13 ⟨v13, rfl, o13, b13⟩
              have DU13 := hide (DU12.out.below b13)
              obtain ⟨ja, jc, rfl, js13, _, _, _⟩ := o13.seen
              rw [ints_length]
              have IS13 := hide (IS12.out.below b13)
              have JS13 := hide js13
              clear o13 b13 DU12 IS12 js13
              go_wp2_with fail
              have SA := same_any ia ja (stepD g o).img (stepD k o).img ic jc w13 IS13.out JS13.out okg.bytes okk.bytes
              rw [decide_eq_true HY1.out] at SA
              refine SA.mono ?_
              rintro e w' ⟨rfl, hw⟩
              obtain rfl : w13 = w' := hw.symm
              clear SA IS13 JS13
              go_wp2_with fail
              refine (cache_any DU13.out.one.dev (by omega)).mono ?_
              rintro e w14 ⟨us, rfl, u1, u2, u3, b14⟩
              have DU14 := hide (DU13.out.below b14)
              have PS14 := hide (cache_seen okg u1 u2 u3)
              clear u2 u3 b14 DU13
              go_wp2_with fail
              refine (cache_any DU14.out.two.dev (by omega)).mono ?_
              rintro e w15 ⟨vs, rfl, v1, v2, v3, b15⟩
              have DU15 := hide (DU14.out.below b15)
              have PS15 := hide (PS14.out.below b15)
              have PT15 := hide (cache_seen okk v1 v2 v3)
              clear v2 v3 b15 DU14 PS14
              go_wp2_with fail
              have hul : us.length = (stepD g o).pend.length := by rw [← u1]; simp
              refine (cached_eq _ _ us vs us.length vs.length w15 PS15.out PT15.out (by rw [u1, v1, HY2.out]) (by omega)).mono ?_
              rintro e w16 ⟨rfl, b16⟩
              have DU16 := hide (DU15.out.below b16)
              clear b16 DU15 PS15 PT15 u1 v1 hul
              go_wp2_with fail
              go_roundw
              case rel => first | exact ⟨j + 1, by omega, by omega, by go_num, _, _, _, _, DU16.out, AL11.out, by omega, by omega, by omega⟩ | ((repeat apply Exists.intro); exact ⟨⟨j + 1, by omega, by omega, by go_num, _, _, _, _, DU16.out, AL11.out, by omega, by omega, by omega⟩, rfl⟩)
              case measure => simp [intOf]; omega
end Go.Proofs.Ytohkmigahbellaa
