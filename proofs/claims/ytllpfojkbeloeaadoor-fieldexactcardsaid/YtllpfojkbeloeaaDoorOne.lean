import Derived.Test.YtllpfojkbeloeaaDoorOps
import Derived.Deep.DeepCutAuto
namespace Go.Proofs.YtllpfojkbeloeaaDoor
open Go.RowKit Go.QK

theorem slice_to' (a : Option Addr) (n c k : Nat) (w : World) (h2 : k ≤ c) : (Instr.slice 29 (.slice a n c) none (some (.int .i64 (k : Int))) none).run Tryd.prog w = .ok (.slice a k c) w := by
  go_simp
def marks : List Nat := [90, 165, 51]
theorem marks_b : AllB marks := allB_of rfl

set_option maxHeartbeats 1000000 in
set_option maxRecDepth 100000 in
theorem lent_any (a : Option Addr) (l : List Nat) (cap : Nat) (w : World) (hs : Bytes w a l) (hn : a = none → cap = 0) (hl : l.length ≤ 1000000) :
    Calls Tryd.prog 24 #[.slice a l.length cap] w fun e w' => ∃ g c, e = .returned (.slice (some ⟨g, 0, none⟩) l.length c) ∧ OwnB w' w.heap.size (.slice (some ⟨g, 0, none⟩) (l.length + 3) c) (l ++ marks) ∧ l.length + 3 ≤ c ∧ c ≤ maxLen ∧ Below w.heap.size w w' := by
  have hl0 : ([] : List Nat).length + l.length ≤ 2000000 := by simp; omega
  have hl3 : l.length + marks.length ≤ 2000000 := by simp [marks]; omega
  go_enter Tryd.func24, Tryd.ntmps24
  go_wp2_with (at_builtin; refine appB rfl (.const (.slice none 0 0)) (.tmp 3) rfl w.heap.size _ [] rfl (Owns.nil _ _ _ _) a l.length cap l rfl rfl hs hn hl0 (Nat.le_refl _) ?_)
  intro v1 w1 o1 g1 _
  have b1 : Below w.heap.size w w1 := (Below.refl _ _).grown g1 (Nat.le_refl _) (by nofun)
  have hs1 := b1.size
  have HO1 : Hid (OwnB w1 w.heap.size v1 l) := o1
  have L1 : OwnB (w1.alloc (.cells #[.int .u8 90, .int .u8 165, .int .u8 51] 5)) w1.heap.size (.slice (some ⟨w1.heap.size, 0, none⟩) 3 3) marks := lit_own w1 marks (by decide)
  have HL1 : Hid (Bytes (w1.alloc (.cells #[.int .u8 90, .int .u8 165, .int .u8 51] 5)) (some ⟨w1.heap.size, 0, none⟩) marks) := Owns.seen_at L1
  clear o1 g1 L1 hs
  go_wp2_with (at_builtin; refine appB rfl (.tmp 4) (.tmp 5) rfl w.heap.size v1 l rfl (HO1.out.alloc _) (some ⟨w1.heap.size, 0, none⟩) 3 3 marks rfl rfl HL1.out nofun hl3 (by simp; omega) ?_)
  intro v2 w2 o2 g2 _
  have b2 : Below w.heap.size w w2 := (b1.alloc hs1 _).grown g2 (by simp; omega) (fun j hj => (World.ownsRow.lt HO1.out j hj).1)
  obtain ⟨g, c, hv, hc, hg⟩ := Owns.form o2 (by simp [marks])
  obtain ⟨a', c', hv', hx1, hx2, hx3, hm⟩ := o2.seen
  clear hx1 hx2 hx3
  have hlen : (ints (l ++ marks)).length = l.length + 3 := by simp [marks]
  rw [hlen] at hv hc
  rw [hv] at hv'
  simp only [Value.slice.injEq] at hv'
  obtain ⟨hx4, hx5, rfl⟩ := hv'
  clear hx4 hx5 hlen
  subst hv
  have HO2 : Hid (OwnB w2 w.heap.size (.slice (some ⟨g, 0, none⟩) (l.length + 3) c) (l ++ marks)) := o2
  have hlc : l.length ≤ c := by omega
  clear o2 g2 HO1 HL1
  go_wp2_with fail
  go_ret
  exact ⟨g, c, rfl, HO2.out, hc, hm, b2⟩

set_option maxRecDepth 100000 in
theorem cutB_any (a : Option Addr) (n c : Nat) (w : World) (h : n ≤ c) (hm : c ≤ maxLen) (ha : a = none → c = 0) : Calls Tryd.prog 19 #[.slice a n c] w fun e w' => e = .returned (.slice a (min n 4000) c) ∧ w' = w := by
  unfold maxLen at hm
  by_cases q : 4000 < n
  · have e : min n 4000 = 4000 := by omega
    rw [e]
    have q1 : (4000 : Int) < (n : Int) := by omega
    have q2 : (4000 : Int) ≤ (c : Int) := by omega
    have q3 : 4000 ≤ c := by omega
    cases a with
    | none => have := ha rfl; omega
    | some ad =>
      go_enter Tryd.func19, Tryd.ntmps19
      go_wp2_with fail
      go_ret
      exact ⟨rfl, rfl⟩
  · have e : min n 4000 = n := by omega
    rw [e]
    have q1 : ¬ (4000 : Int) < (n : Int) := by omega
    go_enter Tryd.func19, Tryd.ntmps19
    go_wp2_with fail
    go_ret
    exact ⟨rfl, rfl⟩

/-- Bools that a slice leads to. -/
def Bools (w : World) (a : Option Addr) (n : Nat) (f : Nat → Bool) : Prop := n = 0 ∨ ∃ b off, a = some ⟨b, off, none⟩ ∧ b < w.heap.size ∧ ∀ i, i < n → w.cell? ⟨b, off + i, none⟩ = some (.bool (f i))
theorem Bools.below {w w' : World} {a : Option Addr} {n : Nat} {f : Nat → Bool} (h : Bools w a n f) (k : Below w.heap.size w w') : Bools w' a n f := by
  rcases h with h | ⟨b, off, h1, h2, h3⟩
  · exact .inl h
  · exact .inr ⟨b, off, h1, Nat.lt_of_lt_of_le h2 k.size, fun i hi => (k.cell (p := ⟨b, off + i, none⟩) h2).trans (h3 i hi)⟩

theorem u_good {l : List Nat} {pos : Nat} (hb : AllB l) (hp : pos ≤ l.length) (h : uE 18446744073709551615 l pos 0 = 0) :
    form (uV 18446744073709551615 l pos 0) = (l.drop pos).take (uP 18446744073709551615 l pos 0 - pos) ∧ pos ≤ uP 18446744073709551615 l pos 0 ∧ uP 18446744073709551615 l pos 0 ≤ l.length := by
  unfold uE at h
  have h0 : rdE (l.drop pos) = 0 := by
    by_cases q : rdE (l.drop pos) = 0
    · exact q
    · simp [q] at h
  obtain ⟨_, h1, _, h2, h3, h4, _⟩ := rd_good (hb.drop pos) (by rw [rd_parts, h0] : rd (l.drop pos) = (0, rdX (l.drop pos), rdN (l.drop pos)))
  have hm : ¬ 18446744073709551615 < rdX (l.drop pos) := by omega
  unfold uV uP
  rw [if_neg (by omega), if_neg (by omega)]
  simp at h2
  refine ⟨by rw [Nat.add_sub_cancel_left]; exact h4, by omega, by omega⟩
theorem take_join (l : List Nat) (p q : Nat) (h : p ≤ q) : l.take p ++ (l.drop p).take (q - p) = l.take q := by
  have : q = p + (q - p) := by omega
  rw [this, List.take_add, ← this]

set_option maxHeartbeats 4000000 in
set_option maxRecDepth 100000 in
theorem oneForm_any (xb : List Nat) (ab as_ : Option Addr) (cb ns cs : Nat) (f : Nat → Bool) (w : World) (ht : Tab w) (hb : Bytes w ab xb) (hs : Bools w as_ ns f) (hcb : xb.length ≤ cb) (hmb : cb ≤ maxLen) (hnb : ab = none → cb = 0) (bb : AllB xb) (hns : ns ≤ maxLen) :
    Calls Tryd.prog 6 #[.slice ab xb.length cb, .slice as_ ns cs] w fun e w' => e = .returned (.bool true) ∧ Below w.heap.size w w' := by
  have HT : Hid (Tab w) := ht
  have HBs : Hid (Bools w as_ ns f) := hs
  have HBb : Hid (Bytes w ab xb) := hb
  clear ht hs hb
  unfold maxLen at hns
  go_enter Tryd.func6, Tryd.ntmps6
  go_wp2_with fail
  refine (awake_any _ HT.out).mono ?_
  rintro e w1 ⟨rfl, B1⟩
  go_wp2_with fail
  refine (cutB_any ab xb.length cb _ hcb hmb hnb).mono ?_
  rintro e w' ⟨rfl, rfl⟩
  obtain ⟨l, hl⟩ : ∃ l, l = xb.take 4000 := ⟨_, rfl⟩
  have e1 : min xb.length 4000 = l.length := by rw [hl]; simp; omega
  have HL0 : Hid (Bytes w ab l) := by rw [hl]; exact Bytes.take HBb.out 4000
  have HL1 : Hid (Bytes w' ab l) := by rw [hl]; exact Bytes.take (Seen.below HBb.out B1) 4000
  have bl : AllB l := by rw [hl]; exact bb.take _
  have n1 : l.length ≤ 4000 := by rw [hl]; simp; omega
  have k1 : l.length ≤ cb := by omega
  rw [e1]
  clear e1 hl
  go_wp2_with fail
  refine (lent_any ab l cb _ HL1.out hnb (by omega)).mono ?_
  rintro e w2 ⟨g, c, rfl, o2, hc2, hm2, b2⟩
  have B2 : Below w.heap.size w w2 := bnext B1 b2 (Nat.le_refl _)
  have HL2 : Hid (Bytes w2 (some ⟨g, 0, none⟩) l) := by
    have := Bytes.take (Owns.seen_at o2) l.length
    rw [List.take_left] at this
    exact this
  clear o2
  go_wp2_with fail
  refine (newReader_any _ l c _ HL2.out (by omega) nofun (by omega) bl).mono ?_
  rintro e w3 ⟨p, a, c3, rfl, hp, ha, hr, b3⟩
  have B3 : Below w.heap.size w w3 := bnext B2 b3 (Nat.le_refl _)
  have hp3 := hr.1.1
  have hwp : w.heap.size ≤ p := Nat.le_trans B2.size hp
  have HR3 : Hid (Rd w3 p a c3 l 0 0) := hr
  have ha3 : ∀ ad, a = some ad → l = [] ∨ ad.block < w3.heap.size := by
    intro ad had
    rcases hr.2.1 with q | ⟨b, off, q, hlt', _⟩
    · left
      cases l with
      | nil => rfl
      | cons x l => simp [ints] at q
    · right
      rw [had] at q
      cases q
      exact hlt'
  clear hr b3 HL2
  go_wp2_with fail
  refine (newWriter_any _).mono ?_
  rintro e w4 ⟨rfl, hw4⟩
  have b4 : Below w3.heap.size w3 w4 := by rw [hw4]; exact alloc_below _ _
  have HW4 : Hid (Wr w4 w3.heap.size w3.heap.size (.slice none 0 0) []) := by
    unfold Hid
    rw [hw4]
    exact ⟨Cells.new _ _ _, Owns.nil _ _ _ _, nofun, Nat.le_refl _⟩
  have B4 : Below w.heap.size w w4 := bnext B3 b4 (Nat.le_refl _)
  have HR4 : Hid (Rd w4 p a c3 l 0 0) := HR3.out.below b4
  have hw3 := B3.size
  clear hw4 b4 HR3
  go_wp2_with fail
  go_loopw [7] (fun i wr => ∃ (j pos : Nat) (v : Value), i = .int .i64 (j : Int) ∧ j ≤ l.length ∧ Rd wr p a c3 l pos 0 ∧ Wr wr w3.heap.size w3.heap.size v (l.take pos) ∧ Below w.heap.size w wr) (fun i _ => 4000 - (intOf i).toNat)
  case atStart => exact ⟨0, 0, _, rfl, Nat.zero_le _, HR4.out, HW4.out, B4⟩
  case round =>
    obtain ⟨j, pos, v, rfl, hj, hrd, hwr, hbl⟩ := hrel
    have HR : Hid (Rd wr p a c3 l pos 0) := hrd
    have HW : Hid (Wr wr w3.heap.size w3.heap.size v (l.take pos)) := hwr
    have hpos : pos ≤ l.length := hrd.2.2.2.2.2.2.1
    clear hrd hwr
    by_cases hlt : j < l.length ∧ j < ns
    · have g1 : (j : Int) < (l.length : Int) := by omega
      have g2 : (j : Int) < (ns : Int) := by omega
      rcases Bools.below HBs.out (hbl) with q | ⟨b, off, rfl, hb1, hcell⟩
      · omega
      · have hcj := hcell j hlt.2
        have hug := u_good bl hpos
        have hul := uV_lt 18446744073709551615 l pos 0 bl
        have KS := readS_any p a c3 l pos 0 wr HR.out
        have KU := readU_any 18446744073709551615 p a c3 l pos 0 wr HR.out
        generalize uV 18446744073709551615 l pos 0 = u at *
        generalize uP 18446744073709551615 l pos 0 = pos' at *
        generalize uE 18446744073709551615 l pos 0 = er at *
        have hr64 := uns_range hul
        have hsg := sgn_uns u
        have HUG : Hid (er = 0 → form u = (l.drop pos).take (pos' - pos) ∧ pos ≤ pos' ∧ pos' ≤ l.length) := hug
        have hlt4 : (l.take pos).length ≤ 1000000 := by simp; omega
        have HLT : Hid ((l.take pos).length ≤ 1000000) := hlt4
        have hkp : ∀ k, wS w3.heap.size v k → ¬ k = p := by
          intro k q
          have := (HW.out.lt k q).1
          omega
        -- what both ways come to
        have fin : ∀ w5 w6 v6, Rd w5 p a c3 l pos' er → Keep (fun k => k = p) wr w5 → Wr w6 w3.heap.size w3.heap.size v6 (l.take pos ++ form u) → Keep (wS w3.heap.size v) w5 w6 →
            Rd w6 p a c3 l pos' er ∧ Below w.heap.size w w6 := by
          intro w5 w6 v6 hr5 hk5 hw6 hk6
          have hw5 := HW.out.keep hk5 hkp
          refine ⟨hr5.keep hk6 (fun q => hkp p q rfl) ?_, bkeep (bkeep hbl hk5 (Nat.le_refl _) (fun b q => by have : b = p := q; omega)) hk6 (Nat.le_refl _) (fun b q => by have := (hw5.lt b q).1; omega)⟩
          intro ad had q
          have h1 := (hw5.lt _ q).1
          rcases ha3 ad had with r | r
          · rw [r] at hj
            simp at hj
            rw [r] at hlt
            simp at hlt
          · omega
        clear hug hlt4
        have HFIN : Hid _ := fin
        clear fin
        cases hf : f j with
        | true =>
          rw [hf] at hcj
          go_wp2_with fail
          refine KS.mono ?_
          rintro e w5 ⟨rfl, R5, K5⟩
          have HW5 : Hid (Wr w5 w3.heap.size w3.heap.size v (l.take pos)) := HW.out.keep K5 hkp
          have HR5 : Hid (Rd w5 p a c3 l pos' er) := R5
          have HK5 : Hid (Keep (fun k => k = p) wr w5) := K5
          clear R5 K5 KS KU
          go_wp2_with fail
          have K := writeS_any (uns u) _ _ _ _ _ hr64.1 hr64.2 HW5.out HLT.out
          rw [hsg] at K
          refine K.mono ?_
          rintro e w6 ⟨v6, rfl, W6, K6, _⟩
          obtain ⟨R6, B6⟩ := HFIN.out w5 w6 v6 HR5.out HK5.out W6 K6
          have HW6 : Hid (Wr w6 w3.heap.size w3.heap.size v6 (l.take pos ++ form u)) := W6
          have HR6 : Hid (Rd w6 p a c3 l pos' er) := R6
          clear K W6 K6 R6 HW5 HR5 HK5 HFIN
          go_wp2_with fail
          refine (fault_any p a c3 l pos' er _ HR6.out).mono ?_
          rintro e w7 ⟨rfl, b7⟩
          have HB7 : Hid (Below w.heap.size w w7) := bnext B6 b7 (Nat.le_refl _)
          have HW7 : Hid (Wr w7 w3.heap.size w3.heap.size v6 (l.take pos ++ form u)) := HW6.out.below b7
          have HR7 : Hid (Rd w7 p a c3 l pos' er) := HR6.out.below b7
          clear b7 HW6 HR6 B6
          by_cases her : er = 0
          · subst her
            obtain ⟨q1, q2, q3⟩ := HUG.out rfl
            rw [q1, take_join l pos pos' q2] at HW7
            go_wp2_with (go_at_call 17; refine (num_any _ _).mono ?_; rintro e w' ⟨rfl, rfl⟩)
            go_roundw
            case rel => exact ⟨j + 1, pos', v6, by go_num, by omega, HR7.out, HW7.out, HB7.out⟩
            case measure => simp [intOf]; omega
          · have her1 := errNe er her
            go_wp2_with (go_at_call 17; refine (num_any _ _).mono ?_; rintro e w' ⟨rfl, rfl⟩)
            go_ret
            exact ⟨rfl, HB7.out⟩
        | false =>
          rw [hf] at hcj
          go_wp2_with fail
          refine KU.mono ?_
          rintro e w5 ⟨rfl, R5, K5⟩
          have HW5 : Hid (Wr w5 w3.heap.size w3.heap.size v (l.take pos)) := HW.out.keep K5 hkp
          have HR5 : Hid (Rd w5 p a c3 l pos' er) := R5
          have HK5 : Hid (Keep (fun k => k = p) wr w5) := K5
          clear R5 K5 KS KU
          go_wp2_with fail
          have K := writeU_any u _ _ _ _ _ hul HW5.out HLT.out
          refine K.mono ?_
          rintro e w6 ⟨v6, rfl, W6, K6, _⟩
          obtain ⟨R6, B6⟩ := HFIN.out w5 w6 v6 HR5.out HK5.out W6 K6
          have HW6 : Hid (Wr w6 w3.heap.size w3.heap.size v6 (l.take pos ++ form u)) := W6
          have HR6 : Hid (Rd w6 p a c3 l pos' er) := R6
          clear K W6 K6 R6 HW5 HR5 HK5 HFIN
          go_wp2_with fail
          refine (fault_any p a c3 l pos' er _ HR6.out).mono ?_
          rintro e w7 ⟨rfl, b7⟩
          have HB7 : Hid (Below w.heap.size w w7) := bnext B6 b7 (Nat.le_refl _)
          have HW7 : Hid (Wr w7 w3.heap.size w3.heap.size v6 (l.take pos ++ form u)) := HW6.out.below b7
          have HR7 : Hid (Rd w7 p a c3 l pos' er) := HR6.out.below b7
          clear b7 HW6 HR6 B6
          by_cases her : er = 0
          · subst her
            obtain ⟨q1, q2, q3⟩ := HUG.out rfl
            rw [q1, take_join l pos pos' q2] at HW7
            go_wp2_with (go_at_call 17; refine (num_any _ _).mono ?_; rintro e w' ⟨rfl, rfl⟩)
            go_roundw
            case rel => exact ⟨j + 1, pos', v6, by go_num, by omega, HR7.out, HW7.out, HB7.out⟩
            case measure => simp [intOf]; omega
          · have her1 := errNe er her
            go_wp2_with (go_at_call 17; refine (num_any _ _).mono ?_; rintro e w' ⟨rfl, rfl⟩)
            go_ret
            exact ⟨rfl, HB7.out⟩
    · have hkp : ∀ k, wS w3.heap.size v k → ¬ k = p := by
        intro k q
        have := (HW.out.lt k q).1
        omega
      by_cases hq : j < l.length
      · have g1 : (j : Int) < (l.length : Int) := by omega
        have g2 : decide ((j : Int) < (ns : Int)) = false := by simp; omega
        go_wp2_with fail
        refine (end_any p a c3 l pos 0 _ HR.out).mono ?_
        rintro e w5 ⟨rfl, R5, K5⟩
        have HB5 : Hid (Below w.heap.size w w5) := bkeep hbl K5 (Nat.le_refl _) (fun b q => by have : b = p := q; omega)
        have HW5 : Hid (Wr w5 w3.heap.size w3.heap.size v (l.take pos)) := HW.out.keep K5 hkp
        have HL5 : Hid (Bytes w5 ab l) := Seen.below HL0.out HB5.out
        clear K5
        by_cases hpl : pos < l.length
        · have ee : endE l pos 0 = 21 := by unfold endE; rw [if_pos ⟨rfl, hpl⟩]
          rw [ee] at R5
          have HR5 : Hid (Rd w5 p a c3 l pos 21) := R5
          clear R5
          go_wp2_with fail
          refine (fault_any p a c3 l pos 21 _ HR5.out).mono ?_
          rintro e w6 ⟨rfl, b6⟩
          have HB6 : Hid (Below w.heap.size w w6) := bnext HB5.out b6 (Nat.le_refl _)
          clear b6
          go_wp2_with (go_at_call 17; refine (num_any _ _).mono ?_; rintro e w' ⟨rfl, rfl⟩)
          go_ret
          exact ⟨rfl, HB6.out⟩
        · have ee : endE l pos 0 = 0 := by unfold endE; rw [if_neg (by omega)]
          rw [ee] at R5
          have htk : l.take pos = l := List.take_of_length_le (by omega)
          rw [htk] at HW5
          have HR5 : Hid (Rd w5 p a c3 l pos 0) := R5
          clear R5
          go_wp2_with fail
          refine (fault_any p a c3 l pos 0 _ HR5.out).mono ?_
          rintro e w6 ⟨rfl, b6⟩
          have HB6 : Hid (Below w.heap.size w w6) := bnext HB5.out b6 (Nat.le_refl _)
          have HW6 : Hid (Wr w6 w3.heap.size w3.heap.size v l) := HW5.out.below b6
          have HL6 : Hid (Bytes w6 ab l) := Seen.below HL5.out b6
          clear b6 HW5 HL5 HR5
          go_wp2_with (go_at_call 17; refine (num_any _ _).mono ?_; rintro e w' ⟨rfl, rfl⟩)
          refine (out_any _ _ _ _ _ HW6.out (by omega)).mono ?_
          rintro e w7 ⟨v7, rfl, o7, b7⟩
          obtain ⟨a7, c7, rfl, s7, _⟩ := o7.seen
          rw [ints_length]
          have HS7 : Hid (Bytes w7 a7 l) := s7
          have HL7 : Hid (Bytes w7 ab l) := Seen.below HL6.out b7
          have HB7 : Hid (Below w.heap.size w w7) := bnext HB6.out b7 (Nat.le_refl _)
          clear o7 s7 b7
          go_wp2_with fail
          have K := same_any a7 ab l l c7 cb _ HS7.out HL7.out bl bl
          rw [decide_eq_true (rfl : l = l)] at K
          refine K.mono ?_
          rintro e w' ⟨rfl, rfl⟩
          go_wp2_with fail
          go_ret
          exact ⟨rfl, HB7.out⟩
      · have g1 : decide ((j : Int) < (l.length : Int)) = false := by simp; omega
        go_wp2_with fail
        refine (end_any p a c3 l pos 0 _ HR.out).mono ?_
        rintro e w5 ⟨rfl, R5, K5⟩
        have HB5 : Hid (Below w.heap.size w w5) := bkeep hbl K5 (Nat.le_refl _) (fun b q => by have : b = p := q; omega)
        have HW5 : Hid (Wr w5 w3.heap.size w3.heap.size v (l.take pos)) := HW.out.keep K5 hkp
        have HL5 : Hid (Bytes w5 ab l) := Seen.below HL0.out HB5.out
        clear K5
        by_cases hpl : pos < l.length
        · have ee : endE l pos 0 = 21 := by unfold endE; rw [if_pos ⟨rfl, hpl⟩]
          rw [ee] at R5
          have HR5 : Hid (Rd w5 p a c3 l pos 21) := R5
          clear R5
          go_wp2_with fail
          refine (fault_any p a c3 l pos 21 _ HR5.out).mono ?_
          rintro e w6 ⟨rfl, b6⟩
          have HB6 : Hid (Below w.heap.size w w6) := bnext HB5.out b6 (Nat.le_refl _)
          clear b6
          go_wp2_with (go_at_call 17; refine (num_any _ _).mono ?_; rintro e w' ⟨rfl, rfl⟩)
          go_ret
          exact ⟨rfl, HB6.out⟩
        · have ee : endE l pos 0 = 0 := by unfold endE; rw [if_neg (by omega)]
          rw [ee] at R5
          have htk : l.take pos = l := List.take_of_length_le (by omega)
          rw [htk] at HW5
          have HR5 : Hid (Rd w5 p a c3 l pos 0) := R5
          clear R5
          go_wp2_with fail
          refine (fault_any p a c3 l pos 0 _ HR5.out).mono ?_
          rintro e w6 ⟨rfl, b6⟩
          have HB6 : Hid (Below w.heap.size w w6) := bnext HB5.out b6 (Nat.le_refl _)
          have HW6 : Hid (Wr w6 w3.heap.size w3.heap.size v l) := HW5.out.below b6
          have HL6 : Hid (Bytes w6 ab l) := Seen.below HL5.out b6
          clear b6 HW5 HL5 HR5
          go_wp2_with (go_at_call 17; refine (num_any _ _).mono ?_; rintro e w' ⟨rfl, rfl⟩)
          refine (out_any _ _ _ _ _ HW6.out (by omega)).mono ?_
          rintro e w7 ⟨v7, rfl, o7, b7⟩
          obtain ⟨a7, c7, rfl, s7, _⟩ := o7.seen
          rw [ints_length]
          have HS7 : Hid (Bytes w7 a7 l) := s7
          have HL7 : Hid (Bytes w7 ab l) := Seen.below HL6.out b7
          have HB7 : Hid (Below w.heap.size w w7) := bnext HB6.out b7 (Nat.le_refl _)
          clear o7 s7 b7
          go_wp2_with fail
          have K := same_any a7 ab l l c7 cb _ HS7.out HL7.out bl bl
          rw [decide_eq_true (rfl : l = l)] at K
          refine K.mono ?_
          rintro e w' ⟨rfl, rfl⟩
          go_wp2_with fail
          go_ret
          exact ⟨rfl, HB7.out⟩
end Go.Proofs.YtllpfojkbeloeaaDoor
