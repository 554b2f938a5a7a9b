import Derived.Test.YtohkmigahbellaaDuo
import Derived.Test.YtohkmigahbellaaArmM
namespace Go.Proofs.Ytohkmigahbellaa
open Go.RowKit Go.QK

/-- Cells of a variable that lies apart from the devices. -/
structure Aside (w : World) (U : Nat → Prop) (b : Nat) (vs : List Value) : Prop where
  cell : ∀ j v, vs[j]? = some v → w.cell? ⟨b, j, none⟩ = some v
  out : ¬ U b
  lt : b < w.heap.size
section
variable {w w' : World} {S S' T T' : Nat → Prop} {b : Nat} {vs : List Value}
theorem Aside.left (h : Aside w (fun b => S b ∨ T b) b vs) (hs : Step w S w' S') : Aside w' (fun b => S' b ∨ T b) b vs :=
  ⟨fun j v hv => (hs.1.cell (p := ⟨b, j, none⟩) h.lt (fun q => h.out (.inl q))).trans (h.cell j v hv), fun q => q.elim (fun r => (hs.2 b r).elim (fun q => h.out (.inl q)) (fun q => by have := h.lt; omega)) (fun r => h.out (.inr r)), Nat.lt_of_lt_of_le h.lt hs.1.size⟩
theorem Aside.right (h : Aside w (fun b => S b ∨ T b) b vs) (hs : Step w T w' T') : Aside w' (fun b => S b ∨ T' b) b vs :=
  ⟨fun j v hv => (hs.1.cell (p := ⟨b, j, none⟩) h.lt (fun q => h.out (.inr q))).trans (h.cell j v hv), fun q => q.elim (fun r => h.out (.inl r)) (fun r => (hs.2 b r).elim (fun q => h.out (.inr q)) (fun q => by have := h.lt; omega)), Nat.lt_of_lt_of_le h.lt hs.1.size⟩
theorem Aside.below {U : Nat → Prop} (h : Aside w U b vs) (hb : Below w.heap.size w w') : Aside w' U b vs :=
  ⟨fun j v hv => (hb.cell (p := ⟨b, j, none⟩) h.lt).trans (h.cell j v hv), h.out, Nat.lt_of_lt_of_le h.lt hb.size⟩
end
theorem LossAt.low {w : World} {l : Loss} {a : Option Addr} {c : Nat} (h : LossAt w l a c) (hk : l.keep ≠ []) : ∀ ad, a = some ad → ad.block < w.heap.size := by
  intro ad had
  rcases h.seen with q | ⟨b, off, e, hlt, _⟩
  · exact (hk (by simpa [ints] using q)).elim
  · rw [had] at e
    cases e
    exact hlt
theorem LossAt.below {w w' : World} {l : Loss} {a : Option Addr} {c : Nat} (h : LossAt w l a c) (hb : Below w.heap.size w w') : LossAt w' l a c := ⟨h.seen.below hb, h.nil, h.cap, h.ok⟩
/-- All of a list of pending writes that a device hands out. -/
theorem cache_seen {w : World} {B : Nat} {n c : Nat} {a : Option Addr} {qs : List PE} {g : Dev} (ok : g.Ok) (hq : qs.map PE.out = g.pend) (hr : PRow w B (.slice a n c) qs) (hf : Fresh w B qs) : PSeen w a qs :=
  PSeen.of hr (fun p hp => ⟨Owns.seen_at (hf.own p hp).1, (ok.pend p.out (by rw [← hq]; exact List.mem_map.2 ⟨p, hp, rfl⟩)).2.2⟩)

def bothOf (S T : Nat → Prop) : Nat → Prop := fun b => S b ∨ T b

set_option maxHeartbeats 4000000 in
set_option maxRecDepth 100000 in
theorem armed_walk (size syncs at_ : Int) (a : Option Addr) (c : Nat) (ps : List (Int × Nat)) (la : Option Addr) (lc : Nat) (l : Loss) (w : World) (hp : PutsAt w a ps) (hpc : ps.length ≤ c) (hpa : a = none → c = 0) (hcm : c ≤ maxLen) (hl : LossAt w l la lc) (hkl : l.keep.length ≤ 17592186044415) :
    Calls Try.prog 4 #[.int .i64 size, .slice a ps.length c, .int .i64 syncs, .int .i64 at_, .agg #[.slice la l.keep.length lc, .int .i64 l.torn, .int .i64 l.off]] w fun e w' => e = .returned (.bool true) ∧ Below w.heap.size w w' := by
  have B0 := alloc_below w (.cells #[.slice la l.keep.length lc, .int .i64 l.torn, .int .i64 l.off] 26)
  have HL := hide hl
  have HP := hide hp
  clear hl hp
  go_enter Try.func4, Try.ntmps4
  go_wp2_with fail
  refine (brought_any size 9 _ (by decide) (by decide)).mono ?_
  rintro e w' ⟨rfl, hw⟩
  subst hw
  have hx9 := bring_lt size 9 (by decide)
  generalize bring size 9 = x at *
  go_wp2_with fail
  have NW := new_ok (1 + x) (w.alloc (.cells #[.slice la l.keep.length lc, .int .i64 l.torn, .int .i64 l.off] 26)) (by omega) (by omega)
  rw [show ((1 + x : Nat) : Int) = 1 + (x : Int) by omega] at NW
  refine NW.mono ?_
  rintro e w1 ⟨d, S, rfl, D1, f1, b1⟩
  have L1 : Live w.heap.size w w1 S d (Dev.new (1 + x)) := ⟨D1, fun b hb => by have := f1 b hb; simp at this; omega, bnext B0 b1 (Nat.le_refl _), Nat.le_refl _⟩
  have A1 : Aside w1 S w.heap.size [.slice la l.keep.length lc, .int .i64 l.torn, .int .i64 l.off] := by
    refine Aside.below (w := w.alloc (.cells #[.slice la l.keep.length lc, .int .i64 l.torn, .int .i64 l.off] 26)) ⟨fun j v hv => ?_, fun q => by have := f1 _ q; simp at this; omega, by simp⟩ b1
    rw [World.cell?_alloc_new]
    simpa using hv
  have HL1 := hide L1
  have HA1 := hide A1
  clear L1 A1 D1 f1 b1 NW
  go_wp2_with fail
  have NW := new_ok (1 + x) w1 (by omega) (by omega)
  rw [show ((1 + x : Nat) : Int) = 1 + (x : Int) by omega] at NW
  refine NW.mono ?_
  rintro e w2 ⟨cc, T, rfl, D2, f2, b2⟩
  have D2' := hide (HL1.out.join D2 f2 b2)
  have A2 := hide (show Aside w2 (fun b => S b ∨ T b) w.heap.size [.slice la l.keep.length lc, .int .i64 l.torn, .int .i64 l.off] from
    ⟨(HA1.out.below b2).cell, fun q => q.elim HA1.out.out (fun r => by have := f2 _ r; have := HA1.out.lt; omega), (HA1.out.below b2).lt⟩)
  clear D2 f2 b2 NW HL1 HA1
  go_wp2_with fail
  refine (num_any _ _).mono ?_
  rintro e w' ⟨rfl, hw⟩
  obtain rfl : w2 = w' := hw.symm
  go_wp2_with fail
  refine (num_any _ _).mono ?_
  rintro e w' ⟨rfl, hw⟩
  obtain rfl : w2 = w' := hw.symm
  go_wp2_with fail
  refine (awake_any _).mono ?_
  rintro e w3 ⟨rfl, b3⟩
  have D3 := hide (D2'.out.below b3)
  have A3 := hide (A2.out.below b3)
  clear b3 D2' A2
  go_wp2_with fail
  refine (cutPuts_any a ps.length c w3 hpc hpa hcm).mono ?_
  rintro e w' ⟨rfl, hw⟩
  obtain rfl : w3 = w' := hw.symm
  obtain ⟨qs, hqs⟩ : ∃ qs, qs = ps.take 120 := ⟨_, rfl⟩
  have hql : min ps.length 120 = qs.length := by rw [hqs]; simp; omega
  have hq120 : qs.length ≤ 120 := by omega
  rw [hql]
  have HQ := hide (show PutsAt w a qs by rw [hqs]; exact HP.out.take 120)
  clear hqs hql HP
  go_wp2_with fail
  have BR := brought_any at_ (qs.length + 1) w3 (by omega) (by omega)
  rw [show ((qs.length + 1 : Nat) : Int) = (qs.length : Int) + 1 by omega] at BR
  refine BR.mono ?_
  rintro e w' ⟨rfl, hw⟩
  obtain rfl : w3 = w' := hw.symm
  have hz := bring_lt at_ (qs.length + 1) (by omega)
  generalize bring at_ (qs.length + 1) = z at *
  clear BR
  have k0 := A3.out.cell 0 _ rfl
  have k1 := A3.out.cell 1 _ rfl
  have k2 := A3.out.cell 2 _ rfl
  go_wp2_with fail
  have AR := arm_any D3.out.one.dev (1 + (z : Int)) (by omega) l la lc (HL.out.below D3.out.one.bel) (fun hk ad had q => by have := D3.out.one.far _ q; have := HL.out.low hk ad had; omega) hkl
  have ea : (Dev.new (1 + x)).armE (1 + (z : Int)) = 0 := by
    unfold Dev.armE
    rw [if_neg (by simp [Dev.new]), if_neg (by omega)]
  rw [ea] at AR
  refine AR.mono ?_
  rintro e w4 ⟨S4, rfl, D4, st4⟩
  have e4 : (Dev.new (1 + x)).arm (1 + (z : Int)) l = armed (Dev.new (1 + x)) (1 + z) l := by
    unfold Dev.arm armed
    rw [if_neg (by simp [Dev.new]; omega), if_pos (by omega)]
    rw [show (1 + (z : Int)).toNat = 1 + z by omega]
  rw [e4] at D4
  have DU := hide (D3.out.left D4 st4)
  have AS := hide (A3.out.left st4)
  have R0 := hide (show ArmR l (1 + x) (1 + z) 0 (armed (Dev.new (1 + x)) (1 + z) l) (Dev.new (1 + x)) from ⟨rfl, rfl, rfl, Nat.le_refl _, Nat.le_refl _, by simp [Dev.new, Dev.n], .inl ⟨by omega, by rw [Nat.sub_zero], rfl⟩⟩)
  clear D4 st4 AR e4 D3 A3 k0 k1 k2 ea
  go_wp2_with fail
  refine (num_any _ _).mono ?_
  rintro e w' ⟨rfl, hw⟩
  obtain rfl : w4 = w' := hw.symm
  go_wp2_with fail
  refine (brought_any syncs 9 _ (by decide) (by decide)).mono ?_
  rintro e w' ⟨rfl, hw⟩
  obtain rfl : w4 = w' := hw.symm
  have hy9 := bring_lt syncs 9 (by decide)
  generalize bring syncs 9 = y at *
  go_wp2_with fail
  go_loopw [18] (fun i wr => ∃ j : Nat, j ≤ qs.length ∧ i = .int .i64 ((j : Int) + 1) ∧ ∃ S T g k, Duo w.heap.size w wr S d g T cc k ∧ Aside wr (fun b => S b ∨ T b) w.heap.size [.slice la l.keep.length lc, .int .i64 l.torn, .int .i64 l.off] ∧ ArmR l (1 + x) (1 + z) j g k) (fun i _ => (qs.length + 1) - (intOf i).toNat)
  case atStart => exact ⟨0, Nat.zero_le _, by simp, S4, T, _, _, DU.out, AS.out, R0.out⟩
  case round =>
    obtain ⟨j, hj, rfl, S5, T5, g, k, hdu, has, har⟩ := hrel
    have DU5 := hide hdu
    have AS5 := hide has
    have AR5 := hide har
    clear hdu has har DU AS R0
    by_cases hlt : j < qs.length
    · have hlt1 : (j : Int) + 1 ≤ (qs.length : Int) := by omega
      obtain ⟨pb, off, rfl, hpb, p0, p1⟩ := (HQ.out.below DU5.out.one.bel) j hlt
      have bA := alloc_below wr (.cells #[.int .i64 qs[j].1, .int .u8 (qs[j].2 : Int)] 36)
      have DU6 := hide (DU5.out.below bA)
      have AS6 := hide (AS5.out.below bA)
      have PX6 := hide (show Aside (wr.alloc (.cells #[.int .i64 qs[j].1, .int .u8 (qs[j].2 : Int)] 36)) (fun b => S5 b ∨ T5 b) wr.heap.size [.int .i64 qs[j].1, .int .u8 (qs[j].2 : Int)] from
        ⟨fun i v hv => by rw [World.cell?_alloc_new]; simpa using hv, fun q => q.elim (fun r => by have := DU5.out.one.dev.lt _ r; omega) (fun r => by have := DU5.out.two.dev.lt _ r; omega), by simp⟩)
      have hj120 : j < 120 := by omega
      have ew1 : IntKind.i64.wrap ((j : Int) + 1 - 1) = (j : Int) := by rw [IntKind.wrap_i64]; omega
      have FL := filled_any 0 false 0 qs[j].2 0 none 0 0 0 0 (wr.alloc (.cells #[.int .i64 qs[j].1, .int .u8 (qs[j].2 : Int)] 36))
      rw [fillLen0] at FL
      have HFL := hide FL
      have fl0 := filledB_length qs[j].2 512
      have flb := filledB_allB qs[j].2 512
      generalize filledB qs[j].2 512 = fb at *
      generalize hpj : qs[j].1 = pi at *
      generalize hpk : qs[j].2 = pf at *
      clear DU5 AS5 hpj hpk bA FL
      go_wp2_with fail
      refine HFL.out.mono ?_
      rintro e w6 ⟨gb, rfl, ob, b6⟩
      have obl := World.ownsRow.lt ob gb rfl
      have DU7 := hide (DU6.out.below b6)
      have AS7 := hide (AS6.out.below b6)
      have PX7 := hide (PX6.out.below b6)
      have BY7 := hide (show Apart w6 (fun b => S5 b ∨ T5 b) gb fb from ⟨Owns.seen_at ob, fun q => q.elim (fun r => by have := DU6.out.one.dev.lt _ r; omega) (fun r => by have := DU6.out.two.dev.lt _ r; omega), obl.2⟩)
      clear ob b6 DU6 AS6 PX6 HFL obl
      have px0 := PX7.out.cell 0 _ rfl
      have erem : ((j : Int) + 1).tmod (1 + (y : Int)) = (((j + 1) % (1 + y) : Nat) : Int) := by
        rw [show (1 + (y : Int)) = ((1 + y : Nat) : Int) by omega, show ((j : Int) + 1) = ((j + 1 : Nat) : Int) by omega, Int.tmod_eq_emod_of_nonneg (by omega)]
        omega
      have hpl := AR5.out.gpend
      have hcl := AR5.out.gcalls
      have hkp := AR5.out.pend
      have hkc := AR5.out.calls
      by_cases hsy : (j + 1) % (1 + y) = 0
      · rw [hsy] at erem
        clear hsy px0 PX7 BY7
        obtain ⟨r1, r2, r3⟩ := AR5.out.sync DU7.out.two.dev.ok
        rcases Nat.lt_trichotomy (j + 1) (1 + z) with hc | hc | hc
        · have c1 : (j : Int) + 1 < 1 + (z : Int) := by omega
          have c2 : (j : Int) + 1 ≤ 1 + (z : Int) := by omega
          have c3 : ¬ (1 + (z : Int) ≤ (j : Int) + 1) := by omega
          rw [if_pos (by omega)] at r1
          go_wp2_with fail
          have SY := sync_any DU7.out.one.dev (by omega) (by omega)
          rw [r1] at SY
          refine SY.mono ?_
          rintro e w8 ⟨rfl, D8, k8⟩
          have DU8 := hide (DU7.out.left D8 (Step.of_keep k8))
          have AS8 := hide (AS7.out.left (Step.of_keep k8))
          clear D8 k8 SY
          go_wp2_with fail
          refine (num_any _ _).mono ?_
          rintro e w' ⟨rfl, hw⟩
          obtain rfl : w8 = w' := hw.symm
          obtain ⟨r4, r5⟩ := r2 (by omega)
          go_wp2_with fail
          have SY := sync_any DU8.out.two.dev (by omega) (by omega)
          rw [r4] at SY
          refine SY.mono ?_
          rintro e w9 ⟨rfl, D9, k9⟩
          have DU9 := hide (DU8.out.right D9 (Step.of_keep k9))
          have AS9 := hide (AS8.out.right (Step.of_keep k9))
          have AR9 := hide r5
          clear D9 k9 SY r5 r4 DU8 AS8 DU7 AS7 AR5
          go_wp2_with fail
          refine (num_any _ _).mono ?_
          rintro e w' ⟨rfl, hw⟩
          obtain rfl : w9 = w' := hw.symm
          go_wp2_with fail
          have DW := down_any DU9.out.one.dev
          rw [AR9.out.gdown, decide_eq_false (by omega)] at DW
          refine DW.mono ?_
          rintro e w' ⟨rfl, hw⟩
          obtain rfl : w9 = w' := hw.symm
          clear DW
          go_wp2_with fail
          go_roundw
          case rel => exact ⟨j + 1, by omega, by go_num, _, _, _, _, DU9.out, AS9.out, AR9.out⟩
          case measure => simp [intOf]; omega
        · have c1 : ¬ ((j : Int) + 1 < 1 + (z : Int)) := by omega
          have c2 : (j : Int) + 1 ≤ 1 + (z : Int) := by omega
          have c3 : 1 + (z : Int) ≤ (j : Int) + 1 := by omega
          rw [if_neg (by omega)] at r1
          have HC := hide hc
          clear hc
          go_wp2_with fail
          have SY := sync_any DU7.out.one.dev (by omega) (by omega)
          rw [r1] at SY
          refine SY.mono ?_
          rintro e w8 ⟨rfl, D8, k8⟩
          have DU8 := hide (DU7.out.left D8 (Step.of_keep k8))
          have AS8 := hide (AS7.out.left (Step.of_keep k8))
          clear D8 k8 SY
          go_wp2_with fail
          refine (num_any _ _).mono ?_
          rintro e w' ⟨rfl, hw⟩
          obtain rfl : w8 = w' := hw.symm
          have AR9 := hide (r3 (by omega))
          have DU9 := DU8
          have AS9 := AS8
          clear DU8 AS8 DU7 AS7 AR5
          go_wp2_with fail
          have DW := down_any DU9.out.one.dev
          rw [AR9.out.gdown, decide_eq_true (by omega)] at DW
          refine DW.mono ?_
          rintro e w' ⟨rfl, hw⟩
          obtain rfl : w8 = w' := hw.symm
          clear DW
          go_wp2_with fail
          go_roundw
          case rel => exact ⟨j + 1, by omega, by go_num, _, _, _, _, DU9.out, AS9.out, AR9.out⟩
          case measure => simp [intOf]; omega
        · have c1 : ¬ ((j : Int) + 1 < 1 + (z : Int)) := by omega
          have c2 : ¬ ((j : Int) + 1 ≤ 1 + (z : Int)) := by omega
          have c3 : 1 + (z : Int) ≤ (j : Int) + 1 := by omega
          rw [if_neg (by omega)] at r1
          go_wp2_with fail
          have SY := sync_any DU7.out.one.dev (by omega) (by omega)
          rw [r1] at SY
          refine SY.mono ?_
          rintro e w8 ⟨rfl, D8, k8⟩
          have DU8 := hide (DU7.out.left D8 (Step.of_keep k8))
          have AS8 := hide (AS7.out.left (Step.of_keep k8))
          clear D8 k8 SY
          go_wp2_with fail
          refine (num_any _ _).mono ?_
          rintro e w' ⟨rfl, hw⟩
          obtain rfl : w8 = w' := hw.symm
          have AR9 := hide (r3 (by omega))
          have DU9 := DU8
          have AS9 := AS8
          clear DU8 AS8 DU7 AS7 AR5
          go_wp2_with fail
          have DW := down_any DU9.out.one.dev
          rw [AR9.out.gdown, decide_eq_true (by omega)] at DW
          refine DW.mono ?_
          rintro e w' ⟨rfl, hw⟩
          obtain rfl : w8 = w' := hw.symm
          clear DW
          go_wp2_with fail
          go_roundw
          case rel => exact ⟨j + 1, by omega, by go_num, _, _, _, _, DU9.out, AS9.out, AR9.out⟩
          case measure => simp [intOf]; omega
      · generalize (j + 1) % (1 + y) = re at *
        have erem' : ((re : Int) == 0) = false := by simp; omega
        have hsn := bring_lt pi (1 + x) (by omega)
        obtain ⟨r1, r2, r3⟩ := AR5.out.write (bring pi (1 + x)) hsn fb fl0
        rcases Nat.lt_trichotomy (j + 1) (1 + z) with hc | hc | hc
        · have c1 : (j : Int) + 1 < 1 + (z : Int) := by omega
          have c2 : (j : Int) + 1 ≤ 1 + (z : Int) := by omega
          have c3 : ¬ (1 + (z : Int) ≤ (j : Int) + 1) := by omega
          rw [if_pos (by omega)] at r1
          go_wp2_with fail
          have BR := brought_any pi (1 + x) w6 (by omega) (by omega)
          rw [show ((1 + x : Nat) : Int) = 1 + (x : Int) by omega] at BR
          refine BR.mono ?_
          rintro e w' ⟨rfl, hw⟩
          obtain rfl : w6 = w' := hw.symm
          clear BR
          go_wp2_with fail
          have WR := write_any DU7.out.one.dev ((bring pi (1 + x) : Nat) : Int) (some ⟨gb, 0, none⟩) fb 512 BY7.out.bytes (by omega) nofun flb (by omega) (by omega) (by omega)
          rw [fl0, r1] at WR
          refine WR.mono ?_
          rintro e w8 ⟨S8, rfl, D8, st8⟩
          have DU8 := hide (DU7.out.left D8 st8)
          have AS8 := hide (AS7.out.left st8)
          have PX8 := hide (PX7.out.left st8)
          have BY8 := hide (BY7.out.both_left st8)
          have px8 := PX8.out.cell 0 _ rfl
          clear D8 st8 WR px0 PX7
          go_wp2_with fail
          refine (num_any _ _).mono ?_
          rintro e w' ⟨rfl, hw⟩
          obtain rfl : w8 = w' := hw.symm
          obtain ⟨r4, r5⟩ := r2 (by omega)
          go_wp2_with fail
          have BR := brought_any pi (1 + x) w8 (by omega) (by omega)
          rw [show ((1 + x : Nat) : Int) = 1 + (x : Int) by omega] at BR
          refine BR.mono ?_
          rintro e w' ⟨rfl, hw⟩
          obtain rfl : w8 = w' := hw.symm
          clear BR
          go_wp2_with fail
          have WR := write_any DU8.out.two.dev ((bring pi (1 + x) : Nat) : Int) (some ⟨gb, 0, none⟩) fb 512 BY8.out.bytes (by omega) nofun flb (by omega) (by omega) (by omega)
          rw [fl0, r4] at WR
          refine WR.mono ?_
          rintro e w9 ⟨T9, rfl, D9, st9⟩
          have DU9 := hide (DU8.out.right D9 st9)
          have AS9 := hide (AS8.out.right st9)
          have AR9 := hide r5
          clear D9 st9 WR r5 r4 DU8 AS8 DU7 AS7 AR5 px8 PX8 BY8
          go_wp2_with fail
          refine (num_any _ _).mono ?_
          rintro e w' ⟨rfl, hw⟩
          obtain rfl : w9 = w' := hw.symm
          go_wp2_with fail
          have DW := down_any DU9.out.one.dev
          rw [AR9.out.gdown, decide_eq_false (by omega)] at DW
          refine DW.mono ?_
          rintro e w' ⟨rfl, hw⟩
          obtain rfl : w9 = w' := hw.symm
          clear DW
          go_wp2_with fail
          go_roundw
          case rel => exact ⟨j + 1, by omega, by go_num, _, _, _, _, DU9.out, AS9.out, AR9.out⟩
          case measure => simp [intOf]; omega
        · have c1 : ¬ ((j : Int) + 1 < 1 + (z : Int)) := by omega
          have c2 : (j : Int) + 1 ≤ 1 + (z : Int) := by omega
          have c3 : 1 + (z : Int) ≤ (j : Int) + 1 := by omega
          rw [if_neg (by omega)] at r1
          have HC := hide hc
          clear hc
          go_wp2_with fail
          have BR := brought_any pi (1 + x) w6 (by omega) (by omega)
          rw [show ((1 + x : Nat) : Int) = 1 + (x : Int) by omega] at BR
          refine BR.mono ?_
          rintro e w' ⟨rfl, hw⟩
          obtain rfl : w6 = w' := hw.symm
          clear BR
          go_wp2_with fail
          have WR := write_any DU7.out.one.dev ((bring pi (1 + x) : Nat) : Int) (some ⟨gb, 0, none⟩) fb 512 BY7.out.bytes (by omega) nofun flb (by omega) (by omega) (by omega)
          rw [fl0, r1] at WR
          refine WR.mono ?_
          rintro e w8 ⟨S8, rfl, D8, st8⟩
          have DU8 := hide (DU7.out.left D8 st8)
          have AS8 := hide (AS7.out.left st8)
          have PX8 := hide (PX7.out.left st8)
          have BY8 := hide (BY7.out.both_left st8)
          have px8 := PX8.out.cell 0 _ rfl
          clear D8 st8 WR px0 PX7
          go_wp2_with fail
          refine (num_any _ _).mono ?_
          rintro e w' ⟨rfl, hw⟩
          obtain rfl : w8 = w' := hw.symm
          obtain ⟨r4, r5⟩ := r2 (by omega)
          go_wp2_with fail
          have BR := brought_any pi (1 + x) w8 (by omega) (by omega)
          rw [show ((1 + x : Nat) : Int) = 1 + (x : Int) by omega] at BR
          refine BR.mono ?_
          rintro e w' ⟨rfl, hw⟩
          obtain rfl : w8 = w' := hw.symm
          clear BR
          go_wp2_with fail
          have WR := write_any DU8.out.two.dev ((bring pi (1 + x) : Nat) : Int) (some ⟨gb, 0, none⟩) fb 512 BY8.out.bytes (by omega) nofun flb (by omega) (by omega) (by omega)
          rw [fl0, r4] at WR
          refine WR.mono ?_
          rintro e w9 ⟨T9, rfl, D9, st9⟩
          have DU9 := hide (DU8.out.right D9 st9)
          have AS9 := hide (AS8.out.right st9)
          have AR9 := hide r5
          clear D9 st9 WR r5 r4 DU8 AS8 DU7 AS7 AR5 px8 PX8 BY8
          go_wp2_with fail
          refine (num_any _ _).mono ?_
          rintro e w' ⟨rfl, hw⟩
          obtain rfl : w9 = w' := hw.symm
          go_wp2_with fail
          have DW := down_any DU9.out.one.dev
          rw [AR9.out.gdown, decide_eq_true (by omega)] at DW
          refine DW.mono ?_
          rintro e w' ⟨rfl, hw⟩
          obtain rfl : w9 = w' := hw.symm
          clear DW
          go_wp2_with fail
          go_roundw
          case rel => exact ⟨j + 1, by omega, by go_num, _, _, _, _, DU9.out, AS9.out, AR9.out⟩
          case measure => simp [intOf]; omega
        · have c1 : ¬ ((j : Int) + 1 < 1 + (z : Int)) := by omega
          have c2 : ¬ ((j : Int) + 1 ≤ 1 + (z : Int)) := by omega
          have c3 : 1 + (z : Int) ≤ (j : Int) + 1 := by omega
          rw [if_neg (by omega)] at r1
          go_wp2_with fail
          have BR := brought_any pi (1 + x) w6 (by omega) (by omega)
          rw [show ((1 + x : Nat) : Int) = 1 + (x : Int) by omega] at BR
          refine BR.mono ?_
          rintro e w' ⟨rfl, hw⟩
          obtain rfl : w6 = w' := hw.symm
          clear BR
          go_wp2_with fail
          have WR := write_any DU7.out.one.dev ((bring pi (1 + x) : Nat) : Int) (some ⟨gb, 0, none⟩) fb 512 BY7.out.bytes (by omega) nofun flb (by omega) (by omega) (by omega)
          rw [fl0, r1] at WR
          refine WR.mono ?_
          rintro e w8 ⟨S8, rfl, D8, st8⟩
          have DU8 := hide (DU7.out.left D8 st8)
          have AS8 := hide (AS7.out.left st8)
          have PX8 := hide (PX7.out.left st8)
          have BY8 := hide (BY7.out.both_left st8)
          have px8 := PX8.out.cell 0 _ rfl
          clear D8 st8 WR px0 PX7
          go_wp2_with fail
          refine (num_any _ _).mono ?_
          rintro e w' ⟨rfl, hw⟩
          obtain rfl : w8 = w' := hw.symm
          have AR9 := hide (r3 (by omega))
          have DU9 := DU8
          have AS9 := AS8
          clear DU8 AS8 DU7 AS7 AR5 px8 PX8 BY8
          go_wp2_with fail
          have DW := down_any DU9.out.one.dev
          rw [AR9.out.gdown, decide_eq_true (by omega)] at DW
          refine DW.mono ?_
          rintro e w' ⟨rfl, hw⟩
          obtain rfl : w8 = w' := hw.symm
          clear DW
          go_wp2_with fail
          go_roundw
          case rel => exact ⟨j + 1, by omega, by go_num, _, _, _, _, DU9.out, AS9.out, AR9.out⟩
          case measure => simp [intOf]; omega
    · obtain rfl : j = qs.length := by omega
      have hn1 : ¬ ((qs.length : Int) + 1 ≤ (qs.length : Int)) := by omega
      have q0 := AS5.out.cell 0 _ rfl
      have q1 := AS5.out.cell 1 _ rfl
      have q2 := AS5.out.cell 2 _ rfl
      have hpl := AR5.out.gpend
      have hcl := AR5.out.gcalls
      have hkp := AR5.out.pend
      have hkc := AR5.out.calls
      have okg := DU5.out.one.dev.ok
      have okk := DU5.out.two.dev.ok
      obtain ⟨a1, a2, a3, a4, a5, a6, a7⟩ := AR5.out
      by_cases hzl : qs.length < 1 + z
      · have c1 : (qs.length : Int) < 1 + (z : Int) := by omega
        rcases a7 with ⟨_, hg, hc⟩ | ⟨q, _⟩
        · have EI := hide (show g.img = k.img by rw [hg]; rfl)
          have EP := hide (show g.pend = k.pend by rw [hg]; rfl)
          have hdn : g.down = false := by rw [hg]; exact a3
          have HG := hide hg
          clear hg
          go_wp2_with fail
          refine (image_any DU5.out.one.dev).mono ?_
          rintro e w6 ⟨v6, rfl, o6, b6⟩
          have DU6 := hide (DU5.out.below b6)
          have AS6 := hide (AS5.out.below b6)
          obtain ⟨ia, ic, rfl, is6, _, _, _⟩ := o6.seen
          rw [ints_length]
          have IS6 := hide is6
          clear o6 b6 DU5 AS5 is6 q0 q1 q2
          go_wp2_with fail
          refine (image_any DU6.out.two.dev).mono ?_
          rintro e w7 ⟨v7, rfl, o7, b7⟩
          have DU7 := hide (DU6.out.below b7)
          have AS7 := hide (AS6.out.below b7)
          obtain ⟨ja, jc, rfl, js7, _, _, _⟩ := o7.seen
          rw [ints_length]
          have IS7 := hide (IS6.out.below b7)
          have JS7 := hide js7
          clear o7 b7 DU6 AS6 IS6 js7
          go_wp2_with fail
          have SA := same_any ia ja g.img k.img ic jc w7 IS7.out JS7.out okg.bytes okk.bytes
          rw [decide_eq_true EI.out] at SA
          refine SA.mono ?_
          rintro e w' ⟨rfl, hw⟩
          obtain rfl : w7 = w' := hw.symm
          clear SA IS7 JS7
          go_wp2_with fail
          refine (cache_any DU7.out.one.dev (by omega)).mono ?_
          rintro e w8 ⟨us, rfl, u1, u2, u3, b8⟩
          have DU8 := hide (DU7.out.below b8)
          have AS8 := hide (AS7.out.below b8)
          have PS8 := hide (cache_seen okg u1 u2 u3)
          clear u2 u3 b8 DU7 AS7
          go_wp2_with fail
          refine (cache_any DU8.out.two.dev (by omega)).mono ?_
          rintro e w9 ⟨vs, rfl, v1, v2, v3, b9⟩
          have DU9 := hide (DU8.out.below b9)
          have AS9 := hide (AS8.out.below b9)
          have PS9 := hide (PS8.out.below b9)
          have PT9 := hide (cache_seen okk v1 v2 v3)
          clear v2 v3 b9 DU8 AS8 PS8
          go_wp2_with fail
          have hul : us.length = g.pend.length := by rw [← u1]; simp
          refine (cached_eq _ _ us vs us.length vs.length w9 PS9.out PT9.out (by rw [u1, v1, EP.out]) (by omega)).mono ?_
          rintro e w10 ⟨rfl, b10⟩
          have DU10 := hide (DU9.out.below b10)
          have AS10 := hide (AS9.out.below b10)
          clear b10 DU9 AS9 PS9 PT9 u1 v1 hul EP EI
          have q0 := AS10.out.cell 0 _ rfl
          have q1 := AS10.out.cell 1 _ rfl
          have q2 := AS10.out.cell 2 _ rfl
          go_wp2_with fail
          have AR := arm_any DU10.out.one.dev 0 (by omega) l la lc (HL.out.below DU10.out.one.bel) (fun hk ad had q => by have := DU10.out.one.far _ q; have := HL.out.low hk ad had; omega) hkl
          have ea : g.armE 0 = 0 := by
            unfold Dev.armE
            rw [if_neg (by rw [hdn]; decide), if_neg (by omega)]
          rw [ea] at AR
          refine AR.mono ?_
          rintro e w11 ⟨S11, rfl, D11, st11⟩
          have DU11 := hide (DU10.out.left D11 st11)
          clear D11 st11 AR DU10 AS10 q0 q1 q2 ea
          go_wp2_with fail
          refine (num_any _ _).mono ?_
          rintro e w' ⟨rfl, hw⟩
          obtain rfl : w11 = w' := hw.symm
          go_wp2_with fail
          have eg : g.arm 0 l = { g with left := 0, loss := none } := by
            unfold Dev.arm
            rw [if_neg (by rw [hdn]; simp)]
            simp
          have SY := sync_any DU11.out.one.dev (by rw [eg]; show g.pend.length ≤ _; omega) (by rw [eg]; show g.calls ≤ _; omega)
          have es : (g.arm 0 l).syncE = 0 := by
            rw [eg]
            unfold Dev.syncE
            rw [if_neg (by simp [hdn])]
          rw [es] at SY
          refine SY.mono ?_
          rintro e w12 ⟨rfl, D12, k12⟩
          have DU12 := hide (DU11.out.left D12 (Step.of_keep k12))
          clear D12 k12 SY DU11 es eg
          go_wp2_with fail
          refine (num_any _ _).mono ?_
          rintro e w' ⟨rfl, hw⟩
          obtain rfl : w12 = w' := hw.symm
          go_wp2_with fail
          go_ret
          exact ⟨rfl, DU12.out.one.bel⟩
        · omega
      · have c1 : ¬ ((qs.length : Int) < 1 + (z : Int)) := by omega
        rcases a7 with ⟨q, _, _⟩ | ⟨_, hg⟩
        · omega
        · have EI := hide (show g.img = (k.fall l).img by rw [hg])
          have EP := hide (show g.pend = [] by rw [hg]; rfl)
          have EC := hide (show g.calls = 1 + z by rw [hg])
          have HG := hide hg
          clear hg
          go_wp2_with fail
          have CR := crash_any DU5.out.two.dev l la lc (HL.out.below DU5.out.one.bel) (fun hk ad had q => by have := DU5.out.two.far _ q; have := HL.out.low hk ad had; omega) (by omega)
          have ee : k.crashE = 0 := by unfold Dev.crashE; rw [if_neg (by rw [a3]; decide)]
          have ef : k.crash l = k.fall l := by unfold Dev.crash; rw [if_neg (by rw [a3]; decide)]
          rw [ee, ef] at CR
          refine CR.mono ?_
          rintro e w6 ⟨rfl, D6, k6⟩
          have DU6 := hide (DU5.out.right D6 (Step.of_keep k6))
          clear D6 k6 CR DU5 AS5 q0 q1 q2 ee ef
          go_wp2_with fail
          refine (num_any _ _).mono ?_
          rintro e w' ⟨rfl, hw⟩
          obtain rfl : w6 = w' := hw.symm
          go_wp2_with fail
          refine (image_any DU6.out.one.dev).mono ?_
          rintro e w7 ⟨v7, rfl, o7, b7⟩
          have DU7 := hide (DU6.out.below b7)
          obtain ⟨ia, ic, rfl, is7, _, _, _⟩ := o7.seen
          rw [ints_length]
          have IS7 := hide is7
          clear o7 b7 DU6 is7
          go_wp2_with fail
          refine (image_any DU7.out.two.dev).mono ?_
          rintro e w8 ⟨v8, rfl, o8, b8⟩
          have DU8 := hide (DU7.out.below b8)
          obtain ⟨ja, jc, rfl, js8, _, _, _⟩ := o8.seen
          rw [ints_length]
          have IS8 := hide (IS7.out.below b8)
          have JS8 := hide js8
          clear o8 b8 DU7 IS7 js8
          go_wp2_with fail
          have SA := same_any ia ja g.img (k.fall l).img ic jc w8 IS8.out JS8.out okg.bytes (okk.fall l).bytes
          rw [decide_eq_true EI.out] at SA
          refine SA.mono ?_
          rintro e w' ⟨rfl, hw⟩
          obtain rfl : w8 = w' := hw.symm
          clear SA IS8 JS8
          go_wp2_with fail
          refine (cache_any DU8.out.one.dev (by omega)).mono ?_
          rintro e w9 ⟨us, rfl, u1, u2, u3, b9⟩
          have DU9 := hide (DU8.out.below b9)
          have hul : us.length = 0 := by have := congrArg List.length u1; rw [EP.out] at this; simpa using this
          rw [hul]
          clear u1 u2 u3 b9 DU8 hul
          go_wp2_with fail
          have CA := calls_any DU9.out.one.dev
          rw [EC.out, show ((1 + z : Nat) : Int) = 1 + (z : Int) by omega] at CA
          refine CA.mono ?_
          rintro e w' ⟨rfl, hw⟩
          obtain rfl : w9 = w' := hw.symm
          clear CA
          go_wp2_with fail
          go_ret
          exact ⟨by simp, DU9.out.one.bel⟩
end Go.Proofs.Ytohkmigahbellaa
