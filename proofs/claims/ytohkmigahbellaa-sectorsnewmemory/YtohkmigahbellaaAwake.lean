import Derived.Test.YtohkmigahbellaaLaw1
namespace Go.Proofs.Ytohkmigahbellaa
open Go.RowKit Go.QK

/-- A device that was made behind B. -/
structure Live (B : Nat) (w0 w : World) (S : Nat → Prop) (d : Nat) (g : Dev) : Prop where
  dev : PDev w S d g
  far : ∀ b, S b → B ≤ b
  bel : Below B w0 w
  le : B ≤ w0.heap.size
theorem Live.step {B : Nat} {w0 w w' : World} {S S' : Nat → Prop} {d : Nat} {g g' : Dev} (h : Live B w0 w S d g) (hd : PDev w' S' d g') (hs : Step w S w' S') : Live B w0 w' S' d g' := by
  have hB := Nat.le_trans h.le h.bel.size
  exact ⟨hd, fun b hb => (hs.2 b hb).elim (h.far b) (fun q => Nat.le_trans hB q), h.bel.trans (hs.1.below hB (fun j hj q => by have := h.far j q; omega)), h.le⟩
theorem Live.below {B : Nat} {w0 w w' : World} {S : Nat → Prop} {d : Nat} {g : Dev} (h : Live B w0 w S d g) (hb : Below w.heap.size w w') : Live B w0 w' S d g := ⟨h.dev.below hb, h.far, bnext h.bel hb h.le, h.le⟩
theorem Live.keep {B : Nat} {w0 w w' : World} {S : Nat → Prop} {d : Nat} {g g' : Dev} (h : Live B w0 w S d g) (hd : PDev w' S d g') (hk : Keep S w w') : Live B w0 w' S d g' := h.step hd (Step.of_keep hk)

def l0 : Loss := ⟨[], 0, 2⟩
def a0 : Dev := Dev.new 3
def a1 : Dev := a0.write 1 (filledB 7 512)
def a2 : Dev := a1.write 1 (filledB 9 512)
def a3 : Dev := a2.sync
def a4 : Dev := a3.write 1 (filledB 7 512)
def a5 : Dev := a4.crash l0
def a6 : Dev := a5.sync
def a7 : Dev := a6.up
theorem l0_ok : l0.Ok := ⟨nofun, by decide, by decide⟩
theorem fillLen0 : fillLen 0 = 512 := by decide
theorem aw_pend : a0.pend.length ≤ 999999 ∧ a1.pend.length ≤ 999999 ∧ a2.pend.length ≤ 999999 ∧ a3.pend.length ≤ 999999 ∧ a4.pend.length ≤ 999999 ∧ a5.pend.length ≤ 999999 ∧ a6.pend.length ≤ 999999 ∧ a7.pend.length ≤ 999999 := by decide +kernel
theorem aw_calls : a0.calls ≤ 1000000 ∧ a1.calls ≤ 1000000 ∧ a2.calls ≤ 1000000 ∧ a3.calls ≤ 1000000 ∧ a5.calls ≤ 1000000 := by decide +kernel
theorem aw_e : a0.writeE 1 512 = 0 ∧ a1.writeE 1 512 = 0 ∧ a2.syncE = 0 ∧ a3.writeE 1 512 = 0 ∧ a4.crashE = 0 ∧ a5.down = true ∧ a5.syncE = 40 ∧ a7.calls = 4 ∧ a0.n = 3 ∧ a4.pend.length = 1 ∧ a7.reach 1 = 0 ∧ a7.armE (-1) = 4 := by decide +kernel
theorem aw_x : (a7.readB 1).length = 512 ∧ (a7.readB 1).getD 1 0 = 7 ∧ (a7.readB 1).getD 2 0 = 9 ∧ (a7.img.drop 512).take 512 = a7.readB 1 ∧ a7.img.length = 1536 := by decide +kernel

theorem aw_b : AllB (a7.readB 1) := by
  have h : (a7.readB 1).all (fun x => decide (x < 256)) = true := by decide +kernel
  intro x hx
  simpa using List.all_eq_true.1 h x hx
/-- Bytes that lie apart from a device. -/
structure Apart (w : World) (S : Nat → Prop) (g : Nat) (l : List Nat) : Prop where
  bytes : Bytes w (some ⟨g, 0, none⟩) l
  out : ¬ S g
  lt : g < w.heap.size
theorem Apart.step {w w' : World} {S S' : Nat → Prop} {g : Nat} {l : List Nat} (h : Apart w S g l) (hs : Step w S w' S') : Apart w' S' g l :=
  ⟨Seen.keep h.bytes hs.1 (fun ad had => by cases had; exact h.out), fun q => (hs.2 g q).elim h.out (fun r => by have := h.lt; omega), Nat.lt_of_lt_of_le h.lt hs.1.size⟩
theorem Apart.below {w w' : World} {S : Nat → Prop} {g : Nat} {l : List Nat} (h : Apart w S g l) (hb : Below w.heap.size w w') : Apart w' S g l := ⟨Seen.below h.bytes hb, h.out, Nat.lt_of_lt_of_le h.lt hb.size⟩
theorem Apart.keep {w w' : World} {S : Nat → Prop} {g : Nat} {l : List Nat} (h : Apart w S g l) (hk : Keep S w w') : Apart w' S g l := h.step (Step.of_keep hk)

set_option maxHeartbeats 2000000 in
set_option maxRecDepth 100000 in
theorem awake_any (w : World) : Calls Try.prog 9 #[] w fun e w' => e = .returned (.bool true) ∧ Below w.heap.size w w' := by
  obtain ⟨p0, p1, p2, p3, p4, p5, p6, p7⟩ := aw_pend
  obtain ⟨q0, q1, q2, q3, q5⟩ := aw_calls
  obtain ⟨e0, e1, e2, e3, e4, e5, e6, e7, en, ep, er, ea⟩ := aw_e
  go_enter Try.func9, Try.ntmps9
  go_wp2_with fail
  refine (new_ok 3 w (by decide) (by decide)).mono ?_
  rintro e w1 ⟨d, S1, rfl, D1, f1, b1⟩
  have L1 := hide (show Live w.heap.size w w1 S1 d a0 from ⟨D1, f1, b1, Nat.le_refl _⟩)
  clear D1 f1 b1
  go_wp2_with fail
  refine (new_no 0 w1 (by decide)).mono ?_
  rintro e w' ⟨rfl, hw⟩
  obtain rfl : w1 = w' := hw.symm
  go_wp2_with fail
  refine (num_any _ _).mono ?_
  rintro e w' ⟨rfl, hw⟩
  obtain rfl : w1 = w' := hw.symm
  go_wp2_with fail
  refine (num_any _ _).mono ?_
  rintro e w' ⟨rfl, hw⟩
  obtain rfl : w1 = w' := hw.symm
  go_wp2_with fail
  refine (sectors_any L1.out.dev).mono ?_
  rintro e w' ⟨rfl, hw⟩
  obtain rfl : w1 = w' := hw.symm
  rw [en]
  go_wp2_with fail
  have F1 := filled_any 0 false 0 7 0 none 0 0 0 0 w1
  rw [fillLen0] at F1
  refine F1.mono ?_
  rintro e w2 ⟨ga, rfl, oa, b2⟩
  have L2 := hide (L1.out.below b2)
  have A2 := hide (show Apart w2 S1 ga (filledB 7 512) from ⟨Owns.seen_at oa, fun q => by have := L1.out.dev.lt ga q; have := (World.ownsRow.lt oa ga rfl).1; omega, (World.ownsRow.lt oa ga rfl).2⟩)
  clear oa b2 L1 F1
  go_wp2_with fail
  have F1 := filled_any 0 false 0 9 0 none 0 0 0 0 w2
  rw [fillLen0] at F1
  refine F1.mono ?_
  rintro e w3 ⟨gb, rfl, ob, b3⟩
  have L3 := hide (L2.out.below b3)
  have A3 := hide (A2.out.below b3)
  have B3 := hide (show Apart w3 S1 gb (filledB 9 512) from ⟨Owns.seen_at ob, fun q => by have := L2.out.dev.lt gb q; have := (World.ownsRow.lt ob gb rfl).1; omega, (World.ownsRow.lt ob gb rfl).2⟩)
  clear ob b3 L2 A2 F1
  go_wp2_with fail
  have W1 := write_any L3.out.dev 1 (some ⟨ga, 0, none⟩) (filledB 7 512) 512 A3.out.bytes (by rw [filledB_length]; decide) nofun (filledB_allB _ _) (by rw [filledB_length]; decide) p0 q0
  rw [filledB_length, e0] at W1
  refine W1.mono ?_
  rintro e w4 ⟨S4, rfl, D4, st4⟩
  have L4 := hide (show Live w.heap.size w w4 S4 d a1 from L3.out.step D4 st4)
  have A4 := hide (A3.out.step st4)
  have B4 := hide (B3.out.step st4)
  clear D4 st4 L3 A3 B3 W1
  go_wp2_with fail
  refine (num_any _ _).mono ?_
  rintro e w' ⟨rfl, hw⟩
  obtain rfl : w4 = w' := hw.symm
  go_wp2_with fail
  have W1 := write_any L4.out.dev 1 (some ⟨gb, 0, none⟩) (filledB 9 512) 512 B4.out.bytes (by rw [filledB_length]; decide) nofun (filledB_allB _ _) (by rw [filledB_length]; decide) p1 q1
  rw [filledB_length, e1] at W1
  refine W1.mono ?_
  rintro e w5 ⟨S5, rfl, D5, st5⟩
  have L5 := hide (show Live w.heap.size w w5 S5 d a2 from L4.out.step D5 st5)
  have A5 := hide (A4.out.step st5)
  have B5 := hide (B4.out.step st5)
  clear D5 st5 L4 A4 B4 W1
  go_wp2_with fail
  refine (num_any _ _).mono ?_
  rintro e w' ⟨rfl, hw⟩
  obtain rfl : w5 = w' := hw.symm
  go_wp2_with fail
  have W1 := sync_any L5.out.dev (by omega) q2
  rw [e2] at W1
  refine W1.mono ?_
  rintro e w6 ⟨rfl, D6, k6⟩
  have L6 := hide (show Live w.heap.size w w6 S5 d a3 from L5.out.keep D6 k6)
  have A6 := hide (A5.out.keep k6)
  have B6 := hide (B5.out.keep k6)
  clear D6 k6 L5 A5 B5 W1
  go_wp2_with fail
  refine (num_any _ _).mono ?_
  rintro e w' ⟨rfl, hw⟩
  obtain rfl : w6 = w' := hw.symm
  go_wp2_with fail
  have W1 := write_any L6.out.dev 1 (some ⟨ga, 0, none⟩) (filledB 7 512) 512 A6.out.bytes (by rw [filledB_length]; decide) nofun (filledB_allB _ _) (by rw [filledB_length]; decide) p3 q3
  rw [filledB_length, e3] at W1
  refine W1.mono ?_
  rintro e w7 ⟨S7, rfl, D7, st7⟩
  have L7 := hide (show Live w.heap.size w w7 S7 d a4 from L6.out.step D7 st7)
  have A7 := hide (A6.out.step st7)
  have B7 := hide (B6.out.step st7)
  clear D7 st7 L6 A6 B6 W1
  go_wp2_with fail
  refine (num_any _ _).mono ?_
  rintro e w' ⟨rfl, hw⟩
  obtain rfl : w7 = w' := hw.symm
  go_wp2_with fail
  refine (cache_any L7.out.dev (by omega)).mono ?_
  rintro e w8 ⟨qs, rfl, hqs, _, _, b8⟩
  have L8 := hide (L7.out.below b8)
  have hq1 : qs.length = 1 := by have := congrArg List.length hqs; simp at this; omega
  rw [hq1]
  clear hqs b8 L7 A7 B7 hq1
  go_wp2_with fail
  have W1 := crash_any L8.out.dev l0 none 0 ⟨.inl rfl, fun _ => rfl, Nat.le_refl _, l0_ok⟩ (fun _ => nofun) (by omega)
  rw [e4] at W1
  refine W1.mono ?_
  rintro e w9 ⟨rfl, D9, k9⟩
  have L9 := hide (show Live w.heap.size w w9 S7 d a5 from L8.out.keep D9 k9)
  clear D9 k9 L8 W1
  go_wp2_with fail
  refine (num_any _ _).mono ?_
  rintro e w' ⟨rfl, hw⟩
  obtain rfl : w9 = w' := hw.symm
  go_wp2_with fail
  have W1 := down_any L9.out.dev
  rw [e5] at W1
  refine W1.mono ?_
  rintro e w' ⟨rfl, hw⟩
  obtain rfl : w9 = w' := hw.symm
  go_wp2_with fail
  have W1 := sync_any L9.out.dev (by omega) q5
  rw [e6] at W1
  refine W1.mono ?_
  rintro e w10 ⟨rfl, D10, k10⟩
  have L10 := hide (show Live w.heap.size w w10 S7 d a6 from L9.out.keep D10 k10)
  clear D10 k10 L9 W1
  go_wp2_with fail
  refine (num_any _ _).mono ?_
  rintro e w' ⟨rfl, hw⟩
  obtain rfl : w10 = w' := hw.symm
  go_wp2_with fail
  refine (up_any L10.out.dev).mono ?_
  rintro e w11 ⟨rfl, D11, k11⟩
  have L11 := hide (show Live w.heap.size w w11 S7 d a7 from L10.out.keep D11 k11)
  clear D11 k11 L10
  go_wp2_with fail
  refine (num_any _ _).mono ?_
  rintro e w' ⟨rfl, hw⟩
  obtain rfl : w11 = w' := hw.symm
  go_wp2_with fail
  have W1 := calls_any L11.out.dev
  rw [e7] at W1
  refine W1.mono ?_
  rintro e w' ⟨rfl, hw⟩
  obtain rfl : w11 = w' := hw.symm
  go_wp2_with fail
  have W1 := read_any L11.out.dev 1 (by omega)
  rw [er] at W1
  refine W1.mono ?_
  rintro e w12 ⟨v, rfl, o12, b12⟩
  obtain ⟨x0, x1, x2, x3, x4⟩ := aw_x
  obtain ⟨gx, cx, hv, hcx, _, hgx⟩ := o12.form (by rw [ints_length, x0]; decide)
  rw [ints_length, x0] at hv hcx
  subst hv
  have L12 := hide (L11.out.below b12)
  have X12 := Owns.seen_at o12
  obtain ⟨_, _, hab, _, y1⟩ := Bytes.at X12 (i := 1) (by rw [x0]; decide)
  cases hab
  obtain ⟨_, _, hab, _, y2⟩ := Bytes.at X12 (i := 2) (by rw [x0]; decide)
  cases hab
  rw [x1] at y1
  rw [x2] at y2
  have HX12 := hide X12
  clear o12 b12 L11 W1 X12
  go_wp2_with fail
  refine (num_any _ _).mono ?_
  rintro e w' ⟨rfl, hw⟩
  obtain rfl : w12 = w' := hw.symm
  go_wp2_with fail
  refine (image_any L12.out.dev).mono ?_
  rintro e w13 ⟨v, rfl, o13, b13⟩
  obtain ⟨gi, ci, hv, hci, _, hgi⟩ := o13.form (by rw [ints_length, x4]; decide)
  rw [ints_length, x4] at hv hci
  subst hv
  have hci' : 1024 ≤ ci := by omega
  have hci2 : ¬ 512 = ci := by omega
  have L13 := hide (L12.out.below b13)
  have I13 := hide (show Bytes w13 (some ⟨gi, 512, none⟩) (a7.readB 1) by
    have q := (Bytes.drop (cap := ci) (Owns.seen_at o13) 512 (by rw [x4]; omega)).take 512
    rw [x3] at q
    unfold dropA at q
    rw [if_neg (by omega)] at q
    simpa [addr_add] using q)
  have X13 := hide (Seen.below HX12.out b13)
  clear o13 b13 L12 HX12 y1 y2
  go_wp2_with fail
  have SA := same_any (some ⟨gi, 512, none⟩) (some ⟨gx, 0, none⟩) (a7.readB 1) (a7.readB 1) (ci - 512) cx w13 I13.out X13.out (aw_b) (aw_b)
  rw [x0, decide_eq_true rfl] at SA
  refine SA.mono ?_
  rintro e w' ⟨rfl, hw⟩
  obtain rfl : w13 = w' := hw.symm
  clear SA
  go_wp2_with fail
  have W1 := arm_any L13.out.dev (-1) (by decide) ⟨[], 0, 0⟩ none 0 ⟨.inl rfl, fun _ => rfl, Nat.le_refl _, ⟨nofun, by decide, by decide⟩⟩ (fun _ => nofun) (by decide)
  rw [ea] at W1
  refine W1.mono ?_
  rintro e w14 ⟨S14, rfl, D14, st14⟩
  have L14 := hide (L13.out.step D14 st14)
  clear D14 st14 L13 W1
  go_wp2_with fail
  refine (num_any _ _).mono ?_
  rintro e w' ⟨rfl, hw⟩
  obtain rfl : w14 = w' := hw.symm
  go_wp2_with fail
  go_ret
  exact ⟨rfl, L14.out.bel⟩
end Go.Proofs.Ytohkmigahbellaa
