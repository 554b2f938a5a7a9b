import Derived.Test.YtapjbgkmcplpbaaWait
namespace Go.Proofs.Ytapjbgkmcplpbaa
open Go.RowKit Go.QK

/-- The device, and the shape's box, below B. -/
structure RestA (w : World) (w0 : World) (B : Nat) (S : Nat → Prop) (d : Nat) (g : Dev) (sb : Nat) (p q r : Int) : Prop where
  dev : PDev w S d g
  far : ∀ b, S b → B ≤ b
  bel : Below w0.heap.size w0 w
  le : w0.heap.size ≤ B
  hi : B ≤ w.heap.size
  sh : cell3 w sb p q r
  shLt : sb < B
section
variable {w w' w0 : World} {B : Nat} {S S' : Nat → Prop} {d : Nat} {g g' : Dev} {sb : Nat} {p q r : Int}
theorem RestA.step (h : RestA w w0 B S d g sb p q r) (hd : PDev w' S' d g') (hs : Step w S w' S') : RestA w' w0 B S' d g' sb p q r := by
  refine ⟨hd, fun b hb => ?_, h.bel.trans (hs.1.below h.bel.size (fun k hk q => by have := h.far k q; have := h.le; omega)), h.le, Nat.le_trans h.hi hs.1.size, h.sh.keep hs.1 (fun q => by have := h.far _ q; have := h.shLt; omega), h.shLt⟩
  rcases hs.2 b hb with q | q
  · exact h.far b q
  · have := h.hi; omega
theorem RestA.below (h : RestA w w0 B S d g sb p q r) (hb : Below w.heap.size w w') : RestA w' w0 B S d g sb p q r := h.step (h.dev.below hb) (Step.of_below hb)
/-- A block of others, from B on, was written. -/
theorem RestA.apart {T : Nat → Prop} (h : RestA w w0 B S d g sb p q r) (hk : Keep T w w') (hT : ∀ b, T b → ¬ S b ∧ B ≤ b) : RestA w' w0 B S d g sb p q r :=
  ⟨h.dev.keep hk (fun b hb => (hT b hb).1), h.far, h.bel.trans (hk.below h.bel.size (fun k hk q => by have := (hT k q).2; have := h.le; omega)), h.le, Nat.le_trans h.hi hk.size, h.sh.keep hk (fun q => by have := (hT _ q).2; have := h.shLt; omega), h.shLt⟩
end
theorem fill_byte (x : Int) : ∃ n : Nat, IntKind.u8.wrap x = (n : Int) ∧ n < 256 := by
  rw [IntKind.wrap_u8]
  exact ⟨(x % 256).toNat, by omega, by omega⟩
theorem ints_set (l : List Nat) (j x : Nat) : (ints l).set j (x : Int) = ints (l.set j x) := by
  unfold ints; rw [List.map_set]
theorem AllB.set {l : List Nat} (h : AllB l) (j x : Nat) (hx : x < 256) : AllB (l.set j x) := fun y hy => by
  rcases List.mem_or_eq_of_mem_set hy with q | q
  · exact h y q
  · omega

/-- The bytes of a block, some of which have been written. -/
def Filled (w6 w : World) (g : Nat) : Prop := ∃ L : List Nat, L.length = 512 ∧ AllB L ∧ OwnB w g (.slice (some ⟨g, 0, none⟩) 512 512) L ∧ Keep (fun b => b = g) w6 w
theorem Filled.stored {w6 w : World} {g : Nat} (h : Filled w6 w g) (t : Nat) (y : Int) : Filled w6 (w.setCell ⟨g, t, none⟩ (.int .u8 (IntKind.u8.wrap y))) g := by
  obtain ⟨L, h1, h2, h3, h4⟩ := h
  obtain ⟨n, e, hn⟩ := fill_byte y
  rw [e]
  refine ⟨L.set t n, by simp [h1], AllB.set h2 t n hn, ?_, h4.setCell (fun _ => rfl) _⟩
  unfold OwnB
  rw [← ints_set]
  exact Owns.stored h3 t _
theorem Filled.cell {w6 w : World} {g : Nat} (h : Filled w6 w g) (t : Nat) (ht : t < 512) : (∃ y, w.cell? ⟨g, t, none⟩ = some (.int .u8 y)) ∧ w.frozen? ⟨g, t, none⟩ = false := by
  obtain ⟨L, h1, h2, h3, h4⟩ := h
  obtain ⟨b, off, e, _, hc⟩ := Bytes.at (Owns.seen_at h3) (i := t) (by omega)
  cases e
  rw [Nat.zero_add] at hc
  exact ⟨⟨_, hc⟩, Owns.frozen h3 t⟩
/-- 'string(b[1024:])'. -/
theorem tail_conv {w : World} {B : Nat} {v : Value} {img : List Nat} (h : OwnB w B v img) (h1 : 1024 ≤ img.length) : ∃ a n c a' n' c', v = .slice a n c ∧ (Instr.slice 52 (.slice a n c) (some (.int .i64 1024)) none none).run Try.prog w = .ok (.slice a' n' c') w ∧ (convert 52 9 (.slice a' n' c')).run Try.prog w = .ok (.string (strOf (img.drop 1024))) w := by
  obtain ⟨a, c, e, hs, hn, hl, hm⟩ := Owns.seen h
  rw [ints_length] at e hl
  have h2 := slice_from (P := Try.prog) (t := 52) Try.underlying52 (fun _ => by kernel_rfl) a img.length c 1024 w h1 hl
  have h3 := conv_any _ _ (c - 1024) w (Bytes.drop (cap := c) hs 1024 hl)
  rw [List.length_drop] at h3
  exact ⟨_, _, _, _, _, _, e, h2, h3⟩
set_option maxHeartbeats 8000000 in
set_option maxRecDepth 100000 in
theorem apart_walk (p0 l0 f0 : Int) (a : Option Addr) (xs : List Int) (c : Nat) (fl : Int) (w : World)
    (hs : Seen .i64 w a xs) (_hc : xs.length ≤ c) (_hcm : c ≤ maxLen) :
    Calls Try.prog 6 #[.agg (shC p0 l0 f0), .slice a xs.length c, .int .u8 fl] w fun e w' => e = .returned (.bool true) ∧ Below w.heap.size w w' := by
  obtain ⟨w1, hw1⟩ : ∃ w1, w1 = w.alloc (.cells #[.int .i64 p0, .int .i64 l0, .int .i64 f0] 23) := ⟨_, rfl⟩
  have b1 : Below w.heap.size w w1 := by rw [hw1]; exact alloc_below _ _
  have C1 : cell3 w1 w.heap.size p0 l0 f0 := by rw [hw1]; exact cell3.new w p0 l0 f0
  have z1 : w1.heap.size = w.heap.size + 1 := by rw [hw1]; simp
  have KS := small_any p0 l0 f0 w1
  have sl := small_lt p0 l0 f0
  have sm := small_may p0 l0 f0
  obtain ⟨p, hp⟩ : ∃ p : Nat, smP p0 = (p : Int) := ⟨(smP p0).toNat, by omega⟩
  obtain ⟨q, hq⟩ : ∃ q : Nat, smL l0 = (q : Int) := ⟨(smL l0).toNat, by omega⟩
  obtain ⟨r, hr⟩ : ∃ r : Nat, smF f0 = (r : Int) := ⟨(smF f0).toNat, by omega⟩
  rw [hp, hq, hr] at KS sm
  have pq : p ≤ 5 ∧ q ≤ 8 ∧ 2 ≤ p := by omega
  have c0 := C1.c0
  have c1 := C1.c1
  have c2' := C1.c2
  unfold shC at KS ⊢
  have KS := hide KS
  have HW := hide hw1
  have B1 := hide b1
  have Z1 := hide z1
  have SM := hide sm
  have HS := hide hs
  clear hw1 b1 C1 sl sm hp hq hr hs z1
  unfold maxLen at _hcm
  go_enter Try.func6, Try.ntmps6
  go_wp2_with fail
  rw [← HW.out]
  clear HW
  refine KS.out.mono ?_
  rintro e w2 ⟨rfl, b2⟩
  obtain ⟨w3, hw3⟩ : ∃ w3, w3 = w2.alloc (.cells #[.int .i64 (p : Int), .int .i64 (q : Int), .int .i64 (r : Int)] 23) := ⟨_, rfl⟩
  have b3 : Below w2.heap.size w2 w3 := by rw [hw3]; exact alloc_below _ _
  have bb := bnext b2 b3 (Nat.le_refl _)
  have SH3 : cell3 w3 w2.heap.size p q r := by rw [hw3]; exact cell3.new w2 p q r
  have B3 := hide (bnext B1.out bb (Nat.le_refl _))
  have z3 : w3.heap.size = w2.heap.size + 1 := by rw [hw3]; simp
  have z2 : w1.heap.size ≤ w2.heap.size := b2.size
  have KF := formatted_any p q r SM.out none [] 0 w3 (.inl rfl) (Nat.le_refl _) (by unfold maxLen; decide)
  unfold shC at KF
  simp only [List.length_nil] at KF
  have KF := hide KF
  have SH3 := hide SH3
  have HW3 := hide hw3
  have s0 := SH3.out.c0
  have s1 := SH3.out.c1
  have s2 := SH3.out.c2
  have Z3 := hide (show w2.heap.size < w3.heap.size ∧ w.heap.size ≤ w3.heap.size by have := Z1.out; omega)
  clear hw3 b2 b3 bb KS B1 c0 c1 c2' z2 z3 Z1
  go_upto_region 2 with fail
  rw [← HW3.out]
  clear HW3
  go_wp2_with fail
  refine KF.out.mono ?_
  rintro e w4 ⟨d, k, last, S4, g, rfl, M4, hk4, P4, far4, b4⟩
  have R4 := hide (show RestA w4 w w3.heap.size S4 d g w2.heap.size p q r from ⟨P4, far4, bnext B3.out b4 (Nat.le_refl _), Z3.out.2, b4.size, SH3.out.below b4, Z3.out.1⟩)
  have M4 := hide M4
  have KA := hide (awake_any w4)
  clear P4 far4 b4 KF B3 SH3 Z3 s0 s1 s2
  go_wp2_with fail
  refine KA.out.mono ?_
  rintro e w5 ⟨rfl, b5⟩
  have R5 := hide (R4.out.below b5)
  have cl := M4.out.calls
  have W5 := hide (Waits.first M4.out.still)
  have GN := hide M4.out.n
  clear b5 R4 KA
  go_wp2_with fail
  go_loopw [11] (fun i wr => ∃ (j : Nat) (S : Nat → Prop) (gj : Dev), i = .int .i64 (j : Int) ∧ 2 ≤ j ∧ j ≤ 5 + 2 * p + q ∧ RestA wr w w3.heap.size S d gj w2.heap.size p q r ∧ Waits g gj (j - 2)) (fun i _ => 5 + 2 * p + q - (intOf i).toNat)
  case atStart => exact ⟨2, S4, g, rfl, Nat.le_refl _, by omega, R5.out, W5.out⟩
  case round =>
    obtain ⟨j, S, gj, rfl, hj1, hj2, hR, hW⟩ := hrel
    have hR := hide hR
    have hW := hide hW
    have gn : gj.n = 5 + 2 * p + q := by unfold Dev.n; rw [hW.out.img]; exact GN.out
    have KN := sectors_any hR.out.dev
    rw [gn] at KN
    have KN := hide KN
    clear gn R5 W5
    by_cases q1 : j < 5 + 2 * p + q
    · obtain ⟨wo, hwo⟩ : ∃ wo, wo = wr := ⟨_, rfl⟩
      subst hwo
      have q1' : (j : Int) < ((5 + 2 * p + q : Nat) : Int) := by omega
      obtain ⟨w6, m6, o6, b6, h6⟩ := makeB wo 512 (by omega)
      simp only [show ((512 : Nat) : Int) = 512 from rfl] at m6
      have O6 := hide o6
      have B6 := hide b6
      have R6 := hide (hR.out.below b6)
      have nS6 : ¬ S wo.heap.size := fun q => by have := hR.out.dev.lt _ q; omega
      have HI := hide hR.out.hi
      clear o6 b6
      obtain ⟨n, hn⟩ : ∃ n, n = 5 + 2 * p + q := ⟨_, rfl⟩
      rw [← hn] at q1' KN
      have HN := hide hn
      clear hn
      go_wp2_with fail
      refine KN.out.mono ?_
      rintro e w' ⟨rfl, hw⟩
      obtain rfl : wo = w' := hw.symm
      clear KN
      go_wp2_with fail
      have F6 := hide (show Filled w6 w6 wo.heap.size from ⟨List.replicate 512 0, List.length_replicate, fun x hx => by rw [List.eq_of_mem_replicate hx]; decide, O6.out, Keep.refl _ _⟩)
      have Z6 := hide (show w.heap.size ≤ wo.heap.size from hR.out.bel.size)
      clear m6 O6 hR
      go_loopw [13] (fun i wq => ∃ t : Nat, i = .int .i64 (t : Int) ∧ t ≤ 512 ∧ Filled w6 wq wo.heap.size) (fun i _ => 512 - (intOf i).toNat)
      case atStart => exact ⟨0, rfl, by omega, F6.out⟩
      case round =>
        obtain ⟨t, rfl, ht, hF⟩ := hrel
        have hF := hide hF
        by_cases t1 : t < 512
        · have t1' : (t : Int) < 512 := by omega
          obtain ⟨⟨y, cy⟩, fy⟩ := hF.out.cell t t1
          go_wp2_with fail
          go_roundw
          case rel => exact ⟨t + 1, by go_num, by omega, hF.out.stored t _⟩
          case measure => simp [intOf]; omega
        · have t1' : ¬ (t : Int) < 512 := by omega
          obtain ⟨L, l1, l2, l3, l4⟩ := hF.out
          have R7 := hide (R6.out.apart l4 (fun b hb => by subst hb; exact ⟨nS6, HI.out⟩))
          obtain ⟨hE, W7⟩ := hW.out.write j (by rw [GN.out, ← HN.out]; omega) L l1
          have KW := write_any R7.out.dev (j : Int) (some ⟨wo.heap.size, 0, none⟩) L 512 (Owns.seen_at l3) (by omega) nofun l2 (by omega) (by rw [hW.out.pend]; omega) (by rw [hW.out.calls]; omega)
          rw [l1, hE, show ((0 : Nat) : Int) = 0 from rfl] at KW
          have KW := hide KW
          have W7 := hide W7
          clear hE l1 l2 l3 l4 hF F6
          go_wp2_with fail
          refine KW.out.mono ?_
          rintro e w8 ⟨S8, rfl, P8, st8⟩
          have R8 := hide (R7.out.step P8 st8)
          clear P8 st8 KW R7
          go_wp2_with fail
          refine (num_any 0 w8).mono ?_
          rintro e w' ⟨rfl, hw⟩
          obtain rfl : w8 = w' := hw.symm
          go_wp2_with fail
          go_roundw
          case rel => exact ⟨j + 1, S8, _, by go_num, by omega, by omega, R8.out, by have := W7.out; rw [show j - 2 + 1 = j + 1 - 2 by omega] at this; exact this⟩
          case measure => simp [intOf]; omega
    · obtain rfl : j = 5 + 2 * p + q := by omega
      obtain ⟨sE, ST, sn, sc⟩ := hW.out.sync hR.out.dev.ok
      have KY := sync_any hR.out.dev (by rw [hW.out.pend]; omega) (by rw [hW.out.calls]; omega)
      rw [sE, show ((0 : Nat) : Int) = 0 from rfl] at KY
      have KY := hide KY
      obtain ⟨gs, hgs⟩ : ∃ gs, gs = gj.sync := ⟨_, rfl⟩
      rw [← hgs] at KY ST sn sc
      have ST := hide ST
      rw [GN.out] at sn
      have SN := hide sn
      have scl : gs.calls ≤ 100 := by omega
      obtain ⟨n, hn⟩ : ∃ n, n = 5 + 2 * p + q := ⟨_, rfl⟩
      rw [← hn] at KN
      have q1' : ¬ ((n : Nat) : Int) < ((n : Nat) : Int) := by omega
      have HN := hide hn
      rw [← hn]
      clear hn hgs sE sn sc hW q1 hj1 hj2
      go_wp2_with fail
      refine KN.out.mono ?_
      rintro e w' ⟨rfl, hw⟩
      obtain rfl : wr = w' := hw.symm
      clear KN
      go_wp2_with fail
      refine KY.out.mono ?_
      rintro e w9 ⟨rfl, P9, k9⟩
      have R9 := hide (hR.out.step P9 (Step.of_keep k9))
      clear P9 k9 KY hR
      go_wp2_with fail
      refine (num_any 0 w9).mono ?_
      rintro e w' ⟨rfl, hw⟩
      obtain rfl : w9 = w' := hw.symm
      have KI := hide (image_any R9.out.dev)
      go_wp2_with fail
      refine KI.out.mono ?_
      rintro e w10 ⟨v10, rfl, o10, b10⟩
      have R10 := hide (R9.out.below b10)
      obtain ⟨a10, n10, k10, a11, n11, k11, rfl, T10, T11⟩ := tail_conv o10 (by rw [ST.out.size, SN.out]; omega)
      have KK := hide (calls_any R10.out.dev)
      clear b10 o10 KI R9
      go_wp2_with fail
      refine KK.out.mono ?_
      rintro e w' ⟨rfl, hw⟩
      obtain rfl : w10 = w' := hw.symm
      clear KK T10 T11
      obtain ⟨fE, KP, fc⟩ := Keeps.format ST.out (p := p) (l := q) (f := r) ⟨SM.out, by rw [SN.out]; omega⟩
      have KF := Format_any R10.out.dev p q r (by rw [ST.out.pend]; decide) (by omega)
      rw [fE] at KF
      unfold shC at KF
      have KF := hide KF
      obtain ⟨gf, hgf⟩ : ∃ gf, gf = gs.formatD (p : Int) (q : Int) (r : Int) := ⟨_, rfl⟩
      rw [← hgf] at KF KP fc
      have s0 := R10.out.sh.c0
      have s1 := R10.out.sh.c1
      have s2 := R10.out.sh.c2
      obtain ⟨rest, hrest⟩ : ∃ rest, rest = gs.img.drop 1024 := ⟨_, rfl⟩
      rw [← hrest] at KP ⊢
      have KP := hide KP
      clear hgf hrest fE
      go_wp2_with fail
      refine KF.out.mono ?_
      rintro e w11 ⟨S11, v11, rfl, e11, P11, st11⟩
      obtain rfl := e11.none
      have R11 := hide (R10.out.step P11 st11)
      have KK := calls_any R11.out.dev
      rw [fc, show ((gs.calls + 4 : Nat) : Int) = (gs.calls : Int) + 4 from by omega] at KK
      have KK := hide KK
      clear e11 P11 st11 KF R10 s0 s1 s2
      go_wp2_with fail
      refine KK.out.mono ?_
      rintro e w' ⟨rfl, hw⟩
      obtain rfl : w11 = w' := hw.symm
      clear KK
      go_wp2_with fail
      have FC := hide fc
      clear fc
      go_loopw [16] (fun i wr => ∃ (t : Nat) (S : Nat → Prop) (gt : Dev) (k : Nat), i = .int .i64 (t : Int) ∧ t ≤ xs.length ∧ t ≤ 20 ∧ RestA wr w w3.heap.size S d gt w2.heap.size p q r ∧ Keeps gt p q r k rest ∧ k ≤ 1 + t ∧ gt.calls ≤ 200 + 2 * t) (fun i _ => 20 - (intOf i).toNat)
      case atStart => exact ⟨0, S11, gf, 1, rfl, by omega, by omega, R11.out, KP.out, by omega, by rw [FC.out]; omega⟩
      case round =>
        obtain ⟨t, S3, g3, k3, rfl, ht1, ht2, hR3, hK3, hk3, hc3⟩ := hrel
        have hR3 := hide hR3
        have hK3 := hide hK3
        clear R11 KP FC
        by_cases q1 : t < xs.length
        · by_cases q2 : t < 20
          · have q1' : (t : Int) < (xs.length : Int) := by omega
            have q2' : (t : Int) < 20 := by omega
            obtain ⟨b, off, rfl, hbl, hcell⟩ := Seen.at (Seen.below HS.out hR3.out.bel) q1
            obtain ⟨yv, hyv⟩ : ∃ yv, yv = xs[t] := ⟨_, rfl⟩
            rw [← hyv] at hcell
            obtain ⟨k4, hk4', K4, c4⟩ := hK3.out.point (by omega) yv
            have KP := hide (Point_any hR3.out.dev yv (by rw [hK3.out.has.choose_spec.still.pend]; decide) (by omega))
            have K4 := hide K4
            clear hyv
            go_wp2_with fail
            refine KP.out.mono ?_
            rintro e w12 ⟨S12, v12, rfl, e12, P12, st12⟩
            have R12 := hide (hR3.out.step P12 st12)
            have KO := hide (Open_any R12.out.dev (by rw [K4.out.has.choose_spec.still.pend]; decide))
            clear e12 P12 st12 KP hR3 hcell
            go_wp2_with fail
            refine KO.out.mono ?_
            rintro e w13 ⟨v13, rfl, e13, b13⟩
            have R13 := hide (R12.out.below b13)
            clear b13 e13 KO R12
            go_wp2_with fail
            go_roundw
            case rel => exact ⟨t + 1, S12, _, k4, by go_num, by omega, by omega, R13.out, K4.out, by omega, by omega⟩
            case measure => simp [intOf]; omega
          · have q1' : (t : Int) < (xs.length : Int) := by omega
            have q2' : ¬ (t : Int) < 20 := by omega
            have KI := hide (image_any hR3.out.dev)
            go_wp2_with fail
            refine KI.out.mono ?_
            rintro e w20 ⟨v20, rfl, o20, b20⟩
            have R20 := hide (hR3.out.below b20)
            obtain ⟨a20, n20, k20, a21, n21, k21, rfl, T20, T21⟩ := tail_conv o20 (by rw [hK3.out.has.choose_spec.still.size, hK3.out.has.choose_spec.n]; omega)
            rw [hK3.out.rest] at T21
            have KC := hide (cache_any R20.out.dev (by rw [hK3.out.has.choose_spec.still.pend]; decide))
            have PN := hide hK3.out.has.choose_spec.still.pend
            clear b20 o20 KI hR3
            go_wp2_with fail
            refine KC.out.mono ?_
            rintro e w21 ⟨qs, rfl, hq, _, _, b21⟩
            obtain rfl : qs = [] := by rw [PN.out] at hq; exact List.map_eq_nil_iff.1 hq
            have R21 := hide (R20.out.below b21)
            clear hq b21 KC R20 T20 T21
            go_wp2_with fail
            go_ret
            exact ⟨rfl, R21.out.bel⟩
        · have q1' : ¬ (t : Int) < (xs.length : Int) := by omega
          have KI := hide (image_any hR3.out.dev)
          go_wp2_with fail
          refine KI.out.mono ?_
          rintro e w20 ⟨v20, rfl, o20, b20⟩
          have R20 := hide (hR3.out.below b20)
          obtain ⟨a20, n20, k20, a21, n21, k21, rfl, T20, T21⟩ := tail_conv o20 (by rw [hK3.out.has.choose_spec.still.size, hK3.out.has.choose_spec.n]; omega)
          rw [hK3.out.rest] at T21
          have KC := hide (cache_any R20.out.dev (by rw [hK3.out.has.choose_spec.still.pend]; decide))
          have PN := hide hK3.out.has.choose_spec.still.pend
          clear b20 o20 KI hR3
          go_wp2_with fail
          refine KC.out.mono ?_
          rintro e w21 ⟨qs, rfl, hq, _, _, b21⟩
          obtain rfl : qs = [] := by rw [PN.out] at hq; exact List.map_eq_nil_iff.1 hq
          have R21 := hide (R20.out.below b21)
          clear hq b21 KC R20 T20 T21
          go_wp2_with fail
          go_ret
          exact ⟨rfl, R21.out.bel⟩
end Go.Proofs.Ytapjbgkmcplpbaa
