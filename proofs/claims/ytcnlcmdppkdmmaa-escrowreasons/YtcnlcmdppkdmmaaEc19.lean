import Derived.Test.YtcnlcmdppkdmmaaEc18
namespace Go.Proofs.Ytcnlcmdppkdmmaa
open Go.RowKit Go.QK Quota Go.Maps
set_option maxRecDepth 100000

/-- How this law stands behind its first loop. -/
structure RSt (w wr : World) (b m J : Nat) (e : Esc) (L : Nets) (a : Option Addr) : Prop where
  pe : PE wr b m e
  row : Lies wr a (rowsC netC L)
  bj : Box wr J (.int .i64 e.lo) (.int .i64 e.hi)
  bel : Below w.heap.size w wr
theorem RSt.below {w wr wr' : World} {b m J : Nat} {e : Esc} {L : Nets} {a : Option Addr} (h : RSt w wr b m J e L a) (hb : Below wr.heap.size wr wr') : RSt w wr' b m J e L a :=
  ⟨h.pe.below hb, h.row.below hb, h.bj.below hb, h.bel.trans (hb.mono h.bel.size)⟩

set_option maxHeartbeats 16000000 in
theorem law_reasons (lo hi v : Int) (ds : List Deed) (a : Option Addr) (cap : Nat) (tx d : Int) (w : World) (h1 : I64 lo) (h2 : I64 hi) (hs : Lies w a (rowsC deedC ds)) (hx : ∀ d ∈ ds, I64 d.1 ∧ I64 d.2) (hl : ds.length ≤ 9223372036854775807) (hd : I64 d) :
    Calls Try.prog 6 #[rng lo hi, .int .i64 v, .slice a ds.length cap, .int .i64 tx, .int .i64 d] w fun r w' => r = .returned (.bool true) ∧ Below w.heap.size w w' := by
  have KM := fun w' (h : Lies w' a (rowsC deedC ds)) => made_any lo hi v ds a cap w' h1 h2 h hx hl
  have h8 := madeM_eight lo hi v ds
  have hlen := madeM_len lo hi v ds
  obtain ⟨e, he⟩ : ∃ e, e = madeM lo hi v ds := ⟨_, rfl⟩
  rw [← he] at KM h8 hlen
  have HS := hide hs
  have HD := hide hd
  have KT := txOf_any tx
  have tb := txF_bd tx
  generalize txF tx = t at *
  clear he hs hx hl h1 h2 hd
  go_enter Try.func6, Try.ntmps6
  go_wp2_with fail
  refine (first_any _).mono ?_
  rintro r w1 ⟨rfl, h1⟩
  obtain ⟨c0, c1, _, _, z0⟩ := keep1 h1
  have B1 := hide (below1 h1)
  clear h1
  go_wp2_with fail
  refine (KM _ (HS.out.below B1.out)).mono ?_
  rintro r w2 ⟨b, m, rfl, P2, g1, g2, h2⟩
  have B2 := hide (B1.out.trans (h2.mono B1.out.size))
  have HP2 := hide P2
  clear h2 P2 KM B1 c0 c1 g1 g2
  go_wp2_with fail
  refine (KT _).mono ?_
  rintro r w2b ⟨rfl, h2⟩
  have B2 := hide (B2.out.trans (h2.mono B2.out.size))
  have HP2 := hide (HP2.out.below h2)
  clear h2 KT
  go_wp2_with fail
  refine (nets_any b m e _ HP2.out h8 (by omega)).mono ?_
  rintro r w3 ⟨al, cl, rfl, r3, h3⟩
  have B3 := hide (B2.out.trans (h3.mono B2.out.size))
  have P3 := hide (HP2.out.below h3)
  have R3 := hide (show Lies w3 al (rowsC netC e.nets) from by
    obtain ⟨a', c', q, hli, _⟩ := GRow.lies r3
    cases q
    exact hli)
  have HR := hide P3.out.ok.rise
  clear h3 HP2 B2 r3
  go_wp2_with fail
  go_loopw [17, 15, 16] (fun i o mi wr => ∃ (k : Nat) (ao : Option Addr) (co : Nat), k ≤ e.nets.length ∧ i = .int .i64 k ∧ o = .slice ao (delN (e.nets.take k) t).length co ∧ mi = .int .i64 (netV (e.nets.take k) t) ∧ GRow wr w3.heap.size 44 2 (.slice ao (delN (e.nets.take k) t).length co) (delN (e.nets.take k) t).length (rowsC netC (delN (e.nets.take k) t)) ∧ Below w3.heap.size w3 wr) (fun i _ _ _ => e.nets.length - (intOf i).toNat)
  case atStart => exact ⟨0, none, 0, by omega, rfl, rfl, rfl, World.ownsRow_nil _ _ _ _, Below.refl _ _⟩
  case round =>
    obtain ⟨k, ao, co, hk, rfl, rfl, rfl, hrow, hb⟩ := hrel
    by_cases q : k < e.nets.length
    · obtain ⟨bl, off, rfl, hlt, hcell⟩ := Lies.rowAt netC 2 (fun _ => rfl) (R3.out.below hb) k q (by omega)
      have y0 := hcell 0 _ rfl
      have y1 := hcell 1 _ rfl
      rw [Nat.add_zero] at y0
      have HB := hide hb
      have HROW := hide hrow
      have hdl : (delN (e.nets.take k) t).length ≤ 40 := by
        have := List.length_filter_le (fun p : Int × Int => !(p.1 == t)) (e.nets.take k)
        simp at this
        unfold delN
        omega
      by_cases ht : e.nets[k].1 = t
      · have HH := hide (netV_hit HR.out q ht)
        have ht2 : (e.nets[k].1 == t) = true := by simpa using ht
        clear ht hcell hb hrow
        generalize e.nets[k].1 = px at *
        generalize e.nets[k].2 = pn at *
        generalize delN (e.nets.take k) t = U at *
        generalize netV (e.nets.take k) t = mi at *
        go_wp2_with fail
        go_roundw
        case rel =>
          refine ⟨k + 1, ao, co, by omega, by go_num, ?_, ?_, ?_, HB.out⟩
          · rw [HH.out.2]
          · rw [HH.out.1]
          · rw [HH.out.2]; exact HROW.out
        case measure => simp [intOf]; omega
      · have HH := hide (netV_miss q ht)
        have ht2 : (e.nets[k].1 == t) = false := by simpa using ht
        clear ht hcell hb hrow
        have hpe : e.nets[k] = (e.nets[k].1, e.nets[k].2) := rfl
        rw [hpe] at HH
        clear hpe
        generalize e.nets[k].1 = px at *
        generalize e.nets[k].2 = pn at *
        generalize delN (e.nets.take k) t = U at *
        generalize netV (e.nets.take k) t = mi at *
        have R2 := hide (HROW.out.below (alloc_below wr (.cells #[.int .i64 px, .int .i64 pn] 44)))
        have LI := hide (lit_lies wr #[.int .i64 px, .int .i64 pn] 44)
        have sz := HB.out.size
        clear HROW
        go_wp2_with (at_builtin; refine wpList_appR Try.underlying41 info44 rfl (by decide) (by decide) rfl (.tmp _) (.tmp _) rfl w3.heap.size _ U.length (rowsC netC U) rfl R2.out (some ⟨wr.heap.size, 0, none⟩) 1 1 (netC (px, pn)) rfl rfl LI.out (netC_one _) (by nofun) (by omega) (by simp; omega) ?_; intro v' w5 q1 q2 q3; obtain ⟨av, cv, rfl, -, -, -, -, -⟩ := GRow.lies q1)
        go_roundw
        case rel =>
          refine ⟨k + 1, av, cv, by omega, by go_num, ?_, ?_, ?_, ?_⟩
          · rw [HH.out.2]; simp
          · rw [HH.out.1]
          · rw [HH.out.2, rowsC_snoc, List.length_append]; exact q1
          · exact (HB.out.alloc sz _).grown q2 (by simp; omega) (fun j hj => (World.ownsRow.lt R2.out j hj).1)
        case measure => simp [intOf]; omega
    · have q3 : k = e.nets.length := by omega
      have hT : e.nets.take k = e.nets := by rw [q3, List.take_length]
      rw [hT] at hrow ⊢
      have P4 := hide (P3.out.below hb)
      have B4 := hide (B3.out.trans (hb.mono B3.out.size))
      have R4 := hide (show Lies wr ao (rowsC netC (delN e.nets t)) from by
        obtain ⟨a', c', q, hli, _⟩ := GRow.lies hrow
        cases q
        exact hli)
      have ok := P4.out.ok
      have hdl : (delN e.nets t).length ≤ 40 := by
        have := List.length_filter_le (fun p : Int × Int => !(p.1 == t)) e.nets
        unfold delN
        omega
      have hda : ∀ p ∈ delN e.nets t, I64 p.2 := fun p hp => ok.all p (mem_delN hp)
      have hin := fun j => others_in ok t j
      have hos := fun j => outF_succ e t d j
      have hoe := outF_end ok t d
      have hme := mayE_in (e := e) (d := d) tb.1 tb.2
      have hni := ok.net t
      have hbi := ok.rng.2.2.2
      have KMay := fun w' (h : PE w' b m e) => may_any b m e t d w' h (by unfold I64; omega) HD.out
      rw [← hoe] at hme
      have HME := hide hme
      clear hme hoe ok hb hrow R3 P3 B3 hT
      obtain ⟨mi, hmi⟩ : ∃ z, z = netV e.nets t := ⟨_, rfl⟩
      rw [← hmi] at hos hni HME ⊢
      obtain ⟨O, hO⟩ : ∃ z, z = delN e.nets t := ⟨_, rfl⟩
      rw [← hO] at hdl hda hin hos R4 HME ⊢
      clear hmi hO
      have KO := fun w' (h : Lies w' ao (rowsC netC O)) (j : Nat) => outcome_any e.base O j ao co w' h hbi hda (by omega)
      have HBD := fun (j : Nat) => pS_Bd hbi O j hda (by omega)
      clear hda hbi
      go_wp2_with fail
      refine (bounds_any b m e _ P4.out).mono ?_
      rintro r w5 ⟨rfl, h5⟩
      have o5 := h5.alloc h5.size (.cells #[.int .i64 e.lo, .int .i64 e.hi] 23)
      have O5 := hide (show RSt w (w5.alloc (.cells #[.int .i64 e.lo, .int .i64 e.hi] 23)) b m w5.heap.size e O ao from ⟨P4.out.below o5, R4.out.below o5, Box.new w5 _ _ 23, B4.out.trans (o5.mono B4.out.size)⟩)
      clear h5 o5 P4 R4 B4
      go_wp2_with fail
      go_loopw [20, 19] (fun i f wr => ∃ k : Nat, k ≤ 2 ^ O.length ∧ i = .int .i64 k ∧ f = .bool (outF e t d k) ∧ RSt w wr b m w5.heap.size e O ao) (fun i _ _ => 2 ^ O.length - (intOf i).toNat)
      case atStart => exact ⟨0, Nat.zero_le _, rfl, rfl, O5.out⟩
      case round =>
        obtain ⟨k, hk, rfl, rfl, S0⟩ := hrel
        have HO := hide S0
        have hsh := shl1 O.length hdl
        have hu : IntKind.u64.wrap (O.length : Int) = (O.length : Int) := by rw [IntKind.wrap_u64]; omega
        have hpl : (2 : Nat) ^ O.length ≤ 2 ^ 40 := Nat.pow_le_pow_right (by omega) hdl
        have hn64 : (O.length : Int) ≤ 64 := by omega
        clear S0
        by_cases q : k < 2 ^ O.length
        · have q' : (k : Int) < (2 : Int) ^ O.length := (pow_lt _ _).2 q
          have hX := hin k
          have hos := hos k
          have KO := fun w' (h : Lies w' ao (rowsC netC O)) => KO w' h k
          have KS := fun w' (h : PE w' b m e) => settled_any b m e w' h
          have i1 := HO.out.pe.ok.i1
          have i2 := HO.out.pe.ok.i2
          obtain ⟨X, hXe⟩ : ∃ X, X = e.base + pS O k := ⟨_, rfl⟩
          rw [← hXe] at hX hos KO
          have xI : I64 X := by unfold I64 at *; omega
          have K1 := fun w' => plus_w X mi w' (I64.bd xI) hni
          have K2 := fun w' => plus_w (X + mi) d w' (by unfold I64 at xI hni; unfold Bd; omega) HD.out
          have KA := fun w' => below_w X e.lo w'
          have KB := fun w' => above_w X e.hi w'
          have KC := fun w' => below_w (X + mi + d) e.lo w'
          have KD := fun w' => above_w (X + mi + d) e.hi w'
          rw [show decide (X < e.lo) = false from by simp; omega] at KA
          rw [show decide (e.hi < X) = false from by simp; omega] at KB
          generalize X + mi + d = Z at *
          generalize X + mi = Y at *
          generalize decide (Z < e.lo) = dl at *
          generalize decide (e.hi < Z) = dh at *
          have HOS := hide hos
          clear hos hX hXe xI i1 i2
          go_wp2_with fail
          refine (KS _ HO.out.pe).mono ?_
          rintro r x1 ⟨rfl, h1⟩
          have O1 := hide (HO.out.below h1)
          clear h1 KS HO
          go_wp2_with fail
          refine (KO _ O1.out.row).mono ?_
          rintro r x2 ⟨rfl, h2⟩
          have o2 := h2.alloc h2.size (.cells #[.int .i64 (wh X), .int .i64 (wl X)] 50)
          have O2 := hide (O1.out.below o2)
          have T2 := hide (Box.new x2 (.int .i64 (wh X)) (.int .i64 (wl X)) 50)
          clear h2 o2 KO O1
          obtain ⟨x3, hx3⟩ : ∃ x3, x3 = x2.alloc (.cells #[.int .i64 (wh X), .int .i64 (wl X)] 50) := ⟨_, rfl⟩
          rw [← hx3] at O2 T2
          go_upto_region 22 with fail
          rw [← hx3]
          clear hx3
          obtain ⟨t0, t1, t2, t3, t4⟩ := T2.out
          go_wp2_with fail
          refine (K1 _).mono ?_
          rintro r x4 ⟨rfl, h4⟩
          have O4 := hide (O2.out.below h4)
          have T4 := hide (T2.out.below h4)
          clear h4 O2 T2 t0 t1 t2 t3 t4 K1
          go_wp2_with fail
          refine (K2 _).mono ?_
          rintro r x5 ⟨rfl, h5⟩
          have o5 := h5.alloc h5.size (.cells #[.int .i64 (wh Z), .int .i64 (wl Z)] 50)
          have O6 := hide (O4.out.below o5)
          have T6 := hide (T4.out.below o5)
          have U6 := hide (Box.new x5 (.int .i64 (wh Z)) (.int .i64 (wl Z)) 50)
          clear h5 o5 O4 T4 K2
          obtain ⟨x6, hx6⟩ : ∃ x6, x6 = x5.alloc (.cells #[.int .i64 (wh Z), .int .i64 (wl Z)] 50) := ⟨_, rfl⟩
          rw [← hx6] at O6 T6 U6
          go_upto_region 23 with fail
          rw [← hx6]
          clear hx6
          cases ef : outF e t d k
          · obtain ⟨t0, t1, t2, t3, t4⟩ := T6.out
            obtain ⟨j0, j1, j2, j3, j4⟩ := O6.out.bj
            go_wp2_with fail
            refine (KA _).mono ?_
            rintro r x7 ⟨rfl, h⟩
            have O7 := hide (O6.out.below h)
            have T7 := hide (T6.out.below h)
            have U7 := hide (U6.out.below h)
            clear h KA O6 T6 U6 t0 t1 t2 t3 t4 j0 j1 j2 j3 j4
            obtain ⟨t0, t1, t2, t3, t4⟩ := T7.out
            obtain ⟨j0, j1, j2, j3, j4⟩ := O7.out.bj
            go_wp2_with fail
            refine (KB _).mono ?_
            rintro r x8 ⟨rfl, h⟩
            have O8 := hide (O7.out.below h)
            have T8 := hide (T7.out.below h)
            have U8 := hide (U7.out.below h)
            clear h KB O7 T7 U7 t0 t1 t2 t3 t4 j0 j1 j2 j3 j4
            obtain ⟨t0, t1, t2, t3, t4⟩ := U8.out
            obtain ⟨j0, j1, j2, j3, j4⟩ := O8.out.bj
            go_wp2_with fail
            refine (KC _).mono ?_
            rintro r x9 ⟨rfl, h⟩
            have O9 := hide (O8.out.below h)
            have T9 := hide (T8.out.below h)
            have U9 := hide (U8.out.below h)
            clear h KC O8 T8 U8 t0 t1 t2 t3 t4 j0 j1 j2 j3 j4
            cases dl
            · obtain ⟨t0, t1, t2, t3, t4⟩ := U9.out
              obtain ⟨j0, j1, j2, j3, j4⟩ := O9.out.bj
              go_wp2_with fail
              refine (KD _).mono ?_
              rintro r x10 ⟨rfl, h⟩
              have O10 := hide (O9.out.below h)
              have T10 := hide (T9.out.below h)
              have U10 := hide (U9.out.below h)
              clear h KD O9 T9 U9 t0 t1 t2 t3 t4 j0 j1 j2 j3 j4
              go_wp2_with fail
              go_roundw
              case rel => exact ⟨k + 1, by omega, by go_num, by rw [HOS.out, ef]; simp, O10.out⟩
              case measure => simp [intOf]; omega
            · go_wp2_with fail
              go_roundw
              case rel => exact ⟨k + 1, by omega, by go_num, by rw [HOS.out, ef]; simp, O9.out⟩
              case measure => simp [intOf]; omega
          · go_wp2_with fail
            go_roundw
            case rel => exact ⟨k + 1, by omega, by go_num, by rw [HOS.out, ef]; simp, O6.out⟩
            case measure => simp [intOf]; omega
        · have q' : ¬ (k : Int) < (2 : Int) ^ O.length := fun q2 => q ((pow_lt _ _).1 q2)
          have hk2 : k = 2 ^ O.length := by omega
          rw [hk2]
          have KM2 := KMay
          have KF := fun w' => of_any mi w'
          have KP := fun w' => plus_w mi d w' (I64.bd hni) HD.out
          have KG := fun w' => fits_w (mi + d) w'
          obtain ⟨fo, hfo⟩ : ∃ x, x = outF e t d (2 ^ O.length) := ⟨_, rfl⟩
          obtain ⟨mm, hmm⟩ : ∃ x, x = mayE e t d := ⟨_, rfl⟩
          have hml := HME.out
          rw [← hfo, ← hmm] at hml
          rw [← hfo]
          rw [← hmm] at KM2
          generalize fitB (mi + d) = ft at *
          generalize mi + d = sm at *
          clear hk hk2 q hfo hmm HME KMay KO HBD hos hin
          cases fo
          · cases ft
            · obtain rfl : mm = 10 := by simpa using hml
              clear hml
              go_wp2_with fail
              refine (KM2 _ HO.out.pe).mono ?_
              rintro r x1 ⟨rfl, h1⟩
              have O1 := hide (HO.out.below h1)
              clear h1 KM2 HO
              go_wp2_with fail
              refine (KF _).mono ?_
              rintro r x2 ⟨rfl, h2⟩
              have O2 := hide (O1.out.below h2)
              clear h2 KF O1
              go_wp2_with fail
              refine (KP _).mono ?_
              rintro r x3 ⟨rfl, h3⟩
              have O3 := hide (O2.out.below h3)
              clear h3 KP O2
              go_wp2_with fail
              refine (KG _).mono ?_
              rintro r x4 ⟨rfl, h4⟩
              have O4 := hide (O3.out.below h4)
              clear h4 KG O3
              go_wp2_with fail
              go_ret
              exact ⟨rfl, O4.out.bel⟩
            · obtain rfl : mm = 0 := by simpa using hml
              clear hml
              go_wp2_with fail
              refine (KM2 _ HO.out.pe).mono ?_
              rintro r x1 ⟨rfl, h1⟩
              have O1 := hide (HO.out.below h1)
              clear h1 KM2 HO
              go_wp2_with fail
              refine (KF _).mono ?_
              rintro r x2 ⟨rfl, h2⟩
              have O2 := hide (O1.out.below h2)
              clear h2 KF O1
              go_wp2_with fail
              refine (KP _).mono ?_
              rintro r x3 ⟨rfl, h3⟩
              have O3 := hide (O2.out.below h3)
              clear h3 KP O2
              go_wp2_with fail
              refine (KG _).mono ?_
              rintro r x4 ⟨rfl, h4⟩
              have O4 := hide (O3.out.below h4)
              clear h4 KG O3
              go_wp2_with fail
              go_ret
              exact ⟨rfl, O4.out.bel⟩
          · obtain rfl : mm = 110 := by simpa using hml
            clear hml
            go_wp2_with fail
            refine (KM2 _ HO.out.pe).mono ?_
            rintro r x1 ⟨rfl, h1⟩
            have O1 := hide (HO.out.below h1)
            clear h1 KM2 HO
            go_wp2_with fail
            refine (KF _).mono ?_
            rintro r x2 ⟨rfl, h2⟩
            have O2 := hide (O1.out.below h2)
            clear h2 KF O1
            go_wp2_with fail
            refine (KP _).mono ?_
            rintro r x3 ⟨rfl, h3⟩
            have O3 := hide (O2.out.below h3)
            clear h3 KP O2
            go_wp2_with fail
            refine (KG _).mono ?_
            rintro r x4 ⟨rfl, h4⟩
            have O4 := hide (O3.out.below h4)
            clear h4 KG O3
            go_wp2_with fail
            go_ret
            exact ⟨rfl, O4.out.bel⟩
end Go.Proofs.Ytcnlcmdppkdmmaa
