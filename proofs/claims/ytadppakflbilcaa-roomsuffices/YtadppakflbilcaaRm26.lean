import Derived.Test.YtadppakflbilcaaRm24
import Derived.Deep.CutBlock
namespace Go.Proofs.Ytadppakflbilcaa
open Go.RowKit Go.QK Go.Maps Go.QM Go.QR
set_option maxRecDepth 100000
theorem may_enough {L : List Tx} (h : Ok L) {f : Int} (hf : prom L ≤ f) : mayE L f 0 0 = 0 := by
  have := h.prom
  unfold mayE
  rw [if_neg (by omega), if_neg (by omega)]
/-- A room and a book, made behind w. -/
structure Kept (w wr : World) (U : Nat → Prop) (p b : Nat) (L : List Tx) : Prop where
  duo : DuoB wr U p b L L
  up : ∀ k, U k → w.heap.size ≤ k
  bel : Below w.heap.size w wr
section
variable {w wr wz : World} {U U' : Nat → Prop} {p b : Nat} {L L' : List Tx}
theorem Kept.below (h : Kept w wr U p b L) (hb : Below wr.heap.size wr wz) : Kept w wz U p b L := ⟨h.duo.below hb, h.up, h.bel.trans (hb.mono h.bel.size)⟩
theorem Kept.step (h : Kept w wr U p b L) (hs : Step U wr wz U') (hd : DuoB wz U' p b L' L') : Kept w wz U' p b L' := by
  refine ⟨hd, fun k q => ?_, h.bel.trans (hs.keep.below h.bel.size (fun k hk q => by have := h.up k q; omega))⟩
  by_cases z : k < wr.heap.size
  · exact h.up k (hs.sub k z q)
  · have := h.bel.size; omega
end
theorem tdiv2 (x : Int) (h : I64 x) : -4611686018427387904 ≤ Int.tdiv x 2 ∧ Int.tdiv x 2 ≤ 4611686018427387904 := by
  unfold I64 at h
  rcases Int.le_total 0 x with q | q
  · rw [Int.tdiv_eq_ediv_of_nonneg q]
    omega
  · have e : Int.tdiv x 2 = -((-x) / 2) := by
      have := Int.neg_tdiv (a := -x) (b := 2)
      rw [Int.neg_neg] at this
      rw [this, Int.tdiv_eq_ediv_of_nonneg (by omega)]
    rw [e]
    omega
set_option maxHeartbeats 8000000 in
theorem law_suffices (xs : List OpX) (sa : Option Addr) (sc : Nat) (ys : List Int) (ya : Option Addr) (yc : Nat) (w : World) (hL : Lies w sa (rowsC OpX.cs xs)) (hok : ∀ o ∈ xs, o.Ok) (hY : Lies w ya (rowsC (fun z => [Value.int .i64 z]) ys)) (hyo : ∀ z ∈ ys, I64 z) (hyl : ys.length ≤ maxLen) : Calls Try.prog 6 #[.slice sa xs.length sc, .slice ya ys.length yc] w fun e w' => e = .returned (.bool true) ∧ Below w.heap.size w w' := by
  have K15 := grown_any xs sa sc w hL hok
  have pe := ptr_eql
  have HY := hide hY
  have HYO := hide hyo
  have hyl2 : ys.length ≤ 9223372036854775807 := by unfold maxLen at hyl; omega
  clear hL hok hY hyo hyl
  go_enter Try.func6, Try.ntmps6
  go_wp2_with fail
  refine K15.mono ?_
  rintro e w1 ⟨p, b, U, L, rfl, D1, u1, b1⟩
  clear K15
  have K9 := awake_any w1
  go_wp2_with fail
  refine K9.mono ?_
  rintro e w2 ⟨rfl, b2⟩
  have T2 := (show Kept w w1 U p b L from ⟨D1, u1, b1⟩).below b2
  clear K9 D1 b1 b2 u1
  obtain ⟨S1, R1, -⟩ := T2.duo.prog
  have K13 := Promised_any S1 p L w2 R1
  have hpr := T2.duo.ok.prom
  go_wp2_with fail
  refine K13.mono ?_
  rintro e w3 ⟨rfl, b3⟩
  have HT := hide (T2.below b3)
  clear K13 T2 b3 R1
  obtain ⟨F, hF⟩ : ∃ F, F = prom L := ⟨_, rfl⟩
  rw [← hF] at hpr ⊢
  have HF := hide hF
  clear hF
  go_upto_region 6 with fail
  go_loopw [7, 8] (fun vf vt wr => ∃ (f : Int) (tn : Nat) (U : Nat → Prop) (L : List Tx), vf = .int .i64 f ∧ vt = .int .i64 (tn : Int) ∧ f + (tn : Int) = F ∧ prom L ≤ f ∧ Kept w wr U p b L) (fun vf _ _ => (intOf vf).toNat)
  case atStart => exact ⟨F, 0, U, L, rfl, rfl, by omega, by rw [HF.out]; exact Int.le_refl _, HT.out⟩
  case round =>
    clear HT HF
    obtain ⟨f, tn, U, L, rfl, rfl, hft, hpf, TT⟩ := hrel
    have HT := hide TT
    have okL := TT.duo.ok
    have hpn := prom_nonneg L
    have few := okL.few
    have HOK := hide okL
    obtain ⟨S2, R2, -⟩ := TT.duo.ref
    obtain ⟨v, P, hLs, e⟩ := R2
    have hlen := map_len e
    obtain ⟨a, cap, rfl, -⟩ := hLs.form
    obtain ⟨k0, -⟩ := hLs.box.get 0 _ rfl
    rw [hlen] at k0
    have HFT := hide hft
    clear hlen hLs e TT okL hft
    have hfb : 0 ≤ f ∧ f ≤ 2112 ∧ tn ≤ 2112 := by have := HFT.out; omega
    by_cases hl : 0 < L.length
    · have l1 : decide (0 < L.length) = true := by simpa using hl
      have l2 : decide ((0 : Int) < (L.length : Int)) = true := decide_eq_true (by omega)
      go_upto_if 36 with fail
      go_cut [9] (fun s w' => ∃ hv : Int, s = .int .i64 hv ∧ I64 hv ∧ wr = w')
      case first =>
        by_cases hy : 0 < ys.length
        · have y1 : decide (0 < ys.length) = true := by simpa using hy
          have y2 : decide ((0 : Int) < (ys.length : Int)) = true := decide_eq_true (by omega)
          have y0 : ((ys.length : Int) == 0) = false := beq_eq_false_iff_ne.2 (by omega)
          have y3 : ¬ (ys.length : Int) = 0 := by omega
          have ym : tn % ys.length < ys.length := Nat.mod_lt _ hy
          obtain ⟨m, hm⟩ : ∃ m, m = tn % ys.length := ⟨_, rfl⟩
          rw [← hm] at ym
          have hrem : Int.tmod (tn : Int) (ys.length : Int) = (m : Int) := by
            rw [hm, Int.tmod_eq_emod_of_nonneg (by omega)]
            rfl
          have hwm : wrap64 (m : Int) = (m : Int) := wrapI (by unfold I64; omega)
          obtain ⟨ga, off, rfl, hga, hc⟩ : ∃ ga off, ya = some ⟨ga, off, none⟩ ∧ ga < w.heap.size ∧ wr.cell? ⟨ga, off + m, none⟩ = some (.int .i64 ys[m]) := by
            obtain ⟨ga, off, e1, e2, e3⟩ := Lies.rowAt (fun z => [Value.int .i64 z]) 1 (fun _ => rfl) HY.out m ym (by decide)
            refine ⟨ga, off, e1, e2, ?_⟩
            have := e3 0 _ rfl
            rw [Nat.mul_one, Nat.add_zero] at this
            rw [← this]
            exact World.cell?_of_block (w := w) (HT.out.bel.block ga e2)
          have YI := hide (HYO.out _ (List.getElem_mem ym))
          generalize ys[m] = z at *
          clear hm
          go_wp2_with fail
          go_meet
          exact ⟨z, rfl, YI.out, rfl⟩
        · have y1 : decide (0 < ys.length) = false := by simpa using hy
          have y2 : decide ((0 : Int) < (ys.length : Int)) = false := decide_eq_false (by omega)
          go_wp2_with fail
          go_meet
          exact ⟨(tn : Int), rfl, by unfold I64; omega, rfl⟩
      case rest =>
        obtain ⟨hv, rfl, hvi, hwr⟩ := hcut
        subst hwr
        have K19 := brought_any hv L.length wr hvi (by omega) (by omega)
        go_wp2_with fail
        refine K19.mono ?_
        rintro e wy ⟨j, rfl, hj, -, hwy⟩
        subst hwy
        clear K19
        obtain ⟨S1, R1, -⟩ := HT.out.duo.prog
        have K17 := May_any S1 p L f 0 0 wr R1 (i64s (by omega)) i64_0 i64_0
        rw [may_enough HOK.out hpf] at K17
        have f1 : decide (f < 1) = false := by simp; omega
        clear R1
        go_wp2_with fail
        refine K17.mono ?_
        rintro e w5 ⟨rfl, b5⟩
        have HT5 := hide (HT.out.below b5)
        clear HT b5 K17
        go_wp2_with fail
        refine (num_eq _ _).mono ?_
        rintro e wz ⟨rfl, rfl⟩
        have HFB := hide (show (0 ≤ f ∧ f ≤ 2112 ∧ tn ≤ 2112) ∧ 1 ≤ f by omega)
        have td := tdiv2 hv hvi
        have hq1 : wrap64 (Int.tdiv hv 2) = Int.tdiv hv 2 := wrapI (by unfold I64; omega)
        have hq2 : wrap64 (Int.tdiv hv 2 + (tn : Int)) = Int.tdiv hv 2 + (tn : Int) := wrapI (by unfold I64; omega)
        have K20 := ends_any U p b L j L[j] (Int.tdiv hv 2 + (tn : Int)) w5 HT5.out.duo (List.getElem?_eq_getElem hj) (by unfold I64; omega)
        clear td hfb hpr few hpn
        go_wp2_with fail
        refine K20.mono ?_
        rintro e w6 ⟨rfl, U6, L6, D6, s6, en⟩
        have HT6 := hide (HT5.out.step s6 D6)
        have hlss := en.less
        clear K20 D6 s6 en HT5 hq1 hq2
        have hfb : (0 ≤ f ∧ f ≤ 2112 ∧ tn ≤ 2112) ∧ 1 ≤ f := HFB.out
        obtain ⟨S1, R1, -⟩ := HT6.out.duo.prog
        have K13 := Promised_any S1 p L6 w6 R1
        have f2 : wrap64 (f - 1) = f - 1 := wrapI (i64s (by omega))
        have f3 : decide (f - 1 < prom L6) = false := by simp; omega
        clear R1
        go_wp2_with (go_at_call 13; refine K13.mono ?_; rintro e w7 ⟨rfl, b7⟩)
        have HT7 := hide (HT6.out.below b7)
        clear HT6 b7 K13
        have hft := HFT.out
        go_roundw
        case rel => first | exact ⟨f - 1, tn + 1, U6, L6, rfl, by go_num, by omega, by omega, HT7.out⟩ | ((repeat apply Exists.intro); exact ⟨⟨f - 1, tn + 1, U6, L6, rfl, by go_num, by omega, by omega, HT7.out⟩, rfl⟩)
        case measure => simp [intOf]; omega
    · have e0 : L = [] := List.eq_nil_of_length_eq_zero (by omega)
      subst e0
      obtain ⟨S1, R1, -⟩ := HT.out.duo.prog
      have K13 := Promised_any S1 p [] wr R1
      rw [show prom [] = 0 from rfl] at K13
      have HB := hide HT.out.bel
      have K17 := fun w6 (b6 : Below wr.heap.size wr w6) => May_any S1 p [] 0 0 0 w6 (R1.below b6) i64_0 i64_0 i64_0
      rw [show mayE [] 0 0 0 = 0 from rfl] at K17
      clear R1 HT
      simp only [List.length_nil] at *
      go_wp2_with fail
      refine K13.mono ?_
      rintro e w6 ⟨rfl, b6⟩
      go_wp2_with fail
      refine (K17 w6 b6).mono ?_
      rintro e w7 ⟨rfl, b7⟩
      go_wp2_with fail
      refine (num_eq _ _).mono ?_
      rintro e wz ⟨rfl, rfl⟩
      go_wp2_with fail
      go_ret
      exact ⟨rfl, HB.out.trans ((b6.trans (b7.mono b6.size)).mono HB.out.size)⟩
end Go.Proofs.Ytadppakflbilcaa
