import Derived.Test.YtgpmghdoofcpaaaGreatLgG
import Derived.Test.YtgpmghdoofcpaaaGreatLgPf
import Derived.Test.YtgpmghdoofcpaaaGreatLgZ
namespace Go.Proofs.YtgpmghdoofcpaaaGreat.Lg
open Go.RowKit Go.QK
open Dv (hide bnext alloc_below LossAt)
set_option maxRecDepth 100000

theorem LV.step {B : Nat} {w0 w w' : World} {S S' T : Nat → Prop} {l d : Nat} {g g' : Dev} {m : LogM} (h : LV B w0 w S T l d g m) (hd : PDev w' S' d g') (hs : Step w S w' S') : LV B w0 w' S' T l d g' m := by
  have hlt := h.ld.lt
  obtain ⟨rv, vs, h1, h2⟩ := h.ld.recs
  have hB := Nat.le_trans h.le h.bel.size
  refine ⟨⟨hd, ⟨rv, vs, h1.keep hs.1 (fun b q r => h.ld.ap b q r), h2.keep hs.1 h.ld.nS⟩, h.ld.nT, fun q => (hs.2 l q).elim h.ld.nS (fun r => by omega), fun b q r => (hs.2 b q).elim (fun q => h.ld.ap b q r) (fun q => by have := hlt.2.2 b r; omega)⟩, fun b q => (hs.2 b q).elim (h.fS b) (fun r => Nat.le_trans hB r), h.fT, h.fl, h.bel.trans (hs.1.below hB (fun j hj q => by have := h.fS j q; omega)), h.le⟩
theorem Gst.recsAt {B : Nat} {w0 w w' : World} {lab : Nat → Nat} {S T V : Nat → Prop} {l d : Nat} {g : Dev} {m : LogM} {aa : Option Addr} {n ac : Nat} {xs : List RecL} (h : Gst B w0 w lab S T l d g m (.slice aa n ac) xs) (hk : Keep V w w') (hV : ∀ b, V b → lab b = 0) : RecsAt w' aa xs := by
  obtain ⟨k1, _, k3, _⟩ := h.keep1 (L := 0) (lab' := lab) hk hV (fun _ _ => rfl)
  obtain ⟨a, c, hv, hL, _⟩ := GRow.lies (k1 (by decide))
  cases hv
  exact ⟨hL, fun x hx => ⟨((k3 (by decide)) x hx).1.lies, ((k3 (by decide)) x hx).2.lies⟩⟩
theorem Lies.front {w : World} {a : Option Addr} {cs ds : List Value} (h : Lies w a (cs ++ ds)) : Lies w a cs := by
  rcases h with h | ⟨b, off, e, hb, hc⟩
  · exact .inl (List.append_eq_nil_iff.1 h).1
  · exact .inr ⟨b, off, e, hb, fun i hi => by rw [hc i (by rw [List.length_append]; omega), List.getElem_append_left hi]⟩
theorem FallsAt.take {w : World} {a : Option Addr} {xs : List FallM} (h : FallsAt w a xs) (n : Nat) : FallsAt w a (xs.take n) := by
  refine ⟨?_, fun x hx => h.loss x (List.mem_of_mem_take hx)⟩
  have q := h.row
  rw [← List.take_append_drop n xs] at q
  unfold rowsC at q
  rw [List.flatMap_append] at q
  exact Lies.front q
theorem FallsAt.below {w w' : World} {a : Option Addr} {xs : List FallM} (h : FallsAt w a xs) (b : Below w.heap.size w w') : FallsAt w' a xs :=
  ⟨h.row.below b, fun x hx => ⟨(h.loss x hx).seen.below b, (h.loss x hx).nil, (h.loss x hx).cap, (h.loss x hx).ok⟩⟩
theorem _root_.Go.Proofs.YtgpmghdoofcpaaaGreat.Dv.LossAt.below {w w' : World} {l : Loss} {a : Option Addr} {c : Nat} (h : LossAt w l a c) (b : Below w.heap.size w w') : LossAt w' l a c := ⟨h.seen.below b, h.nil, h.cap, h.ok⟩
theorem _root_.Go.Proofs.YtgpmghdoofcpaaaGreat.Dv.LossAt.low {w : World} {l : Loss} {a : Option Addr} {c : Nat} (h : LossAt w l a c) (hk : l.keep ≠ []) : ∀ ad, a = some ad → ad.block < w.heap.size := by
  intro ad ha
  rcases h.seen with q | ⟨b, off, q1, q2, _⟩
  · exact absurd q (by simpa [ints] using hk)
  · rw [ha] at q1
    cases q1
    exact q2
theorem crash_calls (g : Dev) (l : Loss) : (g.crash l).calls ≤ g.calls + 1 := by
  unfold Dev.crash Dev.fall
  split <;> simp
set_option maxHeartbeats 16000000 in
theorem law_crash (c : Int) (ra : Option Addr) (rl : List RecL) (rc : Nat) (fa : Option Addr) (fl : List Int) (fc : Nat) (ff : FallM) (sa : Option Addr) (fs : List FallM) (sc : Nat) (w : World) (hR : RecsAt w ra rl) (hrf : ∀ x ∈ rl, Fits x.r) (hrl : rl.length ≤ maxLen) (hF : Lies w fa (intCs fl)) (hff : LossAt w ff.l ff.a ff.c) (hfk : ff.l.keep.length ≤ 17592186044415)
    (hfs : FallsAt w sa fs) (hfsk : ∀ x ∈ fs, x.l.keep.length ≤ 17592186044415) (hsl : fs.length ≤ sc) (hsm : sc ≤ maxLen) :
    Calls Tryz.prog 4 #[.agg #[.int .i64 c, .slice ra rl.length rc, .slice fa fl.length fc], .agg #[.int .i64 ff.step, .slice ff.a ff.l.keep.length ff.c, .int .i64 ff.l.torn, .int .i64 ff.l.off], .slice sa fs.length sc] w fun e w' => e = .returned (.bool true) ∧ Below w.heap.size w w' := by
  have hnn := lifeN_in c
  obtain ⟨w1, hw1⟩ : ∃ w1, w1 = (w.alloc (.cells #[.int .i64 c, .slice ra rl.length rc, .slice fa fl.length fc] 25)).alloc (.cells #[.int .i64 ff.step, .slice ff.a ff.l.keep.length ff.c, .int .i64 ff.l.torn, .int .i64 ff.l.off] 66) := ⟨_, rfl⟩
  have b1 : Below w.heap.size w w1 := by rw [hw1]; exact ((Below.refl _ w).alloc (Nat.le_refl _) _).alloc (by simp) _
  have z1 : w1.heap.size = w.heap.size + 2 := by rw [hw1]; simp
  have C3 : Cells w1 w.heap.size [.int .i64 c, .slice ra rl.length rc, .slice fa fl.length fc] := by rw [hw1]; exact (Cells.new w #[.int .i64 c, .slice ra rl.length rc, .slice fa fl.length fc] 25).below (alloc_below _ _)
  have C4 : Cells w1 (w.heap.size + 1) [.int .i64 ff.step, .slice ff.a ff.l.keep.length ff.c, .int .i64 ff.l.torn, .int .i64 ff.l.off] := by
    rw [hw1]
    have q := Cells.new (w.alloc (.cells #[.int .i64 c, .slice ra rl.length rc, .slice fa fl.length fc] 25)) #[.int .i64 ff.step, .slice ff.a ff.l.keep.length ff.c, .int .i64 ff.l.torn, .int .i64 ff.l.off] 66
    rw [World.size_alloc] at q
    exact q
  obtain ⟨b3, hb3⟩ : ∃ b, b = w.heap.size := ⟨_, rfl⟩
  obtain ⟨b4, hb4⟩ : ∃ b, b = w.heap.size + 1 := ⟨_, rfl⟩
  rw [← hb3] at C3
  rw [← hb4] at C4
  have h31 : b3 < w1.heap.size := by omega
  have h41 : b4 < w1.heap.size := by omega
  have HC3 := hide C3
  have HC4 := hide C4
  have HR1 := hide (hR.below b1)
  have HF1 := hide (hF.below b1)
  have HRF := hide hrf
  have HL1 := hide (hff.below b1)
  have HFS := hide ((hfs.take 12).below b1)
  have HFK := hide (show ∀ x ∈ fs.take 12, x.l.keep.length ≤ 17592186044415 from fun x hx => hfsk x (List.mem_of_mem_take hx))
  have HFX := hide (show ∀ x ∈ fs.take 12, x.l.keep ≠ [] → ∀ ad, x.a = some ad → ad.block < w1.heap.size from fun x hx hk ad ha => by
    have := (hfs.loss x (List.mem_of_mem_take hx)).low hk ad ha
    omega)
  have hrl' : (rl.length : Int) ≤ 9223372036854775807 := by unfold maxLen at hrl; omega
  have hsl' : (fs.length : Int) ≤ 9223372036854775807 := by unfold maxLen at hsm; omega
  have KO := hide (opened_any c ra fa rl.length rc fl.length fc w1)
  have KS := hide (fun (rv fv : Value) (w : World) => size_life c rv fv w)
  obtain ⟨n, hn⟩ : ∃ n, n = lifeN c := ⟨_, rfl⟩
  rw [← hn] at KO KS hnn
  have HN := hide hn
  have HW := hide hw1
  have HB3 := hide hb3
  have HB4 := hide hb4
  have B1 := hide b1
  have hstk : (fs.take 12).length = min 12 fs.length := List.length_take
  have HSTK := hide hstk
  have hl12 : (fs.take 12).length ≤ 12 := by omega
  have HFA := hide (show fs.take 12 ≠ [] → ∀ ad, sa = some ad → ad.block < w1.heap.size from fun hne ad ha => by
    rcases (hfs.take 12).row with q | ⟨b, off, q1, q2, _⟩
    · exact absurd (by cases hq : fs.take 12 with
        | nil => rfl
        | cons x xs => rw [hq] at q; simp [rowsC, fallC] at q) hne
    · rw [ha] at q1; cases q1; show b < _; omega)
  clear hw1 b1 z1 C3 C4 hb3 hb4 hR hF hrf hff hfs hfsk hrl hsm hn hstk
  obtain ⟨x0, _⟩ := HC3.out.get 0 _ rfl
  obtain ⟨x1, _⟩ := HC3.out.get 1 _ rfl
  obtain ⟨x2, _⟩ := HC3.out.get 2 _ rfl
  go_enter Tryz.func4, Tryz.ntmps4
  go_upto_region 1 with fail
  rw [← HW.out, ← HB4.out, ← HB3.out]
  clear HW HB3 HB4
  go_wp2_with fail
  refine KO.out.mono ?_
  rintro e w2 ⟨S2, T2, l, d, rfl, lv2⟩
  have L2 := hide lv2
  clear KO lv2 x0 x1 x2
  go_wp2_with fail
  refine (awake_any w2).mono ?_
  rintro e w3 ⟨rfl, b3w⟩
  have L3 := hide (L2.out.below b3w)
  clear b3w L2
  go_upto_if 27 with fail
  go_cut [2] (fun s w' => s = .slice sa (fs.take 12).length sc ∧ w' = w3)
  case first =>
    by_cases h1 : 12 < fs.length
    · have d1 : decide (12 < (fs.length : Int)) = true := by simp; omega
      have d2 : decide (12 < fs.length) = true := by simp; omega
      have e12 := hide (show (fs.take 12).length = 12 by have := HSTK.out; omega)
      have hsc : 12 ≤ sc := by omega
      go_wp2_with fail
      go_meet
      exact ⟨by rw [e12.out], rfl⟩
    · have d1 : decide (12 < (fs.length : Int)) = false := by simp; omega
      have d2 : decide (12 < fs.length) = false := by simp; omega
      have e12 := hide (show (fs.take 12).length = fs.length by have := HSTK.out; omega)
      go_wp2_with fail
      go_meet
      exact ⟨by rw [e12.out], rfl⟩
  case rest =>
  obtain ⟨hs2, hwc⟩ := hcut
  have hwc := hwc.symm
  subst hwc
  rw [hs2]
  clear hs2
  obtain ⟨gs, hgs⟩ : ∃ q, q = fs.take 12 := ⟨_, rfl⟩
  rw [← hgs] at HFS HFK HFX hl12 HFA ⊢
  clear hgs HSTK
  have DR : Below w3.heap.size w3 w3.drew := (Below.refl _ _).drew
  have L4 := hide (L3.out.below DR)
  have HFC := hide (fun (wq : World) (hb : Below w1.heap.size w1 wq) => HC4.out.under h41 hb)
  have hS0 := hide (show w3.drew.cell? ⟨b4, 0, none⟩ = some (.int .i64 ff.step) ∧ w3.drew.cell? ⟨b4, 1, none⟩ = some (.slice ff.a ff.l.keep.length ff.c) ∧ w3.drew.cell? ⟨b4, 2, none⟩ = some (.int .i64 ff.l.torn) ∧ w3.drew.cell? ⟨b4, 3, none⟩ = some (.int .i64 ff.l.off) from by
    have q := HFC.out _ L4.out.bel
    exact ⟨(q.get 0 _ rfl).1, (q.get 1 _ rfl).1, (q.get 2 _ rfl).1, (q.get 3 _ rfl).1⟩)
  clear L3
  go_upto_region 6 with fail
  refine wp_region_held_drew (S := fun wq => wq.cell? ⟨b4, 0, none⟩ = some (.int .i64 ff.step) ∧ wq.cell? ⟨b4, 1, none⟩ = some (.slice ff.a ff.l.keep.length ff.c) ∧ wq.cell? ⟨b4, 2, none⟩ = some (.int .i64 ff.l.torn) ∧ wq.cell? ⟨b4, 3, none⟩ = some (.int .i64 ff.l.off)) (by kernel_rfl) hS0.out (fun hS => ?_)
  clear hS0 DR
  generalize w3.drew = w4 at *
  refine take_at 0 (some 30) (v := ?_) rfl rfl (by kernel_rfl) (by kernel_rfl) (by kernel_rfl) (fun _ _ _ h => h) ⟨by rfl, ?_⟩ hS ?_
  rotate_left
  · intro wq hSw; go_simp; try rfl
  simp only [Act.put, List.setIfInBounds_toArray, List.set_cons_zero, List.set_cons_succ]
  refine take_at 1 (some 31) (v := ?_) rfl rfl (by kernel_rfl) (by kernel_rfl) (by kernel_rfl) (fun _ _ _ h => h) ⟨by rfl, ?_⟩ hS ?_
  rotate_left
  · intro wq hSw; go_simp; try rfl
  simp only [Act.put, List.setIfInBounds_toArray, List.set_cons_zero, List.set_cons_succ]
  refine take_at 2 (some 32) (v := ?_) rfl rfl (by kernel_rfl) (by kernel_rfl) (by kernel_rfl) (fun _ _ _ h => h) ⟨by rfl, ?_⟩ hS ?_
  rotate_left
  · intro wq hSw; obtain ⟨y0, y1, y2, y3⟩ := hSw; go_simp; try rfl
  simp only [Act.put, List.setIfInBounds_toArray, List.set_cons_zero, List.set_cons_succ]
  refine take_at 5 (some 35) (v := ?_) rfl rfl (by kernel_rfl) (by kernel_rfl) (by kernel_rfl) (fun _ _ _ h => h) ⟨by rfl, ?_⟩ hS ?_
  rotate_left
  · intro wq hSw; go_simp; try rfl
  simp only [Act.put, List.setIfInBounds_toArray, List.set_cons_zero, List.set_cons_succ]
  refine take_at 6 (some 36) (v := ?_) rfl rfl (by kernel_rfl) (by kernel_rfl) (by kernel_rfl) (fun _ _ _ h => h) ⟨by rfl, ?_⟩ hS ?_
  rotate_left
  · intro wq hSw; obtain ⟨y0, y1, y2, y3⟩ := hSw; go_simp; try rfl
  simp only [Act.put, List.setIfInBounds_toArray, List.set_cons_zero, List.set_cons_succ]
  refine wpAnyH_ready (rs := [3]) (by kernel_rfl) (by simp) ?_
  refine AllReadyH.cons rfl (fun K hK => ?_) AllReadyH.nil
  go_simp
  go_wp2_with fail
  refine (brought_lit ff.step 60 60 rfl _ (by decide) (by decide)).mono ?_
  rintro e w5 ⟨sb, rfl, hsb, hww⟩
  obtain rfl : w4 = w5 := hww.symm
  go_wp2_with fail
  refine hK.out _ _ hS (fun hS => ?_)
  clear hK K
  (try simp only [Act.put, List.setIfInBounds_toArray, List.set_cons_zero, List.set_cons_succ])
  obtain ⟨sq, hsq⟩ : ∃ q : Nat, q = 1 + sb := ⟨_, rfl⟩
  have hsw : IntKind.i64.wrap (1 + (sb : Int)) = (sq : Int) := by rw [IntKind.wrap_i64]; omega
  have hsq9 : sq ≤ 60 := by omega
  clear hsq
  refine take_at 4 (some 34) (v := ?_) rfl rfl (by kernel_rfl) (by kernel_rfl) (by kernel_rfl) (fun _ _ _ h => h) ⟨by rfl, ?_⟩ hS ?_
  rotate_left
  · intro wq hSw; go_simp; try rfl
  simp only [Act.put, List.setIfInBounds_toArray, List.set_cons_zero, List.set_cons_succ]
  have KA := hide (Dv.arm_any L4.out.ld.dev (sq : Int) (by omega) ff.l ff.a ff.c (HL1.out.below L4.out.bel) (fun hk0 ad ha q => by have := HL1.out.low hk0 ad ha; have := L4.out.fS _ q; omega) hfk)
  have GW := hide ((Grw.new (n + 3) 2 n (by omega) (by omega)).arm' (sq : Int) (by omega) ff.l)
  have GC := hide (show ((Dev.new (n + 3)).arm (sq : Int) ff.l).calls ≤ 1000 by rw [(arm_still _ _ _).2.2.1]; exact Nat.zero_le _)
  generalize (Dev.new (n + 3)).arm (sq : Int) ff.l = g5 at *
  refine wpAnyH_ready (rs := [7]) (by kernel_rfl) (by simp) ?_
  refine AllReadyH.cons rfl (fun K hK => ?_) AllReadyH.nil
  go_simp
  go_wp2_with fail
  refine KA.out.mono ?_
  rintro e w5 ⟨S5, rfl, p5, s5⟩
  have L5 := hide (L4.out.step p5 s5)
  have hS5 := hide (show w5.cell? ⟨b4, 0, none⟩ = some (.int .i64 ff.step) ∧ w5.cell? ⟨b4, 1, none⟩ = some (.slice ff.a ff.l.keep.length ff.c) ∧ w5.cell? ⟨b4, 2, none⟩ = some (.int .i64 ff.l.torn) ∧ w5.cell? ⟨b4, 3, none⟩ = some (.int .i64 ff.l.off) from by
    have q := HFC.out _ L5.out.bel
    exact ⟨(q.get 0 _ rfl).1, (q.get 1 _ rfl).1, (q.get 2 _ rfl).1, (q.get 3 _ rfl).1⟩)
  clear KA p5 s5 L4
  go_wp2_with fail
  refine hK.out _ _ hS5.out (fun hS => ?_)
  clear hK K
  (try simp only [Act.put, List.setIfInBounds_toArray, List.set_cons_zero, List.set_cons_succ])
  refine wpAnyH_done (by kernel_rfl) ?_ _
  clear hS hS5
  have HLC := hide (fun (wq : World) (hb : Below w1.heap.size w1 wq) => HC3.out.under h31 hb)
  have c3 := HLC.out _ L5.out.bel
  obtain ⟨x0, _⟩ := c3.get 0 _ rfl
  obtain ⟨x1, _⟩ := c3.get 1 _ rfl
  obtain ⟨x2, _⟩ := c3.get 2 _ rfl
  clear c3
  have KG := grows_any (X := fun _ => zerosB) c ra rl rc fa fl fc HR1.out HRF.out hrl' HF1.out (by rw [← HN.out]; exact L5.out) (by rw [← HN.out]; exact GW.out) GC.out
  rw [← HN.out] at KG
  have KG := hide KG
  go_wp2_with fail
  refine KG.out.mono ?_
  rintro e w6 ⟨aa, i, ac, named, lab, S6, T6, g6, m6, xs, rfl, hG⟩
  have HG := hide hG
  have hni := hG.nm
  have hin := hG.hi
  have KFo := hide (forced_any hG.st.lv.ld)
  have KDn := hide (Dv.down_any hG.st.lv.ld.dev)
  clear KG hG L5 x0 x1 x2 GW
  go_wp2_with fail
  refine KFo.out.mono ?_
  rintro e w7 ⟨rfl, hww⟩
  obtain rfl : w6 = w7 := hww.symm
  clear hww KFo
  go_wp2_with fail
  refine KDn.out.mono ?_
  rintro e w7 ⟨rfl, hww⟩
  obtain rfl : w6 = w7 := hww.symm
  clear hww KDn
  rcases HG.out.dis with ⟨hne, hgw⟩ | ⟨hne, kk, q1, q2, q3, q4⟩
  · rw [hgw.down]
    have cr := hgw.crash ff.l
    rw [HG.out.first, HG.out.count] at cr
    have KC := hide (Dv.crash_any HG.out.st.lv.ld.dev ff.l ff.a ff.c (HL1.out.below HG.out.st.lv.bel) (fun hk0 ad ha q => by have := HL1.out.low hk0 ad ha; have := HG.out.st.lv.fS _ q; omega) (by rw [HG.out.pend]; exact Nat.zero_le _))
    have q := HFC.out _ HG.out.st.lv.bel
    obtain ⟨y0, _⟩ := q.get 0 _ rfl
    obtain ⟨y1, _⟩ := q.get 1 _ rfl
    obtain ⟨y2, _⟩ := q.get 2 _ rfl
    obtain ⟨y3, _⟩ := q.get 3 _ rfl
    have CR := hide cr
    have HCL := hide (show (g6.crash ff.l).calls ≤ 5000 from by have q := HG.out.calls; have := GC.out; have := crash_calls g6 ff.l; omega)
    clear q cr hgw
    go_wp2_with fail
    refine KC.out.mono ?_
    rintro e w8 ⟨rfl, p8, k8⟩
    clear y0 y1 y2 y3 KC
    have WP := hide CR.out.1
    have DN := hide CR.out.2.1
    have PN := hide CR.out.2.2
    have KK := hide k8
    have BL := hide (HG.out.st.lv.bel.trans (k8.below (HG.out.st.lv.bel.size) (fun j hj q => by have := HG.out.st.lv.fS j q; omega)))
    have HK1 := hide (show m6.forced ≤ m6.forced ∧ m6.forced ≤ named from ⟨Nat.le_refl _, HG.out.fo⟩)
    have P8 := hide p8
    clear CR p8 k8
    obtain ⟨kk, hkk⟩ : ∃ q, q = m6.forced := ⟨_, rfl⟩
    have HK1 := hide (show m6.forced ≤ kk ∧ kk ≤ named by rw [hkk]; exact HK1.out)
    rw [← hkk] at WP
    clear hkk
    generalize g6.crash ff.l = g8 at *
    have c3 := HLC.out _ BL.out
    obtain ⟨x0, _⟩ := c3.get 0 _ rfl
    obtain ⟨x1, _⟩ := c3.get 1 _ rfl
    obtain ⟨x2, _⟩ := c3.get 2 _ rfl
    clear c3
    go_wp2_with fail
    refine (KS.out _ _ w8).mono ?_
    rintro e w9 ⟨rfl, b9⟩
    have P9 := hide (P8.out.below b9)
    have KK9 := hide (KK.out.then_below b9)
    have BL9 := hide (bnext BL.out b9 (Nat.le_refl _))
    clear x0 x1 x2 b9 P8 KK BL
    have hxk : kk ≤ xs.length := by have := HK1.out.2; rw [HG.out.len]; omega
    have hfar : ∀ b, S6 b → w1.heap.size ≤ b := HG.out.st.lv.fS
    have KAg := hide (again_any P9.out n m6.recs (xs.map RecL.r) kk (fun _ => zerosB) WP.out HG.out.holds (by rw [List.length_map]; exact hxk) DN.out PN.out (by have := HCL.out; omega) hnn.1 hnn.2 gs sa sc (HFS.out.below BL9.out) (fun hne ad ha q => by have := HFA.out hne ad ha; have := hfar _ q; omega) (fun x hx hk ad ha q => by have := HFX.out x hx hk ad ha; have := hfar _ q; omega) HFK.out hl12)
    go_wp2_with fail
    refine KAg.out.mono ?_
    rintro e w10 ⟨S10, T10, l10, g10, rfl, ld10, wp10, dn10, pn10, zr10, cl10, st10, hl10, hT10⟩
    clear KAg
    have LD10 := hide ld10
    have RC10 := hide (HG.out.st.recsAt (KK9.out.trans st10.1 (fun _ _ q => q)) (fun b q => HG.out.st.l0 b (.inl q)))
    have BL10 := hide (BL9.out.trans (st10.1.below BL9.out.size (fun j hj q => by have := hfar j q; omega)))
    clear ld10 wp10 dn10 pn10 zr10 cl10 st10 hl10 hT10 KK9 BL9 P9
    have hrl10 : (m6.recs.take kk).length = kk := by rw [List.length_take, HG.out.recs]; rw [HG.out.len] at hxk; omega
    have HRL := hide hrl10
    obtain ⟨m10, hm10⟩ : ∃ q : LogM, q = ⟨2, n, m6.recs.take kk, (m6.recs.take kk).length, false⟩ := ⟨_, rfl⟩
    rw [← hm10] at LD10
    have hmr : m10.recs.length = kk := by rw [hm10]; exact HRL.out
    have hmf : m10.forced = kk := by rw [hm10]; exact HRL.out
    have hmk : m10.Ok := by
      rw [hm10]
      rw [HG.out.len] at hxk
      exact ⟨by show (m6.recs.take kk).length ≤ n; rw [HRL.out]; omega, by show 2 + n ≤ 10000; omega, Nat.le_refl _⟩
    have KLa := hide (lastL_any LD10.out)
    have KPf := hide (prefix_any LD10.out hmk (by rw [hm10]) aa ac xs RC10.out kk hxk (by rw [hm10]; exact HG.out.holds.take kk (by rw [List.length_map]; exact hxk)) (by rw [HG.out.len]; omega) named HK1.out.2)
    have KFf := hide (fun (wq : World) (hb : Below w10.heap.size w10 wq) => forced_any (LD10.out.below hb))
    have KLf := hide (fun (wq : World) (hb : Below w10.heap.size w10 wq) => lastL_any (LD10.out.below hb))
    rw [hmr] at KLa KLf
    rw [hmf] at KFf
    rw [HG.out.len] at KPf
    have hgeq : decide ((m6.forced : Int) ≤ (kk : Int)) = true := by have := HK1.out.1; simp; omega
    have hgeq2 : decide (m6.forced ≤ kk) = true := by have := HK1.out.1; simp; omega
    clear hm10 hmr hmf hmk hxk RC10
    go_wp2_with fail
    refine KLa.out.mono ?_
    rintro e w11 ⟨rfl, hww⟩
    obtain rfl : w10 = w11 := hww.symm
    clear hww
    go_wp2_with fail
    refine KPf.out.mono ?_
    rintro e w11 ⟨rfl, b11⟩
    have BL11 := hide (bnext BL10.out b11 (Nat.le_refl _))
    have HB11 := hide b11
    clear b11 KPf KLa
    go_wp2_with fail
    refine (KFf.out w11 HB11.out).mono ?_
    rintro e w12 ⟨rfl, hww⟩
    obtain rfl : w11 = w12 := hww.symm
    clear hww
    go_wp2_with fail
    refine (KLf.out w11 HB11.out).mono ?_
    rintro e w12 ⟨rfl, hww⟩
    obtain rfl : w11 = w12 := hww.symm
    clear hww
    go_wp2_with fail
    go_ret
    exact ⟨by simp, bnext B1.out BL11.out (Nat.le_refl _)⟩
  · rw [q4]
    have WP := hide q3
    have DN := hide q4
    have PN := hide HG.out.pend
    have BL := hide HG.out.st.lv.bel
    have HK1 := hide (And.intro q1 q2)
    have P8 := hide HG.out.st.lv.ld.dev
    have HCL := hide (show g6.calls ≤ 5000 from by have q := HG.out.calls; have := GC.out; omega)
    obtain ⟨w8, hw8⟩ : ∃ q, q = w6 := ⟨_, rfl⟩
    have KK := hide (show Keep S6 w6 w8 by rw [hw8]; exact Keep.refl _ _)
    rw [← hw8] at BL P8 ⊢
    obtain ⟨g8, hg8⟩ : ∃ q, q = g6 := ⟨_, rfl⟩
    rw [← hg8] at WP DN PN P8 HCL
    clear q1 q2 q3 q4 hw8 hg8
    have c3 := HLC.out _ BL.out
    obtain ⟨x0, _⟩ := c3.get 0 _ rfl
    obtain ⟨x1, _⟩ := c3.get 1 _ rfl
    obtain ⟨x2, _⟩ := c3.get 2 _ rfl
    clear c3
    go_wp2_with fail
    refine (KS.out _ _ w8).mono ?_
    rintro e w9 ⟨rfl, b9⟩
    have P9 := hide (P8.out.below b9)
    have KK9 := hide (KK.out.then_below b9)
    have BL9 := hide (bnext BL.out b9 (Nat.le_refl _))
    clear x0 x1 x2 b9 P8 KK BL
    have hxk : kk ≤ xs.length := by have := HK1.out.2; rw [HG.out.len]; omega
    have hfar : ∀ b, S6 b → w1.heap.size ≤ b := HG.out.st.lv.fS
    have KAg := hide (again_any P9.out n m6.recs (xs.map RecL.r) kk (fun _ => zerosB) WP.out HG.out.holds (by rw [List.length_map]; exact hxk) DN.out PN.out (by have := HCL.out; omega) hnn.1 hnn.2 gs sa sc (HFS.out.below BL9.out) (fun hne ad ha q => by have := HFA.out hne ad ha; have := hfar _ q; omega) (fun x hx hk ad ha q => by have := HFX.out x hx hk ad ha; have := hfar _ q; omega) HFK.out hl12)
    go_wp2_with fail
    refine KAg.out.mono ?_
    rintro e w10 ⟨S10, T10, l10, g10, rfl, ld10, wp10, dn10, pn10, zr10, cl10, st10, hl10, hT10⟩
    clear KAg
    have LD10 := hide ld10
    have RC10 := hide (HG.out.st.recsAt (KK9.out.trans st10.1 (fun _ _ q => q)) (fun b q => HG.out.st.l0 b (.inl q)))
    have BL10 := hide (BL9.out.trans (st10.1.below BL9.out.size (fun j hj q => by have := hfar j q; omega)))
    clear ld10 wp10 dn10 pn10 zr10 cl10 st10 hl10 hT10 KK9 BL9 P9
    have hrl10 : (m6.recs.take kk).length = kk := by rw [List.length_take, HG.out.recs]; rw [HG.out.len] at hxk; omega
    have HRL := hide hrl10
    obtain ⟨m10, hm10⟩ : ∃ q : LogM, q = ⟨2, n, m6.recs.take kk, (m6.recs.take kk).length, false⟩ := ⟨_, rfl⟩
    rw [← hm10] at LD10
    have hmr : m10.recs.length = kk := by rw [hm10]; exact HRL.out
    have hmf : m10.forced = kk := by rw [hm10]; exact HRL.out
    have hmk : m10.Ok := by
      rw [hm10]
      rw [HG.out.len] at hxk
      exact ⟨by show (m6.recs.take kk).length ≤ n; rw [HRL.out]; omega, by show 2 + n ≤ 10000; omega, Nat.le_refl _⟩
    have KLa := hide (lastL_any LD10.out)
    have KPf := hide (prefix_any LD10.out hmk (by rw [hm10]) aa ac xs RC10.out kk hxk (by rw [hm10]; exact HG.out.holds.take kk (by rw [List.length_map]; exact hxk)) (by rw [HG.out.len]; omega) named HK1.out.2)
    have KFf := hide (fun (wq : World) (hb : Below w10.heap.size w10 wq) => forced_any (LD10.out.below hb))
    have KLf := hide (fun (wq : World) (hb : Below w10.heap.size w10 wq) => lastL_any (LD10.out.below hb))
    rw [hmr] at KLa KLf
    rw [hmf] at KFf
    rw [HG.out.len] at KPf
    have hgeq : decide ((m6.forced : Int) ≤ (kk : Int)) = true := by have := HK1.out.1; simp; omega
    have hgeq2 : decide (m6.forced ≤ kk) = true := by have := HK1.out.1; simp; omega
    clear hm10 hmr hmf hmk hxk RC10
    go_wp2_with fail
    refine KLa.out.mono ?_
    rintro e w11 ⟨rfl, hww⟩
    obtain rfl : w10 = w11 := hww.symm
    clear hww
    go_wp2_with fail
    refine KPf.out.mono ?_
    rintro e w11 ⟨rfl, b11⟩
    have BL11 := hide (bnext BL10.out b11 (Nat.le_refl _))
    have HB11 := hide b11
    clear b11 KPf KLa
    go_wp2_with fail
    refine (KFf.out w11 HB11.out).mono ?_
    rintro e w12 ⟨rfl, hww⟩
    obtain rfl : w11 = w12 := hww.symm
    clear hww
    go_wp2_with fail
    refine (KLf.out w11 HB11.out).mono ?_
    rintro e w12 ⟨rfl, hww⟩
    obtain rfl : w11 = w12 := hww.symm
    clear hww
    go_wp2_with fail
    go_ret
    exact ⟨by simp, bnext B1.out BL11.out (Nat.le_refl _)⟩
end Go.Proofs.YtgpmghdoofcpaaaGreat.Lg
