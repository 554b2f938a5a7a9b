import Derived.Test.YtblngphjoafidaaAn12
namespace Go.Proofs.Ytblngphjoafidaa
open Go.RowKit Go.QK Go.Maps Go.QM Go.QT
set_option maxRecDepth 100000
/-! Where it begins is nothing. -/
theorem since_skip {A B : List DirtyM} {p : Int} (h : ∀ d ∈ A, d.page ≠ p) : sinceL (A ++ B) p = sinceL B p := by
  induction A with
  | nil => rfl
  | cons d A ih =>
    show (if d.page = p then d.since else sinceL (A ++ B) p) = _
    rw [if_neg (h d (by simp)), ih (fun x hx => h x (by simp [hx]))]
theorem since_hit {A B : List DirtyM} {p : Int} (h : sinceL A p ≠ 0) : sinceL (A ++ B) p = sinceL A p := by
  induction A with
  | nil => exact absurd rfl h
  | cons d A ih =>
    show (if d.page = p then d.since else sinceL (A ++ B) p) = (if d.page = p then d.since else sinceL A p)
    have h : (if d.page = p then d.since else sinceL A p) ≠ 0 := h
    by_cases q : d.page = p
    · rw [if_pos q, if_pos q]
    · rw [if_neg q] at h
      rw [if_neg q, if_neg q, ih h]
theorem since_told (s : Nat → Int) (n j : Nat) : sinceL (toldL s n) (j : Int) = if j < n then s j else 0 := by
  induction n with
  | zero => rfl
  | succ n ih =>
    simp only [toldL]
    have away : (j < n → s j = 0) → ∀ d ∈ toldL s n, d.page ≠ (j : Int) := by
      intro h0 d hd q
      obtain ⟨i, h1, h2, rfl⟩ := mem_told.1 hd
      have q : (i : Int) = (j : Int) := q
      have : i = j := by omega
      subst this
      exact h2 (h0 h1)
    by_cases q : s j = 0 ∨ ¬ j < n
    · rw [since_skip (away (fun h => by rcases q with q | q; exact q; exact absurd h q))]
      by_cases e : j = n
      · subst e
        have hR : (if j < j + 1 then s j else 0) = s j := if_pos (by omega)
        rw [hR]
        split
        · rename_i z; rw [z]; rfl
        · show (if (j : Int) = (j : Int) then s j else 0) = s j
          rw [if_pos rfl]
      · have : sinceL (if s n = 0 then [] else [⟨(n : Int), s n⟩]) (j : Int) = 0 := by
          split
          · rfl
          · show (if (n : Int) = (j : Int) then s n else 0) = 0
            rw [if_neg (by omega)]
        rw [this]
        by_cases hj : j < n + 1
        · rw [if_pos hj]
          rcases q with q | q
          · exact q.symm
          · omega
        · rw [if_neg hj]
    · have q1 : s j ≠ 0 := fun z => q (.inl z)
      have q2 : j < n := by
        by_cases z : j < n
        · exact z
        · exact absurd (.inr z) q
      rw [if_pos q2] at ih
      rw [since_hit (by rw [ih]; exact q1), ih, if_pos (by omega)]
def lf (D : List DirtyM) : Int := D.foldl (fun l d => if l = 0 ∨ d.since < l then d.since else l) 0
theorem lf_snoc (D : List DirtyM) (d : DirtyM) : lf (D ++ [d]) = if lf D = 0 ∨ d.since < lf D then d.since else lf D := by
  unfold lf
  rw [List.foldl_append]
  rfl
theorem lf_told (s : Nat → Int) (n : Nat) : lf (toldL s n) = leastL s n := by
  induction n with
  | zero => rfl
  | succ n ih =>
    simp only [toldL, leastL]
    by_cases q : s n = 0
    · rw [if_pos q, if_neg (fun z => z.1 q), List.append_nil, ih]
    · rw [if_neg q, lf_snoc, ih]
      by_cases z : leastL s n = 0 ∨ s n < leastL s n
      · rw [if_pos z, if_pos ⟨q, z⟩]
      · rw [if_neg z, if_neg (fun y => z y.2)]
structure Bx (w wr : World) (a : Option Addr) (xs : List RX) (wb : Nat) (la da : Option Addr) (nL lc nD dc : Nat) (F : FoundM) : Prop where
  recs : RecsAt wr a xs
  f : Cells wr wb [.slice la nL lc, .slice da nD dc, .int .i64 F.fr, .int .i64 F.next]
  li : Lies wr la (rowsC lvC F.live)
  di : Lies wr da (dirtyCs F.dirty)
  be : Below w.heap.size w wr
theorem Bx.below {w wr wz : World} {a : Option Addr} {xs : List RX} {wb : Nat} {la da : Option Addr} {nL lc nD dc : Nat} {F : FoundM} (h : Bx w wr a xs wb la da nL lc nD dc F) (hb : Below wr.heap.size wr wz) : Bx w wz a xs wb la da nL lc nD dc F := ⟨h.recs.below hb, h.f.below hb, h.li.below hb, h.di.below hb, h.be.trans (hb.mono h.be.size)⟩
/-- What is asked of a dirty page. -/
theorem ask_dirty {p q : PassM} (hl : Less p.pg q.pg) {N : Nat} {D : List DirtyM} (hD : D = toldL q.pg N) {k : Nat} (hk : k < D.length) : ∃ first, sinceL (toldL p.pg N) D[k].page = first ∧ (first == 0) = false ∧ decide (D[k].since < first) = false ∧ (∀ k0 (hk0 : k0 < D.length), k = k0 + 1 → decide (D[k].page ≤ D[k0].page) = false) := by
  have hm : D[k] ∈ toldL q.pg N := by rw [← hD]; exact List.getElem_mem hk
  obtain ⟨j, hj, hne, he⟩ := mem_told.1 hm
  have hl := hl j hne
  refine ⟨p.pg j, ?_, ?_, ?_, fun k0 hk0 e => ?_⟩
  · rw [he]
    show sinceL (toldL p.pg N) (j : Int) = _
    rw [since_told, if_pos hj]
  · have := hl.1
    simpa using this
  · rw [he]
    show decide (q.pg j < p.pg j) = false
    simp
    omega
  · have hr : D.Pairwise (fun a b => a.page < b.page) := by rw [hD]; exact told_rise q.pg N
    have := List.pairwise_iff_getElem.1 hr k0 k hk0 hk (by omega)
    simp
    omega
theorem ask_changed {q : PassM} {N : Nat} (hN : 64 ≤ N) {r : RecM} (hg : GoodR r) (hc : chg r.kind = true) (h : ∀ j : Nat, (j : Int) = r.wp ∨ (j : Int) = r.sp → q.pg j ≠ 0) : (sinceL (toldL q.pg N) r.wp == 0) = false ∧ (sinceL (toldL q.pg N) r.sp == 0) = false := by
  have hp := hg.pages hc
  obtain ⟨j1, e1⟩ : ∃ j : Nat, r.wp = (j : Int) := ⟨r.wp.toNat, by omega⟩
  obtain ⟨j2, e2⟩ : ∃ j : Nat, r.sp = (j : Int) := ⟨r.sp.toNat, by omega⟩
  have h1 := h j1 (.inl e1.symm)
  have h2 := h j2 (.inr e2.symm)
  rw [e1, e2, since_told, since_told, if_pos (by omega), if_pos (by omega)]
  simp [h1, h2]
set_option maxHeartbeats 16000000 in
theorem law_points (ms : List Mv) (ma : Option Addr) (nM mc : Nat) (w : World) (hm : Lies w ma (rowsC mvC ms)) (hn : nM = ms.length) : Calls Try.prog 4 #[.slice ma nM mc] w fun e w' => e = .returned (.bool true) ∧ Below w.heap.size w w' := by
  have KG := hide (fun w' (hb : Below w.heap.size w w') => grown_any ms ma nM mc w' (hm.below hb) hn)
  clear hm hn
  go_enter Try.func4, Try.ntmps4
  go_upto_region 3 with (go_at_call 5; refine (awake_any _).mono ?_; rintro e w1 ⟨rfl, hb1⟩)
  have B1 := hide hb1
  clear hb1
  go_upto_region 6 with (go_at_call 6; refine (KG.out _ B1.out).mono ?_; unfold GrownPost; rintro e w2 ⟨v, xs, p, rfl, hlog, hre, hck, h80, hb2⟩; obtain ⟨a, c, hv, hRA, hlc, hnil⟩ := hlog.form; subst hv; obtain ⟨n, hnn⟩ : ∃ n, n = xs.length := ⟨_, rfl⟩; rw [← hnn] at hlc h80 ⊢; have HRA := hide hRA; have HRE := hide hre; have HCK := hide hck; have HNN := hide hnn; have HLC := hide hlc; have HNI := hide hnil; have H80 := hide h80; have B2 := hide (B1.out.trans (hb2.mono B1.out.size)); clear hlog hre hck hb2 hRA hnn hlc hnil h80)
  obtain ⟨FF, HFF⟩ : ∃ F, Hid (F = p.found) := ⟨_, hide rfl⟩
  have GR := hide (reach_grown _ _ HRE.out)
  have KU := hide (run_ok HRE.out HFF.out HRA.out HNN.out (by have := H80.out; omega) HLC.out HNI.out)
  go_upto_region 7 with (go_at_call 8; refine KU.out.mono ?_; rintro e w3 ⟨la, nL, lc, da, nD, dc, rfl, hnL, hnD, hFO⟩; have HL := hide hnL; have HD := hide hnD; clear hnL hnD)
  refine named (P := Code.wp _ _ _ _) ?_
  intro w4 hw4
  obtain ⟨wb, hwb⟩ : ∃ b, b = w3.heap.size := ⟨_, rfl⟩
  have b34 : Below w3.heap.size w3 w4 := by rw [hw4]; exact alloc_below _ _
  have b24 := hFO.be.trans (b34.mono hFO.be.size)
  have L4 := hide (show Bx w w4 a xs wb la da nL lc nD dc FF from ⟨HRA.out.below b24, by rw [hw4, hwb]; exact Cells.new _ _ _, hFO.lies.1.below b34, hFO.lies.2.below b34, B2.out.trans (b24.mono B2.out.size)⟩)
  rw [← hwb]
  clear hw4 hwb b34 b24 hFO KU HRA B2
  have hnL32 : nL ≤ 32 := by rw [HL.out, HFF.out]; exact GR.out.ok.few
  have hnD64 : nD ≤ 64 := by rw [HD.out, HFF.out]; exact told_len _ _
  go_wp2_with (go_at_call 9; refine (num_eq _ _).mono ?_; rintro e wz ⟨rfl, rfl⟩)
  have hn80 := H80.out
  have LEN := hide (show (rsOf xs).length = n by simp; exact HNN.out.symm)
  go_loopw [7] (fun iv wr => ∃ (i : Nat), iv = .int .i64 (i : Int) ∧ i ≤ n ∧ Bx w wr a xs wb la da nL lc nD dc FF) (fun iv _ => n + 1 - (intOf iv).toNat)
  case atStart => exact ⟨0, rfl, Nat.zero_le _, L4.out⟩
  case round =>
    clear L4
    obtain ⟨i, rfl, hi, hL⟩ := hrel
    have L0 := hide hL
    by_cases hlt : i < n
    · have hix : i < xs.length := by rw [← HNN.out]; exact hlt
      have hir : i < (rsOf xs).length := by rw [LEN.out]; exact hlt
      have W1 : wrap64 ((i : Int) + 1) = (i : Int) + 1 := by unfold wrap64; omega
      have W1' : IntKind.i64.wrap ((i : Int) + 1) = (i : Int) + 1 := by rw [IntKind.wrap_i64]; omega
      obtain ⟨sb, so, hma, slt, sel⟩ := Lies.rowAt rxC 17 rx_len hL.recs.row i hix (by decide)
      subst hma
      have K8 := hide (show (rsOf xs)[i].kind = xs[i].r.kind by simp [rsOf])
      have c1 := sel 1 _ rfl
      clear sel hi
      obtain ⟨kd, hkd⟩ : ∃ k, k = xs[i].r.kind := ⟨_, rfl⟩
      rw [← hkd] at K8 c1
      clear hkd
      have C1 := hide (show ∀ wz, Below wr.heap.size wr wz → wz.cell? ⟨sb, so + i * 17 + 1, none⟩ = some (.int .i64 kd) from fun wz hb => (hb.cell (p := ⟨sb, so + i * 17 + 1, none⟩) slt).trans c1)
      clear c1 hL
      by_cases h8 : kd = 8
      · have e8 : (kd != 8) = false := by simpa using h8
        obtain ⟨q, hq1, hq2, hq3, hq4, hq5⟩ := points_run HRE.out HCK.out hir (by rw [K8.out]; exact h8)
        obtain ⟨GF, HGF⟩ : ∃ F, Hid (F = q.found) := ⟨_, hide rfl⟩
        have KQ := hide (aw_run xs ((i : Int) + 1) 0 GF (some ⟨sb, so, none⟩) n c wr L0.out.recs HNN.out (by omega) HLC.out HNI.out hq1 (by rw [hq2, HGF.out]))
        have Q3 := hide hq3
        have Q4 := hide hq4
        have Q5 := hide hq5
        clear h8 hq1 hq2 hq3 hq4 hq5
        go_upto_region 13 with (go_at_call 8; refine KQ.out.mono ?_; rintro e w5 ⟨la2, nL2, lc2, da2, nD2, dc2, rfl, hnL2, hnD2, hFO⟩; have HL2 := hide hnL2; have HD2 := hide hnD2; clear hnL2 hnD2)
        refine named (P := Code.wp _ _ _ _) ?_
        intro w6 hw6
        obtain ⟨fb, hfb⟩ : ∃ b, b = w5.heap.size := ⟨_, rfl⟩
        have b56 : Below w5.heap.size w5 w6 := by rw [hw6]; exact alloc_below _ _
        have b06 := hFO.be.trans (b56.mono hFO.be.size)
        have L6 := hide (L0.out.below b06)
        have M6 := hide (show Bx w w6 (some ⟨sb, so, none⟩) xs fb la2 da2 nL2 lc2 nD2 dc2 GF from ⟨L6.out.recs, by rw [hw6, hfb]; exact Cells.new _ _ _, hFO.lies.1.below b56, hFO.lies.2.below b56, L6.out.be⟩)
        have c1 := C1.out _ b06
        have X6 := hide b06
        rw [← hfb]
        clear hw6 hfb b56 b06 hFO KQ L0
        have EL := hide (show nL2 = nL by rw [HL2.out, HGF.out, HL.out, HFF.out]; show q.tb.L.length = p.tb.L.length; rw [Q3.out])
        have ENX := hide (show GF.next = FF.next by rw [HGF.out, HFF.out]; show q.tb.next = p.tb.next; rw [Q3.out])
        have ELV := hide (show GF.live = FF.live by rw [HGF.out, HFF.out]; show q.tb.L = p.tb.L; rw [Q3.out])
        have hnD2 : nD2 ≤ 64 := by rw [HD2.out, HGF.out]; exact told_len _ _
        obtain rfl := EL.out
        have KSL := hide (sameLive_true FF.live la2 la nL2 lc2 lc w6 (by have := M6.out.li; rw [ELV.out] at this; exact this) L6.out.li HL.out (by omega))
        have eNX : (GF.next != FF.next) = false := by rw [ENX.out]; simp
        obtain ⟨m0, -⟩ := M6.out.f.get 0 _ rfl
        obtain ⟨l0, -⟩ := L6.out.f.get 0 _ rfl
        go_upto_region 18 with (first | (go_at_call 9; refine (num_eq _ _).mono ?_; rintro e wz ⟨rfl, rfl⟩) | (go_at_call 10; refine KSL.out.mono ?_; rintro e w7 ⟨rfl, hb7⟩; have L7 := hide (L6.out.below hb7); have M7 := hide (M6.out.below hb7); obtain ⟨g3, -⟩ := M7.out.f.get 3 _ rfl; obtain ⟨h3, -⟩ := L7.out.f.get 3 _ rfl; clear hb7 m0 l0 c1))
        clear g3 h3 KSL eNX L6 M6
        have DD := hide (show GF.dirty = toldL q.pg 64 by rw [HGF.out]; rfl)
        have DF := hide (show FF.dirty = toldL p.pg 64 by rw [HFF.out]; rfl)
        have FRM := hide (show GF.fr = lf GF.dirty by rw [DD.out, lf_told, HGF.out]; rfl)
        go_wp2_with fail
        go_loopw [11, 10] (fun kv lv wz => ∃ (k : Nat), kv = .int .i64 (k : Int) ∧ lv = .int .i64 (lf (GF.dirty.take k)) ∧ k ≤ nD2 ∧ Bx w wz (some ⟨sb, so, none⟩) xs wb la da nL2 lc nD dc FF ∧ Bx w wz (some ⟨sb, so, none⟩) xs fb la2 da2 nL2 lc2 nD2 dc2 GF) (fun kv _ _ => nD2 + 1 - (intOf kv).toNat)
        case atStart => first | exact ⟨0, rfl, rfl, Nat.zero_le _, L7.out, M7.out⟩ | ((repeat apply Exists.intro); exact ⟨⟨0, rfl, rfl, Nat.zero_le _, L7.out, M7.out⟩, rfl⟩)
        case round =>
          clear L7 M7
          obtain ⟨k, rfl, rfl, hk, hLz, hMz⟩ := hrel
          have LZ := hide hLz
          have MZ := hide hMz
          obtain ⟨m1, -⟩ := hMz.f.get 1 _ rfl
          by_cases hkl : k < nD2
          · have hkD : k < GF.dirty.length := by rw [← HD2.out]; exact hkl
            obtain ⟨xb, xo, hda, xlt, x0, x1⟩ := hMz.di.dirtyAt k hkD
            obtain ⟨first, A1, A2, A3, A4⟩ := ask_dirty Q4.out DD.out hkD
            rw [← DF.out] at A1
            have LS := hide (lf_snoc (GF.dirty.take k) GF.dirty[k])
            rw [← take_next' GF.dirty k hkD] at LS
            obtain ⟨l1, hl1⟩ : ∃ l, l = lf (GF.dirty.take k) := ⟨_, rfl⟩
            obtain ⟨l2, hl2⟩ : ∃ l, l = lf (GF.dirty.take (k + 1)) := ⟨_, rfl⟩
            rw [← hl1, ← hl2] at LS
            rw [← hl1]
            have HL1 := hide hl2
            have A4' := hide (fun (k0 : Nat) (e : k = k0 + 1) => show ∃ pv, (∀ wz', Below wr.heap.size wr wz' → wz'.cell? ⟨xb, xo + k0 * 2, none⟩ = some (.int .i64 pv)) ∧ decide (GF.dirty[k].page ≤ pv) = false from by
              have hk0 : k0 < GF.dirty.length := by omega
              obtain ⟨xb', xo', hda', xlt', y0, -⟩ := hMz.di.dirtyAt k0 hk0
              rw [hda] at hda'
              cases hda'
              exact ⟨_, fun wz' hb => (hb.cell (p := ⟨xb, xo + k0 * 2, none⟩) xlt).trans y0, A4 k0 hk0 e⟩)
            subst hda
            have A1' := hide A1
            clear A4 A1 hl1 hl2
            generalize GF.dirty[k] = d at *
            obtain ⟨dp, ds⟩ := d
            simp only at x0 x1 A2 A3 A4' A1' LS
            clear hLz hMz
            go_upto_region 23 with fail
            refine named (P := Code.wp _ _ _ _) ?_
            intro w8 hw8
            obtain ⟨db, hdb⟩ : ∃ b, b = wr.heap.size := ⟨_, rfl⟩
            have bb := alloc_below wr (.cells #[.int .i64 dp, .int .i64 ds] 52)
            rw [← hw8] at bb
            have D8 := hide (show Cells w8 db [.int .i64 dp, .int .i64 ds] by rw [hw8, hdb]; exact Cells.new _ _ _)
            have L8 := hide (LZ.out.below bb)
            have M8 := hide (MZ.out.below bb)
            have BB := hide bb
            rw [← hdb]
            clear hw8 hdb bb LZ MZ m1 x0 x1
            obtain ⟨l1', -⟩ := L8.out.f.get 1 _ rfl
            obtain ⟨d0, -⟩ := D8.out.get 0 _ rfl
            obtain ⟨d1, -⟩ := D8.out.get 1 _ rfl
            have KSI := hide (since_any FF.dirty da nD dc dp w8 L8.out.di HD.out (by omega))
            rw [A1'.out] at KSI
            go_upto_region 24 with (go_at_call 11; refine KSI.out.mono ?_; rintro e wx ⟨rfl, rfl⟩)
            go_cut [113] from 73 to 123 (fun v w' => v = .bool false ∧ Below w8.heap.size w8 w')
            case first =>
              obtain ⟨m1, -⟩ := M8.out.f.get 1 _ rfl
              cases k with
              | zero =>
                have e0 : decide ((0 : Int) < ((0 : Nat) : Int)) = false := by simp
                go_quiet (fail)
                go_wp2_with fail
                go_meet
                exact ⟨rfl, below_drewN (Below.refl _ _) _⟩
              | succ k0 =>
                obtain ⟨pv, pc, pd⟩ := A4'.out k0 rfl
                have pc := pc _ BB.out
                have e0 : decide ((0 : Int) < ((k0 + 1 : Nat) : Int)) = true := by simp <;> omega
                have e0' : decide ((0 : Int) < (k0 : Int) + 1) = true := by simp <;> omega
                have es : IntKind.i64.wrap (((k0 + 1 : Nat) : Int) - 1) = (k0 : Int) := by rw [IntKind.wrap_i64]; omega
                have es' : wrap64 (((k0 + 1 : Nat) : Int) - 1) = (k0 : Int) := by unfold wrap64; omega
                have es2 : wrap64 ((k0 : Int) + 1 - 1) = (k0 : Int) := by unfold wrap64; omega
                have hk2 : k0 < nD2 := by omega
                go_quiet (fail)
                go_wp2_with fail
                go_meet
                exact ⟨rfl, below_drewN (Below.refl _ _) _⟩
            case rest =>
              obtain ⟨rfl, hbc⟩ := hcut
              obtain ⟨w9, hw9⟩ : ∃ x, x = wc := ⟨_, rfl⟩
              rw [← hw9] at hbc ⊢
              have L9 := hide (L8.out.below hbc)
              have M9 := hide (M8.out.below hbc)
              obtain ⟨d1, -⟩ := (D8.out.below hbc).get 1 _ rfl
              clear hw9 hbc L8 M8 D8 KSI A4' l1' d0
              by_cases z1 : l1 = 0
              · have f1 : (l1 == 0) = true := by simpa using z1
                have RS := hide (show l2 = ds by rw [LS.out, if_pos (.inl z1)])
                clear z1 LS
                go_wp2_with fail
                go_roundw
                case rel => first | exact ⟨k + 1, by go_num, by rw [← HL1.out, RS.out], by omega, L9.out, M9.out⟩ | ((repeat apply Exists.intro); exact ⟨⟨k + 1, by go_num, by rw [← HL1.out, RS.out], by omega, L9.out, M9.out⟩, rfl⟩)
                case measure => simp [intOf]; omega
              · have f1 : (l1 == 0) = false := by simpa using z1
                by_cases z2 : ds < l1
                · have f2 : decide (ds < l1) = true := by simpa using z2
                  have RS := hide (show l2 = ds by rw [LS.out, if_pos (.inr z2)])
                  clear z1 z2 LS
                  go_wp2_with fail
                  go_roundw
                  case rel => first | exact ⟨k + 1, by go_num, by rw [← HL1.out, RS.out], by omega, L9.out, M9.out⟩ | ((repeat apply Exists.intro); exact ⟨⟨k + 1, by go_num, by rw [← HL1.out, RS.out], by omega, L9.out, M9.out⟩, rfl⟩)
                  case measure => simp [intOf]; omega
                · have f2 : decide (ds < l1) = false := by simpa using z2
                  have RS := hide (show l2 = l1 by rw [LS.out, if_neg (fun y => by rcases y with y | y; exact z1 y; exact z2 y)])
                  clear z1 z2 LS
                  go_wp2_with fail
                  go_roundw
                  case rel => first | exact ⟨k + 1, by go_num, by rw [← HL1.out, RS.out], by omega, L9.out, M9.out⟩ | ((repeat apply Exists.intro); exact ⟨⟨k + 1, by go_num, by rw [← HL1.out, RS.out], by omega, L9.out, M9.out⟩, rfl⟩)
                  case measure => simp [intOf]; omega
          · obtain rfl : nD2 = k := by omega
            have T1 := hide (show GF.dirty.take nD2 = GF.dirty from List.take_of_length_le (by rw [← HD2.out]; exact Nat.le_refl _))
            rw [T1.out]
            have eF : (GF.fr != lf GF.dirty) = false := by rw [FRM.out]; simp
            obtain ⟨m2, -⟩ := hMz.f.get 2 _ rfl
            generalize lf GF.dirty = lfv at *
            clear hLz hMz
            go_wp2_with fail
            clear m1 m2 eF
            go_loopw [14] (fun kv wz => ∃ (k : Nat), kv = .int .i64 (k : Int) ∧ i < k ∧ k ≤ n ∧ Bx w wz (some ⟨sb, so, none⟩) xs wb la da nL2 lc nD dc FF ∧ Bx w wz (some ⟨sb, so, none⟩) xs fb la2 da2 nL2 lc2 nD2 dc2 GF) (fun kv _ => n + 1 - (intOf kv).toNat)
            case atStart => first | exact ⟨i + 1, by go_num, by omega, by omega, LZ.out, MZ.out⟩ | ((repeat apply Exists.intro); exact ⟨⟨i + 1, by go_num, by omega, by omega, LZ.out, MZ.out⟩, rfl⟩)
            case round =>
              clear LZ MZ
              obtain ⟨k, rfl, hik, hk, hLz, hMz⟩ := hrel
              have LZ := hide hLz
              have MZ := hide hMz
              by_cases hkl : k < n
              · have hkx : k < xs.length := by rw [← HNN.out]; exact hkl
                have hkr : k < (rsOf xs).length := by rw [LEN.out]; exact hkl
                obtain ⟨sb', so', hsa, slt', sel'⟩ := Lies.rowAt rxC 17 rx_len hLz.recs.row k hkx (by decide)
                cases hsa
                have GX := hide (show GoodR xs[k].r by have := (fault_each HRE.out.fault k hkr).2; simpa [rsOf] using this)
                have QX := hide (show chg xs[k].r.kind = true → ∀ j : Nat, (j : Int) = xs[k].r.wp ∨ (j : Int) = xs[k].r.sp → q.pg j ≠ 0 from fun hc j hj => Q5.out k hkr hik (by simpa [rsOf] using hc) j (by simpa [rsOf] using hj))
                generalize xs[k] = x at *
                obtain ⟨RA, hRA⟩ : ∃ A, A = rxA x := ⟨_, rfl⟩
                have SR := hide (show RA.size = 17 by rw [hRA]; rfl)
                have ON := hide (show RA.toList.all (·.oneCell') = true by rw [hRA]; rfl)
                have RC := hide (show ∀ j2 v, RA.toList[j2]? = some v → wr.cell? ⟨sb, so + k * 17 + j2, none⟩ = some v from fun j2 v hv => by rw [hRA] at hv; exact sel' j2 v hv)
                have H1 := hide (show RA.toList[1]? = some (.int .i64 x.r.kind) by rw [hRA]; rfl)
                have H4 := hide (show RA.toList[4]? = some (.int .i64 x.r.wp) by rw [hRA]; rfl)
                have H6 := hide (show RA.toList[6]? = some (.int .i64 x.r.sp) by rw [hRA]; rfl)
                clear sel' hRA hLz hMz
                go_upto_region 34 with (first | refine wpList_ld46At RC.out SR.out rfl ?_ | (refine wpList_store36 (cs := rec0) (RBox.new _ _ _) rfl SR.out ON.out rfl rfl ?_; intro w2 hb2 hk2))
                have R2 := hide hb2
                have b2 := newBox hk2
                have L2 := hide (LZ.out.below b2)
                have M2 := hide (MZ.out.below b2)
                clear hb2 hk2 b2 LZ MZ RC
                obtain ⟨c1, -⟩ := R2.out.cells.get 1 _ H1.out
                obtain ⟨c4, -⟩ := R2.out.cells.get 4 _ H4.out
                obtain ⟨c6, -⟩ := R2.out.cells.get 6 _ H6.out
                obtain ⟨m1, -⟩ := M2.out.f.get 1 _ rfl
                have KS4 := hide (since_any GF.dirty da2 nD2 dc2 x.r.wp w2 M2.out.di HD2.out (by omega))
                have KS6 := hide (since_any GF.dirty da2 nD2 dc2 x.r.sp w2 M2.out.di HD2.out (by omega))
                go_frame
                go_cut [170] from 130 to 170 (fun v w' => v = .bool false ∧ w' = w2)
                case first =>
                  cases hc : chg x.r.kind with
                  | false =>
                    obtain ⟨e2, e3, e4⟩ := chg_no hc
                    clear hc
                    go_wp2_with fail
                    go_meet
                    exact ⟨rfl, rfl⟩
                  | true =>
                    obtain ⟨A1, A2⟩ := ask_changed (q := q) (N := 64) (Nat.le_refl _) GX.out hc (QX.out hc)
                    rw [← DD.out] at A1 A2
                    generalize sinceL GF.dirty x.r.wp = v4 at *
                    generalize sinceL GF.dirty x.r.sp = v6 at *
                    have KK := hide (chg_cases hc)
                    clear hc GX QX
                    generalize x.r.kind = kk at *
                    generalize x.r.wp = WP at *
                    generalize x.r.sp = SP at *
                    rcases KK.out with rfl | rfl | rfl
                    · go_wp2_with fail
                      refine KS4.out.mono ?_
                      rintro e wx ⟨rfl, rfl⟩
                      go_wp2_with fail
                      refine KS6.out.mono ?_
                      rintro e wx ⟨rfl, rfl⟩
                      go_wp2_with fail
                      go_meet
                      exact ⟨rfl, rfl⟩
                    · go_wp2_with fail
                      refine KS4.out.mono ?_
                      rintro e wx ⟨rfl, rfl⟩
                      go_wp2_with fail
                      refine KS6.out.mono ?_
                      rintro e wx ⟨rfl, rfl⟩
                      go_wp2_with fail
                      go_meet
                      exact ⟨rfl, rfl⟩
                    · go_wp2_with fail
                      refine KS4.out.mono ?_
                      rintro e wx ⟨rfl, rfl⟩
                      go_wp2_with fail
                      refine KS6.out.mono ?_
                      rintro e wx ⟨rfl, rfl⟩
                      go_wp2_with fail
                      go_meet
                      exact ⟨rfl, rfl⟩
                case rest =>
                  obtain ⟨rfl, hwc⟩ := hcut
                  subst hwc
                  clear KS4 KS6 c1 c4 c6 m1 H1 H4 H6 GX QX
                  go_wp2_with fail
                  go_roundw
                  case rel => first | exact ⟨k + 1, by go_num, by omega, by omega, L2.out, M2.out⟩ | ((repeat apply Exists.intro); exact ⟨⟨k + 1, by go_num, by omega, by omega, L2.out, M2.out⟩, rfl⟩)
                  case measure => simp [intOf]; omega
              · obtain rfl : n = k := by omega
                clear hLz hMz
                go_wp2_with fail
                go_roundw
                case rel => first | exact ⟨i + 1, by go_num, by omega, LZ.out⟩ | ((repeat apply Exists.intro); exact ⟨⟨i + 1, by go_num, by omega, LZ.out⟩, rfl⟩)
                case measure => simp [intOf]; omega
      · have e8 : (kd != 8) = true := by simpa using h8
        have KQ := hide (aw_run xs ((i : Int) + 1) 4 zeroF (some ⟨sb, so, none⟩) n c wr L0.out.recs HNN.out (by omega) HLC.out HNI.out (points_place HRE.out hir (by rw [K8.out]; exact h8)) (runF_bad (by rw [points_place HRE.out hir (by rw [K8.out]; exact h8)]; decide)))
        clear h8
        go_upto_region 13 with (go_at_call 8; refine KQ.out.mono ?_; rintro e w5 ⟨la2, nL2, lc2, da2, nD2, dc2, rfl, -, -, hFO⟩)
        refine named (P := Code.wp _ _ _ _) ?_
        intro w6 hw6
        have b06 : Below wr.heap.size wr w6 := by rw [hw6]; exact hFO.be.alloc hFO.be.size _
        have L6 := hide (L0.out.below b06)
        have c1 := C1.out _ b06
        clear hw6 b06 hFO KQ L0
        go_wp2_with (go_at_call 9; refine (num_eq _ _).mono ?_; rintro e wz ⟨rfl, rfl⟩)
        go_roundw
        case rel => exact ⟨i + 1, by go_num, by omega, L6.out⟩
        case measure => simp [intOf]; omega
    · obtain rfl : i = n := by omega
      clear hL
      go_wp2_with fail
      go_ret
      exact ⟨rfl, L0.out.be⟩
end Go.Proofs.Ytblngphjoafidaa
