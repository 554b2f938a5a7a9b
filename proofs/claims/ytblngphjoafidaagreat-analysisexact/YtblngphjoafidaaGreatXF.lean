import Derived.Test.YtblngphjoafidaaGreatXB
import Derived.Test.YtblngphjoafidaaGreatXD
import Derived.Test.YtblngphjoafidaaGreatAn41
import Derived.Deep.MidRow
import Derived.Test.YtblngphjoafidaaGreatRows
import Derived.ProofKit
import Derived.OpenShut
import Derived.ChangeOld
import Derived.Lib.SmallJoins
import Derived.Deep.Slices
set_option linter.all false
namespace Go.Proofs.YtblngphjoafidaaGreat
open Go.RowKit Go.QK Go.Maps Go.QM Go.QT
set_option maxRecDepth 100000
/-! What the law wants besides. -/
theorem keep_setCells (b : Nat) : ∀ (vs : List Value) (o : Nat) (w : World), Keep (fun k => k = b) w (w.setCells b o vs)
  | [], o, w => Keep.refl _ w
  | v :: vs, o, w => by
    rw [World.setCells]
    exact ((Keep.refl (fun k => k = b) w).setCell (g := b) (j := o) (fun _ => rfl) v).trans (keep_setCells b vs (o + 1) _) (fun _ _ q => q)
section
variable {ops : Array Oper} {rest : List Oper} {a : Act} {w : World} {Q : Exit → Act → World → Prop} {d : Option Tmp} {ty : TypeId} {ps : String} {af : Array Edge} {x y : Operand}
theorem wpList_st46At {g off : Nat} {cs : Array Value} (ht : w.there g off 17) (hs : cs.size = 17) (h1 : cs.toList.all (·.oneCell') = true) (hx : a.eval x = .pointer (some ⟨g, off, none⟩)) (hy : a.eval y = .agg cs) (h : wpList Tryz.prog ops Q rest (a.put d undef) (w.setCells g off cs.toList)) :
    wpList Tryz.prog ops Q ({ dst := d, op := .store 55 x y, type := ty, pos := ps, after := af, guard := none } :: rest) a w :=
  wpList_store_mid rfl 55 x y rfl g off cs hx hy (by rw [hs]; exact ht) (size36' hs) (by rw [← Array.all_toList]; exact h1) h
end
theorem there_of {w : World} {B n c g k : Nat} {xs : List Value} (h : GRow w B 55 17 (.slice (some ⟨g, 0, none⟩) n c) n xs) : w.there g 0 (n * 17) := by
  intro j hj
  have hl := h.1
  rw [Nat.zero_add, World.ownsRow.cellAt h j hj]
  exact ⟨by rw [List.getElem?_eq_getElem (by omega)]; rfl, World.ownsRow.frozenAt h j⟩
theorem there_at {w : World} {g n k : Nat} (h : w.there g 0 (n * 17)) (hk : k < n) : w.there g (k * 17) 17 := by
  intro j hj
  have := h (k * 17 + j) (by have : (k + 1) * 17 ≤ n * 17 := Nat.mul_le_mul_right _ hk; omega)
  rw [Nat.zero_add] at this
  exact this
theorem BK.start {w : World} {b : Nat} (h : Cells w b [.slice none 0 0, .slice none 0 0, .slice none 0 0, .slice none 0 0]) : BK w (fun k => k = b) b [.slice none 0 0, .slice none 0 0, .slice none 0 0, .slice none 0 0] [[], [], [], []] 0 := by
  have hv : ∀ (j : Nat) (v : Value), [Value.slice none 0 0, .slice none 0 0, .slice none 0 0, .slice none 0 0][j]? = some v → v = .slice none 0 0 := by
    intro j v hj
    have := List.mem_of_getElem? hj
    simp at this
    exact this
  have hR : ∀ (j : Nat) (R : List Value), [([] : List Value), [], [], []][j]? = some R → R = [] := by
    intro j R hj
    have := List.mem_of_getElem? hj
    simp at this
    exact this
  refine ⟨fun k q => by rw [q]; exact h.1, rfl, h, rfl, rfl, fun j v R h1 h2 => ?_, fun j v g h1 h2 => ?_, fun i j v u g _ h1 _ h3 => ?_, fun j R k lv hk => by omega⟩
  · rw [hv j v h1, hR j R h2]
    exact World.ownsRow_nil _ _ _ _
  · rw [hv j v h1] at h2
    cases h2
  · rw [hv i v h1] at h3
    cases h3
theorem note_len (t : TbM) (lsn k tx prev : Int) : (t.noteT lsn k tx prev).L.length ≤ t.L.length + 1 := by
  unfold TbM.noteT
  split
  · unfold TbM.went
    have h1 : (delT t.L tx).length ≤ t.L.length := List.length_filter_le _ _
    repeat' split
    all_goals simp [TbM.begun, setT]
    all_goals (try omega)
    all_goals (try (split <;> simp <;> omega))
  · omega
theorem go_len : ∀ (rs : List RecM) (p q : PassM), goP p rs = some q → q.tb.L.length ≤ p.tb.L.length + rs.length
  | [], p, q, h => by
    cases h
    simp
  | r :: rs, p, q, h => by
    unfold goP at h
    split at h
    · have := go_len rs _ q h
      have h2 := note_len p.tb r.lsn r.kind r.tx r.prev
      have e : (p.step r).tb = p.tb.noteT r.lsn r.kind r.tx r.prev := rfl
      rw [e] at this
      simp
      omega
    · cases h
theorem run_len {rs : List RecM} {pt : Int} (h1 : rs.length ≤ 300) (h2 : ∀ r ∈ rs, r.live.length ≤ 60) : (runF rs pt).live.length ≤ 900 ∧ (runF rs pt).dirty.length ≤ 900 := by
  have z : (zeroF.live.length ≤ 900 ∧ zeroF.dirty.length ≤ 900) := ⟨by simp [zeroF], by simp [zeroF]⟩
  unfold runF
  split
  · cases hr : runO rs pt with
    | none => exact z
    | some p =>
      have hd := told_len2 p.pg 64
      refine ⟨?_, by show (toldL p.pg 64).length ≤ 900; omega⟩
      show p.tb.L.length ≤ 900
      unfold runO at hr
      cases hs : startP rs pt with
      | none => rw [hs] at hr; cases hr
      | some p0 =>
        rw [hs] at hr
        have hg := go_len _ _ _ hr
        have hl : (rs.drop pt.toNat).length ≤ 300 := by simp; omega
        have h0 : p0.tb.L.length ≤ 60 := by
          unfold startP at hs
          split at hs
          · cases hs
            simp [pass0]
          · split at hs
            · cases hs
            · cases hq : rs[(pt - 1).toNat]? with
              | none => rw [hq] at hs; cases hs
              | some r =>
                rw [hq] at hs
                simp only at hs
                split at hs
                · cases hs
                  simp [standP]
                  exact h2 r (List.mem_of_getElem? hq)
                · cases hs
        omega
  · exact z
/-- What a Run has answered. -/
structure FO (w w' : World) (la : Option Addr) (n1 lc : Nat) (da : Option Addr) (n2 dc : Nat) (F : FoundM) : Prop where
  li : GRow w' w.heap.size 58 4 (.slice la n1 lc) n1 (rowsC lvC F.live)
  di : GRow w' w.heap.size 60 2 (.slice da n2 dc) n2 (dirtyCs F.dirty)
  be : Below w.heap.size w w'
theorem run_form {fn : Nat} {args : Array Value} {w : World} {rs : List RecM} {pt : Int} (h : Calls Tryz.prog fn args w (RunPost w rs pt)) (F : FoundM) (E fr nx : Int) (n1 n2 : Nat) (hF : runF rs pt = F) (hE : runE rs pt = E) (h1 : n1 = F.live.length) (h2 : n2 = F.dirty.length) (h3 : fr = F.fr) (h4 : nx = F.next) :
    Calls Tryz.prog fn args w fun e w' => ∃ la lc da dc, e = .returned (.tuple #[.agg #[.slice la n1 lc, .slice da n2 dc, .int .i64 fr, .int .i64 nx], .int .i64 E]) ∧ FO w w' la n1 lc da n2 dc F := by
  refine h.mono ?_
  rintro e w' ⟨vL, vD, rfl, hFO⟩
  rw [hF] at hFO
  rw [hE, hF]
  obtain ⟨la, lc, hla, -⟩ := GRow.lies hFO.live
  obtain ⟨da, dc, hda, -⟩ := GRow.lies hFO.dirty
  subst hla hda
  exact ⟨la, lc, da, dc, by rw [h1, h2, h3, h4], ⟨by rw [h1]; exact hFO.live, by rw [h2]; exact hFO.dirty, hFO.be⟩⟩
theorem FO.lies {w w' wz : World} {la da : Option Addr} {n1 lc n2 dc : Nat} {F : FoundM} (h : FO w w' la n1 lc da n2 dc F) (hb : Below w'.heap.size w' wz) : Lies wz la (rowsC lvC F.live) ∧ Lies wz da (dirtyCs F.dirty) := by
  obtain ⟨a1, c1, e1, l1, -⟩ := GRow.lies h.li
  obtain ⟨a2, c2, e2, l2, -⟩ := GRow.lies h.di
  cases e1
  cases e2
  exact ⟨l1.below hb, l2.below hb⟩
theorem FO.own {w w' : World} {la da : Option Addr} {n1 lc n2 dc : Nat} {F : FoundM} (h : FO w w' la n1 lc da n2 dc F) : ∀ g, (Value.slice la n1 lc).ownBlock = some g ∨ (Value.slice da n2 dc).ownBlock = some g → w.heap.size ≤ g ∧ g < w'.heap.size := by
  rintro g (q | q)
  · exact World.ownsRow.lt h.li g q
  · exact World.ownsRow.lt h.di g q
end Go.Proofs.YtblngphjoafidaaGreat

set_option linter.all false
namespace Go.Proofs.YtblngphjoafidaaGreat
open Go.RowKit Go.QK Go.Maps Go.QM Go.QT
set_option maxRecDepth 100000
/-- Between two points: the book, and that nothing older was touched. -/
structure LSt (w1 : World) (b K : Nat) (wz : World) : Prop where
  ex : ∃ S vs Rs, BK wz S b vs Rs K ∧ (∀ (j : Nat) (R : List Value), Rs[j]? = some R → R.length = K) ∧ (∀ k, S k → w1.heap.size ≤ k)
  be : Below w1.heap.size w1 wz
theorem rx9 : ∃ x : RX, rxA x = #[.int .i64 0, .int .i64 0, .int .i64 9, .int .i64 0, .int .i64 0, .int .i64 0, .int .i64 0, .int .i64 0, .int .i64 0, .int .i64 0, .int .i64 0, .int .i64 0, .int .i64 0, .int .i64 0, .slice none 0 0, .slice none 0 0, .int .i64 0] := ⟨⟨bare 0 0 9 0, none, 0, none, 0⟩, rfl⟩
set_option maxHeartbeats 16000000 in
theorem law_exact (xs : List RX) (a : Option Addr) (n c : Nat) (pa : Option Addr) (m pc : Nat) (ps : List Int) (w : World) (h : RecsAt w a xs) (hn : n = xs.length) (hc : n ≤ c) (hnil : a = none → c = 0) (hx : ∀ x ∈ xs, Fine x) (hp : Seen .i64 w pa ps) (hm : m = ps.length) :
    Calls Tryz.prog 3 #[.slice a n c, .slice pa m pc] w fun e w' => e = .returned (.bool true) ∧ Below w.heap.size w w' := by
  have HX := hide h
  have HF := hide hx
  have HP := hide hp
  have HM := hide hm
  have KC := hide (fun w' (hb : Below w.heap.size w w') => cut_any xs a n c w' (h.below hb) hn hc hnil hx)
  clear h hx hp hm hn
  go_enter Tryz.func3, Tryz.ntmps3
  go_wp2_with fail
  refine (awake_any w).mono ?_
  rintro e wa ⟨rfl, hba⟩
  go_wp2_with fail
  refine (KC.out wa hba).mono ?_
  rintro e w1 ⟨v1, rfl, G1, hb1⟩
  obtain ⟨ys, hys⟩ : ∃ ys, ys = (xs.take 300).map cutX := ⟨_, rfl⟩
  rw [← hys] at G1
  have BW := hide (show Below w.heap.size w w1 from hba.trans (hb1.mono hba.size))
  have YF := hide (show ∀ y ∈ ys, Fine y ∧ y.r.live.length ≤ 60 ∧ y.r.dirty.length ≤ 60 from fun y hy => by
    rw [hys] at hy
    obtain ⟨x, hx, rfl⟩ := List.mem_map.1 hy
    have := cut_fine (HF.out x (List.mem_of_mem_take hx))
    exact ⟨this.1, this.2.1, this.2.2⟩)
  have YL := hide (show ys.length ≤ 300 by rw [hys]; simp; omega)
  obtain ⟨la, lc, e1, l1, nc, -⟩ := GRow.lies G1
  have YR := hide (show RecsAt w1 la ys from ⟨l1, fun y hy => by
    rw [hys] at hy
    obtain ⟨x, hx, rfl⟩ := List.mem_map.1 hy
    exact cut_in ((HX.out.below BW.out).each x (List.mem_of_mem_take hx))⟩)
  have PS := hide (HP.out.below BW.out)
  obtain ⟨N, hN⟩ : ∃ N, N = ys.length := ⟨_, rfl⟩
  rw [← hN] at e1 YL nc
  subst e1
  have YN := hide hN
  have YL' : N ≤ 300 := YL.out
  clear hys hN G1 l1 hba hb1 HX HF HP KC hnil hc
  go_upto_region 5 with fail
  refine named (P := Code.wp _ _ _ _) ?_
  intro w2 hw2
  obtain ⟨b, hb⟩ : ∃ b, b = w1.heap.size := ⟨_, rfl⟩
  have ST := hide (show LSt w1 b 0 w2 from ⟨⟨_, _, _, BK.start (b := b) (w := w2) (by rw [hw2, hb]; exact Cells.new _ _ _), fun j R hR => by
      have := List.mem_of_getElem? hR
      simp at this
      rw [this]; rfl, fun k q => by rw [q, hb]; exact Nat.le_refl _⟩, by rw [hw2]; exact alloc_below _ _⟩)
  rw [← hb]
  clear hw2 hb
  go_wp2_with fail
  go_loopw [7] (fun v wz => ∃ i : Nat, v = .int .i64 (i : Int) ∧ i ≤ 10 ∧ LSt w1 b (2 * i) wz) (fun v _ => 11 - (intOf v).toNat)
  case atStart => exact ⟨0, rfl, Nat.zero_le _, ST.out⟩
  case round =>
    obtain ⟨i, rfl, hi, hst⟩ := hrel
    obtain ⟨w2, rfl⟩ : ∃ z : World, z = wr := ⟨_, rfl⟩
    have SI := hide hst
    clear hst ST
    by_cases h1 : i < m
    · have d1 : decide ((i : Int) < (m : Int)) = true := decide_eq_true (by omega)
      have b1 : (i : Int) < (m : Int) := by omega
      by_cases h2 : i < 10
      · have d2 : decide ((i : Int) < 10) = true := decide_eq_true (by omega)
        obtain ⟨pb, po, rfl, plt, hpc⟩ := (PS.out.below SI.out.be).at (i := i) (by have := HM.out; omega)
        generalize ps[i]'_ = pt at *
        have PC := hide (show ∀ wz, Below w2.heap.size w2 wz → wz.cell? ⟨pb, po + i, none⟩ = some (.int .i64 pt) from fun wz hb => (hb.cell (p := ⟨pb, po + i, none⟩) plt).trans hpc)
        clear plt hpc
        obtain ⟨S, vs, Rs, BK0, LK0, SL0⟩ := SI.out.ex
        have YR2 := hide (YR.out.below SI.out.be)
        have BE2 := hide SI.out.be
        clear SI
        obtain ⟨F, hF⟩ : ∃ F, F = runF (rsOf ys) pt := ⟨_, rfl⟩
        obtain ⟨E, hE⟩ : ∃ E, E = runE (rsOf ys) pt := ⟨_, rfl⟩
        have LF := run_len (rs := rsOf ys) (pt := pt) (by simp; have := YN.out; omega) (fun r hr => by
          obtain ⟨y, hy, rfl⟩ := List.mem_map.1 hr
          exact (YF.out y hy).2.1)
        rw [← hF] at LF
        obtain ⟨n1, hn1⟩ : ∃ z, z = F.live.length := ⟨_, rfl⟩
        obtain ⟨n2, hn2⟩ : ∃ z, z = F.dirty.length := ⟨_, rfl⟩
        obtain ⟨fr, hfr⟩ : ∃ z, z = F.fr := ⟨_, rfl⟩
        obtain ⟨nx, hnx⟩ : ∃ z, z = F.next := ⟨_, rfl⟩
        rw [← hn1, ← hn2] at LF
        have KY := hide (fun wz (hb : Below w2.heap.size w2 wz) => run_form (rrun_any ys la N lc pt wz (YR2.out.below hb) YN.out (by omega) (fun x hx => (YF.out x hx).1.ln)) F E fr nx n1 n2 hF.symm hE.symm hn1 hn2 hfr hnx)
        have KZ := hide (fun (zs : List RX) (hr : rsOf zs = rsOf ys) (g c' : Nat) (hz : zs.length = N) (hc : N ≤ c') wz (hb : RecsAt wz (some ⟨g, 0, none⟩) zs) => run_form (run_any zs (some ⟨g, 0, none⟩) N c' pt wz hb hz.symm (by omega) hc nofun) F E fr nx n1 n2 (by rw [hr]; exact hF.symm) (by rw [hr]; exact hE.symm) hn1 hn2 hfr hnx)
        have KS := hide (fun (xa xd ya yd : Option Addr) (k1 k2 k3 k4 : Nat) wz (q1 : Lies wz xa (rowsC lvC F.live) ∧ Lies wz xd (dirtyCs F.dirty)) (q2 : Lies wz ya (rowsC lvC F.live) ∧ Lies wz yd (dirtyCs F.dirty)) => show Calls Tryz.prog 10 #[.agg #[.slice xa n1 k1, .slice xd n2 k2, .int .i64 fr, .int .i64 nx], .agg #[.slice ya n1 k3, .slice yd n2 k4, .int .i64 fr, .int .i64 nx]] wz fun e w' => e = .returned (.bool true) ∧ Below wz.heap.size wz w' by
          rw [hfr, hnx]
          exact same_true F xa xd ya yd n1 n2 k1 k2 k3 k4 wz q1.1 q2.1 q1.2 q2.2 hn1 hn2 (by omega) (by omega))
        clear hF hE hn1 hn2 hfr hnx
        have LN1 : n1 ≤ 900 := LF.1
        have LN2 : n2 ≤ 900 := LF.2
        have BK0 := hide BK0
        have LK0 := hide LK0
        have SL0 := hide SL0
        clear LF
        go_wp2_with fail
        refine (lent_any ys la N lc w2 YR2.out YN.out (by omega) YF.out).mono ?_
        rintro e w3 ⟨oa, oc, zs, rfl, zl, zr, LN, b3⟩
        obtain ⟨g, rfl, hgc, hgB, hgl, -⟩ := LN.mark
        rw [zl] at hgc
        have HG := hide (And.intro hgB hgl)
        have LNT := hide LN
        have ZL := hide zl
        have ZR := hide zr
        have B3 := hide b3
        clear LN hgB hgl zl zr b3
        obtain q1 := PC.out w3 B3.out
        go_wp2_with fail
        clear q1
        refine (KZ.out zs ZR.out g oc ZL.out (by omega) w3 LNT.out.recs).mono ?_
        rintro e w4 ⟨xa, xc, xd, xe, rfl, FX⟩
        have HFX := hide FX
        have B4 := hide (show Below w2.heap.size w2 w4 from B3.out.trans (FX.be.mono B3.out.size))
        clear FX
        go_upto_region 10 with fail
        refine named (P := Code.wp _ _ _ _) ?_
        intro w5 hw5
        obtain ⟨bx, hbx⟩ : ∃ z, z = w4.heap.size := ⟨_, rfl⟩
        have CX := hide (show Cells w5 bx [.slice xa n1 xc, .slice xd n2 xe, .int .i64 fr, .int .i64 nx] by rw [hw5, hbx]; exact Cells.new _ _ _)
        have A5 := hide (show Below w4.heap.size w4 w5 by rw [hw5]; exact alloc_below _ _)
        have HBX := hide hbx
        rw [← hbx]
        clear hw5 hbx
        have B5 := hide (B4.out.trans (A5.out.mono B4.out.size))
        obtain q1 := PC.out w5 B5.out
        go_wp2_with fail
        clear q1
        refine (KZ.out zs ZR.out g oc ZL.out (by omega) w5 ((LNT.out.recs.below HFX.out.be).below A5.out)).mono ?_
        rintro e w6 ⟨ya, yc, yd, ye, rfl, FY⟩
        have HFY := hide FY
        have B6 := hide (show Below w2.heap.size w2 w6 from B5.out.trans (FY.be.mono B5.out.size))
        clear FY
        go_upto_region 11 with fail
        refine named (P := Code.wp _ _ _ _) ?_
        intro w7 hw7
        obtain ⟨by', hby⟩ : ∃ z, z = w6.heap.size := ⟨_, rfl⟩
        have CY := hide (show Cells w7 by' [.slice ya n1 yc, .slice yd n2 ye, .int .i64 fr, .int .i64 nx] by rw [hw7, hby]; exact Cells.new _ _ _)
        have A7 := hide (show Below w6.heap.size w6 w7 by rw [hw7]; exact alloc_below _ _)
        have HBY := hide hby
        rw [← hby]
        clear hw7 hby
        have B7 := hide (B6.out.trans (A7.out.mono B6.out.size))
        obtain q1 := PC.out w7 B7.out
        go_wp2_with fail
        clear q1
        refine (KY.out w7 B7.out).mono ?_
        rintro e w8 ⟨ta, tc, td, te, rfl, FT⟩
        have HFT := hide FT
        have B8 := hide (show Below w2.heap.size w2 w8 from B7.out.trans (FT.be.mono B7.out.size))
        clear FT
        go_upto_region 12 with fail
        refine named (P := Code.wp _ _ _ _) ?_
        intro w9 hw9
        obtain ⟨bt, hbt⟩ : ∃ z, z = w8.heap.size := ⟨_, rfl⟩
        have CT := hide (show Cells w9 bt [.slice ta n1 tc, .slice td n2 te, .int .i64 fr, .int .i64 nx] by rw [hw9, hbt]; exact Cells.new _ _ _)
        have A9 := hide (show Below w8.heap.size w8 w9 by rw [hw9]; exact alloc_below _ _)
        rw [← hbt]
        clear hw9 hbt
        have B9 := hide (B8.out.trans (A9.out.mono B8.out.size))
        have U4 := hide (show Below w4.heap.size w4 w9 from A5.out.trans (((HFY.out.be.trans (A7.out.mono HFY.out.be.size)).trans ((HFT.out.be.trans (A9.out.mono HFT.out.be.size)).mono (Nat.le_trans HFY.out.be.size A7.out.size))).mono A5.out.size))
        have U6 := hide (show Below w6.heap.size w6 w9 from A7.out.trans ((HFT.out.be.trans (A9.out.mono HFT.out.be.size)).mono A7.out.size))
        have U3 := hide (show Below w3.heap.size w3 w9 from HFX.out.be.trans (U4.out.mono HFX.out.be.size))
        have CX9 := hide (CX.out.below (show Below w5.heap.size w5 w9 from (HFY.out.be.trans (U6.out.mono HFY.out.be.size))))
        have CY9 := hide (CY.out.below (show Below w7.heap.size w7 w9 from (HFT.out.be.trans (A9.out.mono HFT.out.be.size))))
        have SZ := hide (show w2.heap.size ≤ w3.heap.size ∧ w3.heap.size ≤ w4.heap.size ∧ w4.heap.size < w5.heap.size ∧ w5.heap.size ≤ w6.heap.size ∧ w6.heap.size < w7.heap.size ∧ w7.heap.size ≤ w9.heap.size from ⟨B3.out.size, HFX.out.be.size, by have := CX.out.1; have := HBX.out; omega, HFY.out.be.size, by have := CY.out.1; have := HBY.out; omega, Nat.le_trans HFT.out.be.size A9.out.size⟩)
        clear CX CY A5 A7 B3 B4 B5 B6 B7 B8
        obtain ⟨x0, -⟩ := CX9.out.get 0 _ rfl
        obtain ⟨x1, -⟩ := CX9.out.get 1 _ rfl
        obtain ⟨x2, -⟩ := CX9.out.get 2 _ rfl
        obtain ⟨x3, -⟩ := CX9.out.get 3 _ rfl
        obtain ⟨t0, -⟩ := CT.out.get 0 _ rfl
        obtain ⟨t1, -⟩ := CT.out.get 1 _ rfl
        obtain ⟨t2, -⟩ := CT.out.get 2 _ rfl
        obtain ⟨t3, -⟩ := CT.out.get 3 _ rfl
        go_wp2_with (go_at_call 9; refine (num_eq _ _).mono ?_; rintro e wz ⟨rfl, rfl⟩)
        refine (KS.out xa xd ta td xc xe tc te w9 (HFX.out.lies U4.out) (HFT.out.lies A9.out)).mono ?_
        rintro e w10 ⟨rfl, h10⟩
        have H10 := hide h10
        clear x0 x1 x2 x3 t0 t1 t2 t3 h10
        obtain ⟨y0, -⟩ := (CY9.out.below H10.out).get 0 _ rfl
        obtain ⟨y1, -⟩ := (CY9.out.below H10.out).get 1 _ rfl
        obtain ⟨y2, -⟩ := (CY9.out.below H10.out).get 2 _ rfl
        obtain ⟨y3, -⟩ := (CY9.out.below H10.out).get 3 _ rfl
        obtain ⟨t0, -⟩ := (CT.out.below H10.out).get 0 _ rfl
        obtain ⟨t1, -⟩ := (CT.out.below H10.out).get 1 _ rfl
        obtain ⟨t2, -⟩ := (CT.out.below H10.out).get 2 _ rfl
        obtain ⟨t3, -⟩ := (CT.out.below H10.out).get 3 _ rfl
        go_wp2_with fail
        refine (KS.out ya yd ta td yc ye tc te w10 (HFY.out.lies (U6.out.trans (H10.out.mono U6.out.size))) (HFT.out.lies (A9.out.trans (H10.out.mono A9.out.size)))).mono ?_
        rintro e w11 ⟨rfl, h11⟩
        have H11 := hide (show Below w9.heap.size w9 w11 from H10.out.trans (h11.mono H10.out.size))
        clear y0 y1 y2 y3 t0 t1 t2 t3 h11 H10
        go_wp2_with fail
        refine (kept_any ys zs (some ⟨g, 0, none⟩) la N oc lc w2.heap.size w11 ((LNT.out.below U3.out).below H11.out) (YR2.out.below (B9.out.trans (H11.out.mono B9.out.size))) YN.out (by omega) ZL.out ZR.out (fun x hx => (YF.out x hx).2)).mono ?_
        rintro e w12 ⟨rfl, h12⟩
        have H12 := hide (show Below w9.heap.size w9 w12 from H11.out.trans (h12.mono H11.out.size))
        clear h12 H11
        obtain ⟨x0, -⟩ := (CX9.out.below H12.out).get 0 _ rfl
        obtain ⟨x1, -⟩ := (CX9.out.below H12.out).get 1 _ rfl
        obtain ⟨x2, -⟩ := (CX9.out.below H12.out).get 2 _ rfl
        obtain ⟨x3, -⟩ := (CX9.out.below H12.out).get 3 _ rfl
        go_wp2_with fail
        have SZ12 := hide H12.out.size
        have GX1 := GRow.mono (GRow.below (GRow.below HFX.out.li U4.out) H12.out) (Nat.zero_le _)
        have GX2 := GRow.mono (GRow.below (GRow.below HFX.out.di U4.out) H12.out) (Nat.zero_le _)
        have OX := HFX.out.own
        have OY := HFY.out.own
        have SS : ∀ k, S k → k < w2.heap.size := BK0.out.lt
        have BKW := hide (BK0.out.below (B9.out.trans (H12.out.mono B9.out.size)))
        refine (keep_any S b (2 * i) vs Rs fr nx xa xd n1 n2 xc xe _ _ w12 BKW.out LK0.out (by omega) GX1 GX2 LN1 LN2 (fun k q s => by have := (OX k (.inl q)).1; have := SS k s; have := SZ.out; omega) (fun k q s => by have := (OX k (.inr q)).1; have := SS k s; have := SZ.out; omega)).mono ?_
        rintro e w13 ⟨rfl, S1, vs1, Rs1, BK1, LK1, SU1, KP1⟩
        have CYW := CY9.out.below H12.out
        have CY13 := CYW.keep KP1 (fun q => by
          have e6 := HBY.out
          have := SZ.out
          rcases q with q | q
          · have := SS _ q; omega
          · have := (OX _ q).2; omega)
        have GY1 := GRow.mono (GRow.keep (GRow.below (GRow.below HFY.out.li U6.out) H12.out) KP1 (fun k q s => by
          have := (OY k (.inl q)).1
          have := SZ.out
          rcases s with s | s
          · have := SS _ s; omega
          · have := (OX _ s).2; omega)) (Nat.zero_le _)
        have GY2 := GRow.mono (GRow.keep (GRow.below (GRow.below HFY.out.di U6.out) H12.out) KP1 (fun k q s => by
          have := (OY k (.inr q)).1
          have := SZ.out
          rcases s with s | s
          · have := SS _ s; omega
          · have := (OX _ s).2; omega)) (Nat.zero_le _)
        have TH := there_of (k := 0) ((LNT.out.below U3.out).below H12.out).row
        have S1L : ∀ k, S1 k → k < w2.heap.size ∨ (w3.heap.size ≤ k ∧ k < w4.heap.size) ∨ w12.heap.size ≤ k := fun k q => by
          by_cases hk : k < w12.heap.size
          · rcases SU1 k hk q with s | s
            · exact .inl (SS k s)
            · exact .inr (.inl (OX k s))
          · exact .inr (.inr (by omega))
        obtain ⟨y0, -⟩ := CY13.get 0 _ rfl
        obtain ⟨y1, -⟩ := CY13.get 1 _ rfl
        obtain ⟨y2, -⟩ := CY13.get 2 _ rfl
        obtain ⟨y3, -⟩ := CY13.get 3 _ rfl
        have HKP1 := hide KP1
        have HBK1 := hide BK1
        have HLK1 := hide LK1
        have HSU1 := hide SU1
        have HS1L := hide S1L
        have HOX := hide OX
        have HOY := hide OY
        have HSS := hide SS
        have HTH := hide TH
        have HGY := hide (And.intro GY1 GY2)
        clear KP1 BK1 LK1 SU1 S1L OX OY SS TH GY1 GY2 CYW CY13 GX1 GX2 x0 x1 x2 x3
        go_wp2_with fail
        refine (keep_any S1 b (2 * i + 1) vs1 Rs1 fr nx ya yd n1 n2 yc ye _ _ w13 HBK1.out HLK1.out (by omega) HGY.out.1 HGY.out.2 LN1 LN2 (fun k q s => by have := HOY.out k (.inl q); have := HS1L.out k s; have := SZ.out; have := SZ12.out; omega) (fun k q s => by have := HOY.out k (.inr q); have := HS1L.out k s; have := SZ.out; have := SZ12.out; omega)).mono ?_
        rintro e w14 ⟨rfl, S2, vs2, Rs2, BK2, LK2, SU2, KP2⟩
        have GN : ¬ S2 g := fun q => by
          have h1 := HG.out
          have := SZ.out
          have := SZ12.out
          have s13 := HKP1.out.size
          rcases SU2 g (by omega) q with s | s
          · have := HS1L.out g s; omega
          · have := HOY.out g s; omega
        have LST : ∀ k, S2 k → w1.heap.size ≤ k := fun k q => by
          have h1 := HKP1.out.size
          have := SZ.out
          have := SZ12.out
          have b2 := BE2.out.size
          by_cases hk : k < w13.heap.size
          · rcases SU2 k hk q with s | s
            · by_cases hk2 : k < w12.heap.size
              · rcases HSU1.out k hk2 s with s | s
                · exact SL0.out k s
                · have := HOX.out k s; omega
              · omega
            · have := HOY.out k s; omega
          · omega
        have TH14 := hide (show w14.there g 0 ((N + 1) * 17) from fun j hj => by
          have t := HTH.out j (by rw [ZL.out]; exact hj)
          have h1 := HG.out
          have := SZ.out
          have := SZ12.out
          have s13 := HKP1.out.size
          have na : ¬ (S g ∨ (Value.slice xa n1 xc).ownBlock = some g ∨ (Value.slice xd n2 xe).ownBlock = some g) := fun q => by
            rcases q with q | q
            · have := HSS.out g q; omega
            · have := HOX.out g q; omega
          have nb : ¬ (S1 g ∨ (Value.slice ya n1 yc).ownBlock = some g ∨ (Value.slice yd n2 ye).ownBlock = some g) := fun q => by
            rcases q with q | q
            · have := HS1L.out g q; omega
            · have := HOY.out g q; omega
          rw [KP2.cell (p := ⟨g, 0 + j, none⟩) (by show g < _; omega) nb, HKP1.out.cell (p := ⟨g, 0 + j, none⟩) (by show g < _; omega) na, KP2.frozen (p := ⟨g, 0 + j, none⟩) (by show g < _; omega) nb, HKP1.out.frozen (p := ⟨g, 0 + j, none⟩) (by show g < _; omega) na]
          exact t)
        have BE14 := hide (show Below w1.heap.size w1 w14 from by
          have b12 : Below w1.heap.size w1 w12 := BE2.out.trans ((B9.out.trans (H12.out.mono B9.out.size)).mono BE2.out.size)
          have h1 := SZ.out
          have b2 := BE2.out.size
          have b13 := b12.trans (HKP1.out.below b12.size (fun k hk q => by
            rcases q with q | q
            · have := SL0.out k q; omega
            · have := HOX.out k q; omega))
          exact b13.trans (KP2.below b13.size (fun k hk q => by
            rcases q with q | q
            · have := HSU1.out k (Nat.lt_of_lt_of_le hk b12.size) q
              rcases this with s | s
              · have := SL0.out k s; omega
              · have := HOX.out k s; omega
            · have := HOY.out k q; omega)))
        have GW1 := hide (show w1.heap.size ≤ g from by have := HG.out; have := BE2.out.size; omega)
        have HBK2 := hide BK2
        have HLK2 := hide LK2
        have HGN := hide GN
        have HLST := hide LST
        clear BK2 LK2 GN LST KP2 SU2 HTH HKP1 HBK1 HLK1 HSU1 HS1L HOX HOY HSS HGY BKW BK0 LK0 SL0 CX9 CY9 CT U3 U4 U6 HFX HFY HFT A9 B9 H12 LNT ZR KY KZ KS YR2 BE2 y0 y1 y2 y3 SZ SZ12
        go_upto_region 16 with fail
        go_wp2_with fail
        go_loopw [16] (fun v wz => ∃ k : Nat, v = .int .i64 (k : Int) ∧ k ≤ N ∧ wz.there g 0 ((N + 1) * 17) ∧ Keep (fun z => z = g) w14 wz) (fun v _ => N + 1 - (intOf v).toNat)
        case atStart => exact ⟨0, rfl, Nat.zero_le _, TH14.out, Keep.refl _ _⟩
        case round =>
          obtain ⟨k, rfl, hk, ht, hkp⟩ := hrel
          by_cases hkN : k < N
          · have f1 : decide ((k : Int) < (N : Int)) = true := decide_eq_true (by omega)
            have f2 : (k : Int) < (N : Int) := by omega
            have TA := hide (there_at ht (show k < N + 1 by omega))
            have TB := hide (fun (vs : List Value) => World.there_setCells ht g (k * 17) vs)
            have KB := hide (fun (vs : List Value) => hkp.trans (keep_setCells g vs (k * 17) wr) (fun _ _ q => q))
            clear ht hkp
            go_wp2_with (first | (refine wpList_b46 #[(2, (.const (.int .i64 9)))] #[.int .i64 0, .int .i64 0, .int .i64 9, .int .i64 0, .int .i64 0, .int .i64 0, .int .i64 0, .int .i64 0, .int .i64 0, .int .i64 0, .int .i64 0, .int .i64 0, .int .i64 0, .int .i64 0, .slice none 0 0, .slice none 0 0, .int .i64 0] ?hf ?_; case hf => kernel_rfl) | refine wpList_st46At TA.out rfl rfl rfl rfl ?_)
            go_roundw
            case rel => exact ⟨k + 1, by go_num, by omega, TB.out _, KB.out _⟩
            case measure => simp [intOf]; omega
          · obtain rfl : k = N := by omega
            have f1 : decide ((k : Int) < (k : Int)) = false := decide_eq_false (by omega)
            have BKE := hide (HBK2.out.keep hkp (fun z q s => HGN.out (by rw [← s]; exact q)))
            have BEE := hide (show Below w1.heap.size w1 wr from BE14.out.trans (hkp.below BE14.out.size (fun z hz q => by have := GW1.out; omega)))
            clear ht hkp
            go_wp2_with (go_at_call 13; refine (holds_any S2 b _ vs2 Rs2 wr BKE.out HLK2.out (by omega)).mono ?_; rintro e wz ⟨rfl, rfl⟩)
            go_roundw
            case rel => exact ⟨i + 1, by go_num, by omega, ⟨⟨S2, vs2, Rs2, by rw [show 2 * (i + 1) = 2 * i + 1 + 1 by omega]; exact BKE.out, by rw [show 2 * (i + 1) = 2 * i + 1 + 1 by omega]; exact HLK2.out, HLST.out⟩, BEE.out⟩⟩
            case measure => simp [intOf]; omega
      · have d2 : decide ((i : Int) < 10) = false := decide_eq_false (by omega)
        have BF := hide (BW.out.trans (SI.out.be.mono BW.out.size))
        go_wp2_with fail
        go_ret
        exact ⟨rfl, BF.out⟩
    · have d1 : decide ((i : Int) < (m : Int)) = false := decide_eq_false (by omega)
      have BF := hide (BW.out.trans (SI.out.be.mono BW.out.size))
      go_wp2_with fail
      go_ret
      exact ⟨rfl, BF.out⟩
end Go.Proofs.YtblngphjoafidaaGreat

set_option linter.all false
namespace Go.Proofs.YtblngphjoafidaaGreat
open Go.ChangeShapes Go.WideShapes Go.ChangeAt Go.RowKit Go.Deep Go.QK Go.Joins Go.QT
set_option maxRecDepth 100000
theorem own : ownKnob Tryz.prog.godebug = none := by kernel_rfl
theorem laidOut : laidOutB Tryz.prog = true := by kernel_rfl
theorem cells3 : Tryz.prog.cellsOf 3 = 1 := by kernel_rfl
theorem i64_wf {z : Int} (h : (Lit.int .i64 z).wf = true) : I64 z := by
  have h1 : IntKind.i64.min ≤ z ∧ z ≤ IntKind.i64.max := by simpa [Lit.wf] using h
  have e1 : IntKind.i64.min = -9223372036854775808 := rfl
  have e2 : IntKind.i64.max = 9223372036854775807 := rfl
  unfold I64
  omega
theorem pick_list {α : Type} (p : Nat → α → Prop) (n : Nat) (h : ∀ i, i < n → ∃ y, p i y) : ∃ l : List α, l.length = n ∧ ∀ i (hi : i < l.length), p i l[i] := by
  induction n with
  | zero => exact ⟨[], rfl, fun i hi => by cases hi⟩
  | succ n ih =>
    obtain ⟨l, e, q⟩ := ih (fun i hi => h i (by omega))
    obtain ⟨y, hy⟩ := h n (by omega)
    refine ⟨l ++ [y], by simp [e], fun i hi => ?_⟩
    by_cases hl : i < l.length
    · rw [List.getElem_append_left hl]; exact q i hl
    · have : i = l.length := by simp at hi; omega
      subst this
      rw [List.getElem_append_right (by omega)]
      simp
      rw [e]
      exact hy

theorem cells2 : Tryz.prog.cellsOf 2 = 1 := by kernel_rfl
theorem cells4 : Tryz.prog.cellsOf 4 = 1 := by kernel_rfl
theorem cells31 : Tryz.prog.cellsOf 31 = 1 := by kernel_rfl
theorem cells32 : Tryz.prog.cellsOf 32 = 1 := by kernel_rfl
theorem cells45 : Tryz.prog.cellsOf 45 = 1 := by kernel_rfl
theorem cells47 : Tryz.prog.cellsOf 47 = 2 := by kernel_rfl
theorem cells49 : Tryz.prog.cellsOf 49 = 2 := by kernel_rfl
theorem cells51 : Tryz.prog.cellsOf 51 = 5 := by kernel_rfl
theorem cells53 : Tryz.prog.cellsOf 53 = 3 := by kernel_rfl
theorem cells55 : Tryz.prog.cellsOf 55 = 17 := by kernel_rfl
theorem cells58 : Tryz.prog.cellsOf 58 = 4 := by kernel_rfl
theorem cells60 : Tryz.prog.cellsOf 60 = 2 := by kernel_rfl
theorem lst2 {α : Type} {l : List α} (h : l.length = 2) : ∃ a b, l = [a, b] := by
  match l, h with
  | [a, b], _ => exact ⟨a, b, rfl⟩
theorem lst3 {α : Type} {l : List α} (h : l.length = 3) : ∃ a b c, l = [a, b, c] := by
  match l, h with
  | [a, b, c], _ => exact ⟨a, b, c, rfl⟩
theorem lst4 {α : Type} {l : List α} (h : l.length = 4) : ∃ a b c d, l = [a, b, c, d] := by
  match l, h with
  | [a, b, c, d], _ => exact ⟨a, b, c, d, rfl⟩
theorem lst5 {α : Type} {l : List α} (h : l.length = 5) : ∃ a b c d e, l = [a, b, c, d, e] := by
  match l, h with
  | [a, b, c, d, e], _ => exact ⟨a, b, c, d, e, rfl⟩
theorem lst9 {α : Type} {l : List α} (h : l.length = 9) : ∃ a b c d e f g i j, l = [a, b, c, d, e, f, g, i, j] := by
  match l, h with
  | [a, b, c, d, e, f, g, i, j], _ => exact ⟨a, b, c, d, e, f, g, i, j, rfl⟩
theorem lst17 {α : Type} {l : List α} (h : l.length = 17) : ∃ a b c d e f g i j k m n o p q r s, l = [a, b, c, d, e, f, g, i, j, k, m, n, o, p, q, r, s] := by
  match l, h with
  | [a, b, c, d, e, f, g, i, j, k, m, n, o, p, q, r, s], _ => exact ⟨a, b, c, d, e, f, g, i, j, k, m, n, o, p, q, r, s, rfl⟩
variable {H : Type} {enc : TypeId × Value → H} {W : World}
theorem rows_lies {α : Type} {b off : Nat} (f : α → List Value) (n : Nat) (hf : ∀ x, (f x).length = n) (hn : 0 < n) (ls : List α) (hb : b < W.heap.size) (h : ∀ i (hi : i < ls.length) j v, (f ls[i])[j]? = some v → W.cell? ⟨b, off + i * n + j, none⟩ = some v) : Lies W (some ⟨b, off, none⟩) (rowsC f ls) := by
  refine .inr ⟨b, off, rfl, hb, fun i hi => ?_⟩
  have hl := (rowsC_length f n hf ls).trans (Nat.mul_comm _ _)
  have hi' : i / n < ls.length := by
    rw [hl] at hi
    exact Nat.div_lt_of_lt_mul hi
  have e := rowsC_get f n hf ls (i / n) hi' (i % n) (Nat.mod_lt _ hn)
  rw [Nat.div_add_mod, List.getElem?_eq_getElem hi] at e
  have q := h (i / n) hi' (i % n) _ e.symm
  rw [← q]
  have e2 : off + i / n * n + i % n = off + i := by rw [Nat.add_assoc, Nat.mul_comm (i / n) n, Nat.div_add_mod]
  rw [e2]

/-- A row of structs that came in. -/
theorem open_rowsN {α : Type} {T E : TypeId} {k : Nat} (f : α → List Value) (ok : α → Prop) (hu : Tryz.prog.underlying T = some (.slice E)) (hc : Tryz.prog.cellsOf E = k) (hk : 0 < k) (hfl : ∀ x, (f x).length = k)
    (hopen : ∀ {fuel : Nat} {cs : List Value} {x : DataW H × List MemPlace}, DataW.trod enc Tryz.prog W 0 (fun _ => true) true fuel E cs = some x → ∃ y, cs = f y ∧ ok y)
    {fuel : Nat} {v : Value} {x : DataW H × List MemPlace} (hf : DataW.trod enc Tryz.prog W 0 (fun _ => true) true fuel T [v] = some x) :
    ∃ (a : Option Addr) (xs : List α) (c : Nat), v = .slice a xs.length c ∧ Lies W a (rowsC f xs) ∧ (∀ y ∈ xs, ok y) ∧ xs.length ≤ maxLen ∧ xs.length ≤ c ∧ (a = none → c = 0 ∧ xs.length = 0) := by
  rcases open_slice hu hf with ⟨hcs, _⟩ | ⟨x, l, c, m, n, D, Pl, hcs, _, hl, hm, hmm, rfl, hx⟩
  · simp at hcs
    subst hcs
    exact ⟨none, [], 0, rfl, .inl rfl, nofun, Nat.zero_le _, Nat.le_refl _, fun _ => ⟨rfl, rfl⟩⟩
  · simp at hcs
    subst hcs
    simp at hmm
    obtain ⟨b, off, spot⟩ := x
    have key : ∀ i, i < l → ∃ y : α, (∀ j v, (f y)[j]? = some v → W.cell? (((⟨b, off, spot⟩ : Addr).add (i * k)).add j) = some v) ∧ ok y := by
      intro i hi
      obtain ⟨cs, h1, h2⟩ := hx i (by omega)
      rw [hc] at h1
      obtain ⟨_, _, hcc⟩ := World.cells?_some h1
      obtain ⟨y, rfl, hy⟩ := hopen h2
      refine ⟨y, fun j v hv => ?_, hy⟩
      have hj : j < k := by
        obtain ⟨hh, _⟩ := List.getElem?_eq_some_iff.1 hv
        rw [hfl] at hh
        exact hh
      exact (hcc j hj).trans hv
    obtain ⟨ls, el, q⟩ := pick_list _ l key
    subst el
    refine ⟨some ⟨b, off, spot⟩, ls, c, rfl, ?_, fun x hx => ?_, Nat.le_trans hl hm, hl, nofun⟩
    · by_cases h0 : ls.length = 0
      · exact .inl (by rw [List.eq_nil_of_length_eq_zero h0]; rfl)
      · have hz : 0 < (f (ls[0]'(by omega))).length := by rw [hfl]; exact hk
        have q0 := (q 0 (by omega)).1 0 _ (List.getElem?_eq_getElem hz)
        have hspot : spot = none := by simpa [Addr.add] using World.cell?_spot q0
        subst hspot
        rw [addr_add, addr_add] at q0
        refine rows_lies f k hfl hk ls (World.block_lt_of_cell? _ _ q0) (fun i hi j v hv => ?_)
        have := (q i hi).1 j v hv
        rw [addr_add, addr_add] at this
        exact this
    · obtain ⟨i, hi, rfl⟩ := List.getElem_of_mem hx
      exact (q i hi).2

theorem open_live {fuel : Nat} {cs : List Value} {x : DataW H × List MemPlace} (h : DataW.trod enc Tryz.prog W 0 (fun _ => true) true fuel 58 cs = some x) : ∃ l : LiveM, cs = liveC l ∧ True := by
  obtain ⟨ys, n, _, rfl, hl, hlen, hf⟩ := DataW.trod_struct Tryz.underlying58 h
  rw [cells58] at hl
  obtain ⟨c0, c1, c2, c3, rfl⟩ := lst4 hl
  obtain ⟨y0, y1, y2, y3, rfl⟩ := lst4 (show ys.length = 4 by simpa using hlen)
  have f0 := hf 0 _ rfl
  have f1 := hf 1 _ rfl
  have f2 := hf 2 _ rfl
  have f3 := hf 3 _ rfl
  simp [cells3, cells4] at f0 f1 f2 f3
  obtain ⟨a, e0, _, _⟩ := DataW.trod_int Tryz.underlying3 f0
  obtain ⟨b, e1, _, _⟩ := DataW.trod_int Tryz.underlying3 f1
  obtain ⟨c, e2, _⟩ := DataW.trod_bool Tryz.underlying4 f2
  obtain ⟨d, e3, _⟩ := DataW.trod_bool Tryz.underlying4 f3
  simp at e0 e1 e2 e3
  subst e0 e1 e2 e3
  exact ⟨⟨a, b, c, d⟩, rfl, trivial⟩
theorem open_dirty {fuel : Nat} {cs : List Value} {x : DataW H × List MemPlace} (h : DataW.trod enc Tryz.prog W 0 (fun _ => true) true fuel 60 cs = some x) : ∃ l : DirtyM, cs = dirtyC l ∧ True := by
  obtain ⟨ys, n, _, rfl, hl, hlen, hf⟩ := DataW.trod_struct Tryz.underlying60 h
  rw [cells60] at hl
  obtain ⟨c0, c1, rfl⟩ := lst2 hl
  obtain ⟨y0, y1, rfl⟩ := lst2 (show ys.length = 2 by simpa using hlen)
  have f0 := hf 0 _ rfl
  have f1 := hf 1 _ rfl
  simp [cells3] at f0 f1
  obtain ⟨a, e0, _, _⟩ := DataW.trod_int Tryz.underlying3 f0
  obtain ⟨b, e1, _, _⟩ := DataW.trod_int Tryz.underlying3 f1
  simp at e0 e1
  subst e0 e1
  exact ⟨⟨a, b⟩, rfl, trivial⟩
set_option maxHeartbeats 2000000 in
theorem open_recX {fuel : Nat} {cs : List Value} {x : DataW H × List MemPlace} (h : DataW.trod enc Tryz.prog W 0 (fun _ => true) true fuel 55 cs = some x) :
    ∃ y : RX, cs = rxC y ∧ RXIn W y ∧ Fine y := by
  obtain ⟨ys, n, _, rfl, hl, hlen, hf⟩ := DataW.trod_struct Tryz.underlying55 h
  rw [cells55] at hl
  obtain ⟨c0, c1, c2, c3, c4, c5, c6, c7, c8, c9, c10, c11, c12, c13, c14, c15, c16, rfl⟩ := lst17 hl
  have hlen' : ys.length = 9 := by simpa using hlen
  obtain ⟨y0, y1, y2, y3, y4, y5, y6, y7, y8, rfl⟩ := lst9 hlen'
  have f0 := hf 0 _ rfl
  have f1 := hf 1 _ rfl
  have f2 := hf 2 _ rfl
  have f3 := hf 3 _ rfl
  have f4 := hf 4 _ rfl
  have f5 := hf 5 _ rfl
  have f6 := hf 6 _ rfl
  have f7 := hf 7 _ rfl
  have f8 := hf 8 _ rfl
  simp [cells3, cells45, cells47, cells2, cells51, cells53] at f0 f1 f2 f3 f4 f5 f6 f7 f8
  obtain ⟨q0, e0, _, _⟩ := DataW.trod_int Tryz.underlying3 f0
  obtain ⟨q1, e1, _, _⟩ := DataW.trod_int Tryz.underlying45 f1
  obtain ⟨q2, e2, _, w2⟩ := DataW.trod_int Tryz.underlying3 f2
  obtain ⟨q3, e3, _, _⟩ := DataW.trod_int Tryz.underlying3 f3
  obtain ⟨zs, m, _, _, hl1, hlen1, hf1⟩ := DataW.trod_struct Tryz.underlying47 f4
  obtain ⟨z0, z1, rfl⟩ := lst2 (show zs.length = 2 by simpa using hlen1)
  have g0 := hf1 0 _ rfl
  have g1 := hf1 1 _ rfl
  simp [cells3] at g0 g1
  obtain ⟨q4, e4, _, _⟩ := DataW.trod_int Tryz.underlying3 g0
  obtain ⟨q5, e5, _, _⟩ := DataW.trod_int Tryz.underlying3 g1
  obtain ⟨zs2, m2, _, _, hl2, hlen2, hf2⟩ := DataW.trod_struct Tryz.underlying47 f5
  obtain ⟨z2, z3, rfl⟩ := lst2 (show zs2.length = 2 by simpa using hlen2)
  have g2 := hf2 0 _ rfl
  have g3 := hf2 1 _ rfl
  simp [cells3] at g2 g3
  obtain ⟨q6, e6, _, _⟩ := DataW.trod_int Tryz.underlying3 g2
  obtain ⟨q7, e7, _, _⟩ := DataW.trod_int Tryz.underlying3 g3
  obtain ⟨q8, e8, _, w8⟩ := DataW.trod_int Tryz.underlying2 f6
  obtain ⟨zs3, m3, _, _, hl3, hlen3, hf3⟩ := DataW.trod_struct Tryz.underlying51 f7
  obtain ⟨z4, z5, z6, z7, rfl⟩ := lst4 (show zs3.length = 4 by simpa using hlen3)
  have g4 := hf3 0 _ rfl
  have g5 := hf3 1 _ rfl
  have g6 := hf3 2 _ rfl
  have g7 := hf3 3 _ rfl
  simp [cells3, cells49, cells2] at g4 g5 g6 g7
  obtain ⟨q9, e9, _, _⟩ := DataW.trod_int Tryz.underlying3 g4
  obtain ⟨q10, e10, _, _⟩ := DataW.trod_int Tryz.underlying3 g5
  obtain ⟨zs4, m4, _, _, hl4, hlen4, hf4⟩ := DataW.trod_struct Tryz.underlying49 g6
  obtain ⟨z8, z9, rfl⟩ := lst2 (show zs4.length = 2 by simpa using hlen4)
  have i0 := hf4 0 _ rfl
  have i1 := hf4 1 _ rfl
  simp [cells2] at i0 i1
  obtain ⟨q11, e11, _, w11⟩ := DataW.trod_int Tryz.underlying2 i0
  obtain ⟨q12, e12, _, w12⟩ := DataW.trod_int Tryz.underlying2 i1
  obtain ⟨q13, e13, _, w13⟩ := DataW.trod_int Tryz.underlying2 g7
  obtain ⟨zs5, m5, _, _, hl5, hlen5, hf5⟩ := DataW.trod_struct Tryz.underlying53 f8
  obtain ⟨z10, z11, z12, rfl⟩ := lst3 (show zs5.length = 3 by simpa using hlen5)
  have j0 := hf5 0 _ rfl
  have j1 := hf5 1 _ rfl
  have j2 := hf5 2 _ rfl
  simp [cells31, cells32, cells3] at j0 j1 j2
  obtain ⟨la, ls, lc, e14, ll, _, _, lcc, lnn⟩ := open_rowsN liveC (fun _ => True) Tryz.underlying31 cells58 (by decide) (fun _ => rfl) (fun h => open_live h) j0
  obtain ⟨da, ds, dc, e15, dl, _, _, dcc, dnn⟩ := open_rowsN dirtyC (fun _ => True) Tryz.underlying32 cells60 (by decide) (fun _ => rfl) (fun h => open_dirty h) j1
  obtain ⟨q16, e16, _, _⟩ := DataW.trod_int Tryz.underlying3 j2
  simp at e0 e1 e2 e3 e4 e5 e6 e7 e8 e9 e10 e11 e12 e13 e16
  subst e0 e1 e2 e3 e4 e5 e6 e7 e8 e9 e10 e11 e12 e13 e14 e15 e16
  exact ⟨⟨⟨q0, q1, q2, q3, q4, q5, q6, q7, q8, q9, q10, q11, q12, q13, ls, ds, q16⟩, la, lc, da, dc⟩, rfl, ⟨ll, dl, i64_wf w2⟩, ⟨fun q => (lnn q).1, fun q => (dnn q).1, lcc, dcc⟩⟩
theorem open_recs {fuel : Nat} {v : Value} {x : DataW H × List MemPlace} (hf : DataW.trod enc Tryz.prog W 0 (fun _ => true) true fuel 22 [v] = some x) :
    ∃ (a : Option Addr) (ds : List RX) (c : Nat), v = .slice a ds.length c ∧ RecsAt W a ds ∧ ds.length ≤ c ∧ (a = none → c = 0) ∧ (∀ d ∈ ds, Fine d) := by
  obtain ⟨a, ds, c, h1, h2, h3, _, h5, h6⟩ := open_rowsN rxC (fun y => RXIn W y ∧ Fine y) Tryz.underlying22 cells55 (by decide) (fun _ => rfl) (fun h => open_recX h) hf
  exact ⟨a, ds, c, h1, ⟨h2, fun d hd => (h3 d hd).1⟩, h5, fun q => (h6 q).1, fun d hd => (h3 d hd).2⟩
theorem open_num {fuel : Nat} {cs : List Value} {x : DataW H × List MemPlace} (h : DataW.trod enc Tryz.prog W 0 (fun _ => true) true fuel 3 cs = some x) : ∃ z : Int, cs = [.int .i64 z] ∧ True := by
  obtain ⟨a, e0, _, _⟩ := DataW.trod_int Tryz.underlying3 h
  exact ⟨a, e0, trivial⟩
theorem open_ints {fuel : Nat} {v : Value} {x : DataW H × List MemPlace} (hf : DataW.trod enc Tryz.prog W 0 (fun _ => true) true fuel 23 [v] = some x) :
    ∃ (a : Option Addr) (ds : List Int) (c : Nat), v = .slice a ds.length c ∧ Seen .i64 W a ds := by
  obtain ⟨a, ds, c, h1, h2, h3, hq⟩ := open_rowsN (fun z : Int => [Value.int .i64 z]) (fun _ => True) Tryz.underlying23 cells3 (by decide) (fun _ => rfl) (fun h => open_num h) hf
  refine ⟨a, ds, c, h1, ?_⟩
  have e : rowsC (fun z : Int => [Value.int .i64 z]) ds = ds.map (.int .i64 ·) := by
    clear h1 h2 h3 hq
    induction ds with
    | nil => rfl
    | cons d ds ih => simp only [rowsC, List.flatMap_cons, List.map_cons] at *; rw [ih]; rfl
  rw [e] at h2
  rcases h2 with h2 | ⟨b, off, ha, hb, hc⟩
  · exact .inl (by simpa using h2)
  · exact .inr ⟨b, off, ha, hb, fun i hi => by have := hc i (by simpa using hi); simpa using this⟩
end Go.Proofs.YtblngphjoafidaaGreat
