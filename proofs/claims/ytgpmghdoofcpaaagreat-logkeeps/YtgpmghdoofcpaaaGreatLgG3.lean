import Derived.Test.YtgpmghdoofcpaaaGreatG46
import Derived.Test.YtgpmghdoofcpaaaGreatH01
import Derived.Test.YtgpmghdoofcpaaaGreatLgK
namespace Go.Proofs.YtgpmghdoofcpaaaGreat.Lg
open Go.RowKit Go.QK
open Dv (hide bnext alloc_below LossAt)
set_option maxRecDepth 100000

theorem run_loadAt (w : World) (b off : Nat) (ty : TypeId) (cs : Array Value) (d : TypeDesc) (hc : ∀ j v, cs.toList[j]? = some v → w.cell? ⟨b, off + j, none⟩ = some v) (hu : Tryz.prog.underlying ty = some d) (hd : (match d with | .struct _ | .array _ _ => true | _ => false) = true) (hi : (Tryz.prog.info? ty).map (·.size) = some cs.size) :
    (loadVar ty ⟨b, off, none⟩).run Tryz.prog w = .ok (.agg cs) w := by
  have hl : (loadCells ⟨b, off, none⟩ cs.toList.length).run Tryz.prog w = .ok cs.toList.toArray w :=
    run_loadCells_list (P := Tryz.prog) w ⟨b, off, none⟩ cs.toList (fun j v hv => by
      rw [addr_add]
      exact hc j v hv)
  cases hq : Tryz.prog.info? ty with
  | none => simp [hq] at hi
  | some i =>
    have hs : i.size = cs.size := by simpa [hq] using hi
    have hagg : (isAgg ty).run Tryz.prog w = .ok true w := by
      unfold isAgg
      rw [Sem.run_bind, run_underlying hu w]
      cases d <;> simp_all
    simp only [Array.length_toList, Array.toArray_toList] at hl
    simp [loadVar, Sem.run_bind, hagg, sizeOf, typeInfo, hq, hs, hl]
section
variable {ops : Array Oper} {rest : List Oper} {a : Act} {w : World} {Q : Exit → Act → World → Prop} {d : Option Tmp} {ty : TypeId} {ps : String} {af : Array Edge} {x : Operand} {b off : Nat} {cs : Array Value}
theorem wpList_load44at (hc : ∀ j v, cs.toList[j]? = some v → w.cell? ⟨b, off + j, none⟩ = some v) (hs : cs.size = 17) (hx : a.eval x = .pointer (some ⟨b, off, none⟩)) (h : wpList Tryz.prog ops Q rest (a.put d (.agg cs)) w) :
    wpList Tryz.prog ops Q ({ dst := d, op := .load 44 x, type := ty, pos := ps, after := af, guard := none } :: rest) a w := by
  have hrun := run_loadAt w b off 44 cs _ hc Tryz.underlying44 rfl (size36' hs)
  refine wpList_plain rfl fun K hK => ?_
  unfold Oper.wp execOp
  simp only [hx, Instr.loadAt, Instr.sureAddr, Sem.run_bind, Sem.run_pure, Result.andThen_ok, hrun]
  exact hK _ _ h
end
/-- A block beside, label 3; and one more. -/
structure Bx (XX : Nat × TypeId × Array Value) (w : World) (lab : Nat → Nat) (b : Nat) (t : TypeId) (cs : Array Value) : Prop where
  box : RBox w b t cs
  lb : lab b = 3
  xbox : RBox w XX.1 XX.2.1 XX.2.2
  xlb : lab XX.1 = 3
theorem LiesL.below {w w' : World} {lab : Nat → Nat} {L : Nat} {a : Option Addr} {cs : List Value} (h : LiesL w lab L a cs) (hb : Below w.heap.size w w') (M : Nat) : LiesL w' (ext lab w.heap.size M) L a cs := h.keep (S := fun _ => False) (Keep.of_below hb) nofun (fun _ q => ext_old q)
theorem nameW {P : World → Prop} {W : World} (h : ∀ w3, w3 = W → P w3) : P W := h W rfl
section
variable {XX : Nat × TypeId × Array Value}
theorem Bx.keep {V : Nat → Prop} {w w' : World} {lab lab' : Nat → Nat} {b : Nat} {t : TypeId} {cs : Array Value} (h : Bx XX w lab b t cs) (hk : Keep V w w') (hV : ∀ k, V k → lab k ≠ 3) (hl : ∀ k, k < w.heap.size → lab' k = lab k) : Bx XX w' lab' b t cs := ⟨h.box.keep hk (fun q => hV b q h.lb), (hl b h.box.lt).trans h.lb, h.xbox.keep hk (fun q => hV _ q h.xlb), (hl _ h.xbox.lt).trans h.xlb⟩
theorem Bx.below {w w' : World} {lab : Nat → Nat} {b : Nat} {t : TypeId} {cs : Array Value} (h : Bx XX w lab b t cs) (hb : Below w.heap.size w w') (L : Nat) : Bx XX w' (ext lab w.heap.size L) b t cs := h.keep (V := fun _ => False) (Keep.of_below hb) nofun (fun _ q => ext_old q)
variable {B : Nat} {w0 w w' : World} {lab : Nat → Nat} {S S' T T' : Nat → Prop} {l d b : Nat} {t : TypeId} {cs : Array Value} {g : Dev} {m : LogM} {av : Value} {xs : List RecL}
theorem Bx.app (h : Bx XX w lab b t cs) (o : Gst B w0 w lab S T l d g m av xs) (hk : Keep (fun k => k = l ∨ T k) w w') : Bx XX w' (ext lab w.heap.size 0) b t cs := h.keep hk (fun k q e => by have := o.l0 k (q.elim (fun e => .inr (.inr e)) (fun e => .inr (.inl e))); omega) (fun _ q => ext_old q)
theorem Bx.dsk (h : Bx XX w lab b t cs) (o : Gst B w0 w lab S T l d g m av xs) (hk : Keep (fun k => S k ∨ k = l) w w') : Bx XX w' (ext lab w.heap.size 0) b t cs := h.keep hk (fun k q e => by have := o.l0 k (q.elim .inl (fun e => .inr (.inr e))); omega) (fun _ q => ext_old q)
theorem Bx.push (h : Bx XX w lab b t cs) (o : Gst B w0 w lab S T l d g m av xs) {ob : Obj} (hg : (w.alloc ob).grownBy w' av.ownBlock) : Bx XX w' (ext lab w.heap.size 1) b t cs :=
  h.keep (((Keep.refl (fun k => av.ownBlock = some k) w).alloc _).grown hg (fun _ q _ => q)) (fun k q e => by have := o.l1 k q; omega) (fun _ q => ext_old q)
/-- A cell of a block beside is written. -/
theorem Gst.beside (o : Gst B w0 w lab S T l d g m av xs) (hlb : lab b = 3) (hB : B ≤ b) (hk : Keep (fun k => k = b) w w') : Gst B w0 w' lab S T l d g m av xs := by
  obtain ⟨k1, k2, k3, k4⟩ := o.keep1 (L := 3) (lab' := lab) hk (fun k q => by rw [q]; exact hlb) (fun _ _ => rfl)
  have n0 : ∀ k, k = b → ¬ (S k ∨ T k ∨ k = l) := fun k hb q => by have := o.l0 k q; rw [hb] at this; omega
  have hB2 := Nat.le_trans o.lv.le o.lv.bel.size
  exact ⟨⟨o.lv.ld.keep hk (fun k hb q => n0 k hb (.inl q)) (fun k hb q => n0 k hb (.inr (.inl q))) (fun hb => n0 l hb (.inr (.inr rfl))), o.lv.fS, o.lv.fT, o.lv.fl, o.lv.bel.trans (hk.below hB2 (fun k hk q => by omega)), o.lv.le⟩, k4, k1 (by decide), k2, k3 (by decide)⟩
end
/-- How grows stands behind i records. -/
structure Grs (G0 L0 : Nat) (w0 : World) (X : Nat → List Nat) (n c0 : Nat) (i named : Nat) (wr : World) (lab : Nat → Nat) (S T : Nat → Prop) (l d : Nat) (g : Dev) (m : LogM) (av : Value) (xs : List RecL) : Prop where
  st : Gst w0.heap.size w0 wr lab S T l d g m av xs
  first : m.first = 2
  count : m.count = n
  ok : m.Ok
  len : xs.length = i
  hi : i ≤ n
  holds : Holds (xs.map RecL.r) m.recs
  fo : m.forced ≤ named
  nm : named ≤ i
  calls : g.calls ≤ c0 + i * 42
  pend : g.pend = []
  gn : g.img.length = G0
  lf : m.ended = false → g.left ≤ L0
  en : m.ended = true → L0 ≠ 0
  dis : (m.ended = false ∧ Grw g m X) ∨ (m.ended = true ∧ ∃ k, m.forced ≤ k ∧ k ≤ named ∧ Wip g 2 n m.recs k X ∧ g.down = true)
theorem Grs.recs {G0 L0 : Nat} {w0 wr : World} {X : Nat → List Nat} {n c0 i named l d : Nat} {lab : Nat → Nat} {S T : Nat → Prop} {g : Dev} {m : LogM} {av : Value} {xs : List RecL} (h : Grs G0 L0 w0 X n c0 i named wr lab S T l d g m av xs) : m.recs.length = i := by rw [h.holds.len, List.length_map, h.len]
theorem app_good {m : LogM} {r : RecM} (he : m.ended = false) (hr : MadeR (m.recs.length + 1) r) (hc : m.recs.length < m.count) : m.appE r = 0 ∧ m.appN r = m.recs.length + 1 ∧ m.appM r = { m with recs := m.recs ++ [bytesR (wl (m.recs.length + 1) r)] } := by
  have e : m.appE r = 0 := by
    unfold LogM.appE
    rw [he, if_neg (by simp), hr.1, if_neg (by simp), if_neg (by omega)]
  exact ⟨e, by unfold LogM.appN; rw [if_pos e], by unfold LogM.appM; rw [if_pos e]⟩
theorem app_end {m : LogM} (r : RecM) (he : m.ended = true) : m.appE r = 40 ∧ m.appN r = 0 ∧ m.appM r = m := by
  have e : m.appE r = 40 := by unfold LogM.appE; rw [if_pos he]
  exact ⟨e, by unfold LogM.appN; rw [if_neg (by omega)], by unfold LogM.appM; rw [if_neg (by omega)]⟩

set_option maxHeartbeats 16000000 in
theorem grows_any {w0 w : World} {S T : Nat → Prop} {l d : Nat} {g : Dev} {X : Nat → List Nat} (c : Int) (ra : Option Addr) (rl : List RecL) (rc : Nat) (fa : Option Addr) (fl : List Int) (fc : Nat) (hR : RecsAt w0 ra rl) (hrf : ∀ x ∈ rl, Fits x.r) (hrl : (rl.length : Int) ≤ 9223372036854775807) (hF : Lies w0 fa (intCs fl)) (h : LV w0.heap.size w0 w S T l d g ⟨2, lifeN c, [], 0, false⟩) (hg : Grw g ⟨2, lifeN c, [], 0, false⟩ X) (hcl : g.calls ≤ 1000) (XX : Nat × TypeId × Array Value) (hX : RBox w XX.1 XX.2.1 XX.2.2) (hXn : ¬ (S XX.1 ∨ T XX.1 ∨ XX.1 = l)) (L0 : Nat) (hL0 : g.left ≤ L0) (G0 : Nat) (hG0 : g.img.length = G0) :
    Calls Tryz.prog 22 #[.agg #[.int .i64 c, .slice ra rl.length rc, .slice fa fl.length fc], .pointer (some ⟨l, 0, none⟩)] w fun e w' => ∃ (aa : Option Addr) (i ac named : Nat) (lab : Nat → Nat) (S' T' : Nat → Prop) (g' : Dev) (m : LogM) (xs : List RecL), e = .returned (.tuple #[.slice aa i ac, .int .i64 (named : Int), .bool true]) ∧ Grs G0 L0 w0 X (lifeN c) g.calls i named w' lab S' T' l d g' m (.slice aa i ac) xs ∧ RBox w' XX.1 XX.2.1 XX.2.2 ∧ lab XX.1 = 3 ∧ (m.ended = false → rl.length ≤ i ∨ lifeN c ≤ i) := by
  have hnn := lifeN_in c
  obtain ⟨n, hn⟩ : ∃ n, n = lifeN c := ⟨_, rfl⟩
  have KS := fun (rv fv : Value) (w : World) => size_life c rv fv w
  simp only [← hn] at h hg hnn KS
  rw [← hn]
  have KS := hide KS
  obtain ⟨w1, hw1⟩ : ∃ w1, w1 = w.alloc (.cells #[.int .i64 c, .slice ra rl.length rc, .slice fa fl.length fc] 25) := ⟨_, rfl⟩
  have b1 : Below w.heap.size w w1 := by rw [hw1]; exact alloc_below _ _
  have B25 : Bx XX w1 (ext (fun b => if b = XX.1 then 3 else 0) w.heap.size 3) w.heap.size 25 #[.int .i64 c, .slice ra rl.length rc, .slice fa fl.length fc] := ⟨by rw [hw1]; exact RBox.new w _ 25, ext_new (Nat.le_refl _), hX.below b1, by rw [ext_old hX.lt]; exact if_pos rfl⟩
  have hszw := Nat.le_trans h.le h.bel.size
  have hlt := h.ld.lt
  have L1 := h.below b1
  have l01 : ∀ b, S b ∨ T b ∨ b = l → ext (fun b => if b = XX.1 then 3 else 0) w.heap.size 3 b = 0 := fun b hb => by
    rw [ext_old (by
      rcases hb with q | q | q
      · exact hlt.2.1 b q
      · exact hlt.2.2 b q
      · rw [q]; exact hlt.1)]
    exact if_neg (fun e => hXn (by rw [← e]; exact hb))
  have rw1 : GRow w1 w0.heap.size 44 17 (.slice none 0 0) ([] : List RecL).length (rowsC recLC []) := World.ownsRow_nil w1 w0.heap.size 44 17
  have G1 : Grs G0 L0 w0 X n g.calls 0 0 w1 (ext (fun b => if b = XX.1 then 3 else 0) w.heap.size 3) S T l d g ⟨2, n, [], 0, false⟩ (.slice none 0 0) [] := by
    refine ⟨⟨L1, l01, rw1, ?_, ?_⟩, rfl, rfl, hg.ok, rfl, Nat.zero_le _, Holds.nil, Nat.le_refl _, Nat.le_refl _, ?_, hg.pend, hG0, fun _ => hL0, ?_, .inl ⟨rfl, hg⟩⟩
    · intro b hb; cases hb
    · intro x hx; cases hx
    · omega
    · intro q; cases q
  clear L1 l01 rw1
  obtain ⟨b2, hb2⟩ : ∃ b, b = w.heap.size := ⟨_, rfl⟩
  rw [← hb2] at B25 hszw
  obtain ⟨lab1, hlab1⟩ : ∃ q, q = ext (fun b => if b = XX.1 then 3 else 0) w.heap.size 3 := ⟨_, rfl⟩
  rw [← hlab1] at G1
  rw [← hb2] at hlab1
  rw [← hlab1] at B25
  have G1 := hide G1
  have B1 := hide B25
  have HW := hide hw1
  have HB2 := hide hb2
  have HRA := hide hR
  have HRF := hide hrf
  have HFA := hide hF
  have HSB := hide hszw
  obtain ⟨c0, hc0⟩ : ∃ q, q = g.calls := ⟨_, rfl⟩
  rw [← hc0] at G1 hcl ⊢
  clear hw1 b1 B25 hb2 hlab1 hR hrf hF h hg hlt hszw hc0 hn
  go_enter Tryz.func22, Tryz.ntmps22
  go_upto_region 1 with fail
  rw [← HW.out, ← HB2.out]
  clear HW HB2
  go_wp2_with fail
  go_loopw [4, 5, 7] (fun av nv iv wr => ∃ (i ac named : Nat) (aa : Option Addr) (lab : Nat → Nat) (S' T' : Nat → Prop) (g' : Dev) (m : LogM) (xs : List RecL), av = .slice aa i ac ∧ nv = .int .i64 (named : Int) ∧ iv = .int .i64 (i : Int) ∧ Grs G0 L0 w0 X n c0 i named wr lab S' T' l d g' m (.slice aa i ac) xs ∧ Bx XX wr lab b2 25 #[.int .i64 c, .slice ra rl.length rc, .slice fa fl.length fc]) (fun _ _ iv _ => (50 - (intOf iv).toNat))
  case atStart => exact ⟨0, 0, 0, none, lab1, S, T, g, _, [], rfl, rfl, rfl, G1.out, B1.out⟩
  case round =>
    obtain ⟨i, ac, named, aa, lab, S', T', g', m, xs, rfl, rfl, rfl, hG, hB⟩ := hrel
    have HG := hide hG
    have HB := hide hB
    have hi40 := hG.hi
    have hnm := hG.nm
    clear hG hB G1 B1
    obtain ⟨x0, _⟩ := HB.out.box.cells.get 0 _ rfl
    obtain ⟨x1, _⟩ := HB.out.box.cells.get 1 _ rfl
    obtain ⟨x2, _⟩ := HB.out.box.cells.get 2 _ rfl
    by_cases h1 : i < rl.length
    · have d1 : decide ((i : Int) < (rl.length : Int)) = true := by simp; omega
      go_wp2_with fail
      refine (KS.out _ _ wr).mono ?_
      rintro e w2 ⟨rfl, b2w⟩
      have G2 := hide (show Grs G0 L0 w0 X n c0 i named w2 (ext lab wr.heap.size 0) S' T' l d g' m (.slice aa i ac) xs from ⟨HG.out.st.below b2w 0, HG.out.first, HG.out.count, HG.out.ok, HG.out.len, HG.out.hi, HG.out.holds, HG.out.fo, HG.out.nm, HG.out.calls, HG.out.pend, HG.out.gn, HG.out.lf, HG.out.en, HG.out.dis⟩)
      have B2 := hide (HB.out.below b2w 0)
      obtain ⟨lab2, hlab2⟩ : ∃ q, q = ext lab wr.heap.size 0 := ⟨_, rfl⟩
      rw [← hlab2] at G2 B2
      clear HG HB b2w hlab2 x0 x1 x2
      by_cases h2 : i < n
      · have d2 : decide ((i : Int) < (n : Int)) = true := by simp; omega
        obtain ⟨x0, _⟩ := B2.out.box.cells.get 0 _ rfl
        obtain ⟨x1, _⟩ := B2.out.box.cells.get 1 _ rfl
        obtain ⟨x2, _⟩ := B2.out.box.cells.get 2 _ rfl
        have RA := HRA.out.below G2.out.st.lv.bel
        obtain ⟨bR, oR, eR, hbR, hcR⟩ := Lies.rowAt recLC 17 recLC_length RA.row i h1 (by decide)
        have HLS := hide (RA.lists rl[i] (List.getElem_mem h1))
        have HFT := hide (HRF.out rl[i] (List.getElem_mem h1))
        generalize rl[i] = rr at *
        obtain ⟨r0, la0, lc0, da0, dc0⟩ := rr
        have HCR := hide (show ∀ j v, (recC r0 la0 lc0 da0 dc0).toList[j]? = some v → w2.cell? ⟨bR, oR + i * 17 + j, none⟩ = some v from fun j v hv => hcR j v hv)
        dsimp only at *
        obtain ⟨j, hj⟩ : ∃ j, j = i + 1 := ⟨_, rfl⟩
        have hwj : IntKind.i64.wrap ((i : Int) + 1) = (j : Int) := by rw [IntKind.wrap_i64]; omega
        have hij : (i : Int) + 1 = (j : Int) := by omega
        have hwj2 : IntKind.i64.wrap (j : Int) = (j : Int) := by rw [IntKind.wrap_i64]; omega
        have KM := hide (made_any r0 la0 da0 lc0 dc0 j w2 HLS.out.1 HLS.out.2 HFT.out (by omega) (by omega))
        have HJ := hide hj
        subst eR
        clear RA hcR HLS HFT hj
        go_wp2_with (refine wpList_load44at (cs := recC r0 la0 lc0 da0 dc0) (b := bR) (off := oR + i * 17) HCR.out rfl rfl ?_)
        refine KM.out.mono ?_
        rintro e w3 ⟨v3, r1, rfl, o3, hm3, b3⟩
        obtain ⟨la1, da1, lc1, dc1, rfl, hl1, hl2⟩ := RecOut.liesL o3 (ext lab2 w2.heap.size 2) 2 (fun b q => ext_new q)
        have S3 := hide (G2.out.st.below b3 2)
        have B3 := hide (B2.out.below b3 2)
        have HL3 := hide (And.intro hl1 hl2)
        have HM3 := hide hm3
        obtain ⟨lab3, hlab3⟩ : ∃ q, q = ext lab2 w2.heap.size 2 := ⟨_, rfl⟩
        rw [← hlab3] at S3 B3 HL3
        clear KM o3 b3 B2 hlab3 hl1 hl2 hm3 x0 x1 x2 HCR
        obtain ⟨r1lsn, r1kind, r1tx, r1prev, r1wp, r1wi, r1sp, r1si, r1delta, r1id, r1grp, r1lo, r1hi, r1val, r1live, r1dirty, r1next⟩ := r1
        have hls0 : r1lsn = 0 := HM3.out.2.2
        subst hls0
        go_upto_region 5 with (refine wpList_store36 (RBox.new _ _ _) rfl rfl rfl rfl rfl ?_; intro w4 R4 hk4)
        obtain ⟨r1, hr1⟩ : ∃ r : RecM, r = ⟨0, r1kind, r1tx, r1prev, r1wp, r1wi, r1sp, r1si, r1delta, r1id, r1grp, r1lo, r1hi, r1val, r1live, r1dirty, r1next⟩ := ⟨_, rfl⟩
        have b4 := newBox hk4
        have S4 := hide (S3.out.below b4 3)
        have B4 := hide (B3.out.below b4 3)
        have HL4 := hide (show LiesL w4 (ext lab3 w3.heap.size 3) 2 la1 (liveCs r1live) ∧ LiesL w4 (ext lab3 w3.heap.size 3) 2 da1 (dirtyCs r1dirty) from ⟨HL3.out.1.below b4 _, HL3.out.2.below b4 _⟩)
        have R4 := hide (show Bx XX w4 (ext lab3 w3.heap.size 3) w3.heap.size 44 (recC r1 la1 lc1 da1 dc1) from ⟨by rw [hr1]; exact R4, ext_new (Nat.le_refl _), B4.out.xbox, B4.out.xlb⟩)
        have hw3 := S3.out.lv.bel.size
        have HB8 := hide (show w0.heap.size ≤ w3.heap.size from hw3)
        have HX8 := hide (show XX.1 ≠ w3.heap.size from fun e => by have := B3.out.xbox.lt; omega)
        obtain ⟨lab4, hlab4⟩ : ∃ q, q = ext lab3 w3.heap.size 3 := ⟨_, rfl⟩
        rw [← hlab4] at S4 B4 HL4 R4
        generalize w3.heap.size = b8 at *
        have KA := hide (append_any S4.out.lv.ld G2.out.ok r1 la1 da1 lc1 dc1 (by rw [hr1]; exact HL4.out.1.lies) (by rw [hr1]; exact HL4.out.2.lies) (by rw [hr1]; exact HM3.out.2.1))
        have HR1 := hide hr1
        clear hk4 b4 S3 B3 HL3 hlab4 hw3 hr1
        go_wp2_with (refine wpList_load36 R4.out.box rfl rfl ?_)
        refine KA.out.mono ?_
        rintro e w5 ⟨T5, rfl, ld5, k5, n5⟩
        have S5 := hide (S4.out.app ld5 k5 n5)
        have B5 := hide (B4.out.app S4.out k5)
        have R5 := hide (R4.out.app S4.out k5)
        have HL5 := hide (show LiesL w5 (ext lab4 w4.heap.size 0) 2 la1 (liveCs r1live) ∧ LiesL w5 (ext lab4 w4.heap.size 0) 2 da1 (dirtyCs r1dirty) from ⟨HL4.out.1.keep k5 (fun b q e => by have := S4.out.l0 b (q.elim (fun e => .inr (.inr e)) (fun e => .inr (.inl e))); omega) (fun _ q => ext_old q), HL4.out.2.keep k5 (fun b q e => by have := S4.out.l0 b (q.elim (fun e => .inr (.inr e)) (fun e => .inr (.inl e))); omega) (fun _ q => ext_old q)⟩)
        obtain ⟨lab5, hlab5⟩ : ∃ q, q = ext lab4 w4.heap.size 0 := ⟨_, rfl⟩
        rw [← hlab5] at S5 B5 R5 HL5
        clear KA ld5 k5 n5 S4 B4 R4 HL4 hlab5
        have hrl2 := G2.out.recs
        rcases G2.out.dis with ⟨he, hgw⟩ | ⟨he, hwp⟩
        · obtain ⟨a1, a2, a3⟩ := app_good (r := r1) he (by rw [hrl2, ← HJ.out, HR1.out]; exact HM3.out) (by rw [hrl2, G2.out.count]; exact h2)
          rw [hrl2, ← HJ.out] at a2 a3
          rw [a1, a2]
          rw [a3] at S5
          have HGW := hide (hgw.app (bytesR (wl j r1)) (by rw [hrl2, G2.out.count]; exact h2))
          have HLD := hide (show Holds (xs.map RecL.r ++ [wl j r1]) (m.recs ++ [bytesR (wl j r1)]) by
            have q := Holds.push G2.out.holds (r := r1) (by rw [hrl2, ← HJ.out, HR1.out]; exact HM3.out.1) (by rw [HR1.out]; exact HM3.out.2.1)
            rw [hrl2, ← HJ.out] at q
            exact q)
          have HE := hide he
          clear a1 a2 a3 hgw
          have KE := hide (err_any S5.out.lv.ld)
          go_wp2_with fail
          refine KE.out.mono ?_
          rintro e w6 ⟨v6, rfl, hv6, b6⟩
          have hv6 : v6 = .nilIface := by
            rcases hv6 with q | q
            · exact q.2
            · have q1 : m.ended = true := q.1
              rw [HE.out] at q1
              cases q1
          subst hv6
          have S6 := hide (S5.out.below b6 0)
          have B6 := hide (B5.out.below b6 0)
          have R6 := hide (R5.out.below b6 0)
          have HL6 := hide (show LiesL w6 (ext lab5 w5.heap.size 0) 2 la1 (liveCs r1live) ∧ LiesL w6 (ext lab5 w5.heap.size 0) 2 da1 (dirtyCs r1dirty) from ⟨HL5.out.1.below b6 _, HL5.out.2.below b6 _⟩)
          obtain ⟨lab6, hlab6⟩ : ∃ q, q = ext lab5 w5.heap.size 0 := ⟨_, rfl⟩
          rw [← hlab6] at S6 B6 R6 HL6
          clear KE b6 S5 B5 R5 HL5 hlab6
          have DR : Below w6.heap.size w6 w6.drew := (Below.refl _ _).drew
          have S7 := hide (S6.out.below DR 0)
          have B7 := hide (B6.out.below DR 0)
          have R7 := hide (R6.out.below DR 0)
          have HL7 := hide (show LiesL w6.drew (ext lab6 w6.heap.size 0) 2 la1 (liveCs r1live) ∧ LiesL w6.drew (ext lab6 w6.heap.size 0) 2 da1 (dirtyCs r1dirty) from ⟨HL6.out.1.below DR _, HL6.out.2.below DR _⟩)
          obtain ⟨lab7, hlab7⟩ : ∃ q, q = ext lab6 w6.heap.size 0 := ⟨_, rfl⟩
          rw [← hlab7] at S7 B7 R7 HL7
          clear S6 B6 R6 HL6 hlab7 DR
          have hmk : (({ m with recs := m.recs ++ [bytesR (wl j r1)] } : LogM)).Ok := HGW.out.ok
          have hml : (({ m with recs := m.recs ++ [bytesR (wl j r1)] } : LogM)).recs.length = j := by show (m.recs ++ [bytesR (wl j r1)]).length = j; rw [List.length_append, hrl2, HJ.out]; rfl
          have hmc : (({ m with recs := m.recs ++ [bytesR (wl j r1)] } : LogM)).count = n := G2.out.count
          have hmf : (({ m with recs := m.recs ++ [bytesR (wl j r1)] } : LogM)).first = 2 := G2.out.first
          have hmo : (({ m with recs := m.recs ++ [bytesR (wl j r1)] } : LogM)).forced = m.forced := rfl
          have hme : (({ m with recs := m.recs ++ [bytesR (wl j r1)] } : LogM)).ended = false := HE.out
          have hmr : (({ m with recs := m.recs ++ [bytesR (wl j r1)] } : LogM)).recs = m.recs ++ [bytesR (wl j r1)] := rfl
          obtain ⟨m1, hm1⟩ : ∃ q : LogM, q = { m with recs := m.recs ++ [bytesR (wl j r1)] } := ⟨_, rfl⟩
          rw [← hm1] at S7 HGW hmk hml hmc hmf hmo hme hmr
          rw [← hmr] at HLD
          have HMK := hide hmk
          have HML := hide hml
          have HMC := hide hmc
          have HMF := hide hmf
          have HMO := hide hmo
          have HME := hide hme
          clear hmk hml hmc hmf hmo hme hmr hm1
          have KL := hide (lastL_any S7.out.lv.ld)
          have KFr := hide (free_any S7.out.lv.ld HMK.out)
          rw [HML.out] at KL KFr
          rw [HMC.out] at KFr
          have hfr : ((n - j : Nat) : Int) = (n : Int) - (j : Int) := by have := HJ.out; omega
          have hS0 := hide (show w6.drew.cell? ⟨b2, 0, none⟩ = some (.int .i64 c) ∧ w6.drew.cell? ⟨b2, 1, none⟩ = some (.slice (some ⟨bR, oR, none⟩) rl.length rc) ∧ w6.drew.cell? ⟨b2, 2, none⟩ = some (.slice fa fl.length fc) from ⟨(B7.out.box.cells.get 0 _ rfl).1, (B7.out.box.cells.get 1 _ rfl).1, (B7.out.box.cells.get 2 _ rfl).1⟩)
          have hsub : IntKind.i64.wrap ((n : Int) - (j : Int)) = (n : Int) - (j : Int) := by rw [IntKind.wrap_i64]; omega
          obtain ⟨fr, hfre⟩ : ∃ q : Nat, q = n - j := ⟨_, rfl⟩
          rw [← hfre] at KFr hfr
          have hfr2 : (n : Int) - (j : Int) = (fr : Int) := hfr.symm
          rw [hfr2] at hsub
          clear hfr hfre
          go_upto_region 8 with fail
          refine wp_region_held_drew (S := fun wq => wq.cell? ⟨b2, 0, none⟩ = some (.int .i64 c) ∧ wq.cell? ⟨b2, 1, none⟩ = some (.slice (some ⟨bR, oR, none⟩) rl.length rc) ∧ wq.cell? ⟨b2, 2, none⟩ = some (.slice fa fl.length fc)) (by kernel_rfl) hS0.out (fun hS => ?_)
          clear hS0
          generalize w6.drew = w7 at *
          refine take_at 0 (some 52) (v := ?_) rfl rfl (by kernel_rfl) (by kernel_rfl) (by kernel_rfl) (fun _ _ _ h => h) ⟨by rfl, ?_⟩ hS ?_
          rotate_left
          · intro wq hSw; go_simp; try rfl
          simp only [Act.put, List.setIfInBounds_toArray, List.set_cons_zero, List.set_cons_succ]
          refine take_at 1 (some 53) (v := ?_) rfl rfl (by kernel_rfl) (by kernel_rfl) (by kernel_rfl) (fun _ _ _ h => h) ⟨by rfl, ?_⟩ hS ?_
          rotate_left
          · intro wq hSw; go_simp; try rfl
          simp only [Act.put, List.setIfInBounds_toArray, List.set_cons_zero, List.set_cons_succ]
          refine take_at 2 (some 54) (v := ?_) rfl rfl (by kernel_rfl) (by kernel_rfl) (by kernel_rfl) (fun _ _ _ h => h) ⟨by rfl, ?_⟩ hS ?_
          rotate_left
          · intro wq hSw; go_simp; try rfl
          simp only [Act.put, List.setIfInBounds_toArray, List.set_cons_zero, List.set_cons_succ]
          refine take_at 3 (some 55) (v := ?_) rfl rfl (by kernel_rfl) (by kernel_rfl) (by kernel_rfl) (fun _ _ _ h => h) ⟨by rfl, ?_⟩ hS ?_
          rotate_left
          · intro wq hSw; go_simp; try rfl
          simp only [Act.put, List.setIfInBounds_toArray, List.set_cons_zero, List.set_cons_succ]
          refine take_at 4 (some 56) (v := ?_) rfl rfl (by kernel_rfl) (by kernel_rfl) (by kernel_rfl) (fun _ _ _ h => h) ⟨by rfl, ?_⟩ hS ?_
          rotate_left
          · intro wq hSw; go_simp; try rfl
          simp only [Act.put, List.setIfInBounds_toArray, List.set_cons_zero, List.set_cons_succ]
          refine take_at 5 (some 57) (v := ?_) rfl rfl (by kernel_rfl) (by kernel_rfl) (by kernel_rfl) (fun _ _ _ h => h) ⟨by rfl, ?_⟩ hS ?_
          rotate_left
          · intro wq hSw; go_simp; try rfl
          simp only [Act.put, List.setIfInBounds_toArray, List.set_cons_zero, List.set_cons_succ]
          refine wpAnyH_ready (rs := [6]) (by kernel_rfl) (by simp) ?_
          refine AllReadyH.cons rfl (fun K hK => ?_) AllReadyH.nil
          go_simp
          go_wp2_with fail
          refine (num_any 0 w7).mono ?_
          rintro e w8 ⟨rfl, hww⟩
          obtain rfl : w7 = w8 := hww.symm
          go_wp2_with fail
          refine hK.out _ _ hS (fun hS => ?_)
          clear hK K
          (try simp only [Act.put, List.setIfInBounds_toArray, List.set_cons_zero, List.set_cons_succ])
          refine take_at 7 (some 59) (v := ?_) rfl rfl (by kernel_rfl) (by kernel_rfl) (by kernel_rfl) (fun _ _ _ h => h) ⟨by rfl, ?_⟩ hS ?_
          rotate_left
          · intro wq hSw; go_simp; try rfl
          simp only [Act.put, List.setIfInBounds_toArray, List.set_cons_zero, List.set_cons_succ]
          refine take_at 8 (some 60) (v := ?_) rfl rfl (by kernel_rfl) (by kernel_rfl) (by kernel_rfl) (fun _ _ _ h => h) ⟨by rfl, ?_⟩ hS ?_
          rotate_left
          · intro wq hSw; go_simp; try rfl
          simp only [Act.put, List.setIfInBounds_toArray, List.set_cons_zero, List.set_cons_succ]
          refine take_at 9 (some 61) (v := ?_) rfl rfl (by kernel_rfl) (by kernel_rfl) (by kernel_rfl) (fun _ _ _ h => h) ⟨by rfl, ?_⟩ hS ?_
          rotate_left
          · intro wq hSw; go_simp; try rfl
          simp only [Act.put, List.setIfInBounds_toArray, List.set_cons_zero, List.set_cons_succ]
          refine take_at 10 (some 62) (v := ?_) rfl rfl (by kernel_rfl) (by kernel_rfl) (by kernel_rfl) (fun _ _ _ h => h) ⟨by rfl, ?_⟩ hS ?_
          rotate_left
          · intro wq hSw; go_simp; try rfl
          simp only [Act.put, List.setIfInBounds_toArray, List.set_cons_zero, List.set_cons_succ]
          refine take_at 12 (some 64) (v := ?_) rfl rfl (by kernel_rfl) (by kernel_rfl) (by kernel_rfl) (fun _ _ _ h => h) ⟨by rfl, ?_⟩ hS ?_
          rotate_left
          · intro wq hSw; go_simp; try rfl
          simp only [Act.put, List.setIfInBounds_toArray, List.set_cons_zero, List.set_cons_succ]
          refine wpAnyH_ready (rs := [11]) (by kernel_rfl) (by simp) ?_
          refine AllReadyH.cons rfl (fun K hK => ?_) AllReadyH.nil
          go_simp
          go_wp2_with fail
          refine KL.out.mono ?_
          rintro e w8 ⟨rfl, hww⟩
          obtain rfl : w7 = w8 := hww.symm
          go_wp2_with fail
          refine hK.out _ _ hS (fun hS => ?_)
          clear hK K
          (try simp only [Act.put, List.setIfInBounds_toArray, List.set_cons_zero, List.set_cons_succ])
          refine take_at 13 (some 65) (v := ?_) rfl rfl (by kernel_rfl) (by kernel_rfl) (by kernel_rfl) (fun _ _ _ h => h) ⟨by rfl, ?_⟩ hS ?_
          rotate_left
          · intro wq hSw; go_simp; try rfl
          simp only [Act.put, List.setIfInBounds_toArray, List.set_cons_zero, List.set_cons_succ]
          refine take_at 14 (some 66) (v := ?_) rfl rfl (by kernel_rfl) (by kernel_rfl) (by kernel_rfl) (fun _ _ _ h => h) ⟨by rfl, ?_⟩ hS ?_
          rotate_left
          · intro wq hSw; go_simp; try rfl
          simp only [Act.put, List.setIfInBounds_toArray, List.set_cons_zero, List.set_cons_succ]
          refine take_at 15 (some 67) (v := ?_) rfl rfl (by kernel_rfl) (by kernel_rfl) (by kernel_rfl) (fun _ _ _ h => h) ⟨by rfl, ?_⟩ hS ?_
          rotate_left
          · intro wq hSw; go_simp; try rfl
          simp only [Act.put, List.setIfInBounds_toArray, List.set_cons_zero, List.set_cons_succ]
          refine take_at 16 (some 68) (v := ?_) rfl rfl (by kernel_rfl) (by kernel_rfl) (by kernel_rfl) (fun _ _ _ h => h) ⟨by rfl, ?_⟩ hS ?_
          rotate_left
          · intro wq hSw; go_simp; try rfl
          simp only [Act.put, List.setIfInBounds_toArray, List.set_cons_zero, List.set_cons_succ]
          refine take_at 18 (some 70) (v := ?_) rfl rfl (by kernel_rfl) (by kernel_rfl) (by kernel_rfl) (fun _ _ _ h => h) ⟨by rfl, ?_⟩ hS ?_
          rotate_left
          · intro wq hSw; obtain ⟨y0, y1, y2⟩ := hSw; go_simp; try rfl
          simp only [Act.put, List.setIfInBounds_toArray, List.set_cons_zero, List.set_cons_succ]
          refine take_at 20 (some 72) (v := ?_) rfl rfl (by kernel_rfl) (by kernel_rfl) (by kernel_rfl) (fun _ _ _ h => h) ⟨by rfl, ?_⟩ hS ?_
          rotate_left
          · intro wq hSw; go_simp; try rfl
          simp only [Act.put, List.setIfInBounds_toArray, List.set_cons_zero, List.set_cons_succ]
          refine wpAnyH_ready (rs := [17]) (by kernel_rfl) (by simp) ?_
          refine AllReadyH.cons rfl (fun K hK => ?_) AllReadyH.nil
          go_simp
          go_wp2_with fail
          refine KFr.out.mono ?_
          rintro e w8 ⟨rfl, b8w⟩
          have S8 := hide (S7.out.below b8w 0)
          have B8 := hide (B7.out.below b8w 0)
          have R8 := hide (R7.out.below b8w 0)
          have HL8 := hide (show LiesL w8 (ext lab7 w7.heap.size 0) 2 la1 (liveCs r1live) ∧ LiesL w8 (ext lab7 w7.heap.size 0) 2 da1 (dirtyCs r1dirty) from ⟨HL7.out.1.below b8w _, HL7.out.2.below b8w _⟩)
          obtain ⟨lab8, hlab8⟩ : ∃ q, q = ext lab7 w7.heap.size 0 := ⟨_, rfl⟩
          rw [← hlab8] at S8 B8 R8 HL8
          clear S7 R7 HL7 hlab8 b8w
          go_wp2_with fail
          refine hK.out _ _ ⟨(B8.out.box.cells.get 0 _ rfl).1, (B8.out.box.cells.get 1 _ rfl).1, (B8.out.box.cells.get 2 _ rfl).1⟩ (fun hS => ?_)
          clear hK K
          (try simp only [Act.put, List.setIfInBounds_toArray, List.set_cons_zero, List.set_cons_succ])
          refine wpAnyH_ready (rs := [19]) (by kernel_rfl) (by simp) ?_
          refine AllReadyH.cons rfl (fun K hK => ?_) AllReadyH.nil
          go_simp
          go_wp2_with fail
          refine (KS.out _ _ w8).mono ?_
          rintro e w9 ⟨rfl, b9w⟩
          have S9 := hide (S8.out.below b9w 0)
          have B9 := hide (B8.out.below b9w 0)
          have R9 := hide (R8.out.below b9w 0)
          have HL9 := hide (show LiesL w9 (ext lab8 w8.heap.size 0) 2 la1 (liveCs r1live) ∧ LiesL w9 (ext lab8 w8.heap.size 0) 2 da1 (dirtyCs r1dirty) from ⟨HL8.out.1.below b9w _, HL8.out.2.below b9w _⟩)
          obtain ⟨lab9, hlab9⟩ : ∃ q, q = ext lab8 w8.heap.size 0 := ⟨_, rfl⟩
          rw [← hlab9] at S9 B9 R9 HL9
          clear S8 R8 HL8 hlab9 b9w
          go_wp2_with fail
          refine hK.out _ _ ⟨(B9.out.box.cells.get 0 _ rfl).1, (B9.out.box.cells.get 1 _ rfl).1, (B9.out.box.cells.get 2 _ rfl).1⟩ (fun hS => ?_)
          clear hK K
          (try simp only [Act.put, List.setIfInBounds_toArray, List.set_cons_zero, List.set_cons_succ])
          refine take_at 21 (some 73) (v := ?_) rfl rfl (by kernel_rfl) (by kernel_rfl) (by kernel_rfl) (fun _ _ _ h => h) ⟨by rfl, ?_⟩ hS ?_
          rotate_left
          · intro wq hSw; go_simp; try rfl
          simp only [Act.put, List.setIfInBounds_toArray, List.set_cons_zero, List.set_cons_succ]
          refine take_at 22 (some 74) (v := ?_) rfl rfl (by kernel_rfl) (by kernel_rfl) (by kernel_rfl) (fun _ _ _ h => h) ⟨by rfl, ?_⟩ hS ?_
          rotate_left
          · intro wq hSw; go_simp; try rfl
          simp only [Act.put, List.setIfInBounds_toArray, List.set_cons_zero, List.set_cons_succ]
          refine take_at 23 (some 75) (v := ?_) rfl rfl (by kernel_rfl) (by kernel_rfl) (by kernel_rfl) (fun _ _ _ h => h) ⟨by rfl, ?_⟩ hS ?_
          rotate_left
          · intro wq hSw; go_simp; try rfl
          simp only [Act.put, List.setIfInBounds_toArray, List.set_cons_zero, List.set_cons_succ]
          refine wpAnyH_done (by kernel_rfl) ?_ _
          clear hS KL KFr B7 B8
          have hsx : (recC r1 la1 lc1 da1 dc1).setIfInBounds 0 (.int .i64 (j : Int)) = recC (wl j r1) la1 lc1 da1 dc1 := by rw [HR1.out]; rfl
          obtain ⟨z0, zf⟩ := R9.out.box.cells.get 0 (.int .i64 0) (by rw [HR1.out]; rfl)
          have hk10 : Keep (fun k => k = b8) w9 (w9.setCell ⟨b8, 0, none⟩ (.int .i64 (j : Int))) := (Keep.refl (fun k => k = b8) w9).setCell (fun _ => rfl) _
          have S10 := hide (S9.out.beside R9.out.lb HB8.out hk10)
          have HL10 := hide (show LiesL (w9.setCell ⟨b8, 0, none⟩ (.int .i64 (j : Int))) lab9 2 la1 (liveCs r1live) ∧ LiesL (w9.setCell ⟨b8, 0, none⟩ (.int .i64 (j : Int))) lab9 2 da1 (dirtyCs r1dirty) from ⟨HL9.out.1.keep hk10 (fun b q e => by rw [q] at e; have := R9.out.lb; omega) (fun _ _ => rfl), HL9.out.2.keep hk10 (fun b q e => by rw [q] at e; have := R9.out.lb; omega) (fun _ _ => rfl)⟩)
          have hbne : b2 ≠ b8 := fun e => by have q1 := R9.out.box; have q2 := B9.out.box; rw [← e] at q1; unfold RBox at q1 q2; rw [q1] at q2; cases q2
          have B10 := hide (show Bx XX (w9.setCell ⟨b8, 0, none⟩ (.int .i64 (j : Int))) lab9 b2 25 #[.int .i64 c, .slice (some ⟨bR, oR, none⟩) rl.length rc, .slice fa fl.length fc] from ⟨B9.out.box.keep hk10 hbne, B9.out.lb, B9.out.xbox.keep hk10 HX8.out, B9.out.xlb⟩)
          have R10 : RBox (w9.setCell ⟨b8, 0, none⟩ (.int .i64 (j : Int))) b8 44 (recC (wl j r1) la1 lc1 da1 dc1) := by rw [← hsx]; exact R9.out.box.setCell 0 _
          have R10 := hide R10
          clear hk10 S9 B9 R9 HL9 hsx hbne
          go_upto_region 11 with fail
          refine nameW (P := Code.wp _ _ _ _) ?_
          intro w10 hw10
          rw [← hw10] at S10 HL10 B10 R10
          clear hw10
          -- the row grows
          have bA := alloc_below w10 (.cells (recC (wl j r1) la1 lc1 da1 dc1) 44)
          obtain ⟨v11, w11, r11, s11, g11, m11⟩ := run_pushRec 22 (w10.alloc (.cells (recC (wl j r1) la1 lc1 da1 dc1) 44)) w0.heap.size (.slice aa i ac) xs (GRow.below S10.out.row bA) ⟨w10.heap.size, 0, none⟩ ⟨wl j r1, la1, lc1, da1, dc1⟩ (.inr ⟨w10.heap.size, 0, rfl, by simp, fun q hq => by
            rw [Nat.zero_add, World.cell?_alloc_new]
            have e : (recLC ⟨wl j r1, la1, lc1, da1, dc1⟩) = (recC (wl j r1) la1 lc1 da1 dc1).toList := rfl
            simp only [e] at hq ⊢
            rw [Array.getElem_toList]
            simp at hq
            simp [hq]⟩) (by rw [G2.out.len]; omega) (by have := S10.out.lv.bel.size; rw [World.size_alloc]; omega)
          have S11 := hide (S10.out.push (y := ⟨wl j r1, la1, lc1, da1, dc1⟩) (by rw [HR1.out]; exact HL10.out) s11 g11 m11)
          have B11 := hide (B10.out.push S10.out g11)
          obtain ⟨aa1, ac1, e11, _⟩ := GRow.lies s11
          rw [List.length_append, G2.out.len, List.length_singleton, ← HJ.out] at e11
          subst e11
          obtain ⟨lab11, hlab11⟩ : ∃ q, q = ext lab9 w10.heap.size 1 := ⟨_, rfl⟩
          rw [← hlab11] at S11 B11
          have HLD2 := hide (show Holds ((xs ++ [(⟨wl j r1, la1, lc1, da1, dc1⟩ : RecL)]).map RecL.r) m1.recs by rw [List.map_append]; exact HLD.out)
          have hxl : (xs ++ [(⟨wl j r1, la1, lc1, da1, dc1⟩ : RecL)]).length = j := by rw [List.length_append, G2.out.len, HJ.out]; rfl
          obtain ⟨xs1, hxs1⟩ : ∃ q, q = xs ++ [(⟨wl j r1, la1, lc1, da1, dc1⟩ : RecL)] := ⟨_, rfl⟩
          rw [← hxs1] at S11 HLD2 hxl
          have HXL := hide hxl
          have HR11 := hide r11
          have hagg : ∀ v, v = Value.agg (recC (wl j r1) la1 lc1 da1 dc1) → v.cells = (recC (wl j r1) la1 lc1 da1 dc1) := fun v q => by rw [q]; rfl
          clear r11 s11 g11 m11 bA hlab11 hxs1 hxl HLD S10 B10 HL10 hagg
          go_upto_region 12 with (first | refine wpList_load36 R10.out rfl rfl ?_ | (at_builtin; refine wpList_run rfl (.tmp 80) (.tmp 82) rfl rfl rfl HR11.out ?_))
          clear R10 HR11
          obtain ⟨x0, _⟩ := B11.out.box.cells.get 0 _ rfl
          obtain ⟨x1, _⟩ := B11.out.box.cells.get 1 _ rfl
          obtain ⟨x2, _⟩ := B11.out.box.cells.get 2 _ rfl
          have KFo := hide (forces_any c (.slice (some ⟨bR, oR, none⟩) rl.length rc) fl fa fc j w11 (HFA.out.below S11.out.lv.bel) (by have := HJ.out; omega) (by have := HJ.out; omega))
          go_wp2_with fail
          refine KFo.out.mono ?_
          rintro e w12 ⟨k, rfl, hkj, b12⟩
          have S12 := hide (S11.out.below b12 0)
          have B12 := hide (B11.out.below b12 0)
          obtain ⟨lab12, hlab12⟩ : ∃ q, q = ext lab11 w11.heap.size 0 := ⟨_, rfl⟩
          rw [← hlab12] at S12 B12
          clear KFo b12 S11 B11 hlab12 x0 x1 x2
          have hjn : j ≤ n := by have := HJ.out; omega
          have hnj : named ≤ j := by have := HJ.out; omega
          have hfo1 : m1.forced ≤ named := by rw [HMO.out]; exact G2.out.fo
          have hcl1 : g'.calls ≤ c0 + j * 42 := by have := G2.out.calls; have := HJ.out; omega
          have hij2 : (50 : Nat) - (i + 1) < 50 - i := by omega
          by_cases hk0 : 0 < k
          · have dk : decide (0 < (k : Int)) = true := by simp; omega
            go_upto_region 14 with fail
            go_cut [5] (fun s w' => s = .int .i64 ((max named k : Nat) : Int) ∧ w' = w12)
            case first =>
              go_wp2_with fail
              all_goals (go_meet; exact ⟨by congr 1; omega, rfl⟩)
            case rest =>
            obtain ⟨hs5, hwc⟩ := hcut
            have hwc := hwc.symm
            subst hwc
            rw [hs5]
            clear hs5
            obtain ⟨nm1, hnm1⟩ : ∃ q : Nat, q = max named k := ⟨_, rfl⟩
            rw [← hnm1]
            have hnm2 : nm1 ≤ j ∧ named ≤ nm1 ∧ k ≤ nm1 := by omega
            have HNM := hide hnm2
            have FO := HGW.out.force (Holds.short HLD2.out) k (by rw [HML.out]; exact hkj)
            have KF := hide (force_any S12.out.lv.ld HMK.out (k : Int) (by have := HJ.out; omega) (by rw [G2.out.pend]; exact Nat.zero_le _) (by omega))
            have FC := hide (forD_calls m1 g' (k : Int) (by rw [HML.out]; have := HJ.out; omega))
            rw [HML.out] at FC
            have HFO := hide FO
            clear FO hnm1 hnm2
            go_wp2_with fail
            refine KF.out.mono ?_
            rintro e w13 ⟨S13, v13, rfl, hv13, ld13, k13, n13⟩
            have ST13 := hide (S12.out.dsk ld13 k13 n13)
            have B13 := hide (B12.out.dsk S12.out k13)
            obtain ⟨lab13, hlab13⟩ : ∃ q, q = ext lab12 w12.heap.size 0 := ⟨_, rfl⟩
            rw [← hlab13] at ST13 B13
            clear KF ld13 k13 n13 S12 B12 hlab13
            have DR : Below w13.heap.size w13 w13.drew := (Below.refl _ _).drew
            have ST14 := hide (ST13.out.below DR 0)
            have B14 := hide (B13.out.below DR 0)
            rcases HFO.out with ⟨f1, f2, f3, f4, f5, f6, f7⟩ | ⟨f1, f2, kk, f3, f4, f5, f6, f7, f8⟩
            · obtain ⟨_, rfl⟩ : m1.forE g' (k : Int) = 0 ∧ v13 = .nilIface := hv13.resolve_right (fun q => q.1 f1)
              have G14 := hide (show Grs G0 L0 w0 X n c0 j nm1 w13.drew (ext lab13 w13.heap.size 0) S13 T5 l d (m1.forD g' (k : Int)) (m1.forM g' (k : Int)) (.slice aa1 j ac1) xs1 from ⟨ST14.out, by rw [f5]; exact HMF.out, by rw [f6]; exact HMC.out, f2.ok, HXL.out, hjn, by rw [f3]; exact HLD2.out, by rw [f4]; have := HNM.out; omega, HNM.out.1, by have := FC.out; have := G2.out.calls; have := HJ.out; omega, f2.pend, (forD_len m1 g' (k : Int) G2.out.st.lv.ld.dev.ok (Holds.allB HLD2.out)).trans G2.out.gn, fun _ => Nat.le_trans f7 (G2.out.lf HE.out), (fun q => by rw [f2.ended] at q; cases q), .inl ⟨f2.ended, f2⟩⟩)
              have hge : k ≤ (m1.forM g' (k : Int)).forced := by rw [f4]; omega
              have hen : (m1.forM g' (k : Int)).ended = false := f2.ended
              generalize m1.forM g' (k : Int) = m2 at *
              generalize m1.forD g' (k : Int) = g2 at *
              clear f1 f2 f3 f4 f5 f6 f7 hv13 HFO ST13 B13 ST14
              have KE := hide (err_any G14.out.st.lv.ld)
              go_upto_region 16 with fail
              refine wp_region_held_drew (S := fun _ => True) (by kernel_rfl) trivial (fun hS => ?_)
              generalize w13.drew = w14 at *
              refine take_at 0 (some 95) (v := ?_) rfl rfl (by kernel_rfl) (by kernel_rfl) (by kernel_rfl) (fun _ _ _ h => h) ⟨by rfl, ?_⟩ hS ?_
              rotate_left
              · intro wq hSw; go_simp; try rfl
              simp only [Act.put, List.setIfInBounds_toArray, List.set_cons_zero, List.set_cons_succ]
              refine take_at 1 (some 96) (v := ?_) rfl rfl (by kernel_rfl) (by kernel_rfl) (by kernel_rfl) (fun _ _ _ h => h) ⟨by rfl, ?_⟩ hS ?_
              rotate_left
              · intro wq hSw; go_simp; try rfl
              simp only [Act.put, List.setIfInBounds_toArray, List.set_cons_zero, List.set_cons_succ]
              refine take_at 2 (some 97) (v := ?_) rfl rfl (by kernel_rfl) (by kernel_rfl) (by kernel_rfl) (fun _ _ _ h => h) ⟨by rfl, ?_⟩ hS ?_
              rotate_left
              · intro wq hSw; go_simp; try rfl
              simp only [Act.put, List.setIfInBounds_toArray, List.set_cons_zero, List.set_cons_succ]
              refine wpAnyH_ready (rs := [3]) (by kernel_rfl) (by simp) ?_
              refine AllReadyH.cons rfl (fun K hK => ?_) AllReadyH.nil
              go_simp
              go_wp2_with fail
              refine KE.out.mono ?_
              rintro e w15 ⟨v15, rfl, hv15, b15⟩
              have hv15 : v15 = .nilIface := hv15.elim (fun q => q.2) (fun q => by rw [hen] at q; exact absurd q.1 (by simp))
              subst hv15
              have G15 := hide (show Grs G0 L0 w0 X n c0 j nm1 w15 (ext (ext lab13 w13.heap.size 0) w14.heap.size 0) S13 T5 l d g2 m2 (.slice aa1 j ac1) xs1 from ⟨G14.out.st.below b15 0, G14.out.first, G14.out.count, G14.out.ok, G14.out.len, G14.out.hi, G14.out.holds, G14.out.fo, G14.out.nm, G14.out.calls, G14.out.pend, G14.out.gn, G14.out.lf, G14.out.en, G14.out.dis⟩)
              have B15 := hide (B14.out.below b15 0)
              have KO := hide (forced_any G15.out.st.lv.ld)
              have hlf : decide (m2.forced < k) = false := by simp; omega
              generalize m2.forced = fo2 at hlf KO
              clear KE b15 G14 B14
              go_wp2_with fail
              refine hK.out _ _ trivial (fun hS => ?_)
              clear hK K
              (try simp only [Act.put, List.setIfInBounds_toArray, List.set_cons_zero, List.set_cons_succ])
              refine take_at 4 (some 99) (v := ?_) rfl rfl (by kernel_rfl) (by kernel_rfl) (by kernel_rfl) (fun _ _ _ h => h) ⟨by rfl, ?_⟩ hS ?_
              rotate_left
              · intro wq hSw; go_simp; try rfl
              simp only [Act.put, List.setIfInBounds_toArray, List.set_cons_zero, List.set_cons_succ]
              refine take_at 5 (some 100) (v := ?_) rfl rfl (by kernel_rfl) (by kernel_rfl) (by kernel_rfl) (fun _ _ _ h => h) ⟨by rfl, ?_⟩ hS ?_
              rotate_left
              · intro wq hSw; go_simp; try rfl
              simp only [Act.put, List.setIfInBounds_toArray, List.set_cons_zero, List.set_cons_succ]
              refine take_at 6 (some 101) (v := ?_) rfl rfl (by kernel_rfl) (by kernel_rfl) (by kernel_rfl) (fun _ _ _ h => h) ⟨by rfl, ?_⟩ hS ?_
              rotate_left
              · intro wq hSw; go_simp; try rfl
              simp only [Act.put, List.setIfInBounds_toArray, List.set_cons_zero, List.set_cons_succ]
              refine take_at 7 (some 102) (v := ?_) rfl rfl (by kernel_rfl) (by kernel_rfl) (by kernel_rfl) (fun _ _ _ h => h) ⟨by rfl, ?_⟩ hS ?_
              rotate_left
              · intro wq hSw; go_simp; try rfl
              simp only [Act.put, List.setIfInBounds_toArray, List.set_cons_zero, List.set_cons_succ]
              refine take_at 8 (some 103) (v := ?_) rfl rfl (by kernel_rfl) (by kernel_rfl) (by kernel_rfl) (fun _ _ _ h => h) ⟨by rfl, ?_⟩ hS ?_
              rotate_left
              · intro wq hSw; go_simp; try rfl
              simp only [Act.put, List.setIfInBounds_toArray, List.set_cons_zero, List.set_cons_succ]
              refine take_at 9 (some 104) (v := ?_) rfl rfl (by kernel_rfl) (by kernel_rfl) (by kernel_rfl) (fun _ _ _ h => h) ⟨by rfl, ?_⟩ hS ?_
              rotate_left
              · intro wq hSw; go_simp; try rfl
              simp only [Act.put, List.setIfInBounds_toArray, List.set_cons_zero, List.set_cons_succ]
              refine take_at 10 (some 105) (v := ?_) rfl rfl (by kernel_rfl) (by kernel_rfl) (by kernel_rfl) (fun _ _ _ h => h) ⟨by rfl, ?_⟩ hS ?_
              rotate_left
              · intro wq hSw; go_simp; try rfl
              simp only [Act.put, List.setIfInBounds_toArray, List.set_cons_zero, List.set_cons_succ]
              refine take_at 12 (some 107) (v := ?_) rfl rfl (by kernel_rfl) (by kernel_rfl) (by kernel_rfl) (fun _ _ _ h => h) ⟨by rfl, ?_⟩ hS ?_
              rotate_left
              · intro wq hSw; go_simp; try rfl
              simp only [Act.put, List.setIfInBounds_toArray, List.set_cons_zero, List.set_cons_succ]
              refine wpAnyH_ready (rs := [11]) (by kernel_rfl) (by simp) ?_
              refine AllReadyH.cons rfl (fun K hK => ?_) AllReadyH.nil
              go_simp
              go_wp2_with fail
              refine KO.out.mono ?_
              rintro e w16 ⟨rfl, hww⟩
              obtain rfl : w15 = w16 := hww.symm
              go_wp2_with fail
              refine hK.out _ _ trivial (fun hS => ?_)
              clear hK K
              (try simp only [Act.put, List.setIfInBounds_toArray, List.set_cons_zero, List.set_cons_succ])
              refine take_at 13 (some 108) (v := ?_) rfl rfl (by kernel_rfl) (by kernel_rfl) (by kernel_rfl) (fun _ _ _ h => h) ⟨by rfl, ?_⟩ hS ?_
              rotate_left
              · intro wq hSw; go_simp; try rfl
              simp only [Act.put, List.setIfInBounds_toArray, List.set_cons_zero, List.set_cons_succ]
              refine take_at 14 (some 109) (v := ?_) rfl rfl (by kernel_rfl) (by kernel_rfl) (by kernel_rfl) (fun _ _ _ h => h) ⟨by rfl, ?_⟩ hS ?_
              rotate_left
              · intro wq hSw; go_simp; try rfl
              simp only [Act.put, List.setIfInBounds_toArray, List.set_cons_zero, List.set_cons_succ]
              refine take_at 15 (some 110) (v := ?_) rfl rfl (by kernel_rfl) (by kernel_rfl) (by kernel_rfl) (fun _ _ _ h => h) ⟨by rfl, ?_⟩ hS ?_
              rotate_left
              · intro wq hSw; go_simp; try rfl
              simp only [Act.put, List.setIfInBounds_toArray, List.set_cons_zero, List.set_cons_succ]
              refine wpAnyH_done (by kernel_rfl) ?_ _
              go_wp2_with fail
              go_roundw
              case rel => exact ⟨j, ac1, nm1, aa1, _, S13, T5, g2, m2, xs1, rfl, rfl, by go_num, G15.out, B15.out⟩
              case measure => simp [intOf]; omega
            · obtain ⟨_, he13⟩ : m1.forE g' (k : Int) ≠ 0 ∧ ErrNew w13 w12.heap.size v13 forceS 0 (m1.forE g' (k : Int)) := hv13.resolve_left (fun q => by rw [f1] at q; exact absurd q.1 (by decide))
              obtain ⟨eb, rfl, _⟩ := he13
              have G14 := hide (show Grs G0 L0 w0 X n c0 j nm1 w13.drew (ext lab13 w13.heap.size 0) S13 T5 l d (m1.forD g' (k : Int)) (m1.forM g' (k : Int)) (.slice aa1 j ac1) xs1 from ⟨ST14.out, by rw [f2]; exact HMF.out, by rw [f2]; exact HMC.out, by rw [f2]; exact ⟨HMK.out.len, HMK.out.place, HMK.out.fo⟩, HXL.out, hjn, by rw [f2]; exact HLD2.out, by rw [f2]; show m1.forced ≤ nm1; have := HNM.out; omega, HNM.out.1, by have := FC.out; have := G2.out.calls; have := HJ.out; omega, f7, (forD_len m1 g' (k : Int) G2.out.st.lv.ld.dev.ok (Holds.allB HLD2.out)).trans G2.out.gn, (fun q => by rw [f2] at q; cases q), (fun _ => by have := G2.out.lf HE.out; omega), .inr ⟨by rw [f2], kk, by rw [f2]; exact f3, by have := HNM.out; omega, by rw [f2]; show Wip _ 2 n m1.recs kk X; rw [← HMF.out, ← HMC.out]; exact f5, f6⟩⟩)
              have hen : (m1.forM g' (k : Int)).ended = true := by rw [f2]
              generalize m1.forM g' (k : Int) = m2 at *
              generalize m1.forD g' (k : Int) = g2 at *
              clear f1 f2 f3 f4 f5 f6 f7 f8 hv13 HFO ST13 B13 ST14
              have KE := hide (err_any G14.out.st.lv.ld)
              go_upto_region 16 with fail
              refine wp_region_held_drew (S := fun _ => True) (by kernel_rfl) trivial (fun hS => ?_)
              generalize w13.drew = w14 at *
              refine take_at 0 (some 95) (v := ?_) rfl rfl (by kernel_rfl) (by kernel_rfl) (by kernel_rfl) (fun _ _ _ h => h) ⟨by rfl, ?_⟩ hS ?_
              rotate_left
              · intro wq hSw; go_simp; try rfl
              simp only [Act.put, List.setIfInBounds_toArray, List.set_cons_zero, List.set_cons_succ]
              refine take_at 1 (some 96) (v := ?_) rfl rfl (by kernel_rfl) (by kernel_rfl) (by kernel_rfl) (fun _ _ _ h => h) ⟨by rfl, ?_⟩ hS ?_
              rotate_left
              · intro wq hSw; go_simp; try rfl
              simp only [Act.put, List.setIfInBounds_toArray, List.set_cons_zero, List.set_cons_succ]
              refine take_at 2 (some 97) (v := ?_) rfl rfl (by kernel_rfl) (by kernel_rfl) (by kernel_rfl) (fun _ _ _ h => h) ⟨by rfl, ?_⟩ hS ?_
              rotate_left
              · intro wq hSw; go_simp; try rfl
              simp only [Act.put, List.setIfInBounds_toArray, List.set_cons_zero, List.set_cons_succ]
              refine wpAnyH_ready (rs := [3]) (by kernel_rfl) (by simp) ?_
              refine AllReadyH.cons rfl (fun K hK => ?_) AllReadyH.nil
              go_simp
              go_wp2_with fail
              refine KE.out.mono ?_
              rintro e w15 ⟨v15, rfl, hv15, b15⟩
              obtain ⟨eb2, rfl⟩ : ∃ q, v15 = .iface 139 (.pointer (some ⟨q, 0, none⟩)) := by
                rcases hv15 with q | q
                · rw [hen] at q; exact absurd q.1 (by simp)
                · obtain ⟨q1, q2, _⟩ := q.2; exact ⟨q1, q2⟩
              have G15 := hide (show Grs G0 L0 w0 X n c0 j nm1 w15 (ext (ext lab13 w13.heap.size 0) w14.heap.size 0) S13 T5 l d g2 m2 (.slice aa1 j ac1) xs1 from ⟨G14.out.st.below b15 0, G14.out.first, G14.out.count, G14.out.ok, G14.out.len, G14.out.hi, G14.out.holds, G14.out.fo, G14.out.nm, G14.out.calls, G14.out.pend, G14.out.gn, G14.out.lf, G14.out.en, G14.out.dis⟩)
              have B15 := hide (B14.out.below b15 0)
              clear KE b15 G14 B14 hv15
              go_wp2_with fail
              refine hK.out _ _ trivial (fun hS => ?_)
              clear hK K
              (try simp only [Act.put, List.setIfInBounds_toArray, List.set_cons_zero, List.set_cons_succ])
              refine take_at 4 (some 99) (v := ?_) rfl rfl (by kernel_rfl) (by kernel_rfl) (by kernel_rfl) (fun _ _ _ h => h) ⟨by rfl, ?_⟩ hS ?_
              rotate_left
              · intro wq hSw; go_simp; try rfl
              simp only [Act.put, List.setIfInBounds_toArray, List.set_cons_zero, List.set_cons_succ]
              refine take_at 5 (some 100) (v := ?_) rfl rfl (by kernel_rfl) (by kernel_rfl) (by kernel_rfl) (fun _ _ _ h => h) ⟨by rfl, ?_⟩ hS ?_
              rotate_left
              · intro wq hSw; go_simp; try rfl
              simp only [Act.put, List.setIfInBounds_toArray, List.set_cons_zero, List.set_cons_succ]
              refine take_at 6 (some 101) (v := ?_) rfl rfl (by kernel_rfl) (by kernel_rfl) (by kernel_rfl) (fun _ _ _ h => h) ⟨by rfl, ?_⟩ hS ?_
              rotate_left
              · intro wq hSw; go_simp; try rfl
              simp only [Act.put, List.setIfInBounds_toArray, List.set_cons_zero, List.set_cons_succ]
              refine take_at 7 (some 102) (v := ?_) rfl rfl (by kernel_rfl) (by kernel_rfl) (by kernel_rfl) (fun _ _ _ h => h) ⟨by rfl, ?_⟩ hS ?_
              rotate_left
              · intro wq hSw; go_simp; try rfl
              simp only [Act.put, List.setIfInBounds_toArray, List.set_cons_zero, List.set_cons_succ]
              refine take_at 8 (some 103) (v := ?_) rfl rfl (by kernel_rfl) (by kernel_rfl) (by kernel_rfl) (fun _ _ _ h => h) ⟨by rfl, ?_⟩ hS ?_
              rotate_left
              · intro wq hSw; go_simp; try rfl
              simp only [Act.put, List.setIfInBounds_toArray, List.set_cons_zero, List.set_cons_succ]
              refine take_at 9 (some 104) (v := ?_) rfl rfl (by kernel_rfl) (by kernel_rfl) (by kernel_rfl) (fun _ _ _ h => h) ⟨by rfl, ?_⟩ hS ?_
              rotate_left
              · intro wq hSw; go_simp; try rfl
              simp only [Act.put, List.setIfInBounds_toArray, List.set_cons_zero, List.set_cons_succ]
              refine pass_at 10 (some 105) rfl rfl (by kernel_rfl) (by kernel_rfl) (by kernel_rfl) (fun _ _ _ h => h) (by rfl) hS ?_
              simp only [Act.put, List.setIfInBounds_toArray, List.set_cons_zero, List.set_cons_succ]
              refine pass_at 11 (some 106) rfl rfl (by kernel_rfl) (by kernel_rfl) (by kernel_rfl) (fun _ _ _ h => h) (by rfl) hS ?_
              simp only [Act.put, List.setIfInBounds_toArray, List.set_cons_zero, List.set_cons_succ]
              refine pass_at 12 (some 107) rfl rfl (by kernel_rfl) (by kernel_rfl) (by kernel_rfl) (fun _ _ _ h => h) (by rfl) hS ?_
              simp only [Act.put, List.setIfInBounds_toArray, List.set_cons_zero, List.set_cons_succ]
              refine pass_at 13 (some 108) rfl rfl (by kernel_rfl) (by kernel_rfl) (by kernel_rfl) (fun _ _ _ h => h) (by rfl) hS ?_
              simp only [Act.put, List.setIfInBounds_toArray, List.set_cons_zero, List.set_cons_succ]
              refine take_at 14 (some 109) (v := ?_) rfl rfl (by kernel_rfl) (by kernel_rfl) (by kernel_rfl) (fun _ _ _ h => h) ⟨by rfl, ?_⟩ hS ?_
              rotate_left
              · intro wq hSw; go_simp; try rfl
              simp only [Act.put, List.setIfInBounds_toArray, List.set_cons_zero, List.set_cons_succ]
              refine take_at 15 (some 110) (v := ?_) rfl rfl (by kernel_rfl) (by kernel_rfl) (by kernel_rfl) (fun _ _ _ h => h) ⟨by rfl, ?_⟩ hS ?_
              rotate_left
              · intro wq hSw; go_simp; try rfl
              simp only [Act.put, List.setIfInBounds_toArray, List.set_cons_zero, List.set_cons_succ]
              refine wpAnyH_done (by kernel_rfl) ?_ _
              go_wp2_with fail
              go_roundw
              case rel => exact ⟨j, ac1, nm1, aa1, _, S13, T5, g2, m2, xs1, rfl, rfl, by go_num, G15.out, B15.out⟩
              case measure => simp [intOf]; omega
          · have dk : decide (0 < (k : Int)) = false := by simp; omega
            have G14 := hide (show Grs G0 L0 w0 X n c0 j named w12 lab12 S' T5 l d g' m1 (.slice aa1 j ac1) xs1 from ⟨S12.out, HMF.out, HMC.out, HMK.out, HXL.out, hjn, HLD2.out, hfo1, hnj, hcl1, G2.out.pend, G2.out.gn, fun _ => G2.out.lf HE.out, (fun q => by rw [HME.out] at q; cases q), .inl ⟨HME.out, HGW.out⟩⟩)
            clear S12
            go_wp2_with fail
            go_roundw
            case rel => exact ⟨j, ac1, named, aa1, lab12, S', T5, g', m1, xs1, rfl, rfl, by go_num, G14.out, B12.out⟩
            case measure => simp [intOf]; omega
        · obtain ⟨a1, a2, a3⟩ := app_end r1 he
          rw [a1, a2]
          rw [a3] at S5
          have HE := hide he
          have KE := hide (err_any S5.out.lv.ld)
          clear a1 a2 a3 he
          go_wp2_with fail
          refine KE.out.mono ?_
          rintro e w6 ⟨v6, rfl, hv6, b6⟩
          obtain ⟨eb, rfl⟩ : ∃ eb, v6 = .iface 139 (.pointer (some ⟨eb, 0, none⟩)) := by
            rcases hv6 with q | q
            · rw [q.1] at HE; exact absurd HE.out (by simp)
            · obtain ⟨eb, q1, _⟩ := q.2; exact ⟨eb, q1⟩
          have S6 := hide (S5.out.below b6 0)
          have B6 := hide (B5.out.below b6 0)
          clear KE b6 S5 B5 R5 HL5 hv6
          have KN := hide (num_any 40 w6)
          go_wp2_with fail
          refine KN.out.mono ?_
          rintro e w7 ⟨rfl, hww⟩
          obtain rfl : w6 = w7 := hww.symm
          go_wp2_with fail
          exact bodyPost_ret (v := .tuple #[.slice aa i ac, .int .i64 (named : Int), .bool true]) (by simp [results, Tryz.results22, go_sem]) rfl ⟨aa, i, ac, named, _, _, _, _, _, _, rfl, ⟨S6.out, G2.out.first, G2.out.count, G2.out.ok, G2.out.len, G2.out.hi, G2.out.holds, G2.out.fo, G2.out.nm, G2.out.calls, G2.out.pend, G2.out.gn, G2.out.lf, G2.out.en, .inr ⟨HE.out, hwp⟩⟩, B6.out.xbox, B6.out.xlb, fun q => by rw [HE.out] at q; cases q⟩
      · have d2 : decide ((i : Int) < (n : Int)) = false := by simp; omega
        go_wp2_with fail
        exact bodyPost_ret (v := .tuple #[.slice aa i ac, .int .i64 (named : Int), .bool true]) (by simp [results, Tryz.results22, go_sem]) rfl ⟨aa, i, ac, named, _, _, _, _, _, _, rfl, G2.out, B2.out.xbox, B2.out.xlb, fun _ => .inr (by omega)⟩
    · have d1 : decide ((i : Int) < (rl.length : Int)) = false := by simp; omega
      go_wp2_with fail
      exact bodyPost_ret (v := .tuple #[.slice aa i ac, .int .i64 (named : Int), .bool true]) (by simp [results, Tryz.results22, go_sem]) rfl ⟨aa, i, ac, named, _, _, _, _, _, _, rfl, HG.out, HB.out.xbox, HB.out.xlb, fun _ => .inl (by omega)⟩
end Go.Proofs.YtgpmghdoofcpaaaGreat.Lg
