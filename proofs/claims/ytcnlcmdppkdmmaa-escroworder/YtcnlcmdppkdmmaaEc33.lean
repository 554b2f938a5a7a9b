import Derived.Test.YtcnlcmdppkdmmaaEc30
namespace Go.Proofs.Ytcnlcmdppkdmmaa
open Go.RowKit Go.QK Quota Go.Maps
set_option maxRecDepth 100000

/-- How the law stands: the escrow and its copy, the nets, the ways, what Interval told ahead, what is wanted. -/
structure Ord (w wr : World) (b m bc mc I : Nat) (e f g : Esc) (al aw : Option Addr) (ws : List Bool) : Prop where
  pe : PE wr b m f
  pc : PE wr bc mc g
  row : Lies wr al (rowsC netC e.nets)
  wys : Lies wr aw (ws.map Value.bool)
  bi : Box wr I (.int .i64 e.low) (.int .i64 e.high)
  bel : Below w.heap.size w wr
theorem Ord.below {w wr wr' : World} {b m bc mc I : Nat} {e f g : Esc} {al aw : Option Addr} {ws : List Bool} (h : Ord w wr b m bc mc I e f g al aw ws) (hb : Below wr.heap.size wr wr') : Ord w wr' b m bc mc I e f g al aw ws :=
  ⟨h.pe.below hb, h.pc.below hb, h.row.below hb, h.wys.below hb, h.bi.below hb, h.bel.trans (hb.mono h.bel.size)⟩
/-- They lie apart. -/
structure Sep (w : World) (b m bc mc I J : Nat) (al aw : Option Addr) (ws : List Bool) : Prop where
  p1 : w.heap.size ≤ b
  p2 : w.heap.size ≤ m
  p3 : b < bc ∧ b < mc ∧ m < bc ∧ m < mc
  p4 : bc < I ∧ mc < I
  p5 : I < J
  p6 : ∀ ad, al = some ad → J < ad.block
  p7 : ws ≠ [] → ∀ ad, aw = some ad → ad.block < w.heap.size
theorem Lies.keep2 {S : Nat → Prop} {w w' : World} {a : Option Addr} {cs : List Value} (h : Lies w a cs) (hb : Keep S w w') (hn : cs ≠ [] → ∀ ad, a = some ad → ¬ S ad.block) : Lies w' a cs := by
  by_cases q : cs = []
  · exact .inl q
  · exact h.keep hb (hn q)
theorem Box.kept {S : Nat → Prop} {w w' : World} {b : Nat} {x y : Value} (h : Box w b x y) (k : Keep S w w') (hn : ¬ S b) : Box w' b x y :=
  ⟨Nat.lt_of_lt_of_le h.1 k.size, (k.cell (p := ⟨b, 0, none⟩) h.1 hn).trans h.2.1, (k.cell (p := ⟨b, 1, none⟩) h.1 hn).trans h.2.2.1, (k.frozen (p := ⟨b, 0, none⟩) h.1 hn).trans h.2.2.2.1, (k.frozen (p := ⟨b, 1, none⟩) h.1 hn).trans h.2.2.2.2⟩
theorem Ord.stepE {w wr wr' : World} {b m bc mc I J : Nat} {e f f' g : Esc} {al aw : Option Addr} {ws : List Bool} (h : Ord w wr b m bc mc I e f g al aw ws) (s : Sep w b m bc mc I J al aw ws) (k : Keep (two b m) wr wr') (p : PE wr' b m f') : Ord w wr' b m bc mc I e f' g al aw ws := by
  obtain ⟨s1, s2, s3, s4, s5, s6, s7⟩ := s
  refine ⟨p, h.pc.keep k ?_ ?_, h.row.keep k ?_, h.wys.keep2 k ?_, h.bi.kept k ?_, h.bel.trans (k.below h.bel.size (two_lt s1 s2))⟩
  · intro q; rcases q with q | q <;> omega
  · intro q; rcases q with q | q <;> omega
  · intro ad hd q; have := s6 ad hd; rcases q with q | q <;> omega
  · intro hne ad hd q; have := s7 (fun r => hne (by rw [r]; rfl)) ad hd; rcases q with q | q <;> omega
  · intro q; rcases q with q | q <;> omega
theorem Ord.stepC {w wr wr' : World} {b m bc mc I J : Nat} {e f g g' : Esc} {al aw : Option Addr} {ws : List Bool} (h : Ord w wr b m bc mc I e f g al aw ws) (s : Sep w b m bc mc I J al aw ws) (k : Keep (two bc mc) wr wr') (p : PE wr' bc mc g') : Ord w wr' b m bc mc I e f g' al aw ws := by
  obtain ⟨s1, s2, s3, s4, s5, s6, s7⟩ := s
  refine ⟨h.pe.keep k ?_ ?_, p, h.row.keep k ?_, h.wys.keep2 k ?_, h.bi.kept k ?_, h.bel.trans (k.below h.bel.size (two_lt (by omega) (by omega)))⟩
  · intro q; rcases q with q | q <;> omega
  · intro q; rcases q with q | q <;> omega
  · intro ad hd q; have := s6 ad hd; rcases q with q | q <;> omega
  · intro hne ad hd q; have := s7 (fun r => hne (by rw [r]; rfl)) ad hd; rcases q with q | q <;> omega
  · intro q; rcases q with q | q <;> omega

theorem Ord.stepW {w wr wr' : World} {b m bc mc I J : Nat} {e f g : Esc} {al aw : Option Addr} {ws : List Bool} (h : Ord w wr b m bc mc I e f g al aw ws) (s : Sep w b m bc mc I J al aw ws) (k : Keep (fun x => x = J) wr wr') : Ord w wr' b m bc mc I e f g al aw ws := by
  obtain ⟨s1, s2, s3, s4, s5, s6, s7⟩ := s
  refine ⟨h.pe.keep k ?_ ?_, h.pc.keep k ?_ ?_, h.row.keep k ?_, h.wys.keep2 k ?_, h.bi.kept k ?_, h.bel.trans (k.below h.bel.size (fun x hx q => by omega))⟩
  · omega
  · omega
  · omega
  · omega
  · intro ad hd q; have := s6 ad hd; omega
  · intro hne ad hd q; have := s7 (fun r => hne (by rw [r]; rfl)) ad hd; omega
  · omega
theorem stF_start (e : Esc) {s : Nat → Nat} (wy : Int → Bool) : stF e (dnS e.nets s 0) wy = e := by
  have e1 : e.nets.filter (fun p => !dnS e.nets s 0 p.1) = e.nets := by
    rw [List.filter_eq_self]
    intro p _
    rfl
  have e2 : e.nets.filter (fun p => dnS e.nets s 0 p.1 && wy p.1) = [] := by
    rw [List.filter_eq_nil_iff]
    intro p _
    simp [dnS]
  unfold stF
  rw [e1, e2]
  simp [sumF]
theorem turn_T (turn : Int) : ∃ T0 : Nat, T0 ≤ 15 ∧ wrap64 (Int.tmod turn 8 + 8) = (T0 : Int) := by
  have hr1 := Int.tmod_lt_of_pos turn (show (0 : Int) < 8 by omega)
  have hr2 := Int.lt_tmod_of_pos turn (show (0 : Int) < 8 by omega)
  generalize Int.tmod turn 8 = r at *
  refine ⟨(r + 8).toNat, by omega, ?_⟩
  rw [wrapI (by unfold I64; omega)]
  omega
theorem tmod_nat (k T n : Nat) (_h : 0 < n) : ((k : Int) + (T : Int)).tmod (n : Int) = (((k + T) % n : Nat) : Int) := by
  have e1 : ((k : Int) + (T : Int)) = ((k + T : Nat) : Int) := by simp
  rw [e1, Int.tmod_eq_emod_of_nonneg (Int.natCast_nonneg _)]
  rfl
theorem ord_step {e : Esc} (ok : e.Ok) (ws : List Bool) {s : Nat → Nat} (hs : ∀ i, i < e.nets.length → s i < e.nets.length) (hin : ∀ i j, i < e.nets.length → j < e.nets.length → s i = s j → i = j) {k : Nat} (hk : k < e.nets.length) :
    (ws.getD (s k) false = true → holdB (stF e (dnS e.nets s k) (wyB e.nets ws)).nets (keyAt e.nets (s k)) = true ∧ setN (stF e (dnS e.nets s k) (wyB e.nets ws)) (keyAt e.nets (s k)) = stF e (dnS e.nets s (k + 1)) (wyB e.nets ws)) ∧
    (ws.getD (s k) false = false → holdB (stF e (dnS e.nets s k) (wyB e.nets ws)).nets (keyAt e.nets (s k)) = true ∧ relN (stF e (dnS e.nets s k) (wyB e.nets ws)) (keyAt e.nets (s k)) = stF e (dnS e.nets s (k + 1)) (wyB e.nets ws)) ∧
    holdB (stF e (dnS e.nets s (k + 1)) (wyB e.nets ws)).nets (keyAt e.nets (s k)) = false := by
  have h1 := dnS_new ok.rise hs hin hk
  have hm : holdB e.nets (keyAt e.nets (s k)) = true := by
    rw [keyAt_eq (hs k hk)]
    exact (netV_of_mem ok.rise (List.getElem_mem (hs k hk))).2
  have hw := wyB_at ok.rise ws (hs k hk)
  rw [dnS_succ]
  refine ⟨fun h => stF_set ok _ _ h1 hm (by rw [hw, h]), fun h => stF_rel ok _ _ h1 hm (by rw [hw, h]), stF_gone _ _ _ _⟩
theorem allS_snoc2 (M : Nets) (p : Int × Int) : allS (M ++ [p]) = allS M + p.2 := by
  induction M with
  | nil => simp [sumF]
  | cons q r ih => simp only [allS, List.cons_append, sumF, id] at *; omega
theorem want_step {L : Nets} (hr : Rise L) (ws : List Bool) {k : Nat} (h : k < L.length) : allS ((L.take (k + 1)).filter (fun p => wyB L ws p.1)) = allS ((L.take k).filter (fun p => wyB L ws p.1)) + if ws.getD k false then L[k].2 else 0 := by
  rw [List.take_succ_eq_append_getElem h, List.filter_append]
  have hw := wyB_at hr ws h
  rw [keyAt_eq h] at hw
  cases q : ws.getD k false
  · rw [q] at hw
    simp [hw]
  · rw [q] at hw
    simp only [List.filter_cons, List.filter_nil, hw, if_true]
    rw [allS_snoc2]
theorem want_I {e : Esc} (ok : e.Ok) (ws : List Bool) (k : Nat) : I64 (e.base + allS ((e.nets.take k).filter (fun p => wyB e.nets ws p.1))) := by
  have h1 : ∀ (L : Nets) (k : Nat) (g : Int × Int → Bool), lowS L ≤ allS ((L.take k).filter g) ∧ allS ((L.take k).filter g) ≤ highS L := by
    intro L
    induction L with
    | nil => intro k g; simp [sumF]
    | cons p r ih =>
      intro k g
      cases k with
      | zero =>
        have := low_nonpos (p :: r)
        simpa [sumF] using this
      | succ k =>
        have := ih k g
        simp only [List.take_succ_cons, List.filter_cons]
        split <;> simp only [lowS, highS, allS, sumF, neg0, pos0, id] at * <;> omega
  have h2 := h1 e.nets k (fun p => wyB e.nets ws p.1)
  have a := ok.rng.1
  have b := ok.rng.2.1
  unfold I64 at *
  unfold Esc.low Esc.high at *
  omega

/-- The one whose turn it is (x), and the other. -/
structure SepX (w : World) (bx mx by' my I J : Nat) (al aw : Option Addr) (ws : List Bool) : Prop where
  p1 : w.heap.size ≤ bx ∧ w.heap.size ≤ mx
  p2 : bx ≠ by' ∧ bx ≠ my ∧ mx ≠ by' ∧ mx ≠ my
  p3 : bx ≠ I ∧ mx ≠ I ∧ bx ≠ J ∧ mx ≠ J
  p6 : ∀ ad, al = some ad → ad.block ≠ bx ∧ ad.block ≠ mx
  p7 : ws ≠ [] → ∀ ad, aw = some ad → ad.block < w.heap.size
theorem Sep.one {w : World} {b m bc mc I J : Nat} {al aw : Option Addr} {ws : List Bool} (s : Sep w b m bc mc I J al aw ws) : SepX w b m bc mc I J al aw ws := by
  obtain ⟨s1, s2, s3, s4, s5, s6, s7⟩ := s
  exact ⟨⟨s1, s2⟩, by omega, by omega, fun ad hd => by have := s6 ad hd; omega, s7⟩
theorem Sep.other {w : World} {b m bc mc I J : Nat} {al aw : Option Addr} {ws : List Bool} (s : Sep w b m bc mc I J al aw ws) : SepX w bc mc b m I J al aw ws := by
  obtain ⟨s1, s2, s3, s4, s5, s6, s7⟩ := s
  exact ⟨by omega, by omega, by omega, fun ad hd => by have := s6 ad hd; omega, s7⟩
theorem Ord.swap {w wr : World} {b m bc mc I : Nat} {e f g : Esc} {al aw : Option Addr} {ws : List Bool} (h : Ord w wr b m bc mc I e f g al aw ws) : Ord w wr bc mc b m I e g f al aw ws := ⟨h.pc, h.pe, h.row, h.wys, h.bi, h.bel⟩
theorem Ord.stepX {w wr wr' : World} {b m bc mc I J : Nat} {e f f' g : Esc} {al aw : Option Addr} {ws : List Bool} (h : Ord w wr b m bc mc I e f g al aw ws) (s : SepX w b m bc mc I J al aw ws) (k : Keep (two b m) wr wr') (p : PE wr' b m f') : Ord w wr' b m bc mc I e f' g al aw ws := by
  obtain ⟨⟨s1, s2⟩, s3, s4, s6, s7⟩ := s
  refine ⟨p, h.pc.keep k ?_ ?_, h.row.keep k ?_, h.wys.keep2 k ?_, h.bi.kept k ?_, h.bel.trans (k.below h.bel.size (two_lt s1 s2))⟩
  · intro q; rcases q with q | q <;> omega
  · intro q; rcases q with q | q <;> omega
  · intro ad hd q; have := s6 ad hd; rcases q with q | q <;> omega
  · intro hne ad hd q; have := s7 (fun r => hne (by rw [r]; rfl)) ad hd; rcases q with q | q <;> omega
  · intro q; rcases q with q | q <;> omega
/-- A turn: place NN's holder ends in the one whose turn it is. -/
structure Turn (w wr : World) (b m bc mc I J : Nat) (e : Esc) (F G : Nat → Esc) (k z : Nat) (al aw : Option Addr) (ws : List Bool) (bx mx by' my NN : Nat) (f0 f1 g : Esc) : Prop where
  hq : NN < e.nets.length
  ord : Ord w wr bx mx by' my I e f0 g al aw ws
  sep : SepX w bx mx by' my I J al aw ws
  way1 : ws.getD NN false = true → holdB f0.nets (keyAt e.nets NN) = true ∧ setN f0 (keyAt e.nets NN) = f1
  way2 : ws.getD NN false = false → holdB f0.nets (keyAt e.nets NN) = true ∧ relN f0 (keyAt e.nets NN) = f1
  gone : holdB f1.nets (keyAt e.nets NN) = false
  ok : f1.Ok
  lo : e.low ≤ f1.low
  hi : f1.high ≤ e.high
  back : ∀ wq, Ord w wq bx mx by' my I e f1 g al aw ws → Ord w wq b m bc mc I e (F (if z + 1 = 0 then k else k + 1)) (G (if z + 1 ≤ 1 then k else k + 1)) al aw ws

set_option maxHeartbeats 32000000 in
theorem law_order (lo hi v : Int) (ds : List Deed) (a : Option Addr) (cap : Nat) (ws : List Bool) (aw : Option Addr) (cw : Nat) (turn : Int) (w : World) (h1 : I64 lo) (h2 : I64 hi) (hs : Lies w a (rowsC deedC ds)) (hx : ∀ d ∈ ds, I64 d.1 ∧ I64 d.2) (hl : ds.length ≤ 9223372036854775807) (hw : Lies w aw (ws.map Value.bool)) (hwl : ws.length ≤ 9223372036854775807) :
    Calls Try.prog 4 #[rng lo hi, .int .i64 v, .slice a ds.length cap, .slice aw ws.length cw, .int .i64 turn] w fun r w' => r = .returned (.bool true) ∧ Below w.heap.size w w' := by
  have KM := fun w' (h : Lies w' a (rowsC deedC ds)) => made_any lo hi v ds a cap w' h1 h2 h hx hl
  have h8 := madeM_eight lo hi v ds
  have hlen := madeM_len lo hi v ds
  obtain ⟨e, he⟩ : ∃ e, e = madeM lo hi v ds := ⟨_, rfl⟩
  rw [← he] at KM h8 hlen
  have HS := hide hs
  have HW := hide hw
  clear he hs hx hl h1 h2 hw
  go_enter Try.func4, Try.ntmps4
  go_wp2_with fail
  refine (first_any _).mono ?_
  rintro r w1 ⟨rfl, h1⟩
  obtain ⟨c0, c1, _, _, z0⟩ := keep1 h1
  have B1 := hide (below1 h1)
  clear h1
  go_wp2_with fail
  refine (KM _ (HS.out.below B1.out)).mono ?_
  rintro r w2 ⟨b, m, rfl, P2, g1, g2, h2⟩
  have B2 := hide (B1.out.trans (h2.mono B1.out.size))
  have s1 := B1.out.size
  have HP2 := hide P2
  clear h2 P2 KM B1 c0 c1
  go_wp2_with fail
  refine (copy_any b m e _ HP2.out).mono ?_
  rintro r w3 ⟨bc, mc, rfl, Q3, g3, g4, h3⟩
  have lt2 := HP2.out.lt
  have B3 := hide (B2.out.trans (h3.mono B2.out.size))
  have P3 := hide (HP2.out.below h3)
  have Q3 := hide Q3
  clear h3 HP2 B2
  go_wp2_with fail
  refine (interval_any b m e _ P3.out).mono ?_
  rintro r w4 ⟨rfl, h4⟩
  have lt3 := Q3.out.lt
  have o4 := h4.alloc h4.size (.cells #[.int .i64 e.low, .int .i64 e.high] 23)
  have P4 := hide (P3.out.below o4)
  have Q4 := hide (Q3.out.below o4)
  have X4 := hide (Box.new w4 (.int .i64 e.low) (.int .i64 e.high) 23)
  have B4 := hide (B3.out.trans (o4.mono B3.out.size))
  have s4 := h4.size
  clear h4 o4 P3 Q3 B3
  go_wp2_with fail
  refine (settled_any b m e _ P4.out).mono ?_
  rintro r w5 ⟨rfl, h5⟩
  have P5 := hide (P4.out.below h5)
  have Q5 := hide (Q4.out.below h5)
  have X5 := hide (X4.out.below h5)
  have B5 := hide (B4.out.trans (h5.mono B4.out.size))
  clear h5 P4 Q4 X4 B4
  go_wp2_with fail
  refine (of_any e.base _).mono ?_
  rintro r w6 ⟨rfl, h6⟩
  have lx5 := (X5.out.below h6).1
  have o6 := h6.alloc h6.size (.cells #[.int .i64 (wh e.base), .int .i64 (wl e.base)] 50)
  have P6 := hide (P5.out.below o6)
  have Q6 := hide (Q5.out.below o6)
  have X6 := hide (X5.out.below o6)
  have B6 := hide (B5.out.trans (o6.mono B5.out.size))
  have W6 := hide (Box.new w6 (.int .i64 (wh e.base)) (.int .i64 (wl e.base)) 50)
  clear h6 o6 P5 Q5 X5 B5
  go_wp2_with fail
  refine (nets_any b m e _ P6.out h8 (by omega)).mono ?_
  rintro r w7 ⟨al, cl, rfl, r7, h7⟩
  have hal := World.ownsRow.lt r7
  have O7 := hide (show Ord w w7 b m bc mc w4.heap.size e e e al aw ws from ⟨P6.out.below h7, Q6.out.below h7, by
    obtain ⟨a', c', q, hli, _⟩ := GRow.lies r7
    cases q
    exact hli, HW.out.below (B6.out.trans (h7.mono B6.out.size)), X6.out.below h7, B6.out.trans (h7.mono B6.out.size)⟩)
  have W7 := hide (W6.out.below h7)
  have SP := hide (show Sep w b m bc mc w4.heap.size w6.heap.size al aw ws from ⟨by omega, by omega, by omega, by omega, by omega, by
    intro ad hd
    subst hd
    have := (hal ad.block rfl).1
    simp at this
    omega, by
    intro hne ad hd
    rcases HW.out with q | ⟨b9, o9, q, hlt, _⟩
    · exact absurd (List.map_eq_nil_iff.1 q) hne
    · rw [hd] at q
      cases q
      exact hlt⟩)
  have ok := P6.out.ok
  clear h7 r7 hal P6 Q6 X6 B6 W6 HS
  go_wp2_with fail
  go_loopw [17] (fun i wr => ∃ k : Nat, k ≤ e.nets.length ∧ i = .int .i64 k ∧ Ord w wr b m bc mc w4.heap.size e e e al aw ws ∧ Box wr w6.heap.size (.int .i64 (wh (e.base + allS ((e.nets.take k).filter (fun p => wyB e.nets ws p.1))))) (.int .i64 (wl (e.base + allS ((e.nets.take k).filter (fun p => wyB e.nets ws p.1)))))) (fun i _ => e.nets.length - (intOf i).toNat)
  case atStart =>
    refine ⟨0, by omega, rfl, O7.out, ?_⟩
    rw [List.take_zero, show e.base + allS (([] : Nets).filter (fun p => wyB e.nets ws p.1)) = e.base from by simp [sumF]]
    exact W7.out
  case round =>
    obtain ⟨k, hk, rfl, hO, hW⟩ := hrel
    have HO := hide hO
    have HWT := hide hW
    clear hO hW
    by_cases q : k < e.nets.length
    · have hst := want_step ok.rise ws q
      have hI := want_I ok ws k
      generalize hZ : e.base + allS ((e.nets.take k).filter (fun p => wyB e.nets ws p.1)) = Z at *
      have hst2 : e.base + allS ((e.nets.take (k + 1)).filter (fun p => wyB e.nets ws p.1)) = Z + if ws.getD k false then e.nets[k].2 else 0 := by rw [hst]; omega
      have HST := hide hst2
      clear hst hst2 hZ
      by_cases qw : k < ws.length
      · obtain ⟨bw, ow, rfl, hlw, yw⟩ : ∃ bw ow, aw = some ⟨bw, ow, none⟩ ∧ bw < wr.heap.size ∧ wr.cell? ⟨bw, ow + k, none⟩ = some (.bool ws[k]) := by
          have := Lies.cellAt HO.out.wys k (.bool ws[k]) (by simp [qw])
          exact this
        have hgd : ws.getD k false = ws[k] := by simp [List.getD_eq_getElem?_getD, qw]
        rw [hgd] at HST
        cases hwk : ws[k]
        · rw [hwk] at HST yw
          clear hwk hgd
          go_wp2_with fail
          go_roundw
          case rel =>
            refine ⟨k + 1, by omega, by go_num, HO.out, ?_⟩
            rw [HST.out]
            simpa using HWT.out
          case measure => simp [intOf]; omega
        · rw [hwk] at HST yw
          clear hwk hgd
          obtain ⟨bl, off, rfl, hlt, hcell⟩ := Lies.rowAt netC 2 (fun _ => rfl) HO.out.row k q (by omega)
          have y1 := hcell 1 _ rfl
          have x1 := ok.all e.nets[k] (List.getElem_mem q)
          have NB := hide (show ¬ bl = w6.heap.size from by have := SP.out.p6 _ rfl; simp at this; omega)
          generalize e.nets[k].2 = nv at *
          have KP := fun w' => plus_w Z nv w' (I64.bd hI) x1
          clear hcell x1
          go_upto_region 16 with fail
          refine wp_region_held_drew (S := fun wq => wq.cell? ⟨bl, off + k * 2 + 1, none⟩ = some (.int .i64 nv)) (by kernel_rfl) y1 (fun hS => ?_)
          have HT := hide (HWT.out.below (Below.refl _ _).drew)
          have HO := hide (HO.out.below (Below.refl _ _).drew)
          have hlt2 : bl < wr.drew.heap.size := hlt
          clear y1 yw hlt hlw HWT
          generalize wr.drew = w8 at *
          obtain ⟨t0, t1, t2, t3, t4⟩ := HT.out
          refine take_at 1 (some 66) (v := ?_) rfl rfl (by kernel_rfl) (by kernel_rfl) (by kernel_rfl) (fun _ _ _ h => h) ⟨by rfl, ?_⟩ hS ?_
          rotate_left
          · intro wq hSw; go_simp; try rfl
          simp only [Act.put, List.setIfInBounds_toArray, List.set_cons_zero, List.set_cons_succ]
          refine take_at 2 (some 67) (v := ?_) rfl rfl (by kernel_rfl) (by kernel_rfl) (by kernel_rfl) (fun _ _ _ h => h) ⟨by rfl, ?_⟩ hS ?_
          rotate_left
          · intro wq hSw; go_simp; try rfl
          simp only [Act.put, List.setIfInBounds_toArray, List.set_cons_zero, List.set_cons_succ]
          refine take_at 3 (some 68) (v := ?_) rfl rfl (by kernel_rfl) (by kernel_rfl) (by kernel_rfl) (fun _ _ _ h => h) ⟨by rfl, ?_⟩ hS ?_
          rotate_left
          · intro wq hSw; go_simp; try rfl
          simp only [Act.put, List.setIfInBounds_toArray, List.set_cons_zero, List.set_cons_succ]
          refine take_at 4 (some 69) (v := ?_) rfl rfl (by kernel_rfl) (by kernel_rfl) (by kernel_rfl) (fun _ _ _ h => h) ⟨by rfl, ?_⟩ hS ?_
          rotate_left
          · intro wq hSw; go_simp; try rfl
          simp only [Act.put, List.setIfInBounds_toArray, List.set_cons_zero, List.set_cons_succ]
          refine take_at 5 (some 70) (v := ?_) rfl rfl (by kernel_rfl) (by kernel_rfl) (by kernel_rfl) (fun _ _ _ h => h) ⟨by rfl, ?_⟩ hS ?_
          rotate_left
          · intro wq hSw; have hSw := hSw; go_simp; try rfl
          simp only [Act.put, List.setIfInBounds_toArray, List.set_cons_zero, List.set_cons_succ]
          refine wpAnyH_ready (rs := [0]) (by kernel_rfl) (by simp) ?_
          refine AllReadyH.cons rfl (fun K hK => ?_) AllReadyH.nil
          go_simp
          go_wp2_with fail
          refine hK.out _ _ hS (fun hS => ?_)
          clear hK K
          (try simp only [Act.put, List.setIfInBounds_toArray, List.set_cons_zero, List.set_cons_succ])
          refine wpAnyH_ready (rs := [6]) (by kernel_rfl) (by simp) ?_
          refine AllReadyH.cons rfl (fun K hK => ?_) AllReadyH.nil
          go_simp
          go_wp2_with fail
          refine (KP _).mono ?_
          rintro r w9 ⟨rfl, h6⟩
          have HO6 := hide (HO.out.below h6)
          have HT6 := hide (HT.out.below h6)
          have y6 := (h6.cell (p := ⟨bl, off + k * 2 + 1, none⟩) hlt2).trans hS
          have hlt6 := Nat.lt_of_lt_of_le hlt2 h6.size
          clear h6
          go_wp2_with fail
          refine hK.out _ _ y6 (fun hS => ?_)
          clear hK K
          (try simp only [Act.put, List.setIfInBounds_toArray, List.set_cons_zero, List.set_cons_succ])
          obtain ⟨u0, u1, u2, u3, u4⟩ := HT6.out
          have K7 := ((Keep.refl (fun x => x = w6.heap.size) w9).setCell (g := w6.heap.size) (j := 0) (fun _ => rfl) (.int .i64 (wh (Z + nv)))).setCell (g := w6.heap.size) (j := 1) (fun _ => rfl) (.int .i64 (wl (Z + nv)))
          have y7 := (K7.cell (p := ⟨bl, off + k * 2 + 1, none⟩) hlt6 NB.out).trans y6
          have O9 := hide (HO6.out.stepW SP.out K7)
          refine wpAnyH_ready (rs := [7]) (by kernel_rfl) (by simp) ?_
          refine AllReadyH.cons rfl (fun K hK => ?_) AllReadyH.nil
          go_simp
          go_wp2_with fail
          refine hK.out _ _ y7 (fun hS => ?_)
          clear hK K
          (try simp only [Act.put, List.setIfInBounds_toArray, List.set_cons_zero, List.set_cons_succ])
          refine wpAnyH_done (by kernel_rfl) ?_ _
          go_wp2_with fail
          go_roundw
          case rel =>
            refine ⟨k + 1, by omega, by go_num, O9.out, ?_⟩
            rw [HST.out]
            simpa using Box.set HT6.out (.int .i64 (wh (Z + nv))) (.int .i64 (wl (Z + nv)))
          case measure => simp [intOf]; omega
      · have hgd : ws.getD k false = false := by simp [List.getD_eq_getElem?_getD, qw]
        rw [hgd] at HST
        clear hgd
        go_wp2_with fail
        go_roundw
        case rel =>
          refine ⟨k + 1, by omega, by go_num, HO.out, ?_⟩
          rw [HST.out]
          simpa using HWT.out
        case measure => simp [intOf]; omega
    · obtain rfl : k = e.nets.length := by omega
      rw [List.take_length] at HWT
      have hWI := want_I ok ws e.nets.length
      rw [List.take_length] at hWI
      clear O7 W7 hk
      obtain ⟨T0, hT15, hwT⟩ := turn_T turn
      have HWT0 := hide hwT
      clear hwT
      obtain ⟨WV, hWV⟩ : ∃ z, z = e.base + allS (e.nets.filter (fun p => wyB e.nets ws p.1)) := ⟨_, rfl⟩
      rw [← hWV] at HWT hWI
      have HWV := hide hWV
      clear hWV
      obtain ⟨F, hF⟩ : ∃ F : Nat → Esc, F = fun i => stF e (dnS e.nets (fun j => j) i) (wyB e.nets ws) := ⟨_, rfl⟩
      obtain ⟨G, hG⟩ : ∃ G : Nat → Esc, G = fun i => stF e (dnS e.nets (turnS e.nets.length T0) i) (wyB e.nets ws) := ⟨_, rfl⟩
      have HF := hide hF
      have HG := hide hG
      have hF0 : F 0 = e := by rw [hF]; exact stF_start e _
      have hG0 : G 0 = e := by rw [hG]; exact stF_start e _
      have HO := hide (show Ord w wr b m bc mc w4.heap.size e (F 0) (G 0) al aw ws from by rw [hF0, hG0]; exact HO.out)
      clear hF hG hF0 hG0
      go_wp2_with fail
      go_loopw [18] (fun i wr => ∃ k : Nat, k ≤ e.nets.length ∧ i = .int .i64 k ∧ Ord w wr b m bc mc w4.heap.size e (F k) (G k) al aw ws ∧ Box wr w6.heap.size (.int .i64 (wh WV)) (.int .i64 (wl WV))) (fun i _ => e.nets.length - (intOf i).toNat)
      case atStart => exact ⟨0, by omega, rfl, HO.out, HWT.out⟩
      case round =>
        obtain ⟨k, hk, rfl, hO, hW⟩ := hrel
        have HO := hide hO
        have HWT := hide hW
        clear hO hW
        by_cases q : k < e.nets.length
        · obtain ⟨K2, hK2⟩ : ∃ K2 : Nat, K2 = (k + T0) % e.nets.length := ⟨_, rfl⟩
          have hK3 : K2 < e.nets.length := by rw [hK2]; exact Nat.mod_lt _ (by omega)
          have hnn : turnS e.nets.length T0 k = e.nets.length - 1 - K2 := by unfold turnS; rw [hK2]
          have w2 : wrap64 ((k : Int) + (T0 : Int)) = (k : Int) + (T0 : Int) := wrapI (by unfold I64; omega)
          have HW3 := hide (show ((k : Int) + (T0 : Int)).tmod (e.nets.length : Int) = (K2 : Int) from by rw [hK2]; exact tmod_nat k T0 e.nets.length (by omega))
          have n0 : ((e.nets.length : Int) == 0) = false := by simp; intro r; rw [r] at q; simp at q
          have HN := hide hnn
          have HW2 := hide w2
          clear hK2 hnn w2
          go_upto_region 21 with fail
          rw [HWT0.out, HW2.out, HW3.out]
          clear HW2 HW3 n0
          have hF1 : F (k + 1) = F (k + 1) ∧ ∀ tt, tt = keyAt e.nets k → (ws.getD k false = true → holdB (F k).nets tt = true ∧ setN (F k) tt = F (k + 1)) ∧ (ws.getD k false = false → holdB (F k).nets tt = true ∧ relN (F k) tt = F (k + 1)) ∧ holdB (F (k + 1)).nets tt = false := by
            refine ⟨rfl, fun tt ht => ?_⟩
            subst ht
            rw [HF.out]
            exact ord_step ok ws (fun i hi => hi) (fun i j _ _ h => h) q
          have hG1 : ∀ tt, tt = keyAt e.nets (e.nets.length - 1 - K2) → (ws.getD (e.nets.length - 1 - K2) false = true → holdB (G k).nets tt = true ∧ setN (G k) tt = G (k + 1)) ∧ (ws.getD (e.nets.length - 1 - K2) false = false → holdB (G k).nets tt = true ∧ relN (G k) tt = G (k + 1)) ∧ holdB (G (k + 1)).nets tt = false := by
            intro tt ht
            subst ht
            rw [HG.out, ← HN.out]
            exact ord_step ok ws (fun i hi => turnS_lt hi) (fun i j hi hj h => turnS_inj hi hj h) q
          have hFok : (F (k + 1)).Ok ∧ e.low ≤ (F (k + 1)).low ∧ (F (k + 1)).high ≤ e.high := by rw [HF.out]; exact ⟨stF_ok ok _ _, stF_in _ _⟩
          have hGok : (G (k + 1)).Ok ∧ e.low ≤ (G (k + 1)).low ∧ (G (k + 1)).high ≤ e.high := by rw [HG.out]; exact ⟨stF_ok ok _ _, stF_in _ _⟩
          have HF1 := hide hF1.2
          have HG1 := hide hG1
          have HFK := hide hFok
          have HGK := hide hGok
          clear hF1 hG1 hFok hGok HN
          go_wp2_with fail
          go_loopw [20] (fun j wr => ∃ z : Nat, z ≤ 2 ∧ j = .int .i64 z ∧ Ord w wr b m bc mc w4.heap.size e (F (if z = 0 then k else k + 1)) (G (if z ≤ 1 then k else k + 1)) al aw ws ∧ Box wr w6.heap.size (.int .i64 (wh WV)) (.int .i64 (wl WV))) (fun j _ => 2 - (intOf j).toNat)
          case atStart => exact ⟨0, by omega, rfl, HO.out, HWT.out⟩
          case round =>
            obtain ⟨z, hz, rfl, hO, hW⟩ := hrel
            have HO := hide hO
            have HWT := hide hW
            clear hO hW
            by_cases hz2 : z < 2
            · go_upto_if 93 with fail
              go_cut [21, 22] from 86 to 173 (fun x n w' => (∃ bx mx by' my NN f0 f1 g, x = ptr bx ∧ n = .int .i64 (NN : Nat) ∧ Turn w wr b m bc mc w4.heap.size w6.heap.size e F G k z al aw ws bx mx by' my NN f0 f1 g) ∧ w' = wr)
              case first =>
                have hz3 : z = 0 ∨ z = 1 := by omega
                rcases hz3 with rfl | rfl
                · simp only [if_true, Nat.zero_le] at HO
                  have TU := hide (show Turn w wr b m bc mc w4.heap.size w6.heap.size e F G k 0 al aw ws b m bc mc k (F k) (F (k + 1)) (G k) from ⟨q, HO.out, SP.out.one, (HF1.out _ rfl).1, (HF1.out _ rfl).2.1, (HF1.out _ rfl).2.2, HFK.out.1, HFK.out.2.1, HFK.out.2.2, fun wq h => by simpa using h⟩)
                  go_wp2_with fail
                  go_meet
                  exact ⟨⟨b, m, bc, mc, k, F k, F (k + 1), G k, rfl, rfl, TU.out⟩, rfl⟩
                · simp only [Nat.le_refl, if_true, Nat.one_ne_zero, if_false] at HO
                  have hw9 : wrap64 ((e.nets.length : Int) - 1) = (e.nets.length : Int) - 1 := wrapI (by unfold I64; omega)
                  have hw8 : wrap64 ((e.nets.length : Int) - 1 - (K2 : Int)) = ((e.nets.length - 1 - K2 : Nat) : Int) := by rw [wrapI (by unfold I64; omega)]; omega
                  obtain ⟨NN, hNN⟩ : ∃ NN : Nat, NN = e.nets.length - 1 - K2 := ⟨_, rfl⟩
                  have hq2 : NN < e.nets.length := by omega
                  rw [← hNN] at hw8
                  have HG1 := HG1.out
                  rw [← hNN] at HG1
                  have TU := hide (show Turn w wr b m bc mc w4.heap.size w6.heap.size e F G k 1 al aw ws bc mc b m NN (G k) (G (k + 1)) (F (k + 1)) from ⟨hq2, HO.out.swap, SP.out.other, (HG1 _ rfl).1, (HG1 _ rfl).2.1, (HG1 _ rfl).2.2, HGK.out.1, HGK.out.2.1, HGK.out.2.2, fun wq h => by simpa using h.swap⟩)
                  have HNN := hide hNN
                  clear HG1 hNN
                  go_wp2_with fail
                  go_meet
                  exact ⟨⟨bc, mc, b, m, NN, G k, G (k + 1), F (k + 1), rfl, by have := HNN.out; congr 1; omega, TU.out⟩, rfl⟩
              case rest =>
                obtain ⟨⟨bx, mx, by', my, NN, f0, f1, g, hs21, hs22, TU⟩, rfl⟩ := hcut
                rw [hs21, hs22]
                clear hs21 hs22 HO HF1 HG1 HFK HGK
                have hq2 := TU.hq
                have hkI : I64 (keyAt e.nets NN) := by rw [keyAt_eq hq2]; have := ok.keys _ (List.getElem_mem hq2); unfold I64; omega
                obtain ⟨bl, off, hal2, hlt, hcell⟩ := Lies.rowAt netC 2 (fun _ => rfl) TU.ord.row NN hq2 (by omega)
                have y0 := hcell 0 _ rfl
                rw [Nat.add_zero] at y0
                have HC := hide (fun wq (hq : Lies wq al (rowsC netC e.nets)) => show wq.cell? ⟨bl, off + NN * 2, none⟩ = some (.int .i64 (keyAt e.nets NN)) from by
                  obtain ⟨b9, o9, q9, _, h9⟩ := Lies.rowAt netC 2 (fun _ => rfl) hq NN hq2 (by omega)
                  rw [hal2] at q9
                  cases q9
                  have := h9 0 _ rfl
                  rw [Nat.add_zero] at this
                  rw [keyAt_eq hq2]
                  exact this)
                rw [← keyAt_eq hq2] at y0
                have HW1 := hide TU.way1
                have HW2 := hide TU.way2
                have HGN := hide TU.gone
                have HBK := hide TU.back
                have HO := hide TU.ord
                have SX := hide TU.sep
                have hv := val_in (e := f1)
                have hrg := TU.ok.rng
                have hlo := TU.lo
                have hhi := TU.hi
                clear TU hcell hlt
                generalize keyAt e.nets NN = tt at *
                have KS2 := fun w' (h : PE w' bx mx f1) => settle_any bx mx f1 tt w' h hkI
                have KR2 := fun w' (h : PE w' bx mx f1) => release_any bx mx f1 tt w' h hkI
                rw [HGN.out, setN_no HGN.out] at KS2
                rw [HGN.out, relN_no HGN.out] at KR2
                have KV := fun w' (h : PE w' bx mx f1) => value_any bx mx f1 w' h
                have KI := fun w' (h : PE w' bx mx f1) => interval_any bx mx f1 w' h
                have KS1 := fun w' (h : PE w' bx mx f0) => settle_any bx mx f0 tt w' h hkI
                have KR1 := fun w' (h : PE w' bx mx f0) => release_any bx mx f0 tt w' h hkI
                have hF1 : decide (f1.val < e.low) = false := by simp; omega
                have hF2 : decide (e.high < f1.val) = false := by simp; omega
                have hF3 : decide (f1.low < e.low) = false := by simp; omega
                have hF4 : decide (e.high < f1.high) = false := by simp; omega
                generalize f1.val = fv at *
                generalize f1.low = fl at *
                generalize f1.high = fh at *
                clear hv hrg hkI hlo hhi
                obtain ⟨wo, hwo⟩ : ∃ wo : World, wo = wc := ⟨_, rfl⟩
                subst hwo
                go_upto_region 30 with fail
                go_cut [109] from 86 to 173 (fun s w' => s = .bool (ws.getD NN false) ∧ w' = wo)
                case first =>
                  by_cases qw : NN < ws.length
                  · obtain ⟨bw, ow, haw, hlw, yw⟩ : ∃ bw ow, aw = some ⟨bw, ow, none⟩ ∧ bw < wo.heap.size ∧ wo.cell? ⟨bw, ow + NN, none⟩ = some (.bool ws[NN]) := Lies.cellAt HO.out.wys NN (.bool ws[NN]) (by simp [qw])
                    have hgd0 : ws.getD NN false = ws[NN] := by simp [List.getD_eq_getElem?_getD, qw]
                    subst haw
                    have HGD := hide hgd0
                    clear hgd0 hlw
                    generalize ws[NN] = way at *
                    go_wp2_with fail
                    go_meet
                    exact ⟨by rw [HGD.out], rfl⟩
                  · have hgd : ws.getD NN false = false := by simp [List.getD_eq_getElem?_getD, qw]
                    have HGD := hide hgd
                    clear hgd
                    go_wp2_with fail
                    go_meet
                    exact ⟨by rw [HGD.out], rfl⟩
                case rest =>
                  obtain ⟨hs, rfl⟩ := hcut
                  rw [hs]
                  clear hs
                  obtain ⟨way, hway⟩ : ∃ way, way = ws.getD NN false := ⟨_, rfl⟩
                  rw [← hway] at HW1 HW2 ⊢
                  clear hway
                  obtain ⟨wo, hwo⟩ : ∃ wo : World, wo = wc := ⟨_, rfl⟩
                  subst hwo
                  go_upto_if 109 with fail
                  go_cut [23] from 86 to 173 (fun s w' => s = .bool true ∧ Ord w w' bx mx by' my w4.heap.size e f1 g al aw ws ∧ Box w' w6.heap.size (.int .i64 (wh WV)) (.int .i64 (wl WV)))
                  case first =>
                    subst hal2
                    cases way
                    · have hx := HW2.out rfl
                      have KK := KR1
                      rw [hx.1, hx.2] at KK
                      clear KS1 KR1 HW1 HW2 hx
                      go_wp2_with fail
                      refine (KK _ HO.out.pe).mono ?_
                      rintro r x1 ⟨rfl, k1, p1⟩
                      have O1 := hide (HO.out.stepX SX.out k1 p1)
                      have T1 := hide (HWT.out.kept k1 (by have := SX.out.p3; intro q9; rcases q9 with q9 | q9 <;> omega))
                      clear k1 p1 KK HO HWT y0
                      go_wp2_with fail
                      go_meet
                      exact ⟨rfl, O1.out, T1.out⟩
                    · have hx := HW1.out rfl
                      have KK := KS1
                      rw [hx.1, hx.2] at KK
                      clear KS1 KR1 HW1 HW2 hx
                      go_wp2_with fail
                      refine (KK _ HO.out.pe).mono ?_
                      rintro r x1 ⟨rfl, k1, p1⟩
                      have O1 := hide (HO.out.stepX SX.out k1 p1)
                      have T1 := hide (HWT.out.kept k1 (by have := SX.out.p3; intro q9; rcases q9 with q9 | q9 <;> omega))
                      clear k1 p1 KK HO HWT y0
                      go_wp2_with fail
                      go_meet
                      exact ⟨rfl, O1.out, T1.out⟩
                  case rest =>
                    obtain ⟨hs, o1, t1⟩ := hcut
                    rw [hs]
                    have O1 := hide o1
                    have T1 := hide t1
                    clear hs o1 t1 HO HWT KS1 KR1 HW1 HW2 y0 HGN
                    obtain ⟨x1, hx1⟩ : ∃ x1 : World, x1 = wc := ⟨_, rfl⟩
                    subst hx1
                    go_upto_region 33 with fail
                    refine wp_region_held_drew (S := fun wq => wq.cell? ⟨bl, off + NN * 2, none⟩ = some (.int .i64 tt) ∧ wq.cell? ⟨w4.heap.size, 0, none⟩ = some (.int .i64 e.low) ∧ wq.cell? ⟨w4.heap.size, 1, none⟩ = some (.int .i64 e.high)) (by kernel_rfl) ⟨HC.out _ O1.out.row, O1.out.bi.2.1, O1.out.bi.2.2.1⟩ (fun hS => ?_)
                    have O2 := hide (O1.out.below (Below.refl _ _).drew)
                    have T2 := hide (T1.out.below (Below.refl _ _).drew)
                    clear O1 T1
                    generalize x1.drew = x2 at *
                    subst hal2
                    refine take_at 0 (some 124) (v := ?_) rfl rfl (by kernel_rfl) (by kernel_rfl) (by kernel_rfl) (fun _ _ _ h => h) ⟨by rfl, ?_⟩ hS ?_
                    rotate_left
                    · intro wq hSw; go_simp; try rfl
                    simp only [Act.put, List.setIfInBounds_toArray, List.set_cons_zero, List.set_cons_succ]
                    refine take_at 1 (some 125) (v := ?_) rfl rfl (by kernel_rfl) (by kernel_rfl) (by kernel_rfl) (fun _ _ _ h => h) ⟨by rfl, ?_⟩ hS ?_
                    rotate_left
                    · intro wq hSw; go_simp; try rfl
                    simp only [Act.put, List.setIfInBounds_toArray, List.set_cons_zero, List.set_cons_succ]
                    refine take_at 2 (some 126) (v := ?_) rfl rfl (by kernel_rfl) (by kernel_rfl) (by kernel_rfl) (fun _ _ _ h => h) ⟨by rfl, ?_⟩ hS ?_
                    rotate_left
                    · intro wq hSw; go_simp; try rfl
                    simp only [Act.put, List.setIfInBounds_toArray, List.set_cons_zero, List.set_cons_succ]
                    refine take_at 3 (some 127) (v := ?_) rfl rfl (by kernel_rfl) (by kernel_rfl) (by kernel_rfl) (fun _ _ _ h => h) ⟨by rfl, ?_⟩ hS ?_
                    rotate_left
                    · intro wq hSw; go_simp; try rfl
                    simp only [Act.put, List.setIfInBounds_toArray, List.set_cons_zero, List.set_cons_succ]
                    refine take_at 4 (some 128) (v := ?_) rfl rfl (by kernel_rfl) (by kernel_rfl) (by kernel_rfl) (fun _ _ _ h => h) ⟨by rfl, ?_⟩ hS ?_
                    rotate_left
                    · intro wq hSw; go_simp; try rfl
                    simp only [Act.put, List.setIfInBounds_toArray, List.set_cons_zero, List.set_cons_succ]
                    refine take_at 5 (some 129) (v := ?_) rfl rfl (by kernel_rfl) (by kernel_rfl) (by kernel_rfl) (fun _ _ _ h => h) ⟨by rfl, ?_⟩ hS ?_
                    rotate_left
                    · intro wq hSw; go_simp; try rfl
                    simp only [Act.put, List.setIfInBounds_toArray, List.set_cons_zero, List.set_cons_succ]
                    refine take_at 6 (some 130) (v := ?_) rfl rfl (by kernel_rfl) (by kernel_rfl) (by kernel_rfl) (fun _ _ _ h => h) ⟨by rfl, ?_⟩ hS ?_
                    rotate_left
                    · intro wq hSw; go_simp; try rfl
                    simp only [Act.put, List.setIfInBounds_toArray, List.set_cons_zero, List.set_cons_succ]
                    refine take_at 7 (some 131) (v := ?_) rfl rfl (by kernel_rfl) (by kernel_rfl) (by kernel_rfl) (fun _ _ _ h => h) ⟨by rfl, ?_⟩ hS ?_
                    rotate_left
                    · intro wq hSw; go_simp; try rfl
                    simp only [Act.put, List.setIfInBounds_toArray, List.set_cons_zero, List.set_cons_succ]
                    refine take_at 8 (some 132) (v := ?_) rfl rfl (by kernel_rfl) (by kernel_rfl) (by kernel_rfl) (fun _ _ _ h => h) ⟨by rfl, ?_⟩ hS ?_
                    rotate_left
                    · intro wq hSw; obtain ⟨r0, r1, r2⟩ := hSw; go_simp; try rfl
                    simp only [Act.put, List.setIfInBounds_toArray, List.set_cons_zero, List.set_cons_succ]
                    refine wpAnyH_ready (rs := [9]) (by kernel_rfl) (by simp) ?_
                    refine AllReadyH.cons rfl (fun K hK => ?_) AllReadyH.nil
                    go_simp
                    go_wp2_with fail
                    refine (KS2 _ O2.out.pe).mono ?_
                    rintro r x3 ⟨rfl, kk, pp⟩
                    have O3 := hide (O2.out.stepX SX.out kk pp)
                    have T3 := hide (T2.out.kept kk (by have := SX.out.p3; intro q9; rcases q9 with q9 | q9 <;> omega))
                    clear kk pp O2 T2
                    go_wp2_with fail
                    refine hK.out _ _ ⟨HC.out _ O3.out.row, O3.out.bi.2.1, O3.out.bi.2.2.1⟩ (fun hS => ?_)
                    clear hK K
                    (try simp only [Act.put, List.setIfInBounds_toArray, List.set_cons_zero, List.set_cons_succ])
                    refine take_at 10 (some 134) (v := ?_) rfl rfl (by kernel_rfl) (by kernel_rfl) (by kernel_rfl) (fun _ _ _ h => h) ⟨by rfl, ?_⟩ hS ?_
                    rotate_left
                    · intro wq hSw; go_simp; try rfl
                    simp only [Act.put, List.setIfInBounds_toArray, List.set_cons_zero, List.set_cons_succ]
                    refine take_at 11 (some 135) (v := ?_) rfl rfl (by kernel_rfl) (by kernel_rfl) (by kernel_rfl) (fun _ _ _ h => h) ⟨by rfl, ?_⟩ hS ?_
                    rotate_left
                    · intro wq hSw; go_simp; try rfl
                    simp only [Act.put, List.setIfInBounds_toArray, List.set_cons_zero, List.set_cons_succ]
                    refine take_at 12 (some 136) (v := ?_) rfl rfl (by kernel_rfl) (by kernel_rfl) (by kernel_rfl) (fun _ _ _ h => h) ⟨by rfl, ?_⟩ hS ?_
                    rotate_left
                    · intro wq hSw; go_simp; try rfl
                    simp only [Act.put, List.setIfInBounds_toArray, List.set_cons_zero, List.set_cons_succ]
                    refine take_at 13 (some 137) (v := ?_) rfl rfl (by kernel_rfl) (by kernel_rfl) (by kernel_rfl) (fun _ _ _ h => h) ⟨by rfl, ?_⟩ hS ?_
                    rotate_left
                    · intro wq hSw; go_simp; try rfl
                    simp only [Act.put, List.setIfInBounds_toArray, List.set_cons_zero, List.set_cons_succ]
                    refine take_at 14 (some 138) (v := ?_) rfl rfl (by kernel_rfl) (by kernel_rfl) (by kernel_rfl) (fun _ _ _ h => h) ⟨by rfl, ?_⟩ hS ?_
                    rotate_left
                    · intro wq hSw; go_simp; try rfl
                    simp only [Act.put, List.setIfInBounds_toArray, List.set_cons_zero, List.set_cons_succ]
                    refine take_at 15 (some 139) (v := ?_) rfl rfl (by kernel_rfl) (by kernel_rfl) (by kernel_rfl) (fun _ _ _ h => h) ⟨by rfl, ?_⟩ hS ?_
                    rotate_left
                    · intro wq hSw; go_simp; try rfl
                    simp only [Act.put, List.setIfInBounds_toArray, List.set_cons_zero, List.set_cons_succ]
                    refine take_at 16 (some 140) (v := ?_) rfl rfl (by kernel_rfl) (by kernel_rfl) (by kernel_rfl) (fun _ _ _ h => h) ⟨by rfl, ?_⟩ hS ?_
                    rotate_left
                    · intro wq hSw; go_simp; try rfl
                    simp only [Act.put, List.setIfInBounds_toArray, List.set_cons_zero, List.set_cons_succ]
                    refine take_at 17 (some 141) (v := ?_) rfl rfl (by kernel_rfl) (by kernel_rfl) (by kernel_rfl) (fun _ _ _ h => h) ⟨by rfl, ?_⟩ hS ?_
                    rotate_left
                    · intro wq hSw; obtain ⟨r0, r1, r2⟩ := hSw; go_simp; try rfl
                    simp only [Act.put, List.setIfInBounds_toArray, List.set_cons_zero, List.set_cons_succ]
                    refine wpAnyH_ready (rs := [18]) (by kernel_rfl) (by simp) ?_
                    refine AllReadyH.cons rfl (fun K hK => ?_) AllReadyH.nil
                    go_simp
                    go_wp2_with fail
                    refine (KR2 _ O3.out.pe).mono ?_
                    rintro r x4 ⟨rfl, kk, pp⟩
                    have O4 := hide (O3.out.stepX SX.out kk pp)
                    have T4 := hide (T3.out.kept kk (by have := SX.out.p3; intro q9; rcases q9 with q9 | q9 <;> omega))
                    clear kk pp O3 T3
                    go_wp2_with fail
                    refine hK.out _ _ ⟨HC.out _ O4.out.row, O4.out.bi.2.1, O4.out.bi.2.2.1⟩ (fun hS => ?_)
                    clear hK K
                    (try simp only [Act.put, List.setIfInBounds_toArray, List.set_cons_zero, List.set_cons_succ])
                    refine take_at 19 (some 143) (v := ?_) rfl rfl (by kernel_rfl) (by kernel_rfl) (by kernel_rfl) (fun _ _ _ h => h) ⟨by rfl, ?_⟩ hS ?_
                    rotate_left
                    · intro wq hSw; go_simp; try rfl
                    simp only [Act.put, List.setIfInBounds_toArray, List.set_cons_zero, List.set_cons_succ]
                    refine take_at 20 (some 144) (v := ?_) rfl rfl (by kernel_rfl) (by kernel_rfl) (by kernel_rfl) (fun _ _ _ h => h) ⟨by rfl, ?_⟩ hS ?_
                    rotate_left
                    · intro wq hSw; go_simp; try rfl
                    simp only [Act.put, List.setIfInBounds_toArray, List.set_cons_zero, List.set_cons_succ]
                    refine take_at 21 (some 145) (v := ?_) rfl rfl (by kernel_rfl) (by kernel_rfl) (by kernel_rfl) (fun _ _ _ h => h) ⟨by rfl, ?_⟩ hS ?_
                    rotate_left
                    · intro wq hSw; go_simp; try rfl
                    simp only [Act.put, List.setIfInBounds_toArray, List.set_cons_zero, List.set_cons_succ]
                    refine take_at 23 (some 147) (v := ?_) rfl rfl (by kernel_rfl) (by kernel_rfl) (by kernel_rfl) (fun _ _ _ h => h) ⟨by rfl, ?_⟩ hS ?_
                    rotate_left
                    · intro wq hSw; go_simp; try rfl
                    simp only [Act.put, List.setIfInBounds_toArray, List.set_cons_zero, List.set_cons_succ]
                    refine take_at 24 (some 148) (v := ?_) rfl rfl (by kernel_rfl) (by kernel_rfl) (by kernel_rfl) (fun _ _ _ h => h) ⟨by rfl, ?_⟩ hS ?_
                    rotate_left
                    · intro wq hSw; obtain ⟨r0, r1, r2⟩ := hSw; go_simp; try rfl
                    simp only [Act.put, List.setIfInBounds_toArray, List.set_cons_zero, List.set_cons_succ]
                    refine wpAnyH_ready (rs := [22]) (by kernel_rfl) (by simp) ?_
                    refine AllReadyH.cons rfl (fun K hK => ?_) AllReadyH.nil
                    go_simp
                    go_wp2_with fail
                    refine (KV _ O4.out.pe).mono ?_
                    rintro r x5 ⟨rfl, hh⟩
                    have O5 := hide (O4.out.below hh)
                    have T5 := hide (T4.out.below hh)
                    clear hh O4 T4
                    go_wp2_with fail
                    refine hK.out _ _ ⟨HC.out _ O5.out.row, O5.out.bi.2.1, O5.out.bi.2.2.1⟩ (fun hS => ?_)
                    clear hK K
                    (try simp only [Act.put, List.setIfInBounds_toArray, List.set_cons_zero, List.set_cons_succ])
                    refine take_at 25 (some 149) (v := ?_) rfl rfl (by kernel_rfl) (by kernel_rfl) (by kernel_rfl) (fun _ _ _ h => h) ⟨by rfl, ?_⟩ hS ?_
                    rotate_left
                    · intro wq hSw; go_simp; try rfl
                    simp only [Act.put, List.setIfInBounds_toArray, List.set_cons_zero, List.set_cons_succ]
                    refine take_at 26 (some 150) (v := ?_) rfl rfl (by kernel_rfl) (by kernel_rfl) (by kernel_rfl) (fun _ _ _ h => h) ⟨by rfl, ?_⟩ hS ?_
                    rotate_left
                    · intro wq hSw; go_simp; try rfl
                    simp only [Act.put, List.setIfInBounds_toArray, List.set_cons_zero, List.set_cons_succ]
                    refine take_at 27 (some 151) (v := ?_) rfl rfl (by kernel_rfl) (by kernel_rfl) (by kernel_rfl) (fun _ _ _ h => h) ⟨by rfl, ?_⟩ hS ?_
                    rotate_left
                    · intro wq hSw; go_simp; try rfl
                    simp only [Act.put, List.setIfInBounds_toArray, List.set_cons_zero, List.set_cons_succ]
                    refine take_at 28 (some 152) (v := ?_) rfl rfl (by kernel_rfl) (by kernel_rfl) (by kernel_rfl) (fun _ _ _ h => h) ⟨by rfl, ?_⟩ hS ?_
                    rotate_left
                    · intro wq hSw; go_simp; try rfl
                    simp only [Act.put, List.setIfInBounds_toArray, List.set_cons_zero, List.set_cons_succ]
                    refine take_at 30 (some 154) (v := ?_) rfl rfl (by kernel_rfl) (by kernel_rfl) (by kernel_rfl) (fun _ _ _ h => h) ⟨by rfl, ?_⟩ hS ?_
                    rotate_left
                    · intro wq hSw; go_simp; try rfl
                    simp only [Act.put, List.setIfInBounds_toArray, List.set_cons_zero, List.set_cons_succ]
                    refine take_at 31 (some 155) (v := ?_) rfl rfl (by kernel_rfl) (by kernel_rfl) (by kernel_rfl) (fun _ _ _ h => h) ⟨by rfl, ?_⟩ hS ?_
                    rotate_left
                    · intro wq hSw; obtain ⟨r0, r1, r2⟩ := hSw; go_simp; try rfl
                    simp only [Act.put, List.setIfInBounds_toArray, List.set_cons_zero, List.set_cons_succ]
                    refine wpAnyH_ready (rs := [29]) (by kernel_rfl) (by simp) ?_
                    refine AllReadyH.cons rfl (fun K hK => ?_) AllReadyH.nil
                    go_simp
                    go_wp2_with fail
                    refine (KV _ O5.out.pe).mono ?_
                    rintro r x6 ⟨rfl, hh⟩
                    have O6 := hide (O5.out.below hh)
                    have T6 := hide (T5.out.below hh)
                    clear hh O5 T5
                    go_wp2_with fail
                    refine hK.out _ _ ⟨HC.out _ O6.out.row, O6.out.bi.2.1, O6.out.bi.2.2.1⟩ (fun hS => ?_)
                    clear hK K
                    (try simp only [Act.put, List.setIfInBounds_toArray, List.set_cons_zero, List.set_cons_succ])
                    refine take_at 32 (some 156) (v := ?_) rfl rfl (by kernel_rfl) (by kernel_rfl) (by kernel_rfl) (fun _ _ _ h => h) ⟨by rfl, ?_⟩ hS ?_
                    rotate_left
                    · intro wq hSw; go_simp; try rfl
                    simp only [Act.put, List.setIfInBounds_toArray, List.set_cons_zero, List.set_cons_succ]
                    refine take_at 33 (some 157) (v := ?_) rfl rfl (by kernel_rfl) (by kernel_rfl) (by kernel_rfl) (fun _ _ _ h => h) ⟨by rfl, ?_⟩ hS ?_
                    rotate_left
                    · intro wq hSw; go_simp; try rfl
                    simp only [Act.put, List.setIfInBounds_toArray, List.set_cons_zero, List.set_cons_succ]
                    refine take_at 34 (some 158) (v := ?_) rfl rfl (by kernel_rfl) (by kernel_rfl) (by kernel_rfl) (fun _ _ _ h => h) ⟨by rfl, ?_⟩ hS ?_
                    rotate_left
                    · intro wq hSw; go_simp; try rfl
                    simp only [Act.put, List.setIfInBounds_toArray, List.set_cons_zero, List.set_cons_succ]
                    refine take_at 35 (some 159) (v := ?_) rfl rfl (by kernel_rfl) (by kernel_rfl) (by kernel_rfl) (fun _ _ _ h => h) ⟨by rfl, ?_⟩ hS ?_
                    rotate_left
                    · intro wq hSw; go_simp; try rfl
                    simp only [Act.put, List.setIfInBounds_toArray, List.set_cons_zero, List.set_cons_succ]
                    refine take_at 38 (some 162) (v := ?_) rfl rfl (by kernel_rfl) (by kernel_rfl) (by kernel_rfl) (fun _ _ _ h => h) ⟨by rfl, ?_⟩ hS ?_
                    rotate_left
                    · intro wq hSw; go_simp; try rfl
                    simp only [Act.put, List.setIfInBounds_toArray, List.set_cons_zero, List.set_cons_succ]
                    refine take_at 39 (some 163) (v := ?_) rfl rfl (by kernel_rfl) (by kernel_rfl) (by kernel_rfl) (fun _ _ _ h => h) ⟨by rfl, ?_⟩ hS ?_
                    rotate_left
                    · intro wq hSw; obtain ⟨r0, r1, r2⟩ := hSw; go_simp; try rfl
                    simp only [Act.put, List.setIfInBounds_toArray, List.set_cons_zero, List.set_cons_succ]
                    refine wpAnyH_ready (rs := [36]) (by kernel_rfl) (by simp) ?_
                    refine AllReadyH.cons rfl (fun K hK => ?_) AllReadyH.nil
                    go_simp
                    go_wp2_with fail
                    refine (KI _ O6.out.pe).mono ?_
                    rintro r x7 ⟨rfl, hh⟩
                    have O7 := hide (O6.out.below hh)
                    have T7 := hide (T6.out.below hh)
                    clear hh O6 T6
                    go_wp2_with fail
                    refine hK.out _ _ ⟨HC.out _ O7.out.row, O7.out.bi.2.1, O7.out.bi.2.2.1⟩ (fun hS => ?_)
                    clear hK K
                    (try simp only [Act.put, List.setIfInBounds_toArray, List.set_cons_zero, List.set_cons_succ])
                    refine take_at 37 (some 161) (v := ?_) rfl rfl (by kernel_rfl) (by kernel_rfl) (by kernel_rfl) (fun _ _ _ h => h) ⟨by rfl, ?_⟩ hS ?_
                    rotate_left
                    · intro wq hSw; go_simp; try rfl
                    simp only [Act.put, List.setIfInBounds_toArray, List.set_cons_zero, List.set_cons_succ]
                    refine take_at 40 (some 164) (v := ?_) rfl rfl (by kernel_rfl) (by kernel_rfl) (by kernel_rfl) (fun _ _ _ h => h) ⟨by rfl, ?_⟩ hS ?_
                    rotate_left
                    · intro wq hSw; go_simp; try rfl
                    simp only [Act.put, List.setIfInBounds_toArray, List.set_cons_zero, List.set_cons_succ]
                    refine take_at 41 (some 165) (v := ?_) rfl rfl (by kernel_rfl) (by kernel_rfl) (by kernel_rfl) (fun _ _ _ h => h) ⟨by rfl, ?_⟩ hS ?_
                    rotate_left
                    · intro wq hSw; go_simp; try rfl
                    simp only [Act.put, List.setIfInBounds_toArray, List.set_cons_zero, List.set_cons_succ]
                    refine take_at 42 (some 166) (v := ?_) rfl rfl (by kernel_rfl) (by kernel_rfl) (by kernel_rfl) (fun _ _ _ h => h) ⟨by rfl, ?_⟩ hS ?_
                    rotate_left
                    · intro wq hSw; go_simp; try rfl
                    simp only [Act.put, List.setIfInBounds_toArray, List.set_cons_zero, List.set_cons_succ]
                    refine take_at 43 (some 167) (v := ?_) rfl rfl (by kernel_rfl) (by kernel_rfl) (by kernel_rfl) (fun _ _ _ h => h) ⟨by rfl, ?_⟩ hS ?_
                    rotate_left
                    · intro wq hSw; go_simp; try rfl
                    simp only [Act.put, List.setIfInBounds_toArray, List.set_cons_zero, List.set_cons_succ]
                    refine take_at 46 (some 170) (v := ?_) rfl rfl (by kernel_rfl) (by kernel_rfl) (by kernel_rfl) (fun _ _ _ h => h) ⟨by rfl, ?_⟩ hS ?_
                    rotate_left
                    · intro wq hSw; go_simp; try rfl
                    simp only [Act.put, List.setIfInBounds_toArray, List.set_cons_zero, List.set_cons_succ]
                    refine take_at 47 (some 171) (v := ?_) rfl rfl (by kernel_rfl) (by kernel_rfl) (by kernel_rfl) (fun _ _ _ h => h) ⟨by rfl, ?_⟩ hS ?_
                    rotate_left
                    · intro wq hSw; obtain ⟨r0, r1, r2⟩ := hSw; go_simp; try rfl
                    simp only [Act.put, List.setIfInBounds_toArray, List.set_cons_zero, List.set_cons_succ]
                    refine wpAnyH_ready (rs := [44]) (by kernel_rfl) (by simp) ?_
                    refine AllReadyH.cons rfl (fun K hK => ?_) AllReadyH.nil
                    go_simp
                    go_wp2_with fail
                    refine (KI _ O7.out.pe).mono ?_
                    rintro r x8 ⟨rfl, hh⟩
                    have O8 := hide (O7.out.below hh)
                    have T8 := hide (T7.out.below hh)
                    clear hh O7 T7
                    go_wp2_with fail
                    refine hK.out _ _ ⟨HC.out _ O8.out.row, O8.out.bi.2.1, O8.out.bi.2.2.1⟩ (fun hS => ?_)
                    clear hK K
                    (try simp only [Act.put, List.setIfInBounds_toArray, List.set_cons_zero, List.set_cons_succ])
                    refine take_at 45 (some 169) (v := ?_) rfl rfl (by kernel_rfl) (by kernel_rfl) (by kernel_rfl) (fun _ _ _ h => h) ⟨by rfl, ?_⟩ hS ?_
                    rotate_left
                    · intro wq hSw; go_simp; try rfl
                    simp only [Act.put, List.setIfInBounds_toArray, List.set_cons_zero, List.set_cons_succ]
                    refine take_at 48 (some 172) (v := ?_) rfl rfl (by kernel_rfl) (by kernel_rfl) (by kernel_rfl) (fun _ _ _ h => h) ⟨by rfl, ?_⟩ hS ?_
                    rotate_left
                    · intro wq hSw; go_simp; try rfl
                    simp only [Act.put, List.setIfInBounds_toArray, List.set_cons_zero, List.set_cons_succ]
                    refine take_at 49 (some 173) (v := ?_) rfl rfl (by kernel_rfl) (by kernel_rfl) (by kernel_rfl) (fun _ _ _ h => h) ⟨by rfl, ?_⟩ hS ?_
                    rotate_left
                    · intro wq hSw; go_simp; try rfl
                    simp only [Act.put, List.setIfInBounds_toArray, List.set_cons_zero, List.set_cons_succ]
                    refine wpAnyH_done (by kernel_rfl) ?_ _
                    go_wp2_with fail
                    go_roundw
                    case rel => first | exact ⟨z + 1, by omega, by go_num, HBK.out _ O8.out, T8.out⟩ | ((repeat apply Exists.intro); exact ⟨⟨z + 1, by omega, by go_num, HBK.out _ O8.out, T8.out⟩, rfl⟩)
                    case measure => simp [intOf]; omega
            · obtain rfl : z = 2 := by omega
              have HO2 := hide (show Ord w wr b m bc mc w4.heap.size e (F (k + 1)) (G (k + 1)) al aw ws from by simpa using HO.out)
              clear HO
              go_wp2_with fail
              go_roundw
              case rel => exact ⟨k + 1, by omega, by go_num, HO2.out, HWT.out⟩
              case measure => simp [intOf]; omega
        · have q3 : k = e.nets.length := by omega
          subst q3
          obtain ⟨ZE, hZE⟩ : ∃ ZE : Esc, ZE = ⟨e.lo, e.hi, WV, []⟩ := ⟨_, rfl⟩
          have hFE : F e.nets.length = ZE := by rw [HF.out, hZE, HWV.out]; exact stF_end (fun p hp => dnS_all (fun j hj => ⟨j, hj, rfl⟩) p hp)
          have hGE : G e.nets.length = ZE := by rw [HG.out, hZE, HWV.out]; exact stF_end (fun p hp => dnS_all (fun j hj => turnS_all hj) p hp)
          rw [hFE, hGE] at HO
          have KS := fun bx mx w' (h : PE w' bx mx ZE) => settled_any bx mx ZE w' h
          have KV := fun bx mx w' (h : PE w' bx mx ZE) => value_any bx mx ZE w' h
          have KI := fun bx mx w' (h : PE w' bx mx ZE) => interval_any bx mx ZE w' h
          have KH := fun bx mx w' (h : PE w' bx mx ZE) => holders_any bx mx ZE w' h (by rw [hZE]; simp)
          rw [show ZE.base = WV from by rw [hZE]] at KS
          rw [show ZE.val = WV from by rw [hZE]; simp [Esc.val, sumF]] at KV
          rw [show ZE.low = WV from by rw [hZE]; simp [Esc.low, sumF], show ZE.high = WV from by rw [hZE]; simp [Esc.high, sumF]] at KI
          rw [show keysN ZE.nets = [] from by rw [hZE]; rfl] at KH
          have KB := fun w' => below_w WV WV w'
          have KA := fun w' => above_w WV WV w'
          rw [show decide (WV < WV) = false from by simp] at KB KA
          clear hFE hGE hZE HF HG HWV hk hWI
          go_wp2_with fail
          go_loopw [24] (fun j wr => ∃ z : Nat, z ≤ 2 ∧ j = .int .i64 z ∧ Ord w wr b m bc mc w4.heap.size e ZE ZE al aw ws ∧ Box wr w6.heap.size (.int .i64 (wh WV)) (.int .i64 (wl WV))) (fun j _ => 2 - (intOf j).toNat)
          case atStart => exact ⟨0, by omega, rfl, HO.out, HWT.out⟩
          case round =>
            obtain ⟨z, hz, rfl, hO, hW⟩ := hrel
            have HO := hide hO
            have HWT := hide hW
            clear hO hW
            by_cases hz2 : z < 2
            · go_upto_if 180 with fail
              go_cut [25] from 174 to 211 (fun x w' => (∃ bx mx, x = ptr bx ∧ ∀ wq, Ord w wq b m bc mc w4.heap.size e ZE ZE al aw ws → PE wq bx mx ZE) ∧ w' = wr)
              case first =>
                have hz3 : z = 0 ∨ z = 1 := by omega
                rcases hz3 with rfl | rfl
                · go_wp2_with fail
                  go_meet
                  exact ⟨⟨b, m, rfl, fun _ h => h.pe⟩, rfl⟩
                · go_wp2_with fail
                  go_meet
                  exact ⟨⟨bc, mc, rfl, fun _ h => h.pc⟩, rfl⟩
              case rest =>
                obtain ⟨⟨bx, mx, hs, hp⟩, rfl⟩ := hcut
                rw [hs]
                have HP := hide hp
                clear hs hp
                obtain ⟨x0, hx0⟩ : ∃ x0 : World, x0 = wc := ⟨_, rfl⟩
                subst hx0
                have BK := hide (show z + 1 ≤ 2 by omega)
                have O0 := HO
                have T0 := HWT
                clear HO HWT
                go_wp2_with fail
                refine (KS bx mx _ (HP.out _ O0.out)).mono ?_
                rintro r x1 ⟨rfl, hh⟩
                have O1 := hide (O0.out.below hh)
                have T1 := hide (T0.out.below hh)
                clear hh O0 T0
                obtain ⟨t0, t1, t2, t3, t4⟩ := T1.out
                go_wp2_with fail
                refine (KB _).mono ?_
                rintro r x2 ⟨rfl, hh⟩
                have O2 := hide (O1.out.below hh)
                have T2 := hide (T1.out.below hh)
                clear hh O1 T1 t0 t1 t2 t3 t4
                obtain ⟨t0, t1, t2, t3, t4⟩ := T2.out
                go_wp2_with fail
                refine (KA _).mono ?_
                rintro r x3 ⟨rfl, hh⟩
                have O3 := hide (O2.out.below hh)
                have T3 := hide (T2.out.below hh)
                clear hh O2 T2 t0 t1 t2 t3 t4
                go_wp2_with fail
                refine (KV bx mx _ (HP.out _ O3.out)).mono ?_
                rintro r x4 ⟨rfl, hh⟩
                have O4 := hide (O3.out.below hh)
                have T4 := hide (T3.out.below hh)
                clear hh O3 T3
                go_wp2_with fail
                refine (KH bx mx _ (HP.out _ O4.out)).mono ?_
                rintro r x5 ⟨vh, rfl, oh, _, hh⟩
                obtain ⟨ah, ch, rfl, _⟩ := Owns.seen oh
                have O5 := hide (O4.out.below hh)
                have T5 := hide (T4.out.below hh)
                clear hh oh O4 T4
                go_wp2_with fail
                refine (KI bx mx _ (HP.out _ O5.out)).mono ?_
                rintro r x6 ⟨rfl, hh⟩
                have O6 := hide (O5.out.below hh)
                have T6 := hide (T5.out.below hh)
                clear hh O5 T5
                go_wp2_with fail
                go_roundw
                case rel => first | exact ⟨z + 1, BK.out, by go_num, O6.out, T6.out⟩ | ((repeat apply Exists.intro); exact ⟨⟨z + 1, BK.out, by go_num, O6.out, T6.out⟩, rfl⟩)
                case measure => simp [intOf]; omega
            · obtain rfl : z = 2 := by omega
              go_wp2_with fail
              go_ret
              exact ⟨rfl, HO.out.bel⟩
end Go.Proofs.Ytcnlcmdppkdmmaa
