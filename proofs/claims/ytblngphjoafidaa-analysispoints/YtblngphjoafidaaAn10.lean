import Derived.Test.YtblngphjoafidaaAn9
namespace Go.Proofs.Ytblngphjoafidaa
open Go.RowKit Go.QK Go.Maps Go.QM Go.QT
set_option maxRecDepth 100000
/-! A log that grows. -/
structure Mv where
  k : Int
  wh : Int
  pg : Int
  dr : Int
def mvC (m : Mv) : List Value := [.int .i64 m.k, .int .i64 m.wh, .int .i64 m.pg, .int .i64 m.dr]
structure LogAt (w : World) (B : Nat) (v : Value) (xs : List RX) : Prop where
  row : GRow w B 46 17 v xs.length (rowsC rxC xs)
  each : ∀ x ∈ xs, RXIn w x
  sep : ∀ x ∈ xs, ∀ ad, x.la = some ad ∨ x.da = some ad → v.ownBlock ≠ some ad.block ∧ ad.block < w.heap.size
theorem LogAt.below {w w' : World} {B : Nat} {v : Value} {xs : List RX} (h : LogAt w B v xs) (hb : Below w.heap.size w w') : LogAt w' B v xs :=
  ⟨GRow.below h.row hb, fun x hx => (h.each x hx).below hb, fun x hx ad q => ⟨(h.sep x hx ad q).1, Nat.lt_of_lt_of_le (h.sep x hx ad q).2 hb.size⟩⟩
theorem LogAt.form {w : World} {B : Nat} {v : Value} {xs : List RX} (h : LogAt w B v xs) : ∃ a c, v = .slice a xs.length c ∧ RecsAt w a xs ∧ xs.length ≤ c ∧ (a = none → c = 0) := by
  obtain ⟨a, c, hv, hl, h1, h2, h3, -⟩ := GRow.lies h.row
  exact ⟨a, c, hv, ⟨hl, h.each⟩, h1, h3⟩
theorem RXIn.keep {S : Nat → Prop} {w w' : World} {x : RX} (h : RXIn w x) (hk : Keep S w w') (hn : ∀ ad, x.la = some ad ∨ x.da = some ad → ¬ S ad.block) : RXIn w' x :=
  ⟨h.li.keep hk (fun ad q => hn ad (.inl q)), h.di.keep hk (fun ad q => hn ad (.inr q)), h.tx⟩
theorem info46 : (Try.prog.info? 46).map (fun i => (i.zero, i.size, i.bytes)) = some (some (.agg rec0), 17, 168) := by kernel_rfl
theorem run_push46 (ty : TypeId) (x : World) (B : Nat) (v : Value) (n : Nat) (xs : List Value) (hown : GRow x B 46 17 v n xs) (ad : Addr) (m c : Nat) (news : List Value) (hl : news.length = m * 17) (hnews : Lies x (some ad) news) (h1 : ∀ u ∈ news, u.oneCell' = true) (h63 : n + m ≤ 200000) (hB : B ≤ x.heap.size) :
    ∃ v' x', (Builtin.append_ #[24, 24] ty #[v, .slice (some ad) m c]).run Try.prog x = .ok v' x' ∧ GRow x' B 46 17 v' (n + m) (xs ++ news) ∧ x.grownBy x' v.ownBlock ∧ (v'.ownBlock = v.ownBlock ∨ v'.ownBlock = some x.heap.size) := by
  obtain ⟨i0, hi, h0, h2, h3⟩ := info_of info46
  obtain ⟨v', w', hr, q2, q3, q4, q5⟩ := run_append_own_at (P := Try.prog) x B 24 ty 46 i0 _ 17 168 Try.underlying24 hi h0 h2 h3 rfl (by decide) v n xs hown ad m c news hl
    (by
      intro j u hj
      obtain ⟨b, off, e1, _, hc⟩ := hnews.cellAt j u hj
      cases e1
      rw [addr_add]
      exact hc) h1 (by unfold maxLen; omega) (by omega) hB
  exact ⟨v', w', hr, q2, q3, q5⟩
theorem lies_rx (w : World) (x : RX) : Lies (w.alloc (.cells (rxA x) 46)) (some ⟨w.heap.size, 0, none⟩) (rowsC rxC [x]) := by
  have h := Cells.new w (rxA x) 46
  have e : rowsC rxC [x] = (rxA x).toList := by simp [rowsC, rxC]
  rw [e]
  refine .inr ⟨w.heap.size, 0, rfl, h.1, fun i hi => ?_⟩
  have q := (h.2 i hi).1
  rw [Nat.zero_add]
  exact q
theorem rx_one (x : RX) : ∀ u ∈ rowsC rxC [x], u.oneCell' = true := by
  have e : rowsC rxC [x] = (rxA x).toList := by simp [rowsC, rxC]
  rw [e]
  have := rxA_one x
  simpa [List.all_eq_true] using this
theorem fill46 (x : RX) : Instr.fill (fun i => some (i * 17, 17)) ((Array.range (1 * 17)).map ((Value.agg rec0).cells[· % (Value.agg rec0).cells.size]!)) [(0, .agg (rxA x))] = some (rxA x) := by kernel_rfl
theorem wp_b24 {o : Oper} {a : Act} {w : World} {K : Act → World → Prop} {Q : Exit → Act → World → Prop} {cond : Bool} (d : Nat) (s : Operand) (hc : cond = true) (hd : o.dst = some d) (ho : o.op = .buildSlice 24 1 #[(0, s)]) {x : RX} (hs : a.eval s = .agg (rxA x))
    (h : K (a.put (some d) (.slice (some ⟨w.heap.size, 0, none⟩) 1 1)) (w.alloc (.cells (rxA x) 46))) : if cond = true then Oper.wp Try.prog o a w K Q else K (a.put o.dst undef) w := by
  rw [if_pos hc]
  obtain ⟨i0, hi, h0, h2, h3⟩ := info_of info46
  refine wp_buildSlice 24 46 1 #[(0, s)] ho (rxA x) i0 _ Try.underlying24 hi h0 (by rw [h2]; decide) (by rw [h2]; decide) ?_ (by rw [hd]; exact h)
  rw [h2]
  simp only [List.map_toArray, List.map_cons, List.map_nil, hs]
  exact fill46 x
theorem reach_in {wr w1 : World} {rs : List RecM} {p : PassM} (hr : Reach rs p) (hn : rs.length ≤ 80) {la da : Option Addr} {nL lc nD dc : Nat} {F : FoundM} (hF : F = p.found) (h : FoundOut wr w1 (.slice la nL lc) (.slice da nD dc) F) : StepIn w1 wr.heap.size la lc da dc F ((rs.length : Int) + 1) := by
  subst hF
  have g := reach_grown rs p hr
  have hL := GRow.lies h.live
  have hD := GRow.lies h.dirty
  obtain ⟨a1, c1, e1, l1, -⟩ := hL
  obtain ⟨a2, c2, e2, l2, -⟩ := hD
  cases e1
  cases e2
  refine ⟨l1, l2, fun ad q => ?_, by omega, g.ok.few, told_len _ _, told_rise _ _, fun d hd => ?_, fun x hx => ⟨(g.ok.each x hx).one, ?_⟩, ?_, h.be.size⟩
  · subst q
    exact GRow.own_at h.live
  · obtain ⟨i, -, hi, rfl⟩ := mem_told.1 hd
    have := g.pg i hi
    show 1 ≤ p.pg i ∧ p.pg i ≤ _
    omega
  · have := g.ok.each x hx
    have := this.tx1
    have := (g.ok.each x hx).tx2
    have := g.ok.n2
    unfold I64
    omega
  · exact ok_i64 g.ok
def GrownPost (w : World) (e : Ending) (w' : World) : Prop :=
  ∃ v xs p, e = .returned (.tuple #[v, .bool true]) ∧ LogAt w' w.heap.size v xs ∧ Reach (rsOf xs) p ∧ CkOk (rsOf xs) ∧ xs.length ≤ 80 ∧ Below w.heap.size w w'
theorem run_ok {xs : List RX} {p : PassM} (hr : Reach (rsOf xs) p) {F : FoundM} (hF : F = p.found) {a : Option Addr} {n c : Nat} {w : World} (h : RecsAt w a xs) (hn : n = xs.length) (hm : n ≤ 1000000) (hc : n ≤ c) (hnil : a = none → c = 0) :
    Calls Try.prog 8 #[.slice a n c, .int .i64 0] w fun e w' => ∃ la nL lc da nD dc, e = .returned (.tuple #[.agg (fdA (.slice la nL lc) (.slice da nD dc) F), .int .i64 0]) ∧ nL = F.live.length ∧ nD = F.dirty.length ∧ FoundOut w w' (.slice la nL lc) (.slice da nD dc) F := by
  subst hF
  refine (run_any xs a n c 0 w h hn hm hc hnil).mono ?_
  rintro e w' ⟨vL, vD, rfl, hFO⟩
  obtain ⟨h1, h2⟩ := reach_run hr
  rw [h2] at hFO
  rw [h1, h2]
  obtain ⟨la, lc, hla, -⟩ := GRow.lies hFO.live
  obtain ⟨da, dc, hda, -⟩ := GRow.lies hFO.dirty
  subst hla hda
  exact ⟨la, _, lc, da, _, dc, rfl, rfl, rfl, hFO⟩
structure Gr (w wr : World) (v : Value) (xs : List RX) (p : PassM) : Prop where
  log : LogAt wr w.heap.size v xs
  re : Reach (rsOf xs) p
  ck : CkOk (rsOf xs)
  be : Below w.heap.size w wr
theorem Gr.step {w wr w1 w5 w6 : World} {v v' : Value} {xs : List RX} {p : PassM} {x : RX} {N : Nat} (h : Gr w wr v xs p) (hn : xs.length ≤ 79) (hs : StepOk p.found (((rsOf xs).length : Int) + 1) x.r) (hx : RXIn w1 x) (had : ∀ ad, x.la = some ad ∨ x.da = some ad → N ≤ ad.block ∧ ad.block < w1.heap.size) (hN : N = wr.heap.size) (b1 : Below wr.heap.size wr w1)
    (h5 : w5 = w1.alloc (.cells (rxA x) 46)) (hrow : GRow w6 w.heap.size 46 17 v' (xs.length + 1) (rowsC rxC xs ++ rowsC rxC [x])) (hg : w5.grownBy w6 v.ownBlock) (ho : v'.ownBlock = v.ownBlock ∨ v'.ownBlock = some w5.heap.size) : Gr w w6 v' (xs ++ [x]) (p.step x.r) := by
  have b5 : Below wr.heap.size wr w5 := by rw [h5]; exact b1.alloc b1.size _
  have k6 : Keep (fun z => v.ownBlock = some z) w5 w6 := grown_keep hg
  have hlt : ∀ g, v.ownBlock = some g → w.heap.size ≤ g ∧ g < wr.heap.size := fun g hg => World.ownsRow.lt h.log.row g hg
  have s5 : w5.heap.size = w1.heap.size + 1 := by rw [h5]; simp
  obtain ⟨r1, r2⟩ := step_reach h.re (by simp; omega) hs
  have er : rsOf (xs ++ [x]) = rsOf xs ++ [x.r] := by simp [rsOf]
  refine ⟨⟨?_, ?_, ?_⟩, by rw [er]; exact r1, by rw [er]; exact h.ck.snoc h.re r2, (h.be.trans (b5.mono h.be.size)).trans (k6.below (Nat.le_trans h.be.size b5.size) (fun z hz q => by have := hlt z q; omega))⟩
  · have e1 : (xs ++ [x]).length = xs.length + 1 := by simp
    have e2 : rowsC rxC (xs ++ [x]) = rowsC rxC xs ++ rowsC rxC [x] := by simp [rowsC]
    rw [e1, e2]
    exact hrow
  · intro y hy
    rcases List.mem_append.1 hy with hy | hy
    · exact ((h.log.each y hy).below b5).keep k6 (fun ad q => (h.log.sep y hy ad q).1)
    · simp at hy
      subst hy
      refine (hx.below (by rw [h5]; exact alloc_below _ _)).keep k6 (fun ad q r => ?_)
      have := had ad q
      have := hlt _ r
      omega
  · intro y hy ad q
    have hs6 := k6.size
    rcases List.mem_append.1 hy with hy | hy
    · have := h.log.sep y hy ad q
      have hb := b1.size
      refine ⟨?_, by omega⟩
      rcases ho with ho | ho
      · rw [ho]; exact this.1
      · rw [ho]; intro r; have := Option.some.inj r; omega
    · simp at hy
      subst hy
      have := had ad q
      refine ⟨?_, by omega⟩
      rcases ho with ho | ho
      · rw [ho]; intro r; have := hlt _ r; omega
      · rw [ho]; intro r; have := Option.some.inj r; omega
theorem Gr.start (w : World) : Gr w w (.slice none 0 0) [] pass0 := ⟨⟨World.ownsRow_nil _ _ _ _, fun x hx => (by cases hx), fun x hx => (by cases hx)⟩, Reach.nil, fun i hi => (by cases hi), Below.refl _ _⟩
set_option maxHeartbeats 16000000 in
theorem grown_any (ms : List Mv) (ma : Option Addr) (nM mc : Nat) (w : World) (hm : Lies w ma (rowsC mvC ms)) (hn : nM = ms.length) : Calls Try.prog 6 #[.slice ma nM mc] w (GrownPost w) := by
  unfold GrownPost
  have HM := hide hm
  have HN := hide hn
  clear hm hn
  go_enter Try.func6, Try.ntmps6
  go_wp2_with fail
  go_loopw [5, 4] (fun iv v wr => ∃ (i : Nat) (xs : List RX) (p : PassM), iv = .int .i64 (i : Int) ∧ i ≤ nM ∧ i ≤ 80 ∧ xs.length = i ∧ Gr w wr v xs p) (fun iv _ _ => 80 + 1 - (intOf iv).toNat)
  case atStart => exact ⟨0, [], pass0, rfl, Nat.zero_le _, by omega, rfl, Gr.start w⟩
  case round =>
    obtain ⟨i, xs, p, rfl, hi, hi80, hxi, hG⟩ := hrel
    obtain ⟨a, c, hv, hRA, hlc, hnil⟩ := hG.log.form
    have G0 := hide hG
    obtain ⟨n, hnn⟩ : ∃ n, n = xs.length := ⟨_, rfl⟩
    rw [← hnn] at hv hlc
    subst hv
    obtain ⟨FF, HFF⟩ : ∃ F, Hid (F = p.found) := ⟨_, hide rfl⟩
    have KR := hide (fun w' (hb : Below wr.heap.size wr w') => run_ok hG.re HFF.out (hRA.below hb) hnn (by omega) hlc hnil)
    have HNN := hide hnn
    have HXI := hide hxi
    clear hRA hlc hnil hG hnn
    by_cases hlt : i < nM ∧ i < 80
    · have e1 : decide ((i : Int) < (nM : Int)) = true := by simp; omega
      have e2 : decide ((i : Int) < 80) = true := by simp; omega
      have e3 : IntKind.i64.wrap ((i : Int) + 1) = (i : Int) + 1 := by rw [IntKind.wrap_i64]; omega
      have e3' : wrap64 ((i : Int) + 1) = (i : Int) + 1 := by unfold wrap64; omega
      clear hxi
      go_upto_region 6 with (go_at_call 8; refine (KR.out _ (Below.refl _ _)).mono ?_; rintro e w1 ⟨la, nL, lc, da, nD, dc, rfl, hnL, hnD, hFO⟩; have HL := hide hnL; have HD := hide hnD; clear hnL hnD)
      refine named (P := Code.wp _ _ _ _) ?_
      intro w2 hw2
      obtain ⟨fb, hfb⟩ : ∃ b, b = w1.heap.size := ⟨_, rfl⟩
      have bb := alloc_below w1 (.cells (fdA (.slice la nL lc) (.slice da nD dc) FF) 31)
      have F2 := hide (show Cells w2 fb [.slice la nL lc, .slice da nD dc, .int .i64 FF.fr, .int .i64 FF.next] by rw [hw2, hfb]; exact Cells.new _ _ _)
      have B2 := hide (show Below w1.heap.size w1 w2 by rw [hw2]; exact bb)
      have B1 := hide hFO.be
      have HF := hide hfb
      have SI := hide (reach_in G0.out.re (by simp; have := HXI.out; omega) HFF.out hFO)
      rw [← hfb]
      clear hw2 hfb bb hFO KR
      go_upto_region 8 with (go_at_call 9; refine (num_eq _ _).mono ?_; rintro e wz ⟨rfl, rfl⟩)
      have him : i < ms.length := by rw [← HN.out]; exact hlt.1
      obtain ⟨sb, so, hma, slt, sel⟩ := Lies.rowAt mvC 4 (fun _ => rfl) HM.out i him (by decide)
      subst hma
      generalize ms[i] = mv at *
      obtain ⟨mk, mw, mp, md⟩ := mv
      have OWN := hide (show ∀ g, (Value.slice a n c).ownBlock = some g → w.heap.size ≤ g ∧ g < wr.heap.size from fun g hg => World.ownsRow.lt G0.out.log.row g hg)
      have BW2 := hide (B1.out.trans (B2.out.mono B1.out.size))
      have MC := hide (show ∀ wq, Keep (fun z => (Value.slice a n c).ownBlock = some z) w2 wq → wq.cell? ⟨sb, so + i * 4, none⟩ = some (.int .i64 mk) ∧ wq.cell? ⟨sb, so + i * 4 + 1, none⟩ = some (.int .i64 mw) ∧ wq.cell? ⟨sb, so + i * 4 + 2, none⟩ = some (.int .i64 mp) ∧ wq.cell? ⟨sb, so + i * 4 + 3, none⟩ = some (.int .i64 md) from fun wq hk => by
        have bq : Below w.heap.size w wq := (G0.out.be.trans (BW2.out.mono G0.out.be.size)).trans (hk.below (Nat.le_trans G0.out.be.size BW2.out.size) (fun z hz q => by have := OWN.out z q; omega))
        have g := fun o v (q : w.cell? ⟨sb, o, none⟩ = some v) => (bq.cell (p := ⟨sb, o, none⟩) slt).trans q
        exact ⟨g _ _ (by have := sel 0 _ rfl; rwa [Nat.add_zero] at this), g _ _ (sel 1 _ rfl), g _ _ (sel 2 _ rfl), g _ _ (sel 3 _ rfl)⟩)
      have FC := hide (show ∀ wq, Keep (fun z => (Value.slice a n c).ownBlock = some z) w2 wq → Cells wq fb [.slice la nL lc, .slice da nD dc, .int .i64 FF.fr, .int .i64 FF.next] from fun wq hk => F2.out.keep hk (fun q => by have := OWN.out fb q; have := B1.out.size; have := HF.out; omega))
      clear sel
      refine wp_region_held_drew (S := fun wq => Keep (fun z => (Value.slice a n c).ownBlock = some z) w2 wq) (by kernel_rfl) (Keep.refl _ _).drew (fun hS => ?_)
      have KD := hide (show Below w2.heap.size w2 w2.drew from (Below.refl _ _).drew)
      generalize w2.drew = y0 at *
      have BY := hide (B2.out.trans (KD.out.mono B2.out.size))
      have SI2 := hide (show StepIn y0 wr.heap.size la lc da dc FF ((i : Int) + 1) from by
        have q := SI.out
        have e : ((rsOf xs).length : Int) + 1 = (i : Int) + 1 := by simp; have := HXI.out; omega
        rw [e] at q
        exact ⟨q.li.below BY.out, q.di.below BY.out, fun ad z => ⟨(q.al ad z).1, Nat.lt_of_lt_of_le (q.al ad z).2 BY.out.size⟩, q.l1, q.few, q.dl, q.dr, q.ds, q.lv, q.nx, Nat.le_trans q.ls BY.out.size⟩)
      have KS := hide (step_any mk mw mp md ((i : Int) + 1) la da nL lc nD dc wr.heap.size FF y0 SI2.out HL.out HD.out)
      refine take_at 0 (some 28) (v := ?_) rfl rfl (by kernel_rfl) (by kernel_rfl) (by kernel_rfl) (fun _ _ _ h => h) ⟨by rfl, ?_⟩ hS ?_
      rotate_left
      · intro wq hSw; go_simp; try rfl
      simp only [Act.put, List.setIfInBounds_toArray, List.set_cons_zero, List.set_cons_succ]
      refine take_at 1 (some 29) (v := ?_) rfl rfl (by kernel_rfl) (by kernel_rfl) (by kernel_rfl) (fun _ _ _ h => h) ⟨by rfl, ?_⟩ hS ?_
      rotate_left
      · intro wq hSw; go_simp; try rfl
      simp only [Act.put, List.setIfInBounds_toArray, List.set_cons_zero, List.set_cons_succ]
      refine take_at 2 (some 30) (v := ?_) rfl rfl (by kernel_rfl) (by kernel_rfl) (by kernel_rfl) (fun _ _ _ h => h) ⟨by rfl, ?_⟩ hS ?_
      rotate_left
      · intro wq hSw; go_simp; try rfl
      simp only [Act.put, List.setIfInBounds_toArray, List.set_cons_zero, List.set_cons_succ]
      refine take_at 3 (some 31) (v := ?_) rfl rfl (by kernel_rfl) (by kernel_rfl) (by kernel_rfl) (fun _ _ _ h => h) ⟨by rfl, ?_⟩ hS ?_
      rotate_left
      · intro wq hSw; go_simp; try rfl
      simp only [Act.put, List.setIfInBounds_toArray, List.set_cons_zero, List.set_cons_succ]
      refine take_at 4 (some 32) (v := ?_) rfl rfl (by kernel_rfl) (by kernel_rfl) (by kernel_rfl) (fun _ _ _ h => h) ⟨by rfl, ?_⟩ hS ?_
      rotate_left
      · intro wq hSw; obtain ⟨q0, q1, q2, q3⟩ := MC.out wq hSw; go_simp; try rfl
      simp only [Act.put, List.setIfInBounds_toArray, List.set_cons_zero, List.set_cons_succ]
      refine take_at 5 (some 33) (v := ?_) rfl rfl (by kernel_rfl) (by kernel_rfl) (by kernel_rfl) (fun _ _ _ h => h) ⟨by rfl, ?_⟩ hS ?_
      rotate_left
      · intro wq hSw; go_simp; try rfl
      simp only [Act.put, List.setIfInBounds_toArray, List.set_cons_zero, List.set_cons_succ]
      refine take_at 6 (some 34) (v := ?_) rfl rfl (by kernel_rfl) (by kernel_rfl) (by kernel_rfl) (fun _ _ _ h => h) ⟨by rfl, ?_⟩ hS ?_
      rotate_left
      · intro wq hSw; go_simp; try rfl
      simp only [Act.put, List.setIfInBounds_toArray, List.set_cons_zero, List.set_cons_succ]
      refine take_at 7 (some 35) (v := ?_) rfl rfl (by kernel_rfl) (by kernel_rfl) (by kernel_rfl) (fun _ _ _ h => h) ⟨by rfl, ?_⟩ hS ?_
      rotate_left
      · intro wq hSw; have qq := FC.out wq hSw; obtain ⟨q0, -⟩ := qq.get 0 _ rfl; obtain ⟨q1, -⟩ := qq.get 1 _ rfl; obtain ⟨q2, -⟩ := qq.get 2 _ rfl; obtain ⟨q3, -⟩ := qq.get 3 _ rfl; clear qq; go_simp; try rfl
      simp only [Act.put, List.setIfInBounds_toArray, List.set_cons_zero, List.set_cons_succ]
      refine wpAnyH_ready (rs := [8]) (by kernel_rfl) (by simp) ?_
      refine AllReadyH.cons rfl (fun K hK => ?_) AllReadyH.nil
      go_simp
      go_wp2_with fail
      refine KS.out.mono ?_
      unfold StepPost
      rintro e w4 ⟨x, rfl, hst, hxi, had, hb4⟩
      have B4 := hide hb4
      have ST := hide hst
      have XI := hide hxi
      have AD := hide had
      clear hst hxi had hb4
      go_wp2_with fail
      refine hK.out _ _ (Keep.of_below (S := fun z => (Value.slice a n c).ownBlock = some z) (KD.out.trans (B4.out.mono KD.out.size))) (fun hS => ?_)
      clear hK K
      (try simp only [Act.put, List.setIfInBounds_toArray, List.set_cons_zero, List.set_cons_succ])
      have BX := hide (BW2.out.trans ((KD.out.trans (B4.out.mono KD.out.size)).mono BW2.out.size))
      obtain ⟨v6, w6, run6, row6, grow6, own6⟩ := run_push46 24 (w4.alloc (.cells (rxA x) 46)) w.heap.size (.slice a n c) n (rowsC rxC xs) (by have := G0.out.log.row; rw [← HNN.out] at this; exact GRow.below (GRow.below this BX.out) (alloc_below _ _)) ⟨w4.heap.size, 0, none⟩ 1 1 (rowsC rxC [x]) rfl (lies_rx w4 x) (rx_one x) (by have := HNN.out; have := HXI.out; omega) (by have := G0.out.be.size; have := BX.out.size; simp; omega)
      have G6 := hide (show Gr w w6 v6 (xs ++ [x]) (p.step x.r) from G0.out.step (by have := HXI.out; omega) (by have e : ((rsOf xs).length : Int) + 1 = (i : Int) + 1 := (by simp; have := HXI.out; omega); rw [e, ← HFF.out]; exact ST.out) XI.out AD.out rfl BX.out rfl (by rw [← HNN.out]; exact row6) grow6 own6)
      have K6 := hide ((Keep.of_below (S := fun z => (Value.slice a n c).ownBlock = some z) (KD.out.trans (B4.out.mono KD.out.size))).trans ((Keep.of_below (S := fun z => (Value.slice a n c).ownBlock = some z) (alloc_below w4 (.cells (rxA x) 46))).trans (grown_keep grow6) (fun _ _ q => q)) (fun _ _ q => q))
      have K5 := hide ((Keep.of_below (S := fun z => (Value.slice a n c).ownBlock = some z) (KD.out.trans (B4.out.mono KD.out.size))).trans (Keep.of_below (S := fun z => (Value.slice a n c).ownBlock = some z) (alloc_below w4 (.cells (rxA x) 46))) (fun _ _ q => q))
      refine wpAnyH_ready (rs := [9]) (by kernel_rfl) (by simp) ?_
      refine AllReadyH.cons rfl (fun K hK => ?_) AllReadyH.nil
      refine wp_b24 37 (.tmp 36) rfl rfl rfl rfl ?_
      refine hK.out _ _ K5.out (fun hS => ?_)
      clear hK K
      (try simp only [Act.put, List.setIfInBounds_toArray, List.set_cons_zero, List.set_cons_succ])
      refine wpAnyH_ready (rs := [10]) (by kernel_rfl) (by simp) ?_
      refine AllReadyH.cons rfl (fun K hK => ?_) AllReadyH.nil
      refine wp_run 38 (.tmp 28) (.tmp 37) rfl rfl rfl rfl rfl run6 ?_
      refine hK.out _ _ K6.out (fun hS => ?_)
      clear hK K
      (try simp only [Act.put, List.setIfInBounds_toArray, List.set_cons_zero, List.set_cons_succ])
      refine take_at 11 (some 4) (v := ?_) rfl rfl (by kernel_rfl) (by kernel_rfl) (by kernel_rfl) (fun _ _ _ h => h) ⟨by rfl, ?_⟩ hS ?_
      rotate_left
      · intro wq hSw; go_simp; try rfl
      simp only [Act.put, List.setIfInBounds_toArray, List.set_cons_zero, List.set_cons_succ]
      refine wpAnyH_done (by kernel_rfl) ?_ _
      obtain ⟨a6, c6, hv6, -⟩ := G6.out.log.form
      subst hv6
      clear run6 row6 grow6 own6 hS K5 K6 BX AD XI ST B4 KS SI2 BY KD FC MC BW2 OWN SI HL HD F2 B2 B1 HF
      go_wp2_with fail
      go_roundw
      case rel => exact ⟨i + 1, xs ++ [x], p.step x.r, by go_num, by omega, by omega, by simp; exact HXI.out, G6.out⟩
      case measure => simp [intOf]; omega
    · by_cases h80 : i < nM
      · have e1 : decide ((i : Int) < (nM : Int)) = true := by simp; omega
        have e2 : decide ((i : Int) < 80) = false := by simp; omega
        clear hxi
        go_upto_region 10 with (go_at_call 8; refine (KR.out _ (Below.refl _ _)).mono ?_; rintro e w1 ⟨la, nL, lc, da, nD, dc, rfl, hnL, hnD, hFO⟩; have HL := hide hnL; have HD := hide hnD; clear hnL hnD)
        have B1 := hide hFO.be
        clear hFO HL HD KR
        refine named (P := Code.wp _ _ _ _) ?_
        intro w2 hw2
        have G2 := hide (show Gr w w2 (.slice a n c) xs p by have b2 : Below wr.heap.size wr w2 := (by rw [hw2]; exact B1.out.alloc B1.out.size _); exact ⟨G0.out.log.below b2, G0.out.re, G0.out.ck, G0.out.be.trans (b2.mono G0.out.be.size)⟩)
        clear hw2
        go_wp2_with (go_at_call 9; refine (num_eq _ _).mono ?_; rintro e wz ⟨rfl, rfl⟩)
        go_ret2
        exact ⟨_, xs, p, rfl, G2.out.log, G2.out.re, G2.out.ck, by have := HXI.out; omega, G2.out.be⟩
      · have e1 : decide ((i : Int) < (nM : Int)) = false := by simp; omega
        clear hxi
        go_upto_region 10 with (go_at_call 8; refine (KR.out _ (Below.refl _ _)).mono ?_; rintro e w1 ⟨la, nL, lc, da, nD, dc, rfl, hnL, hnD, hFO⟩; have HL := hide hnL; have HD := hide hnD; clear hnL hnD)
        have B1 := hide hFO.be
        clear hFO HL HD KR
        refine named (P := Code.wp _ _ _ _) ?_
        intro w2 hw2
        have G2 := hide (show Gr w w2 (.slice a n c) xs p by have b2 : Below wr.heap.size wr w2 := (by rw [hw2]; exact B1.out.alloc B1.out.size _); exact ⟨G0.out.log.below b2, G0.out.re, G0.out.ck, G0.out.be.trans (b2.mono G0.out.be.size)⟩)
        clear hw2
        go_wp2_with (go_at_call 9; refine (num_eq _ _).mono ?_; rintro e wz ⟨rfl, rfl⟩)
        go_ret2
        exact ⟨_, xs, p, rfl, G2.out.log, G2.out.re, G2.out.ck, by have := HXI.out; omega, G2.out.be⟩
end Go.Proofs.Ytblngphjoafidaa
