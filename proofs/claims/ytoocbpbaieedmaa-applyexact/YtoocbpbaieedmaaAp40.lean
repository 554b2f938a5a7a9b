import Derived.Test.YtoocbpbaieedmaaAp39
namespace Go.Proofs.Ytoocbpbaieedmaa
open Go.RowKit Go.QK Quota
set_option maxRecDepth 100000
/-- How the law stands. -/
structure Stand (w0 w : World) (S : Nat → Prop) (bb nw : Nat) (vs : List Value) (Rs : List (List Value)) (p : Pg) (t : At) (K : Nat) : Prop where
  bk : BK w S bb vs Rs K
  rl : ∀ (j : Nat) (R : List Value), Rs[j]? = some R → R.length = K
  now : Now w S nw p t
  lo : ∀ k, S k → w0.heap.size ≤ k
  nlo : w0.heap.size ≤ nw
  lt : ∀ ad : Addr, (t.a = some ad ∨ t.b = some ad) → ad.block < w.heap.size
  bel : Below w0.heap.size w0 w
section
variable {w0 w w' : World} {S : Nat → Prop} {bb nw K : Nat} {vs : List Value} {Rs : List (List Value)} {p : Pg} {t : At}
theorem Stand.below (h : Stand w0 w S bb nw vs Rs p t K) (hb : Below w.heap.size w w') : Stand w0 w' S bb nw vs Rs p t K :=
  ⟨h.bk.below hb, h.rl, h.now.below hb, h.lo, h.nlo, fun ad q => Nat.lt_of_lt_of_le (h.lt ad q) hb.size, h.bel.trans (hb.mono h.bel.size)⟩
/-- Another page is put into the variable. -/
theorem Stand.stored {q : Pg} {u : At} (h : Stand w0 w S bb nw vs Rs p t K) (hin : PIn w q u) (hf : q.Fit) (ho : ∀ ad : Addr, (u.a = some ad ∨ u.b = some ad) → ¬ S ad.block ∧ ad.block ≠ nw ∧ ad.block < w.heap.size) :
    Stand w0 ((((w.setCell ⟨nw, 0, none⟩ (.int .i64 q.num)).setCell ⟨nw, 1, none⟩ (.int .i64 q.lsn)).setCell ⟨nw, 2, none⟩ (.slice u.a q.cs.length u.c)).setCell ⟨nw, 3, none⟩ (.slice u.b q.gs.length u.d)) S bb nw vs Rs q u K := by
  obtain ⟨h1, h2⟩ := h.now.stored hin hf (fun ad z => ⟨(ho ad z).1, (ho ad z).2.1⟩)
  exact ⟨h.bk.keep h2 (fun k q z => h.now.ns (by rw [← z]; exact q)), h.rl, h1, h.lo, h.nlo, fun ad z => Nat.lt_of_lt_of_le (ho ad z).2.2 h2.size, h.bel.trans (h2.below h.bel.size (fun k hk z => by have := h.nlo; omega))⟩
/-- Behind 'does'. -/
theorem Stand.next {S' : Nat → Prop} {vs' : List Value} {Rs' : List (List Value)} (h : Stand w0 w S bb nw vs Rs p t K) (bk : BK w' S' bb vs' Rs' (K + 2)) (rl : ∀ (j : Nat) (R : List Value), Rs'[j]? = some R → R.length = K + 2) (hs : ∀ k, k < w.heap.size → S' k → S k) (hk : Keep S w w') : Stand w0 w' S' bb nw vs' Rs' p t (K + 2) :=
  ⟨bk, rl, h.now.next hk hs h.lt, fun k q => by
    by_cases z : k < w.heap.size
    · exact h.lo k (hs k z q)
    · have := h.bel.size; omega, h.nlo, fun ad q => Nat.lt_of_lt_of_le (h.lt ad q) hk.size, h.bel.trans (hk.below h.bel.size (fun k hk' z => by have := h.lo k z; omega))⟩
end
set_option maxHeartbeats 8000000 in
theorem law_exact (xs : List OpX) (sa : Option Addr) (sc : Nat) (w : World) (hl : Lies w sa (rowsC opL xs)) (ho : ∀ o ∈ xs, o.Ok w) :
    Calls Try.prog 7 #[.slice sa xs.length sc] w fun e w' => e = .returned (.bool true) ∧ Below w.heap.size w w' := by
  have HL := hide hl
  have HO := hide ho
  obtain ⟨n, hn⟩ : ∃ n, n = xs.length := ⟨_, rfl⟩
  rw [← hn]
  have HN := hide hn
  clear hl ho hn
  go_enter Try.func7, Try.ntmps7
  go_wp2_with fail
  refine (awake_any _).mono ?_
  rintro e w1 ⟨rfl, b1⟩
  have B1 := hide b1
  clear b1
  go_upto_region 5 with fail
  refine named (P := Code.wp _ _ _ _) ?_
  intro w2 hw2
  obtain ⟨bb, hbb⟩ : ∃ bb, bb = w1.heap.size := ⟨_, rfl⟩
  rw [← hbb]
  obtain ⟨nw, hnw⟩ : ∃ nw, nw = bb + 1 := ⟨_, rfl⟩
  rw [← hnw]
  have S2 := hide (show Stand w w2 (fun k => k = bb) bb nw [.slice none 0 0, .slice none 0 0, .slice none 0 0, .slice none 0 0, .slice none 0 0, .slice none 0 0] [[], [], [], [], [], []] none_ ⟨none, 0, none, 0⟩ 0 by
    have a1 := alloc_below w1 (.cells #[.slice none 0 0, .slice none 0 0, .slice none 0 0, .slice none 0 0, .slice none 0 0, .slice none 0 0] 62)
    have a2 := alloc_below (w1.alloc (.cells #[.slice none 0 0, .slice none 0 0, .slice none 0 0, .slice none 0 0, .slice none 0 0, .slice none 0 0] 62)) (.cells #[.int .i64 0, .int .i64 0, .slice none 0 0, .slice none 0 0] 25)
    have c1 := (Cells.new w1 #[.slice none 0 0, .slice none 0 0, .slice none 0 0, .slice none 0 0, .slice none 0 0, .slice none 0 0] 62).below a2
    have c2 := Cells.new (w1.alloc (.cells #[.slice none 0 0, .slice none 0 0, .slice none 0 0, .slice none 0 0, .slice none 0 0, .slice none 0 0] 62)) #[.int .i64 0, .int .i64 0, .slice none 0 0, .slice none 0 0] 25
    rw [World.size_alloc] at c2
    have hs := B1.out.size
    have e2 : w2 = (w1.alloc (.cells #[.slice none 0 0, .slice none 0 0, .slice none 0 0, .slice none 0 0, .slice none 0 0, .slice none 0 0] 62)).alloc (.cells #[.int .i64 0, .int .i64 0, .slice none 0 0, .slice none 0 0] 25) := hw2
    rw [e2]
    subst hnw hbb
    refine ⟨BK.start c1, fun j R hj => ?_, ⟨c2, ⟨.inl rfl, .inl rfl, fun _ => ⟨rfl, rfl⟩, fun _ => ⟨rfl, rfl⟩, Nat.le_refl _, Nat.le_refl _⟩, none_fit, (by omega), fun ad q => (by rcases q with q | q <;> cases q)⟩, fun k q => (by omega), (by omega), fun ad q => (by rcases q with q | q <;> cases q), ?_⟩
    · have := List.mem_of_getElem? hj
      simp at this
      rw [this]
      rfl
    · exact (B1.out.trans (a1.mono hs)).trans (a2.mono (by have := a1.size; omega)))
  clear hw2 hbb hnw B1
  go_wp2_with fail
  go_loopw [5] (fun v wr => ∃ (i : Nat) (S : Nat → Prop) (vs : List Value) (Rs : List (List Value)) (p : Pg) (t : At), v = .int .i64 (i : Int) ∧ i ≤ n ∧ i ≤ 60 ∧ Stand w wr S bb nw vs Rs p t (2 * i)) (fun v _ => 61 - (intOf v).toNat)
  case atStart => exact ⟨0, _, _, _, _, _, rfl, Nat.zero_le _, by omega, S2.out⟩
  case round =>
    obtain ⟨i, S, vs, Rs, p, t, rfl, hi, hi60, hst⟩ := hrel
    have ST := hide hst
    clear hst S2
    by_cases hlt : i < n
    · by_cases hlt2 : i < 60
      · have hil : i < xs.length := by rw [← HN.out]; exact hlt
        obtain ⟨b, off, e, hb, hc⟩ := Lies.rowAt opL 22 (fun _ => rfl) HL.out i hil (by omega)
        subst e
        have hok := HO.out xs[i] (List.getElem_mem hil)
        obtain ⟨o, heo⟩ : ∃ o, o = xs[i] := ⟨_, rfl⟩
        rw [← heo] at hc hok
        have HAT := hide (show ∀ j v, (opL o).toArray.toList[j]? = some v → wr.cell? ⟨b, off + i * 22 + j, none⟩ = some v from fun j v h => (ST.out.bel.cell (p := ⟨b, off + i * 22 + j, none⟩) hb).trans (hc j v (by simpa using h)))
        have OK := hide (show o.Ok wr from ⟨hok.fit, hok.one, hok.num, hok.in_.below ST.out.bel⟩)
        have ONE := hide (opl_one o hok.one)
        clear heo hc hok
        obtain ⟨OA, hOA⟩ : ∃ OA, OA = (opL o).toArray := ⟨_, rfl⟩
        rw [← hOA] at HAT
        have hsz : OA.size = 22 := by rw [hOA]; rfl
        have hall : OA.toList.all (·.oneCell') = true := by rw [hOA]; exact ONE.out
        have HSZ := hide hsz
        have HALL := hide hall
        have HOA := hide hOA
        clear hsz hall hOA ONE
        go_upto_region 9 with (first | refine wpList_load64 HAT.out HSZ.out rfl ?_ | (refine wpList_store64 (RBox.new _ _ _) rfl HSZ.out HALL.out rfl rfl ?_; intro w3 X3 hk3))
        have b3 : Below wr.heap.size wr w3 := (alloc_below wr _).trans (hk3.below (by simp) (fun k hk q => by omega))
        have ST3 := hide (ST.out.below b3)
        have OK3 := hide (show o.Ok w3 from ⟨OK.out.fit, OK.out.one, OK.out.num, OK.out.in_.below b3⟩)
        have CC3 := hide (show Cells w3 wr.heap.size (opL o) by have := X3.cells; rw [HOA.out] at this; simpa using this)
        have NB := hide (show ¬ S wr.heap.size ∧ nw ≠ wr.heap.size from ⟨fun z => by have := ST.out.bk.lt _ z; omega, by have := ST.out.now.box.1; omega⟩)
        obtain ⟨b5, hb5⟩ : ∃ b5, b5 = wr.heap.size := ⟨_, rfl⟩
        rw [← hb5] at CC3 NB ⊢
        clear X3 hk3 b3 ST OK HAT HSZ HALL HOA hb5
        obtain ⟨c17, -⟩ := CC3.out.get 17 _ rfl
        obtain ⟨tb, htb⟩ : ∃ tb, tb = o.too := ⟨_, rfl⟩
        rw [← htb] at c17
        clear htb
        go_upto_if 29 with fail
        go_cut [] (fun w' => ∃ p' t', Stand w w' S bb nw vs Rs p' t' (2 * i) ∧ Cells w' b5 (opL o) ∧ o.r.Fit)
        case first =>
          cases tb
          · go_wp2_with fail
            go_meet
            exact ⟨p, t, ST3.out, CC3.out, OK3.out.fit⟩
          · obtain ⟨c18, -⟩ := CC3.out.get 18 _ rfl
            obtain ⟨c19, -⟩ := CC3.out.get 19 _ rfl
            obtain ⟨c20, -⟩ := CC3.out.get 20 _ rfl
            obtain ⟨c21, -⟩ := CC3.out.get 21 _ rfl
            have KC := cut_any o.p o.t w3 OK3.out.in_
            have hln := cut_len o.p
            obtain ⟨cp, hcp⟩ : ∃ cp, cp = cutP o.p := ⟨_, rfl⟩
            rw [← hcp] at KC hln
            have hfit := OK3.out.num.cut
            rw [← hcp] at hfit
            have KW := hide (fun w' (h : PIn w' cp o.t) => own_any cp o.t w' h (by omega) (by omega))
            have HIN := hide (show PIn w3 cp o.t by rw [hcp]; exact OK3.out.in_.cut)
            have HFIT := hide hfit
            clear hcp hln hfit
            simp only [pgV, pgA] at KC KW
            go_wp2_with fail
            refine KC.mono ?_
            rintro e w4 ⟨rfl, b4⟩
            have ST4 := hide (ST3.out.below b4)
            have CC4 := hide (CC3.out.below b4)
            have IN4 := hide (HIN.out.below b4)
            clear b4 ST3 CC3 HIN KC c17 c18 c19 c20 c21
            go_wp2_with fail
            refine (KW.out _ IN4.out).mono ?_
            rintro e w5 ⟨v, rfl, pgo, b5'⟩
            obtain ⟨u, rfl, hin5, hout5⟩ := pgo.in2
            have ST5 := hide (ST4.out.below b5')
            have CC5 := hide (CC4.out.below b5')
            have IN5 := hide hin5
            have OUT5 := hide (show ∀ ad : Addr, (u.a = some ad ∨ u.b = some ad) → ¬ S ad.block ∧ ad.block ≠ nw ∧ ad.block < w5.heap.size from fun ad q => by
              have h1 := hout5 ad q
              exact ⟨fun z => by have := ST4.out.bk.lt _ z; omega, by have := ST4.out.now.box.1; omega, h1.2⟩)
            clear pgo hin5 hout5 b5' ST4 CC4 IN4 KW
            obtain ⟨y0, z0⟩ := ST5.out.now.box.get 0 _ rfl
            obtain ⟨y1, z1⟩ := ST5.out.now.box.get 1 _ rfl
            obtain ⟨y2, z2⟩ := ST5.out.now.box.get 2 _ rfl
            obtain ⟨y3, z3⟩ := ST5.out.now.box.get 3 _ rfl
            simp only [pgV, pgA]
            go_wp2_with fail
            go_meet
            have kk := (ST5.out.now.stored IN5.out HFIT.out (fun ad q => ⟨(OUT5.out ad q).1, (OUT5.out ad q).2.1⟩)).2
            exact ⟨cp, u, ST5.out.stored IN5.out HFIT.out OUT5.out, CC5.out.keep kk (fun q => NB.out.2 q.symm), OK3.out.fit⟩
        case rest =>
          obtain ⟨p', t', hst, hcc, hft⟩ := hcut
          have hfl := hst.now.fit.lc
          have hgl := hst.now.fit.lg
          have KD := does_any S (2 * i) vs Rs p' t' o.r bb wc hst.bk hst.rl (by omega) hst.now.in_ hst.now.fit hft (by omega) (by omega)
          have HFD := hide (hst.now.fit.do_ hft)
          have HC : Hid (∀ j v, (recA o.r).toList[j]? = some v → wc.cell? ⟨b5, 0 + j, none⟩ = some v) := hide (fun j v h => by rw [Nat.zero_add]; exact (hcc.get j v (opl_rec o j v h)).1)
          have ST4 := hide hst
          obtain ⟨f0, -⟩ := hst.now.box.get 0 _ rfl
          obtain ⟨f1, -⟩ := hst.now.box.get 1 _ rfl
          obtain ⟨f2, -⟩ := hst.now.box.get 2 _ rfl
          obtain ⟨f3, -⟩ := hst.now.box.get 3 _ rfl
          obtain ⟨E, hE⟩ : ∃ E, E = doE p' o.r := ⟨_, rfl⟩
          obtain ⟨Q, hQ⟩ : ∃ Q, Q = doP p' o.r := ⟨_, rfl⟩
          obtain ⟨RA, hRA⟩ : ∃ RA, RA = recA o.r := ⟨_, rfl⟩
          have hrs : RA.size = 17 := by rw [hRA]; rfl
          unfold Does at KD
          simp only [recV] at KD
          rw [← hQ] at HFD
          rw [← hRA] at HC
          simp only [← hE, ← hQ, ← hRA, pgV, pgA] at KD
          have HRS := hide hrs
          clear hst hcc hE hQ hRA hrs hft c17 ST3 OK3 CC3
          go_upto_region 12 with (first | refine wpList_ld38of HC.out HRS.out rfl ?_ | (go_at_call 18; refine KD.mono ?_; rintro e w5 ⟨S', vs', Rs', a1, c1, a2, c2, rfl, bk5, rl5, hs5, hk5, in5, ob5⟩))
          refine named (P := Code.wp _ _ _ _) ?_
          intro w6 hw6
          obtain ⟨b7, hb7⟩ : ∃ b7, b7 = w5.heap.size := ⟨_, rfl⟩
          rw [← hb7]
          have al : Below w5.heap.size w5 w6 := by rw [hw6]; exact alloc_below _ _
          have ST6 := hide ((ST4.out.next bk5 rl5 hs5 hk5).below al)
          have IN6 := hide (in5.below al)
          have C7 := hide (show Cells w6 b7 [.int .i64 Q.num, .int .i64 Q.lsn, .slice a1 Q.cs.length c1, .slice a2 Q.gs.length c2] by rw [hw6, hb7]; exact Cells.new _ _ _)
          have OB := hide (show ∀ ad : Addr, (a1 = some ad ∨ a2 = some ad) → ¬ S' ad.block ∧ ad.block ≠ nw ∧ ad.block < w6.heap.size from fun ad q => by
            have h1 := ob5 ad.block (by rcases q with q | q; (exact .inl (by rw [q]; rfl)); (exact .inr (by rw [q]; rfl)))
            have h2 := ST4.out.now.box.1
            have h3 := al.size
            exact ⟨h1.2.2, by omega, by omega⟩)
          have KH := holds_any S' bb (2 * i + 2) vs' Rs' w6 ST6.out.bk ST6.out.rl (by omega)
          clear hw6 hb7 al bk5 rl5 hs5 hk5 in5 ob5 ST4 KD HC HRS f0 f1 f2 f3
          by_cases hE : E = 0
          · subst hE
            obtain ⟨f0, -⟩ := C7.out.get 0 _ rfl
            obtain ⟨f1, -⟩ := C7.out.get 1 _ rfl
            obtain ⟨f2, -⟩ := C7.out.get 2 _ rfl
            obtain ⟨f3, -⟩ := C7.out.get 3 _ rfl
            obtain ⟨y0, z0⟩ := ST6.out.now.box.get 0 _ rfl
            obtain ⟨y1, z1⟩ := ST6.out.now.box.get 1 _ rfl
            obtain ⟨y2, z2⟩ := ST6.out.now.box.get 2 _ rfl
            obtain ⟨y3, z3⟩ := ST6.out.now.box.get 3 _ rfl
            have SF := hide (ST6.out.stored (q := Q) (u := ⟨a1, c1, a2, c2⟩) IN6.out HFD.out OB.out)
            go_wp2_with (go_at_call 19; refine KH.mono ?_; rintro e wz ⟨rfl, rfl⟩)
            go_roundw
            case rel => first | exact ⟨i + 1, S', vs', Rs', Q, _, by go_num, by omega, by omega, SF.out⟩ | ((repeat apply Exists.intro); exact ⟨⟨i + 1, S', vs', Rs', Q, _, by go_num, by omega, by omega, SF.out⟩, rfl⟩)
            case measure => simp [intOf]; omega
          · have hE1 : (E == 0) = false := by simpa using hE
            go_wp2_with (go_at_call 19; refine KH.mono ?_; rintro e wz ⟨rfl, rfl⟩)
            go_roundw
            case rel => first | exact ⟨i + 1, S', vs', Rs', p', t', by go_num, by omega, by omega, ST6.out⟩ | ((repeat apply Exists.intro); exact ⟨⟨i + 1, S', vs', Rs', p', t', by go_num, by omega, by omega, ST6.out⟩, rfl⟩)
            case measure => simp [intOf]; omega
      · obtain rfl : i = 60 := by omega
        have BF := hide ST.out.bel
        go_wp2
        go_ret
        exact ⟨rfl, BF.out⟩
    · obtain rfl : i = n := by omega
      have BF := hide ST.out.bel
      go_wp2
      go_ret
      exact ⟨rfl, BF.out⟩
end Go.Proofs.Ytoocbpbaieedmaa
