import Derived.Test.YtcnlcmdppkdmmaaEc36
namespace Go.Proofs.Ytcnlcmdppkdmmaa
open Go.RowKit Go.QK Quota Go.Maps
set_option maxRecDepth 100000

abbrev Opn := Int × Int × Int × Int
def opC (o : Opn) : List Value := [.int .i64 o.1, .int .i64 o.2.1, .int .i64 o.2.2.1, .int .i64 o.2.2.2]
/-- Both News, in one word. -/
theorem new_both (lo hi v : Int) (w : World) (i1 : I64 lo) (i2 : I64 hi) :
    Calls Try.prog 31 #[rng lo hi, .int .i64 v] w fun r w' => ∃ p, r = .returned (.tuple #[.pointer p, .int .i64 (newE lo hi v)]) ∧ Below w.heap.size w w' ∧ ((newE lo hi v = 0 ∧ ∃ b m, p = some ⟨b, 0, none⟩ ∧ PE w' b m ⟨lo, hi, v, []⟩ ∧ w.heap.size ≤ b ∧ w.heap.size ≤ m) ∨ (newE lo hi v ≠ 0 ∧ p = none)) := by
  by_cases h : newE lo hi v = 0
  · refine (new_yes lo hi v w h i1 i2).mono ?_
    rintro r w' ⟨b, m, rfl, h1, h2, h3, h4⟩
    exact ⟨_, by rw [h], h1, .inl ⟨h, b, m, rfl, h2, h3, h4⟩⟩
  · refine (new_no lo hi v w h).mono ?_
    rintro r w' ⟨rfl, h1⟩
    exact ⟨none, rfl, h1, .inr ⟨h, rfl⟩⟩
theorem rNew_both (lo hi v : Int) (w : World) (i1 : I64 lo) (i2 : I64 hi) :
    Calls Try.prog 32 #[rng lo hi, .int .i64 v] w fun r w' => ∃ p, r = .returned (.tuple #[.pointer p, .int .i64 (newE lo hi v)]) ∧ Below w.heap.size w w' ∧ ((newE lo hi v = 0 ∧ ∃ b, p = some ⟨b, 0, none⟩ ∧ RE w' b ⟨lo, hi, v, []⟩ none 0 ∧ w.heap.size ≤ b) ∨ (newE lo hi v ≠ 0 ∧ p = none)) := by
  by_cases h : newE lo hi v = 0
  · refine (rNew_yes lo hi v w h i1 i2).mono ?_
    rintro r w' ⟨b, rfl, h1, h2, h3⟩
    exact ⟨_, by rw [h], h1, .inl ⟨h, b, rfl, h2, h3⟩⟩
  · refine (rNew_no lo hi v w h).mono ?_
    rintro r w' ⟨rfl, h1⟩
    exact ⟨none, rfl, h1, .inr ⟨h, rfl⟩⟩
theorem Tab.start {B : Nat} {w : World} {t : It} (ok : t.Ok w) (hB : B ≤ w.heap.size) (hx : ∀ x, t.own x → B ≤ x) : Tab B (w.alloc (.cells #[ptr t.b, ptr t.r] 66)) (.slice (some ⟨w.heap.size, 0, none⟩) 1 1) [t] := by
  refine ⟨?_, ?_, ?_, ?_, ?_⟩
  · exact World.ownsRow_lit w #[ptr t.b, ptr t.r] 1 hB (by unfold maxLen; omega) rfl
  · intro i hi
    obtain rfl : i = 0 := by simp at hi; omega
    exact ok.below (alloc_below _ _)
  · intro i j hi hj ne
    simp at hi hj
    omega
  · intro i hi x h
    obtain rfl : i = 0 := by simp at hi; omega
    exact hx x h
  · intro g hg i hi h
    obtain rfl : i = 0 := by simp at hi; omega
    cases hg
    exact absurd (ok.lt h) (Nat.lt_irrefl _)
theorem tabS_low {B : Nat} {w : World} {v : Value} {l : List It} (h : Tab B w v l) {x : Nat} (hx : tabS v l x) : B ≤ x ∧ x < w.heap.size := by
  rcases hx with q | ⟨k, hk, q⟩
  · exact World.ownsRow.lt h.row x q
  · exact ⟨h.low k hk x q, (h.all k hk).lt q⟩

/-- A pair of new ones. -/
structure Fresh (w wr : World) (b m r : Nat) (e : Esc) : Prop where
  ok : It.Ok ⟨b, m, r, e, none, 0⟩ wr
  nil : e.nets = []
  b : w.heap.size ≤ b
  m : w.heap.size ≤ m
  r : w.heap.size ≤ r
  bel : Below w.heap.size w wr
theorem Fresh.own {w wr : World} {b m r : Nat} {e : Esc} (h : Fresh w wr b m r e) : ∀ x, It.own ⟨b, m, r, e, none, 0⟩ x → w.heap.size ≤ x := by
  intro x hx
  rcases hx with q | q | q | ⟨hn, _⟩
  · have := h.b; simp only at q; omega
  · have := h.m; simp only at q; omega
  · have := h.r; simp only at q; omega
  · exact absurd h.nil hn

set_option maxHeartbeats 16000000 in
theorem law_plays (lo hi v : Int) (os : List Opn) (a : Option Addr) (cap : Nat) (w : World) (h1 : I64 lo) (h2 : I64 hi) (hs : Lies w a (rowsC opC os)) (hx : ∀ o ∈ os, I64 o.2.2.1 ∧ I64 o.2.2.2) (_hl : os.length ≤ 9223372036854775807) :
    Calls Try.prog 8 #[rng lo hi, .int .i64 v, .slice a os.length cap] w fun r w' => r = .returned (.bool true) ∧ Below w.heap.size w w' := by
  have KN := fun w' => new_both lo hi v w' h1 h2
  have KR := fun w' => rNew_both lo hi v w' h1 h2
  have n50 : newE (-50) 50 0 = 0 := by decide
  have KN5 := fun w' => new_yes (-50) 50 0 w' n50 (by unfold I64; omega) (by unfold I64; omega)
  have KR5 := fun w' => rNew_yes (-50) 50 0 w' n50 (by unfold I64; omega) (by unfold I64; omega)
  have HS := hide hs
  have HX := hide hx
  clear hs hx h1 h2 n50
  generalize newE lo hi v = M at *
  go_enter Try.func8, Try.ntmps8
  go_wp2_with fail
  refine (first_any _).mono ?_
  rintro r w1 ⟨rfl, h1⟩
  obtain ⟨c0, c1, _, _, z0⟩ := keep1 h1
  have B1 := hide (below1 h1)
  clear h1
  go_wp2_with fail
  refine (KN _).mono ?_
  rintro r w2 ⟨p, rfl, h2, D2⟩
  have d0 := (h2.cell (p := ⟨w.heap.size, 0, none⟩) z0).trans c0
  have d1 := (h2.cell (p := ⟨w.heap.size, 1, none⟩) z0).trans c1
  have z2 := Nat.lt_of_lt_of_le z0 h2.size
  have D2 := hide D2
  have B2 := hide (B1.out.trans (h2.mono B1.out.size))
  have s1 := B1.out.size
  clear h2 KN c0 c1 B1
  go_wp2_with fail
  refine (KR _).mono ?_
  rintro r w3 ⟨p', rfl, h3, D3⟩
  have B3 := hide (B2.out.trans (h3.mono B2.out.size))
  have s2 := B2.out.size
  have DD := hide (show (M = 0 ∧ ∃ b m r, p = some ⟨b, 0, none⟩ ∧ p' = some ⟨r, 0, none⟩ ∧ Fresh w w3 b m r ⟨lo, hi, v, []⟩) ∨ (M ≠ 0 ∧ p = none ∧ p' = none) from by
    rcases D2.out with ⟨e1, b, m, e2, P, g1, g2⟩ | ⟨e1, e2⟩
    · rcases D3 with ⟨_, r, e3, R, g3⟩ | ⟨e3, _⟩
      · have l2 := P.lt
        exact .inl ⟨e1, b, m, r, e2, e3, ⟨⟨⟨P.below h3, R⟩, by simp only; omega, by simp only; omega, fun _ => nofun⟩, rfl, by omega, by omega, by omega, B3.out⟩⟩
      · exact absurd e1 e3
    · rcases D3 with ⟨e3, _⟩ | ⟨_, e3⟩
      · exact absurd e3 e1
      · exact .inr ⟨e1, e2, e3⟩)
  clear h3 D2 D3 KR d0 d1 B2 z0 z2
  go_upto_region 5 with fail
  go_cut [39] (fun s w' => s = .bool false ∧ w' = w3)
  case first =>
    rcases DD.out with ⟨_, b, m, r, rfl, rfl, _⟩ | ⟨_, rfl, rfl⟩
    · go_wp2_with fail
      go_meet
      exact ⟨rfl, rfl⟩
    · go_wp2_with fail
      go_meet
      exact ⟨rfl, rfl⟩
  case rest =>
    obtain ⟨hs, hwc⟩ := hcut
    subst hwc
    rw [hs]
    clear hs
    obtain ⟨w3, hw3⟩ : ∃ w3 : World, w3 = wc := ⟨_, rfl⟩
    subst hw3
    go_upto_region 7 with fail
    obtain ⟨nb, hnb⟩ : ∃ nb : Bool, nb = decide (p = none) := ⟨_, rfl⟩
    have HNB := hide hnb
    clear hnb
    go_cut [41] (fun s w' => s = .bool nb ∧ w' = w3)
    case first =>
      rcases DD.out with ⟨_, b, m, r, rfl, rfl, _⟩ | ⟨_, rfl, rfl⟩
      · have HN2 := hide (show nb = false from by rw [HNB.out]; rfl)
        clear HNB
        go_wp2_with fail
        go_meet
        exact ⟨by rw [HN2.out], rfl⟩
      · have HN2 := hide (show nb = true from by rw [HNB.out]; rfl)
        clear HNB
        go_wp2_with fail
        go_meet
        exact ⟨by rw [HN2.out], rfl⟩
    case rest =>
      obtain ⟨hs, hwc⟩ := hcut
      subst hwc
      rw [hs]
      clear hs
      obtain ⟨w3, hw3⟩ : ∃ w3 : World, w3 = wc := ⟨_, rfl⟩
      subst hw3
      go_upto_if 41 with fail
      go_cut [7, 9] (fun x y w' => ∃ b m r e, x = ptr b ∧ y = ptr r ∧ Fresh w w' b m r e)
      case first =>
        cases nb
        · have hp : ∃ b m r, p = some ⟨b, 0, none⟩ ∧ p' = some ⟨r, 0, none⟩ ∧ Fresh w w3 b m r ⟨lo, hi, v, []⟩ := by
            rcases DD.out with ⟨_, q⟩ | ⟨_, q, _⟩
            · exact q
            · have := HNB.out
              simp [q] at this
          obtain ⟨b, m, r, rfl, rfl, F⟩ := hp
          have FF := hide F
          clear F DD HNB
          go_wp2_with fail
          go_meet
          exact ⟨b, m, r, _, rfl, rfl, FF.out⟩
        · clear DD HNB
          go_wp2_with fail
          refine (KN5 _).mono ?_
          rintro r x4 ⟨b, m, rfl, h4, P4, g1, g2⟩
          have P4 := hide P4
          have B4 := hide (B3.out.trans (h4.mono B3.out.size))
          have s3 := B3.out.size
          have s4 := h4.size
          have l4 := P4.out.lt
          clear h4 B3
          go_wp2_with fail
          refine (KR5 _).mono ?_
          rintro r x5 ⟨rr, rfl, h5, R5, g3⟩
          have FF := hide (show Fresh w x5 b m rr ⟨-50, 50, 0, []⟩ from ⟨⟨⟨P4.out.below h5, R5⟩, by simp only; omega, by simp only; omega, fun _ => nofun⟩, rfl, by omega, by omega, by omega, B4.out.trans (h5.mono B4.out.size)⟩)
          clear h5 R5 P4 B4
          go_wp2_with fail
          go_meet
          exact ⟨b, m, rr, _, rfl, rfl, FF.out⟩
      case rest =>
        obtain ⟨b, m, r, e, hs1, hs2, F⟩ := hcut
        rw [hs1, hs2]
        have FF := hide F
        clear hs1 hs2 F DD HNB B3 KN5 KR5
        obtain ⟨w4, hw4⟩ : ∃ w4 : World, w4 = wc := ⟨_, rfl⟩
        subst hw4
        have T0 := hide (Tab.start FF.out.ok FF.out.bel.size FF.out.own)
        have L0 := hide (show (⟨b, m, r, e, none, 0⟩ : It).e.nets.length ≤ 0 from by rw [FF.out.nil]; exact Nat.le_refl _)
        have BL0 := hide (FF.out.bel.alloc FF.out.bel.size (.cells #[ptr b, ptr r] 66))
        clear FF
        go_wp2_with fail
        go_loopw [12, 11] (fun i lv wr => ∃ (k : Nat) (its : List It), k ≤ os.length ∧ k ≤ 300 ∧ i = .int .i64 k ∧ Tab w.heap.size wr lv its ∧ 0 < its.length ∧ its.length ≤ 6 ∧ (∀ j (hj : j < its.length), (its[j]).e.nets.length ≤ k) ∧ Below w.heap.size w wr) (fun i _ _ => 300 - (intOf i).toNat)
        case atStart =>
          refine ⟨0, [⟨b, m, r, e, none, 0⟩], Nat.zero_le _, by omega, rfl, T0.out, by simp, by simp, ?_, BL0.out⟩
          intro j hj
          obtain rfl : j = 0 := by simp at hj; omega
          exact L0.out
        case round =>
          obtain ⟨k, its, hk, hk3, rfl, hT, hi0, hi6, hN, hb⟩ := hrel
          clear T0 L0 BL0
          obtain ⟨av, cv, rfl, -⟩ := GRow.lies hT.row
          have HT := hide hT
          have HN := hide hN
          have BL := hide hb
          clear hT hN hb
          by_cases q : k < os.length
          · by_cases q3 : k < 300
            · obtain ⟨bl, off, rfl, hlt, hcell⟩ := Lies.rowAt opC 4 (fun _ => rfl) (HS.out.below BL.out) k q (by omega)
              have y0 := hcell 0 _ rfl
              have y1 := hcell 1 _ rfl
              have y2 := hcell 2 _ rfl
              have y3 := hcell 3 _ rfl
              rw [Nat.add_zero] at y0
              have hxo := HX.out os[k] (List.getElem_mem q)
              have hI1 := hxo.1
              have hI2 := hxo.2
              clear hcell hxo
              generalize os[k].1 = kd at *
              generalize os[k].2.1 = E at *
              generalize os[k].2.2.1 = tx at *
              generalize os[k].2.2.2 = d at *
              go_upto_region 17 with fail
              obtain ⟨w1, hw1⟩ : ∃ w1, w1 = wr.alloc (.cells #[.int .i64 kd, .int .i64 E, .int .i64 tx, .int .i64 d] 69) := ⟨_, rfl⟩
              have X1 := hide (Cells.new wr #[.int .i64 kd, .int .i64 E, .int .i64 tx, .int .i64 d] 69)
              have HT1 := hide (HT.out.below (alloc_below wr (.cells #[.int .i64 kd, .int .i64 E, .int .i64 tx, .int .i64 d] 69)))
              have BL1 := hide (BL.out.alloc BL.out.size (.cells #[.int .i64 kd, .int .i64 E, .int .i64 tx, .int .i64 d] 69))
              have LOW := hide (fun x (hx : tabS (.slice av its.length cv) its x) => tabS_low HT.out hx)
              obtain ⟨J, hJ⟩ : ∃ J : Nat, J = wr.heap.size := ⟨_, rfl⟩
              rw [← hw1] at X1 HT1 BL1 ⊢
              rw [← hJ] at X1 LOW ⊢
              clear hw1 hJ HT BL y0 y1 y2 y3 hlt
              obtain ⟨bb, hbb⟩ : ∃ bb : Bool, bb = decide (kd = 5 ∧ 5 < its.length) := ⟨_, rfl⟩
              have HBB := hide hbb
              clear hbb
              have e0 := (X1.out.get 0 _ rfl).1
              go_cut [79] from 58 to 108 (fun s w' => s = .bool bb ∧ w' = w1)
              case first =>
                by_cases z5 : kd = 5
                · subst z5
                  by_cases z6 : 5 < its.length
                  · have HN2 := hide (show bb = true from by rw [HBB.out]; simpa using z6)
                    clear HBB
                    go_wp2_with fail
                    go_meet
                    exact ⟨by rw [HN2.out]; congr 1; simp; omega, rfl⟩
                  · have HN2 := hide (show bb = false from by rw [HBB.out]; simpa using z6)
                    clear HBB
                    go_wp2_with fail
                    go_meet
                    exact ⟨by rw [HN2.out]; congr 1; simp; omega, rfl⟩
                · have z5' : (kd == 5) = false := by simpa using z5
                  have HN2 := hide (show bb = false from by rw [HBB.out]; simp [z5])
                  clear HBB z5
                  go_wp2_with fail
                  go_meet
                  exact ⟨by rw [HN2.out], rfl⟩
              case rest =>
                obtain ⟨hs, hwc⟩ := hcut
                subst hwc
                rw [hs]
                clear hs
                obtain ⟨w1, hw1⟩ : ∃ w1 : World, w1 = wc := ⟨_, rfl⟩
                subst hw1
                cases bb
                · have hc5 : kd = 5 → its.length ≤ 5 := by
                    intro z
                    have := HBB.out
                    simp [z] at this
                    omega
                  have KP := fun w' (h : Tab w.heap.size w' (.slice av its.length cv) its) (hB : w.heap.size ≤ w'.heap.size) => plays_any w.heap.size (.slice av its.length cv) its kd E tx d k w' h hB hi0 hi6 hc5 HN.out (by omega) hI1 hI2
                  have e1 := (X1.out.get 1 _ rfl).1
                  have e2 := (X1.out.get 2 _ rfl).1
                  have e3 := (X1.out.get 3 _ rfl).1
                  clear HBB hc5
                  go_wp2_with fail
                  refine (KP _ HT1.out BL1.out.size).mono ?_
                  rintro r w2 ⟨v', l', rfl, T2, l1, l2, N2, K2⟩
                  have X2 := hide (X1.out.keep K2 (fun q9 => by have := (LOW.out _ q9).2; omega))
                  have BL2 := hide (BL1.out.trans (K2.below BL1.out.size (fun x hx q9 => by have := (LOW.out _ q9).1; omega)))
                  obtain ⟨a2, c2, rfl, -⟩ := GRow.lies T2.row
                  have T2 := hide T2
                  have N2 := hide N2
                  clear K2 KP HT1 X1 BL1 LOW HN e0 e1 e2 e3
                  go_wp2_with fail
                  go_loopw [15] (fun i wq => ∃ j : Nat, j ≤ l'.length ∧ i = .int .i64 j ∧ Tab w.heap.size wq (.slice a2 l'.length c2) l' ∧ Cells wq J [.int .i64 kd, .int .i64 E, .int .i64 tx, .int .i64 d] ∧ Below w.heap.size w wq) (fun i _ => l'.length - (intOf i).toNat)
                  case atStart => exact ⟨0, Nat.zero_le _, rfl, T2.out, X2.out, BL2.out⟩
                  case round =>
                    obtain ⟨j, hj, rfl, hT, hX, hB⟩ := hrel
                    clear T2 X2 BL2
                    have HT3 := hide hT
                    have X3 := hide hX
                    have BL3 := hide hB
                    clear hT hX hB
                    by_cases qj : j < l'.length
                    · have OK3 := hide (HT3.out.all j qj)
                      have hnl := N2.out j qj
                      obtain ⟨a9, c9, q9, hli, -⟩ := GRow.lies HT3.out.row
                      cases q9
                      obtain ⟨bq, oq, hal, hlt2, hcell⟩ := Lies.rowAt pairC 2 (fun _ => rfl) hli j qj (by omega)
                      have HC := hide (fun wq (hg : GRow wq w.heap.size 66 2 (.slice a2 l'.length c2) l'.length (rowsC pairC l')) (hX : Cells wq J [.int .i64 kd, .int .i64 E, .int .i64 tx, .int .i64 d]) => show wq.cell? ⟨bq, oq + j * 2, none⟩ = some (ptr (l'[j]).b) ∧ wq.cell? ⟨bq, oq + j * 2 + 1, none⟩ = some (ptr (l'[j]).r) ∧ wq.cell? ⟨J, 2, none⟩ = some (.int .i64 tx) from by
                        obtain ⟨a8, c8, q8, hl8, -⟩ := GRow.lies hg
                        cases q8
                        obtain ⟨b8, o8, e8, _, h8⟩ := Lies.rowAt pairC 2 (fun _ => rfl) hl8 j qj (by omega)
                        rw [hal] at e8
                        cases e8
                        have g0 := h8 0 _ rfl
                        have g1 := h8 1 _ rfl
                        rw [Nat.add_zero] at g0
                        exact ⟨g0, g1, (hX.get 2 _ rfl).1⟩)
                      have KT := fun w' (h : Two w' (l'[j]).b (l'[j]).m (l'[j]).r (l'[j]).e (l'[j]).a (l'[j]).c) => tells_any _ _ _ _ _ _ tx w' h hI1 (by omega)
                      clear hcell hlt2 hli hnl
                      subst hal
                      generalize l'[j] = t at *
                      have SS := HC.out _ HT3.out.row X3.out
                      go_upto_region 25 with fail
                      refine wp_region_held_drew (S := fun wq => wq.cell? ⟨bq, oq + j * 2, none⟩ = some (ptr t.b) ∧ wq.cell? ⟨bq, oq + j * 2 + 1, none⟩ = some (ptr t.r) ∧ wq.cell? ⟨J, 2, none⟩ = some (.int .i64 tx)) (by kernel_rfl) SS (fun hS => ?_)
                      have OK5 := hide (OK3.out.below (Below.refl _ _).drew)
                      have X5 := hide (X3.out.below (Below.refl _ _).drew)
                      have HT5 := hide (HT3.out.below (Below.refl _ _).drew)
                      have BL5 := hide BL3.out.drew
                      clear OK3 X3 HT3 BL3 SS
                      generalize wr.drew = x5 at *
                      refine take_at 0 (some 94) (v := ?_) rfl rfl (by kernel_rfl) (by kernel_rfl) (by kernel_rfl) (fun _ _ _ h => h) ⟨by rfl, ?_⟩ hS ?_
                      rotate_left
                      · intro wq hSw; go_simp; try rfl
                      simp only [Act.put, List.setIfInBounds_toArray, List.set_cons_zero, List.set_cons_succ]
                      refine take_at 1 (some 95) (v := ?_) rfl rfl (by kernel_rfl) (by kernel_rfl) (by kernel_rfl) (fun _ _ _ h => h) ⟨by rfl, ?_⟩ hS ?_
                      rotate_left
                      · intro wq hSw; go_simp; try rfl
                      simp only [Act.put, List.setIfInBounds_toArray, List.set_cons_zero, List.set_cons_succ]
                      refine take_at 2 (some 96) (v := ?_) rfl rfl (by kernel_rfl) (by kernel_rfl) (by kernel_rfl) (fun _ _ _ h => h) ⟨by rfl, ?_⟩ hS ?_
                      rotate_left
                      · intro wq hSw; go_simp; try rfl
                      simp only [Act.put, List.setIfInBounds_toArray, List.set_cons_zero, List.set_cons_succ]
                      refine take_at 3 (some 97) (v := ?_) rfl rfl (by kernel_rfl) (by kernel_rfl) (by kernel_rfl) (fun _ _ _ h => h) ⟨by rfl, ?_⟩ hS ?_
                      rotate_left
                      · intro wq hSw; go_simp; try rfl
                      simp only [Act.put, List.setIfInBounds_toArray, List.set_cons_zero, List.set_cons_succ]
                      refine take_at 4 (some 98) (v := ?_) rfl rfl (by kernel_rfl) (by kernel_rfl) (by kernel_rfl) (fun _ _ _ h => h) ⟨by rfl, ?_⟩ hS ?_
                      rotate_left
                      · intro wq hSw; obtain ⟨r0, r1, r2⟩ := hSw; go_simp; try rfl
                      simp only [Act.put, List.setIfInBounds_toArray, List.set_cons_zero, List.set_cons_succ]
                      refine take_at 5 (some 99) (v := ?_) rfl rfl (by kernel_rfl) (by kernel_rfl) (by kernel_rfl) (fun _ _ _ h => h) ⟨by rfl, ?_⟩ hS ?_
                      rotate_left
                      · intro wq hSw; go_simp; try rfl
                      simp only [Act.put, List.setIfInBounds_toArray, List.set_cons_zero, List.set_cons_succ]
                      refine take_at 6 (some 100) (v := ?_) rfl rfl (by kernel_rfl) (by kernel_rfl) (by kernel_rfl) (fun _ _ _ h => h) ⟨by rfl, ?_⟩ hS ?_
                      rotate_left
                      · intro wq hSw; go_simp; try rfl
                      simp only [Act.put, List.setIfInBounds_toArray, List.set_cons_zero, List.set_cons_succ]
                      refine take_at 7 (some 101) (v := ?_) rfl rfl (by kernel_rfl) (by kernel_rfl) (by kernel_rfl) (fun _ _ _ h => h) ⟨by rfl, ?_⟩ hS ?_
                      rotate_left
                      · intro wq hSw; go_simp; try rfl
                      simp only [Act.put, List.setIfInBounds_toArray, List.set_cons_zero, List.set_cons_succ]
                      refine take_at 8 (some 102) (v := ?_) rfl rfl (by kernel_rfl) (by kernel_rfl) (by kernel_rfl) (fun _ _ _ h => h) ⟨by rfl, ?_⟩ hS ?_
                      rotate_left
                      · intro wq hSw; go_simp; try rfl
                      simp only [Act.put, List.setIfInBounds_toArray, List.set_cons_zero, List.set_cons_succ]
                      refine take_at 9 (some 103) (v := ?_) rfl rfl (by kernel_rfl) (by kernel_rfl) (by kernel_rfl) (fun _ _ _ h => h) ⟨by rfl, ?_⟩ hS ?_
                      rotate_left
                      · intro wq hSw; obtain ⟨r0, r1, r2⟩ := hSw; go_simp; try rfl
                      simp only [Act.put, List.setIfInBounds_toArray, List.set_cons_zero, List.set_cons_succ]
                      refine take_at 10 (some 104) (v := ?_) rfl rfl (by kernel_rfl) (by kernel_rfl) (by kernel_rfl) (fun _ _ _ h => h) ⟨by rfl, ?_⟩ hS ?_
                      rotate_left
                      · intro wq hSw; go_simp; try rfl
                      simp only [Act.put, List.setIfInBounds_toArray, List.set_cons_zero, List.set_cons_succ]
                      refine take_at 11 (some 105) (v := ?_) rfl rfl (by kernel_rfl) (by kernel_rfl) (by kernel_rfl) (fun _ _ _ h => h) ⟨by rfl, ?_⟩ hS ?_
                      rotate_left
                      · intro wq hSw; obtain ⟨r0, r1, r2⟩ := hSw; go_simp; try rfl
                      simp only [Act.put, List.setIfInBounds_toArray, List.set_cons_zero, List.set_cons_succ]
                      refine wpAnyH_ready (rs := [12]) (by kernel_rfl) (by simp) ?_
                      refine AllReadyH.cons rfl (fun K hK => ?_) AllReadyH.nil
                      go_simp
                      go_wp2_with fail
                      refine (KT _ OK5.out.duo).mono ?_
                      rintro r x6 ⟨rfl, hh⟩
                      have HT6 := hide (HT5.out.below hh)
                      have X6 := hide (X5.out.below hh)
                      have BL6 := hide (BL5.out.trans (hh.mono BL5.out.size))
                      have S6 := HC.out _ HT6.out.row X6.out
                      clear hh HT5 X5 BL5 OK5
                      go_wp2_with fail
                      refine hK.out _ _ S6 (fun hS => ?_)
                      clear hK K
                      (try simp only [Act.put, List.setIfInBounds_toArray, List.set_cons_zero, List.set_cons_succ])
                      refine take_at 13 (some 14) (v := ?_) rfl rfl (by kernel_rfl) (by kernel_rfl) (by kernel_rfl) (fun _ _ _ h => h) ⟨by rfl, ?_⟩ hS ?_
                      rotate_left
                      · intro wq hSw; go_simp; try rfl
                      simp only [Act.put, List.setIfInBounds_toArray, List.set_cons_zero, List.set_cons_succ]
                      refine wpAnyH_done (by kernel_rfl) ?_ _
                      go_wp2_with fail
                      go_roundw
                      case rel => first | exact ⟨j + 1, by omega, by go_num, HT6.out, X6.out, BL6.out⟩ | ((repeat apply Exists.intro); exact ⟨⟨j + 1, by omega, by go_num, HT6.out, X6.out, BL6.out⟩, rfl⟩)
                      case measure => simp [intOf]; omega
                    · go_wp2_with fail
                      go_roundw
                      case rel => first | exact ⟨k + 1, l', by omega, by omega, by go_num, HT3.out, l1, l2, N2.out, BL3.out⟩ | ((repeat apply Exists.intro); exact ⟨⟨k + 1, l', by omega, by omega, by go_num, HT3.out, l1, l2, N2.out, BL3.out⟩, rfl⟩)
                      case measure => simp [intOf]; omega
                · clear HBB
                  go_wp2_with fail
                  go_roundw
                  case rel => first | exact ⟨k + 1, its, by omega, by omega, by go_num, HT1.out, hi0, hi6, fun j hj => Nat.le_succ_of_le (HN.out j hj), BL1.out⟩ | ((repeat apply Exists.intro); exact ⟨⟨k + 1, its, by omega, by omega, by go_num, HT1.out, hi0, hi6, fun j hj => Nat.le_succ_of_le (HN.out j hj), BL1.out⟩, rfl⟩)
                  case measure => simp [intOf]; omega
            · go_wp2_with fail
              go_ret
              exact ⟨rfl, BL.out⟩
          · go_wp2_with fail
            go_ret
            exact ⟨rfl, BL.out⟩
end Go.Proofs.Ytcnlcmdppkdmmaa
