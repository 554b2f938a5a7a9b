import Derived.Test.YtcnlcmdppkdmmaaEc9
namespace Go.Proofs.Ytcnlcmdppkdmmaa
open Go.RowKit Go.QK Quota Go.Maps
set_option maxRecDepth 100000

abbrev Rg (w : World) (m r : Nat) (L : Nets) (left : Lit → Bool) (cnt : Nat) : Prop := w.ranges Try.prog 3 (plainElem (H := Unit) Try.prog 2) m r L.length (mapD L) left cnt
abbrev met (L : Nets) (left : Lit → Bool) : Nets := L.filter (fun p => !left (.int .i64 p.1))

theorem met_start (L : Nets) : met L (Maps.has (mapD L)) = [] := by
  rw [List.filter_eq_nil_iff]
  intro p hp
  rw [mapD_has]
  have : holdB L p.1 = true := List.any_eq_true.2 ⟨p, hp, by simp⟩
  simp [this]
theorem met_end (L : Nets) {left : Lit → Bool} (h : ∀ kl, left kl = false) : met L left = L := by
  rw [List.filter_eq_self]
  intro p _
  simp [h]
def Esc.val (e : Esc) : Int := e.base + allS e.nets
theorem Esc.Ok.part {e : Esc} (h : e.Ok) (g : Int × Int → Bool) : I64 (e.base + allS (e.nets.filter g)) := by
  have k := sum_between e.nets g
  have a := h.rng.1
  have b := h.rng.2.1
  unfold I64 at *
  unfold Esc.low Esc.high at *
  omega

set_option maxHeartbeats 2000000 in
theorem value_any (b m : Nat) (e : Esc) (w : World) (h : PE w b m e) :
    Calls Try.prog 17 #[ptr b] w fun r w' => r = .returned (.int .i64 e.val) ∧ Below w.heap.size w w' := by
  have k2 := h.c2
  have k5 := h.c5
  have MW := hide (show w.ownsMap Try.prog 3 (plainElem (H := Unit) Try.prog 2) m _ (mapD e.nets) from h.map)
  have HP := hide h
  have hml := h.lt.2
  clear h
  go_enter Try.func17, Try.ntmps17
  go_wp2_with (at_range; refine wpList_range_own _ rfl _ 77 rfl 3 2 lawK Try.underlying77 _ m _ _ rfl MW.out ?_; intro w0 hrg0 hg0 hs0)
  go_frame
  go_loopw [3] (fun v wr => ∃ (left : Lit → Bool) (cnt : Nat), Rg wr m w.heap.size e.nets left cnt ∧ v = .int .i64 (e.base + allS (met e.nets left)) ∧ Below w.heap.size w wr) (fun _ wr => wr.rangeLeft m w.heap.size)
  case atStart =>
    refine ⟨_, _, hrg0, ?_, (Below.refl _ _).grown hg0 (Nat.le_refl _) (fun j hj => by cases hj)⟩
    rw [met_start]
    simp [sumF]
  case round =>
    obtain ⟨left, cnt, hrg, rfl, hb⟩ := hrel
    go_wp2_with (at_next; refine wpList_next_ranges_ii _ rfl _ rfl 3 2 .i64 .i64 lawK Try.underlying3 Try.underlying2 m w.heap.size _ _ _ _ rfl hrg ?_ ?_)
    · intro _ hl0
      rw [met_end _ hl0]
      go_wp2
      go_ret
      exact ⟨rfl, hb⟩
    · intro x c w1 cnt1 hwx hwc hlx hat hrg1 hlt hg1 hs1 hen
      obtain ⟨hperm, hmem⟩ := visit HP.out.ok.rise left hlx hat
      have hsum : allS (e.nets.filter (fun p => !(left (.int .i64 p.1) && !(Lit.int .i64 p.1).sameKey (.int .i64 x)))) = c + allS (met e.nets left) := sumF_perm id hperm
      have hfit := HP.out.ok.part (fun p => !(left (.int .i64 p.1) && !(Lit.int .i64 p.1).sameKey (.int .i64 x)))
      have hnew : e.base + allS (e.nets.filter (fun p => !(left (.int .i64 p.1) && !(Lit.int .i64 p.1).sameKey (.int .i64 x)))) = e.base + allS (met e.nets left) + c := by
        rw [hsum]
        omega
      rw [hnew] at hfit
      have hwr := wrapI hfit
      have HNEW := hide hnew
      have HB := hide (hb.grown hg1 hb.size (fun j hj => by cases hj; exact Nat.le_refl _))
      clear hnew hsum hperm hfit hmem hs1 hb
      generalize e.base + allS (met e.nets left) = z at *
      go_wp2
      go_roundw
      case rel => exact ⟨_, cnt1, hrg1, by rw [HNEW.out, hwr], HB.out⟩
      case measure => rw [hrg1.left_eq, hrg.left_eq]; exact hlt

abbrev keysN (L : Nets) : List Int := L.map Prod.fst
theorem info3 : (Try.prog.info? 3).map (fun i => (i.zero, i.size, i.bytes)) = some (some (.int .i64 0), 1, 8) := by kernel_rfl

set_option maxHeartbeats 2000000 in
theorem holders_any (b m : Nat) (e : Esc) (w : World) (h : PE w b m e) (hl : e.nets.length < 1000000000) :
    Calls Try.prog 14 #[ptr b] w fun r w' => ∃ v, r = .returned v ∧ Owns .i64 3 w' w.heap.size v (keysN e.nets) ∧ v.ownBlock ≠ none ∧ Below w.heap.size w w' := by
  obtain ⟨i0, hi, hz0, hz1, hz2⟩ := info_parts info3
  have k5 := h.c5
  have MW := hide (show w.ownsMap Try.prog 3 (plainElem (H := Unit) Try.prog 2) m _ (mapD e.nets) from h.map)
  have HP := hide h
  have hml := h.lt.2
  have hbl := h.lt.1
  have hsz := mapD_size e.nets
  have HSZ := hide hsz
  have HL := hide hl
  clear h hsz hl
  go_enter Try.func14, Try.ntmps14
  go_wp2_with (first
    | (at_len; refine wpList_len_own _ rfl _ 77 rfl 3 2 Try.underlying77 _ m _ _ rfl MW.out ?_; rw [HSZ.out])
    | (at_make; refine wpList_make_own _ rfl _ _ 36 rfl w.heap.size 3 i0 (.int .i64 0) 1 Try.underlying36 hi hz0 hz1 _ _ _ e.nets.length rfl rfl rfl (by have := HL.out; rw [hz2]; omega) (by have := HL.out; unfold maxLen; omega) (Nat.le_refl _) ?_; intro w1 hrow1 hg1; have k5b : w1.cell? ⟨b, 5, none⟩ = some (.map (some m)) := (((Below.refl w.heap.size w).grown hg1 (Nat.le_refl _) (fun j hj => by cases hj)).cell (p := ⟨b, 5, none⟩) hbl).trans k5)
    | (at_range; refine wpList_range_own _ rfl _ 77 rfl 3 2 lawK Try.underlying77 _ m _ _ rfl (MW.out.kept hg1 (by simp)) ?_; intro w0 hrg0 hg0 hs0)
    | fail)
  go_frame
  have hb1 := (Below.refl w.heap.size w).grown hg1 (Nat.le_refl _) (fun j hj => by cases hj)
  have s1 := hb1.size
  have hg1' := hide hg1
  clear hs0
  go_loopw [3] (fun v wr => ∃ (left : Lit → Bool) (cnt : Nat) (ks : List Int), Rg wr m w1.heap.size e.nets left cnt ∧ ks.length + cnt ≤ e.nets.length ∧ GRow wr w.heap.size 3 1 v ks.length (ks.map (Value.int .i64)) ∧ v ≠ .slice none 0 0 ∧ ks.Perm (keysN (met e.nets left)) ∧ Below w.heap.size w wr) (fun _ wr => wr.rangeLeft m w1.heap.size)
  case atStart =>
    refine ⟨_, _, [], hrg0, by rw [mapD_size]; simp, World.ownsRow.kept hrow1 hg0 (Or.inr (by simp [Value.ownBlock])), by simp, by rw [met_start]; exact List.Perm.refl _, ?_⟩
    exact hb1.grown hg0 s1 (fun j hj => by cases hj)
  case round =>
    obtain ⟨left, cnt, ks, hrg, hcs, hrow, hnn, hP, hb⟩ := hrel
    go_wp2_with (at_next; refine wpList_next_ranges_ii _ rfl _ rfl 3 2 .i64 .i64 lawK Try.underlying3 Try.underlying2 m w1.heap.size _ _ _ _ rfl hrg ?_ ?_)
    · intro _ hl0
      rw [met_end _ hl0] at hP
      have hnb : u3.ownBlock ≠ none := by
        rcases hrow.2 with ⟨q, _⟩ | ⟨g, cap, cur, q, _⟩
        · exact absurd q hnn
        · rw [q]; simp [Value.ownBlock]
      have KS := sort_any w.heap.size u3 ks wr (by simpa [Owns] using hrow) hnb (by have := HL.out; omega)
      have HLOW := hide (fun g (hg : u3.ownBlock = some g) => (World.ownsRow.lt hrow g hg).1)
      have hfin : (ks.mergeSort fun x y => decide (x ≤ y)) = keysN e.nets := by
        refine rise_eq ((List.mergeSort_perm ks _).trans hP) ?_ HP.out.ok.rise.keys
        have := List.pairwise_mergeSort (le := fun x y : Int => decide (x ≤ y)) (by simp; omega) (by simp; omega) ks
        simpa using this
      rw [hfin] at KS
      have HNB := hide hnb
      have HBW := hide hb
      clear hfin hnb hb hcs hP hnn hrow
      go_wp2_with fail
      refine KS.mono ?_
      rintro r w' ⟨rfl, ho, hk⟩
      go_wp2_with fail
      go_ret
      exact ⟨_, rfl, ho, HNB.out, HBW.out.trans (hk.below HBW.out.size (fun k hk' q => by have := HLOW.out k q; omega))⟩
    · intro x c w2 cnt2 hwx hwc hlx hat hrg2 hlt hg2 hs2 hen
      obtain ⟨hperm, hmem⟩ := visit HP.out.ok.rise left hlx hat
      have hP2 : (ks ++ [x]).Perm (keysN (e.nets.filter (fun p => !(left (.int .i64 p.1) && !(Lit.int .i64 p.1).sameKey (.int .i64 x))))) := by
        refine (List.perm_append_singleton x ks).trans ?_
        refine (List.Perm.cons x hP).trans ?_
        exact (hperm.map Prod.fst).symm
      have HP2 := hide hP2
      have hrow2 := World.ownsRow.kept hrow hg2 (Or.inr (row_ne_iter hrow hrg).symm)
      have hsz2 := hb.size
      have hg2s := hg2.size
      have hLL := HL.out
      clear hs2 hP2 hperm hmem
      go_wp2_with (first
        | (at_builtin; refine wpList_append_own _ rfl _ _ 36 rfl w.heap.size 3 i0 (.int .i64 0) 1 8 Try.underlying36 hi hz0 hz1 hz2 rfl (by decide) _ _ _ rfl (hrow2.alloc _) ⟨w2.heap.size, 0, none⟩ 1 1 [.int .i64 x] rfl rfl (cell_one_new _ _ _) (by simp [Value.oneCell']) (by unfold maxLen at *; omega) (by omega) (by simp; omega) ?_; intro v' w3 hown' hg3 hnil3; go_frame)
        | fail)
      have hrg3 := (hrg2.alloc _).kept hg3 (row_ne_low hrow2 hml) (row_ne_iter hrow2 hrg2)
      go_roundw
      case rel =>
        refine ⟨_, cnt2, ks ++ [x], hrg3, by simp; omega, by simpa using hown', fun hv' => by have := (hnil3.1 hv').2; omega, HP2.out, ?_⟩
        exact ((hb.grown hg2 hb.size (fun j hj => by cases hj; exact s1)).alloc (by omega) _).grown hg3 (by simp; omega) (fun j hj => (hrow2.lt j hj).1)
      case measure => rw [hrg3.left_eq, hrg.left_eq]; exact hlt
end Go.Proofs.Ytcnlcmdppkdmmaa
