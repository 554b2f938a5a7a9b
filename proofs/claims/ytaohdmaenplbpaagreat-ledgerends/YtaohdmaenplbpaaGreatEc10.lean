import Derived.Test.YtaohdmaenplbpaaGreatEc9
namespace Go.Proofs.YtaohdmaenplbpaaGreat
open Go.RowKit Go.QK Quota Go.Maps
set_option maxRecDepth 100000

abbrev Rg (w : World) (m r : Nat) (L : Nets) (left : Lit → Bool) (cnt : Nat) : Prop := w.ranges Tryz.prog 3 (plainElem (H := Unit) Tryz.prog 2) m r L.length (mapD L) left cnt
abbrev met (L : Nets) (left : Lit → Bool) : Nets := L.filter (fun p => !left (.int .i64 p.1))

theorem met_start (L : Nets) : met L (Maps.has (mapD L)) = [] := by
  rw [List.filter_eq_nil_iff]
  intro p hp
  rw [mapD_has]
  have : holdB L p.1 = true := List.any_eq_true.2 ⟨p, hp, by simp⟩
  simp [this]
theorem met_end (L : Nets) {left : Lit → Bool} (h : ∀ kl, left kl = false) : met L left = L := by
  rw [List.filter_eq_self]
  intro p _
  simp [h]
def Esc.val (e : Esc) : Int := e.base + allS e.nets
theorem Esc.Ok.part {e : Esc} (h : e.Ok) (g : Int × Int → Bool) : I64 (e.base + allS (e.nets.filter g)) := by
  have k := sum_between e.nets g
  have a := h.rng.1
  have b := h.rng.2.1
  unfold I64 at *
  unfold Esc.low Esc.high at *
  omega

set_option maxHeartbeats 2000000 in
theorem value_any (b m : Nat) (e : Esc) (w : World) (h : PE w b m e) :
    Calls Tryz.prog 14 #[ptr b] w fun r w' => r = .returned (.int .i64 e.val) ∧ Below w.heap.size w w' := by
  have k2 := h.c2
  have k5 := h.c5
  have MW := hide (show w.ownsMap Tryz.prog 3 (plainElem (H := Unit) Tryz.prog 2) m _ (mapD e.nets) from h.map)
  have HP := hide h
  have hml := h.lt.2
  clear h
  go_enter Tryz.func14, Tryz.ntmps14
  go_wp2_with (at_range; refine wpList_range_own _ rfl _ 114 rfl 3 2 lawK Tryz.underlying114 _ m _ _ rfl MW.out ?_; intro w0 hrg0 hg0 hs0)
  go_frame
  go_loopw [3] (fun v wr => ∃ (left : Lit → Bool) (cnt : Nat), Rg wr m w.heap.size e.nets left cnt ∧ v = .int .i64 (e.base + allS (met e.nets left)) ∧ Below w.heap.size w wr) (fun _ wr => wr.rangeLeft m w.heap.size)
  case atStart =>
    refine ⟨_, _, hrg0, ?_, (Below.refl _ _).grown hg0 (Nat.le_refl _) (fun j hj => by cases hj)⟩
    rw [met_start]
    simp [sumF]
  case round =>
    obtain ⟨left, cnt, hrg, rfl, hb⟩ := hrel
    go_wp2_with (at_next; refine wpList_next_ranges_ii _ rfl _ rfl 3 2 .i64 .i64 lawK Tryz.underlying3 Tryz.underlying2 m w.heap.size _ _ _ _ rfl hrg ?_ ?_)
    · intro _ hl0
      rw [met_end _ hl0]
      go_wp2
      go_ret
      exact ⟨rfl, hb⟩
    · intro x c w1 cnt1 hwx hwc hlx hat hrg1 hlt hg1 hs1 hen
      obtain ⟨hperm, hmem⟩ := visit HP.out.ok.rise left hlx hat
      have hsum : allS (e.nets.filter (fun p => !(left (.int .i64 p.1) && !(Lit.int .i64 p.1).sameKey (.int .i64 x)))) = c + allS (met e.nets left) := sumF_perm id hperm
      have hfit := HP.out.ok.part (fun p => !(left (.int .i64 p.1) && !(Lit.int .i64 p.1).sameKey (.int .i64 x)))
      have hnew : e.base + allS (e.nets.filter (fun p => !(left (.int .i64 p.1) && !(Lit.int .i64 p.1).sameKey (.int .i64 x)))) = e.base + allS (met e.nets left) + c := by
        rw [hsum]
        omega
      rw [hnew] at hfit
      have hwr := wrapI hfit
      have HNEW := hide hnew
      have HB := hide (hb.grown hg1 hb.size (fun j hj => by cases hj; exact Nat.le_refl _))
      clear hnew hsum hperm hfit hmem hs1 hb
      generalize e.base + allS (met e.nets left) = z at *
      go_wp2
      go_roundw
      case rel => exact ⟨_, cnt1, hrg1, by rw [HNEW.out, hwr], HB.out⟩
      case measure => rw [hrg1.left_eq, hrg.left_eq]; exact hlt

abbrev keysN (L : Nets) : List Int := L.map Prod.fst
theorem info3 : (Tryz.prog.info? 3).map (fun i => (i.zero, i.size, i.bytes)) = some (some (.int .i64 0), 1, 8) := by kernel_rfl

end Go.Proofs.YtaohdmaenplbpaaGreat
