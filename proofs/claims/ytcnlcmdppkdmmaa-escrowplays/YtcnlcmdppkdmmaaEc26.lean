import Derived.Test.YtcnlcmdppkdmmaaEc25
namespace Go.Proofs.Ytcnlcmdppkdmmaa
open Go.RowKit Go.QK Quota Go.Maps
set_option maxRecDepth 100000

set_option maxHeartbeats 4000000 in
theorem law_news (lo hi v tx : Int) (w : World) (h1 : I64 lo) (h2 : I64 hi) (hx : I64 tx) :
    Calls Try.prog 7 #[rng lo hi, .int .i64 v, .int .i64 tx] w fun r w' => r = .returned (.bool true) ∧ Below w.heap.size w w' := by
  by_cases hn : newE lo hi v = 0
  · have K1 := fun w' => new_yes lo hi v w' hn h1 h2
    have K2 := fun w' => rNew_yes lo hi v w' hn h1 h2
    have KT := fun b m r w' (h : Two w' b m r ⟨lo, hi, v, []⟩ none 0) => tells_any b m r ⟨lo, hi, v, []⟩ none 0 tx w' h hx (by simp)
    clear hn h1 h2 hx
    go_enter Try.func7, Try.ntmps7
    go_wp2_with fail
    refine (first_any _).mono ?_
    rintro r w1 ⟨rfl, h1⟩
    obtain ⟨c0, c1, _, _, z0⟩ := keep1 h1
    have B1 := hide (below1 h1)
    clear h1
    go_wp2_with fail
    refine (K1 _).mono ?_
    rintro r w2 ⟨b, m, rfl, h2, P2, g1, g2⟩
    have d0 := (h2.cell (p := ⟨w.heap.size, 0, none⟩) z0).trans c0
    have d1 := (h2.cell (p := ⟨w.heap.size, 1, none⟩) z0).trans c1
    have z2 := Nat.lt_of_lt_of_le z0 h2.size
    have HP := hide P2
    have B2 := hide (B1.out.trans (h2.mono B1.out.size))
    clear h2 P2 K1 c0 c1 B1
    go_wp2_with fail
    refine (K2 _).mono ?_
    rintro r w3 ⟨rr, rfl, h3, R3, g3⟩
    have T3 := hide (show Two w3 b m rr ⟨lo, hi, v, []⟩ none 0 from ⟨HP.out.below h3, R3⟩)
    have B3 := hide (B2.out.trans (h3.mono B2.out.size))
    clear h3 R3 K2 d0 d1 B2 HP
    go_wp2_with fail
    refine (KT b m rr _ T3.out).mono ?_
    rintro r w4 ⟨rfl, h4⟩
    go_wp2_with fail
    go_ret
    exact ⟨rfl, B3.out.trans (h4.mono B3.out.size)⟩
  · have K1 := fun w' => new_no lo hi v w' hn
    have K2 := fun w' => rNew_no lo hi v w' hn
    generalize newE lo hi v = z at *
    clear hn h1 h2 hx
    go_enter Try.func7, Try.ntmps7
    go_wp2_with fail
    refine (first_any _).mono ?_
    rintro r w1 ⟨rfl, h1⟩
    obtain ⟨c0, c1, _, _, z0⟩ := keep1 h1
    have B1 := hide (below1 h1)
    clear h1
    go_wp2_with fail
    refine (K1 _).mono ?_
    rintro r w2 ⟨rfl, h2⟩
    have d0 := (h2.cell (p := ⟨w.heap.size, 0, none⟩) z0).trans c0
    have d1 := (h2.cell (p := ⟨w.heap.size, 1, none⟩) z0).trans c1
    have z2 := Nat.lt_of_lt_of_le z0 h2.size
    have B2 := hide (B1.out.trans (h2.mono B1.out.size))
    clear h2 K1 c0 c1 B1
    go_wp2_with fail
    refine (K2 _).mono ?_
    rintro r w3 ⟨rfl, h3⟩
    have B3 := hide (B2.out.trans (h3.mono B2.out.size))
    clear h3 K2 d0 d1 B2
    go_wp2_with fail
    go_ret
    exact ⟨rfl, B3.out⟩
end Go.Proofs.Ytcnlcmdppkdmmaa
