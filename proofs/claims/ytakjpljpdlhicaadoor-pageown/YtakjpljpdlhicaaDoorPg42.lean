import Derived.Test.YtakjpljpdlhicaaDoorPg24
import Derived.Deep.DeepCutAuto
set_option linter.all false
namespace Go.Proofs.YtakjpljpdlhicaaDoor
open Go.RowKit Go.QK Go.Pg
set_option maxRecDepth 100000
/-! Pages that bear a mark: PageOwn's 'marked'. -/
def vAt (n last k : Nat) : Int := if n ≤ k + last then 0 else (k : Int)
set_option maxHeartbeats 8000000 in
theorem marked_any (p : PageM) (t : At) (i last : Nat) (w : World) (hcs : Lies w t.a (ctrsC p.cs)) (hgs : Lies w t.b (grpsC p.gs)) (hi : i ≤ 1000) (hl : last ≤ 1) (h1 : ∀ k (hk : k < p.cs.length), p.cs[k] = ⟨-(i : Int), 0, 0, 0, vAt p.cs.length last k⟩) (h2 : ∀ k (hk : k < p.gs.length), p.gs[k] = ⟨-(i : Int), vAt p.gs.length last k⟩) (l1 : p.cs.length ≤ 2000) (l2 : p.gs.length ≤ 2000) :
    Calls Tryd.prog 44 #[pageV p t, .int .i64 (i : Int), .int .i64 (last : Int)] w fun e w' => e = .returned (.bool true) ∧ Below w.heap.size w w' := by
  obtain ⟨num, lsn, cs, gs⟩ := p
  obtain ⟨ta, tc, tb, td⟩ := t
  simp only [pageV] at *
  obtain ⟨w2, hw2⟩ : ∃ w2, w2 = w.alloc (.cells #[.int .i64 num, .int .i64 lsn, .slice ta cs.length tc, .slice tb gs.length td] 27) := ⟨_, rfl⟩
  obtain ⟨b, hb⟩ : ∃ b, b = w.heap.size := ⟨_, rfl⟩
  have B2 := hide (show Below w.heap.size w w2 by rw [hw2]; exact alloc_below _ _)
  have C2 := hide (show Cells w2 b [.int .i64 num, .int .i64 lsn, .slice ta cs.length tc, .slice tb gs.length td] by rw [hw2, hb]; exact Cells.new w #[.int .i64 num, .int .i64 lsn, .slice ta cs.length tc, .slice tb gs.length td] 27)
  have LC := hide (hcs.below B2.out)
  have LG := hide (hgs.below B2.out)
  have H1 := hide h1
  have H2 := hide h2
  obtain ⟨nc, hnc⟩ : ∃ n, n = cs.length := ⟨_, rfl⟩
  obtain ⟨ng, hng⟩ : ∃ n, n = gs.length := ⟨_, rfl⟩
  rw [← hnc] at C2 l1 hw2 ⊢
  rw [← hng] at C2 l2 hw2 ⊢
  have HNC := hide hnc
  have HNG := hide hng
  clear hcs hgs h1 h2 hnc hng
  go_enter Tryd.func44, Tryd.ntmps44
  go_upto_region 1 with fail
  rw [← hw2, ← hb]
  clear hw2 hb
  obtain ⟨g2, -⟩ := C2.out.get 2 _ rfl
  obtain ⟨g3, -⟩ := C2.out.get 3 _ rfl
  go_wp2_with fail
  go_loopw [7] (fun v wz => ∃ k : Nat, v = .int .i64 (k : Int) ∧ k ≤ nc ∧ wz = w2) (fun v _ => nc + 1 - (intOf v).toNat)
  case atStart => exact ⟨0, rfl, Nat.zero_le _, rfl⟩
  case round =>
    obtain ⟨k, rfl, hk, rfl⟩ := hrel
    by_cases hlt : k < nc
    · have hlx : k < cs.length := by have := HNC.out; omega
      have d1 : decide ((k : Int) < (nc : Int)) = true := decide_eq_true (by omega)
      have b1 : (k : Int) < (nc : Int) := by omega
      obtain ⟨sb, so, rfl, hbl, hcell⟩ := Lies.rowAt ctrC 5 ctrC_length LC.out k hlx (by decide)
      rw [H1.out k hlx] at hcell
      obtain ⟨vv, hvv⟩ : ∃ z, z = vAt cs.length last k := ⟨_, rfl⟩
      have HV := hide (show vv = if nc ≤ k + last then 0 else (k : Int) by rw [hvv, HNC.out]; rfl)
      rw [← hvv] at hcell
      have c0 := hcell 0 (.int .i64 (-(i : Int))) rfl
      have c1 := hcell 1 (.int .i64 0) rfl
      have c2 := hcell 2 (.int .i64 0) rfl
      have c3 := hcell 3 (.int .i64 0) rfl
      have c4 := hcell 4 (.int .i64 vv) rfl
      rw [Nat.add_zero] at c0
      clear hcell hvv hbl
      go_upto_if 25 with fail
      go_cut [8] (fun v w' => v = .int .i64 vv ∧ wr = w')
      case first =>
        by_cases hq : nc ≤ k + last
        · have dq : decide ((nc : Int) - (last : Int) ≤ (k : Int)) = true := decide_eq_true (by omega)
          have V := hide (show vv = 0 by rw [HV.out, if_pos hq])
          go_wp2_with fail
          go_meet
          exact ⟨by rw [V.out], rfl⟩
        · have dq : decide ((nc : Int) - (last : Int) ≤ (k : Int)) = false := decide_eq_false (by omega)
          have V := hide (show vv = (k : Int) by rw [HV.out, if_neg hq])
          go_wp2_with fail
          go_meet
          exact ⟨by rw [V.out], rfl⟩
      case rest =>
        obtain ⟨rfl, rfl⟩ := hcut
        have en : wrap64 (-(i : Int)) = -(i : Int) := by unfold wrap64; omega
        go_wp2_with fail
        go_roundw
        case rel => exact ⟨k + 1, by go_num, by omega, by first | rfl | trivial⟩
        case measure => simp [intOf]; omega
    · obtain rfl : k = nc := by omega
      have d1 : decide ((k : Int) < (k : Int)) = false := decide_eq_false (by omega)
      go_wp2_with fail
      go_loopw [9] (fun v wz => ∃ j : Nat, v = .int .i64 (j : Int) ∧ j ≤ ng ∧ wz = wr) (fun v _ => ng + 1 - (intOf v).toNat)
      case atStart => exact ⟨0, rfl, Nat.zero_le _, rfl⟩
      case round =>
        obtain ⟨j, rfl, hj, rfl⟩ := hrel
        by_cases hlt : j < ng
        · have hlx : j < gs.length := by have := HNG.out; omega
          have d1 : decide ((j : Int) < (ng : Int)) = true := decide_eq_true (by omega)
          have b1 : (j : Int) < (ng : Int) := by omega
          obtain ⟨sb, so, rfl, hbl, hcell⟩ := Lies.rowAt grpC 2 grpC_length LG.out j hlx (by decide)
          rw [H2.out j hlx] at hcell
          obtain ⟨vv, hvv⟩ : ∃ z, z = vAt gs.length last j := ⟨_, rfl⟩
          have HV := hide (show vv = if ng ≤ j + last then 0 else (j : Int) by rw [hvv, HNG.out]; rfl)
          rw [← hvv] at hcell
          have c0 := hcell 0 (.int .i64 (-(i : Int))) rfl
          have c1 := hcell 1 (.int .i64 vv) rfl
          rw [Nat.add_zero] at c0
          clear hcell hvv hbl
          go_upto_if 50 with fail
          go_cut [10] (fun v w' => v = .int .i64 vv ∧ wr = w')
          case first =>
            by_cases hq : ng ≤ j + last
            · have dq : decide ((ng : Int) - (last : Int) ≤ (j : Int)) = true := decide_eq_true (by omega)
              have V := hide (show vv = 0 by rw [HV.out, if_pos hq])
              go_wp2_with fail
              go_meet
              exact ⟨by rw [V.out], rfl⟩
            · have dq : decide ((ng : Int) - (last : Int) ≤ (j : Int)) = false := decide_eq_false (by omega)
              have V := hide (show vv = (j : Int) by rw [HV.out, if_neg hq])
              go_wp2_with fail
              go_meet
              exact ⟨by rw [V.out], rfl⟩
          case rest =>
            obtain ⟨rfl, rfl⟩ := hcut
            have en : wrap64 (-(i : Int)) = -(i : Int) := by unfold wrap64; omega
            go_wp2_with fail
            go_roundw
            case rel => exact ⟨j + 1, by go_num, by omega, by first | rfl | trivial⟩
            case measure => simp [intOf]; omega
        · obtain rfl : j = ng := by omega
          have d1 : decide ((j : Int) < (j : Int)) = false := decide_eq_false (by omega)
          go_wp2_with fail
          go_ret
          exact ⟨rfl, B2.out⟩
end Go.Proofs.YtakjpljpdlhicaaDoor
