import Derived.Test.YtimakfnlcgedkaaRg6
namespace Go.Proofs.Ytimakfnlcgedkaa
open Go.RowKit Go.QK Go.Maps Go.QM Go.QR
set_option maxRecDepth 100000
set_option maxHeartbeats 1000000 in
theorem same_true (xs : List Int) (a b : Option Addr) (c d : Nat) (w : World) (h1 : Seen .i64 w a xs) (h2 : Seen .i64 w b xs) (hl : xs.length ≤ 1000000) :
    Calls Try.prog 18 #[.slice a xs.length c, .slice b xs.length d] w fun e w' => e = .returned (.bool true) ∧ Below w.heap.size w w' := by
  go_enter Try.func18, Try.ntmps18
  go_wp2
  go_loopw [5] (fun v wr => ∃ k : Nat, v = .int .i64 (k : Int) ∧ k ≤ xs.length ∧ Below w.heap.size w wr) (fun v _ => xs.length - (intOf v).toNat)
  case atStart => exact ⟨0, rfl, Nat.zero_le _, Below.refl _ _⟩
  case round =>
    obtain ⟨k, rfl, hk, hb⟩ := hrel
    by_cases hlt : k < xs.length
    · obtain ⟨b1, o1, rfl, hb1, hc1⟩ := (h1.below hb).at hlt
      obtain ⟨b2, o2, rfl, hb2, hc2⟩ := (h2.below hb).at hlt
      have HB := hide hb
      clear hb h1 h2
      go_upto_region 6 with fail
      go_quiet (fail)
      go_wp2_with fail
      go_roundw
      case rel => exact ⟨k + 1, by go_num, by omega, below_drewN HB.out _⟩
      case measure => simp [intOf]; omega
    · have HB := hide hb
      clear hb h1 h2
      go_wp2
      go_ret
      exact ⟨rfl, HB.out⟩
def g2 : Reg := ⟨2, [], []⟩
def g3 : Reg := ⟨2, [(7, 3)], [3]⟩
theorem aw1 : g2.planW 7 3 = (0, 0) ∧ g2.planS 7 3 = (1, 0) ∧ g2.planE 7 3 = 0 := by decide +kernel
theorem aw2 : g2.takeE 7 3 (0, 0) (0, 0) = 83 := by decide +kernel
theorem aw2' : g2.take 7 3 (0, 0) (0, 0) = g2 := by unfold Reg.take; rw [aw2]; rfl
theorem aw3 : g2.takeE 7 3 (0, 0) (1, 0) = 0 := by decide +kernel
theorem aw3' : g2.take 7 3 (0, 0) (1, 0) = g3 := by unfold Reg.take; rw [aw3]; rfl
theorem aw4 : g3.planW 5 4 = (0, 1) ∧ g3.planS 5 4 = (1, 1) ∧ g3.planE 5 4 = 0 := by decide +kernel
theorem aw5 : g3.findW 7 = (0, 0) ∧ g3.findG 7 = 3 ∧ g3.findS 7 = (1, 0) ∧ g3.findE 7 = 0 := by decide +kernel
theorem aw6 : g3.groupS 3 = (1, 0) ∧ g3.groupE 3 = 0 ∧ g3.groupS 4 = (0, 0) ∧ g3.groupE 4 = 122 := by decide +kernel
theorem aw7 : rise g3.nums = [7] ∧ rise g3.G = [3] := by
  constructor
  · show List.mergeSort [7] _ = [7]
    exact List.mergeSort_singleton 7
  · show List.mergeSort [3] _ = [3]
    exact List.mergeSort_singleton 3
end Go.Proofs.Ytimakfnlcgedkaa
