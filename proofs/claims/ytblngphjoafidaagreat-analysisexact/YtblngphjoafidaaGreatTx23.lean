import Derived.Test.YtblngphjoafidaaGreatTx22
namespace Go.Proofs.YtblngphjoafidaaGreat
open Go.RowKit Go.QK Go.Maps Go.QM Go.QT
set_option maxRecDepth 100000
theorem lsn_within (n : Int) : (decide (1 ≤ n) && decide (n ≤ 2147483647)) = isLsn n := rfl
set_option maxHeartbeats 8000000 in
theorem rl_any (la : Option Addr) (lc : Nat) (next : Int) (L : List Lv) (w : World) (hL : Lies w la (rowsC lvC L)) (hn : isNext next = true) :
    Calls Tryz.prog 37 #[.slice la L.length lc, .int .i64 next] w fun e w' => e = .returned (.bool (decide (L.length ≤ 32) && okFrom 0 next L)) ∧ Below w.heap.size w w' := by
  have K80 : ∀ (a b d : Int) (w : World), Calls Tryz.prog 51 #[.int .i64 a, .int .i64 b, .int .i64 d] w fun r w' => r = .returned (.bool (decide (b ≤ a) && decide (a ≤ d))) ∧ w' = w := fun a b d w => (within13_any a b d w).mono (fun _ _ h => ⟨h.1, h.2.symm⟩)
  have hnx : next ≤ 2147483648 := by unfold isNext at hn; simp at hn; omega
  obtain ⟨R, hR⟩ : ∃ R, R = (decide (L.length ≤ 32) && okFrom 0 next L) := ⟨_, rfl⟩
  rw [← hR]
  have HLI := hide hL
  clear hL hn
  by_cases hl : L.length ≤ 32
  · have d1 : decide (32 < L.length) = false := by simp; omega
    have d2 : decide ((32 : Int) < (L.length : Int)) = false := by simp; omega
    have hR' : R = okFrom 0 next L := by rw [hR, show decide (L.length ≤ 32) = true by simpa using hl]; rfl
    have HR := hide hR'
    clear hR hR'
    go_enter Tryz.func37, Tryz.ntmps37
    go_wp2_with fail
    clear d1 d2
    go_loopw [5] (fun vi wr => ∃ (k : Nat) (a : Int), vi = .int .i64 (k : Int) ∧ k ≤ L.length ∧ R = okFrom a next (L.drop k) ∧ ((k = 0 ∧ a = 0) ∨ (0 < k ∧ 1 ≤ a ∧ ∃ h : k - 1 < L.length, a = L[k - 1].tx)) ∧ Below w.heap.size w wr) (fun vi _ => L.length - (intOf vi).toNat)
    case atStart => exact ⟨0, 0, rfl, Nat.zero_le _, by simpa using HR.out, .inl ⟨rfl, rfl⟩, Below.refl _ _⟩
    case round =>
      obtain ⟨k, a, rfl, hk, hRk, hpre, hbk⟩ := hrel
      have HBw := hide hbk
      by_cases hlt : k < L.length
      · obtain ⟨bl, off, ha, hbl, y0, y1, y2, y3⟩ := row_at HLI.out hbk hlt
        rw [List.drop_eq_getElem_cons hlt, okFrom_cons] at hRk
        obtain ⟨x, hx⟩ : ∃ x, x = L[k] := ⟨_, rfl⟩
        rw [← hx] at y0 y1 y2 y3 hRk
        have hlb : bl < wr.heap.size := Nat.lt_of_lt_of_le hbl hbk.size
        have HXE := hide hx
        clear hx
        have HPRE := hide hpre
        have HCP := hide (fun (j : Nat) (hj : j < L.length) => row_at HLI.out hbk hj)
        subst ha
        obtain ⟨z1, z2, z3, z4⟩ := x
        simp only at y0 y1 y2 y3 hRk
        have HRK := hide hRk
        have HBF := hide (HBw.out.alloc HBw.out.size (.cells #[.int .i64 z1, .int .i64 z2, .bool z3, .bool z4] 58))
        have ha0 : 0 ≤ a := by rcases hpre with ⟨_, q⟩ | ⟨_, q, _⟩ <;> omega
        have HAa := hide ha0
        have KQ : ∀ (z : Int) (w : World), Calls Tryz.prog 51 #[.int .i64 z, .int .i64 1, .int .i64 2147483647] w fun r w' => r = .returned (.bool (isLsn z)) ∧ w' = w := fun z w => K80 z 1 2147483647 w
        clear hbk hRk hpre K80 ha0
        rcases HPRE.out with ⟨hk0, hab⟩ | ⟨hk0, hab, hj, haj⟩
        · have hd0 : decide ((0 : Int) < (k : Int)) = false := by simp; omega
          have hd1 : decide (0 < k) = false := by simp; omega
          have HAB := hide hab
          clear hk0 hab HCP
          by_cases q1 : 1 ≤ z1 ∧ z1 ≤ 2147483647
          · have hA1 : isLsn z1 = true := isLsn_of q1.1 q1.2
            by_cases q2 : next ≤ z1
            · have d2 : decide (next ≤ z1) = true := by simpa using q2
              have HF := hide (show R = false by rw [HRK.out]; rw [show decide (z1 < next) = false by simp; omega]; simp)
              clear HRK
              go_upto_region 7 with fail
              go_quiet (first | (go_at_call 51; exact Calls.quiet_of_same (KQ _ _)))
              go_wp2_with fail
              go_ret
              exact ⟨by rw [HF.out]; rfl, below_drewN HBF.out _⟩
            · have d2 : decide (next ≤ z1) = false := by simpa using q2
              cases q4 : isLsn z2 with
              | false =>
                have hB1 := q4
                have HF := hide (show R = false by rw [HRK.out]; rw [q4]; simp)
                clear HRK
                go_upto_region 7 with fail
                go_quiet (first | (go_at_call 51; exact Calls.quiet_of_same (KQ _ _)))
                go_wp2_with fail
                go_ret
                exact ⟨by rw [HF.out]; rfl, below_drewN HBF.out _⟩
              | true =>
                have hB1 := q4
                cases z3
                · have HF := hide (show R = okFrom z1 next (L.drop (k + 1)) by rw [HRK.out]; rw [q4, show decide (a < z1) = true by simp; have := HAB.out; omega, show decide (z1 < next) = true by simp; omega]; simp)
                  clear HRK
                  have PX := hide (show 0 < k + 1 ∧ 1 ≤ z1 ∧ ∃ h : k + 1 - 1 < L.length, z1 = L[k + 1 - 1].tx from ⟨by omega, by omega, hlt, by show z1 = L[k].tx; rw [← HXE.out]⟩)
                  clear HXE
                  go_upto_region 7 with fail
                  go_quiet (first | (go_at_call 51; exact Calls.quiet_of_same (KQ _ _)))
                  go_wp2_with fail
                  go_roundw
                  case rel => first | exact ⟨k + 1, z1, by go_num, by omega, HF.out, .inr PX.out, below_drewN HBF.out _⟩ | ((repeat apply Exists.intro); exact ⟨⟨k + 1, z1, by go_num, by omega, HF.out, .inr PX.out, below_drewN HBF.out _⟩, rfl⟩)
                  case measure => simp [intOf]; omega
                · cases z4
                  · have HF := hide (show R = okFrom z1 next (L.drop (k + 1)) by rw [HRK.out]; rw [q4, show decide (a < z1) = true by simp; have := HAB.out; omega, show decide (z1 < next) = true by simp; omega]; simp)
                    clear HRK
                    have PX := hide (show 0 < k + 1 ∧ 1 ≤ z1 ∧ ∃ h : k + 1 - 1 < L.length, z1 = L[k + 1 - 1].tx from ⟨by omega, by omega, hlt, by show z1 = L[k].tx; rw [← HXE.out]⟩)
                    clear HXE
                    go_upto_region 7 with fail
                    go_quiet (first | (go_at_call 51; exact Calls.quiet_of_same (KQ _ _)))
                    go_wp2_with fail
                    go_roundw
                    case rel => first | exact ⟨k + 1, z1, by go_num, by omega, HF.out, .inr PX.out, below_drewN HBF.out _⟩ | ((repeat apply Exists.intro); exact ⟨⟨k + 1, z1, by go_num, by omega, HF.out, .inr PX.out, below_drewN HBF.out _⟩, rfl⟩)
                    case measure => simp [intOf]; omega
                  · have HF := hide (show R = false by rw [HRK.out]; simp)
                    clear HRK
                    go_upto_region 7 with fail
                    go_quiet (first | (go_at_call 51; exact Calls.quiet_of_same (KQ _ _)))
                    go_wp2_with fail
                    go_ret
                    exact ⟨by rw [HF.out]; rfl, below_drewN HBF.out _⟩
          · have hA1 : isLsn z1 = false := by unfold isLsn; simp; omega
            have HF := hide (show R = false by rw [HRK.out]; by_cases r1 : a < z1; (rw [show decide (z1 < next) = false by simp; have := HAa.out; omega]; simp); (rw [show decide (a < z1) = false by simpa using r1]; simp))
            clear HRK
            go_upto_region 7 with fail
            go_quiet (first | (go_at_call 51; exact Calls.quiet_of_same (KQ _ _)))
            go_wp2_with fail
            go_ret
            exact ⟨by rw [HF.out]; rfl, below_drewN HBF.out _⟩
        · obtain ⟨j, rfl⟩ : ∃ j, k = j + 1 := ⟨k - 1, by omega⟩
          obtain ⟨b2, o2, hb2, -, pj, -⟩ := HCP.out j (by omega)
          cases hb2
          have haj2 : a = L[j].tx := haj
          rw [← haj2] at pj
          have hw1 : wrap64 (((j + 1 : Nat) : Int) - 1) = (j : Int) := by rw [show ((j + 1 : Nat) : Int) - 1 = (j : Int) by omega]; exact wrapI (by unfold I64; omega)
          have hw2 : ((j + 1 : Nat) : Int) - 1 = (j : Int) := by omega
          have hw3 : wrap64 ((j : Int) + 1 - 1) = (j : Int) := by rw [show (j : Int) + 1 - 1 = (j : Int) by omega]; exact wrapI (by unfold I64; omega)
          have hd0 : decide ((0 : Int) < ((j + 1 : Nat) : Int)) = true := by simp <;> omega
          clear haj haj2 HCP
          by_cases q1 : 1 ≤ z1 ∧ z1 ≤ 2147483647
          · have hA1 : isLsn z1 = true := isLsn_of q1.1 q1.2
            by_cases q2 : next ≤ z1
            · have d2 : decide (next ≤ z1) = true := by simpa using q2
              have HF := hide (show R = false by rw [HRK.out]; rw [show decide (z1 < next) = false by simp; omega]; simp)
              clear HRK
              go_upto_region 7 with fail
              go_quiet (first | (go_at_call 51; exact Calls.quiet_of_same (KQ _ _)))
              go_wp2_with fail
              go_ret
              exact ⟨by rw [HF.out]; rfl, below_drewN HBF.out _⟩
            · have d2 : decide (next ≤ z1) = false := by simpa using q2
              by_cases q3 : z1 ≤ a
              · have d3 : decide (z1 ≤ a) = true := by simpa using q3
                have HF := hide (show R = false by rw [HRK.out]; rw [show decide (a < z1) = false by simp; omega]; simp)
                clear HRK
                go_upto_region 7 with fail
                go_quiet (first | (go_at_call 51; exact Calls.quiet_of_same (KQ _ _)))
                go_wp2_with fail
                go_ret
                exact ⟨by rw [HF.out]; rfl, below_drewN HBF.out _⟩
              · have d3 : decide (z1 ≤ a) = false := by simpa using q3
                cases q4 : isLsn z2 with
                | false =>
                  have hB1 := q4
                  have HF := hide (show R = false by rw [HRK.out]; rw [q4]; simp)
                  clear HRK
                  go_upto_region 7 with fail
                  go_quiet (first | (go_at_call 51; exact Calls.quiet_of_same (KQ _ _)))
                  go_wp2_with fail
                  go_ret
                  exact ⟨by rw [HF.out]; rfl, below_drewN HBF.out _⟩
                | true =>
                  have hB1 := q4
                  cases z3
                  · have HF := hide (show R = okFrom z1 next (L.drop ((j + 1) + 1)) by rw [HRK.out]; rw [q4, show decide (a < z1) = true by simp; omega, show decide (z1 < next) = true by simp; omega]; simp)
                    clear HRK
                    have PX := hide (show 0 < (j + 1) + 1 ∧ 1 ≤ z1 ∧ ∃ h : (j + 1) + 1 - 1 < L.length, z1 = L[(j + 1) + 1 - 1].tx from ⟨by omega, by omega, hlt, by show z1 = L[(j + 1)].tx; rw [← HXE.out]⟩)
                    clear HXE
                    go_upto_region 7 with fail
                    go_quiet (first | (go_at_call 51; exact Calls.quiet_of_same (KQ _ _)))
                    go_wp2_with fail
                    go_roundw
                    case rel => first | exact ⟨(j + 1) + 1, z1, by go_num, by omega, HF.out, .inr PX.out, below_drewN HBF.out _⟩ | ((repeat apply Exists.intro); exact ⟨⟨(j + 1) + 1, z1, by go_num, by omega, HF.out, .inr PX.out, below_drewN HBF.out _⟩, rfl⟩)
                    case measure => simp [intOf]; omega
                  · cases z4
                    · have HF := hide (show R = okFrom z1 next (L.drop ((j + 1) + 1)) by rw [HRK.out]; rw [q4, show decide (a < z1) = true by simp; omega, show decide (z1 < next) = true by simp; omega]; simp)
                      clear HRK
                      have PX := hide (show 0 < (j + 1) + 1 ∧ 1 ≤ z1 ∧ ∃ h : (j + 1) + 1 - 1 < L.length, z1 = L[(j + 1) + 1 - 1].tx from ⟨by omega, by omega, hlt, by show z1 = L[(j + 1)].tx; rw [← HXE.out]⟩)
                      clear HXE
                      go_upto_region 7 with fail
                      go_quiet (first | (go_at_call 51; exact Calls.quiet_of_same (KQ _ _)))
                      go_wp2_with fail
                      go_roundw
                      case rel => first | exact ⟨(j + 1) + 1, z1, by go_num, by omega, HF.out, .inr PX.out, below_drewN HBF.out _⟩ | ((repeat apply Exists.intro); exact ⟨⟨(j + 1) + 1, z1, by go_num, by omega, HF.out, .inr PX.out, below_drewN HBF.out _⟩, rfl⟩)
                      case measure => simp [intOf]; omega
                    · have HF := hide (show R = false by rw [HRK.out]; simp)
                      clear HRK
                      go_upto_region 7 with fail
                      go_quiet (first | (go_at_call 51; exact Calls.quiet_of_same (KQ _ _)))
                      go_wp2_with fail
                      go_ret
                      exact ⟨by rw [HF.out]; rfl, below_drewN HBF.out _⟩
          · have hA1 : isLsn z1 = false := by unfold isLsn; simp; omega
            have HF := hide (show R = false by rw [HRK.out]; by_cases r1 : a < z1; (rw [show decide (z1 < next) = false by simp; have := HAa.out; omega]; simp); (rw [show decide (a < z1) = false by simpa using r1]; simp))
            clear HRK
            go_upto_region 7 with fail
            go_quiet (first | (go_at_call 51; exact Calls.quiet_of_same (KQ _ _)))
            go_wp2_with fail
            go_ret
            exact ⟨by rw [HF.out]; rfl, below_drewN HBF.out _⟩
      · have hF : R = true := by rw [hRk, List.drop_eq_nil_of_le (by omega)]; rfl
        have HF := hide hF
        clear hRk hF hbk hpre
        go_wp2_with fail
        go_ret
        exact ⟨by rw [HF.out]; rfl, HBw.out⟩
  · have d1 : decide (32 < L.length) = true := by simp; omega
    have d2 : decide ((32 : Int) < (L.length : Int)) = true := by simp; omega
    have HR := hide (show R = false by rw [hR, show decide (L.length ≤ 32) = false by simpa using hl]; rfl)
    clear hR
    go_enter Tryz.func37, Tryz.ntmps37
    go_wp2_with fail
    go_ret
    exact ⟨by rw [HR.out]; rfl, Below.refl _ _⟩
end Go.Proofs.YtblngphjoafidaaGreat
