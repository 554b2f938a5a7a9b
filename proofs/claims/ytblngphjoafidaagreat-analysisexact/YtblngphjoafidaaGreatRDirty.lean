import Derived.Test.YtblngphjoafidaaGreatRChk
import Derived.BigQuiet
import Derived.Deep.QuietTactic
import Derived.Deep.DeepCutAuto
namespace Go.Proofs.YtblngphjoafidaaGreat
open Go.RowKit Go.QK
set_option maxRecDepth 100000
set_option maxHeartbeats 0 in
theorem rDirty_any (ls : List DirtyM) (a : Option Addr) (c : Nat) (w : World) (hs : Lies w a (dirtyCs ls)) :
    Calls Tryz.prog 97 #[.slice a ls.length c] w fun e w' => e = .returned (.bool (decide (ls.length ≤ 16) && dirtyB 0 0 ls)) ∧ Below w.heap.size w w' := by
  by_cases hl : ls.length ≤ 16
  · have hg : decide ((16 : Int) < (ls.length : Int)) = false := by simp; omega
    have hr : (decide (ls.length ≤ 16) && dirtyB 0 0 ls) = dirtyB 0 0 ls := by simp [hl]
    rw [hr]
    clear hr
    generalize hR : dirtyB 0 0 ls = R
    have HR := hide hR
    clear hR
    go_enter Tryz.func97, Tryz.ntmps97
    go_wp2_with fail
    go_loopw [3] (fun i wr => ∃ (k : Nat) (m : Int), i = .int .i64 (k : Int) ∧ k ≤ ls.length ∧ 0 ≤ m ∧ (k = 0 → m = 0) ∧ (∀ j (h : j < ls.length), k = j + 1 → m = ls[j].page + 1) ∧ R = dirtyB 0 m (ls.drop k) ∧ Below w.heap.size w wr) (fun i _ => (ls.length + 1 - (intOf i).toNat))
    case atStart => exact ⟨0, 0, rfl, Nat.zero_le _, by omega, fun _ => rfl, fun j h e => (by omega), HR.out.symm, Below.refl _ _⟩
    case round =>
      clear HR
      obtain ⟨k, m, rfl, hk, hm1, hM, hP, hB, hb⟩ := hrel
      have HJ := hide hm1
      clear hm1
      have HB := hide hB
      have HM := hide hM
      have HP := hide hP
      clear hB hM hP
      by_cases hlt : k < ls.length
      · have hg1 : decide ((k : Int) < (ls.length : Int)) = true := by simp; omega
        rcases k with _ | j
        · have hd : dirtyB 0 m (ls.drop 0) = (fromB m ls[0].page 63 && recB ls[0].since 0 && dirtyB 0 (ls[0].page + 1) (ls.drop (0 + 1))) := by rw [List.drop_eq_getElem_cons hlt]; rfl
          rw [hd] at HB
          clear hd
          rw [HM.out rfl] at HB
          clear HP HM HJ
          have hr : recB ls[0].since 0 = fromB 1 ls[0].since 2147483647 := by unfold recB aheadB; simp
          rw [hr] at HB
          clear hr
          obtain ⟨b, off, rfl, hbl, k0, k1⟩ := (hs.below hb).dirtyAt 0 hlt
          simp only [Nat.zero_mul, Nat.add_zero] at k0 k1
          clear hs
          have HN : ∃ x, ls[0].page = x := ⟨_, rfl⟩
          obtain ⟨x, hx⟩ := HN
          have HN : Hid (x + (1 : Int) = ls[0].page + (1 : Int)) := hide (by rw [hx])
          rw [hx] at HB k0
          clear hx
          generalize ls[0].since = y at *
          have HQ : Hid (fromB 0 x 63 = true → 0 ≤ x + 1) := hide (by unfold fromB; simp; omega)
          have ⟨q1, hq1⟩ : ∃ g, fromB 0 x 63 = g := ⟨_, rfl⟩
          have ⟨q2, hq2⟩ : ∃ g, fromB 1 y 2147483647 = g := ⟨_, rfl⟩
          rw [hq1, hq2] at HB
          cases q1
          · go_upto_region 6 with fail
            go_quiet ((go_at_call 51; exact Calls.quiet_of_same (within_any _ _ _ _)))
            go_wp2_with fail
            go_ret
            exact ⟨by rw [HB.out]; simp, bdrewN hb _⟩
          · cases q2
            · go_upto_region 6 with fail
              go_quiet ((go_at_call 51; exact Calls.quiet_of_same (within_any _ _ _ _)))
              go_wp2_with fail
              go_ret
              exact ⟨by rw [HB.out]; simp, bdrewN hb _⟩
            · go_upto_region 6 with fail
              go_quiet ((go_at_call 51; exact Calls.quiet_of_same (within_any _ _ _ _)))
              go_wp2_with fail
              go_roundw
              case rel => exact ⟨0 + 1, x + 1, by go_num, hlt, HQ.out hq1, by intro h; omega, (fun i h e => by (have e1 : i = 0 := (by omega)); cases e1; exact HN.out), by rw [HB.out]; simp, bdrewN hb _⟩
              case measure => simp [intOf] <;> omega
        · have hd : dirtyB 0 m (ls.drop (j + 1)) = (fromB m ls[(j + 1)].page 63 && recB ls[(j + 1)].since 0 && dirtyB 0 (ls[(j + 1)].page + 1) (ls.drop ((j + 1) + 1))) := by rw [List.drop_eq_getElem_cons hlt]; rfl
          rw [hd] at HB
          clear hd
          have hpv := HP.out j (by omega) rfl
          rw [hpv] at HB
          clear hpv
          have hr : fromB (ls[j].page + 1) ls[j + 1].page 63 = (fromB 0 ls[j + 1].page 63 && !decide (ls[j + 1].page ≤ ls[j].page)) := by
            have := HJ.out
            rw [HP.out j (by omega) rfl] at this
            unfold fromB
            rw [Bool.eq_iff_iff]
            simp
            omega
          rw [hr] at HB
          clear hr
          clear HP HM HJ
          have hr : recB ls[(j + 1)].since 0 = fromB 1 ls[(j + 1)].since 2147483647 := by unfold recB aheadB; simp
          rw [hr] at HB
          clear hr
          obtain ⟨b, off, rfl, hbl, k0, k1⟩ := (hs.below hb).dirtyAt (j + 1) hlt
          obtain ⟨b', off', hab, _, p0, _⟩ := (hs.below hb).dirtyAt j (by omega)
          cases hab
          clear hs
          have HN : ∃ x, ls[(j + 1)].page = x := ⟨_, rfl⟩
          obtain ⟨x, hx⟩ := HN
          have HN : Hid (x + (1 : Int) = ls[(j + 1)].page + (1 : Int)) := hide (by rw [hx])
          rw [hx] at HB k0
          clear hx
          generalize ls[(j + 1)].since = y at *
          generalize ls[j].page = pv at *
          have ew : IntKind.i64.wrap ((j : Int) + 1 - 1) = (j : Int) := by rw [IntKind.wrap_i64]; omega
          have hi0 : decide ((0 : Int) < (j : Int) + 1) = true := by rw [decide_eq_true_iff]; omega
          have HQ : Hid (fromB 0 x 63 = true → 0 ≤ x + 1) := hide (by unfold fromB; simp; omega)
          have ⟨q1, hq1⟩ : ∃ g, fromB 0 x 63 = g := ⟨_, rfl⟩
          have ⟨q2, hq2⟩ : ∃ g, fromB 1 y 2147483647 = g := ⟨_, rfl⟩
          rw [hq1, hq2] at HB
          have ⟨h, hh⟩ : ∃ h, decide (x ≤ pv) = h := ⟨_, rfl⟩
          rw [hh] at HB
          cases q1
          · go_upto_region 6 with fail
            go_quiet ((go_at_call 51; exact Calls.quiet_of_same (within_any _ _ _ _)))
            go_wp2_with fail
            go_ret
            exact ⟨by rw [HB.out]; simp, bdrewN hb _⟩
          · cases h
            · cases q2
              · go_upto_region 6 with fail
                go_quiet ((go_at_call 51; exact Calls.quiet_of_same (within_any _ _ _ _)))
                go_wp2_with fail
                go_ret
                exact ⟨by rw [HB.out]; simp, bdrewN hb _⟩
              · go_upto_region 6 with fail
                go_quiet ((go_at_call 51; exact Calls.quiet_of_same (within_any _ _ _ _)))
                go_wp2_with fail
                go_roundw
                case rel => exact ⟨(j + 1) + 1, x + 1, by go_num, hlt, HQ.out hq1, by intro h; omega, (fun i h e => by (have e1 : i = (j + 1) := (by omega)); cases e1; exact HN.out), by rw [HB.out]; simp, bdrewN hb _⟩
                case measure => simp [intOf] <;> omega
            · go_upto_region 6 with fail
              go_quiet ((go_at_call 51; exact Calls.quiet_of_same (within_any _ _ _ _)))
              go_wp2_with fail
              go_ret
              exact ⟨by rw [HB.out]; simp, bdrewN hb _⟩
      · have hg1 : decide ((k : Int) < (ls.length : Int)) = false := by simp; omega
        have HF : Hid (R = true) := hide (by rw [HB.out, List.drop_eq_nil_of_le (by omega)]; rfl)
        clear HB
        go_wp2_with fail
        go_ret
        exact ⟨by rw [HF.out]; rfl, hb⟩
  · have hg : decide ((16 : Int) < (ls.length : Int)) = true := by simp; omega
    go_enter Tryz.func97, Tryz.ntmps97
    go_wp2_with fail
    go_ret
    exact ⟨by simp [hl], Below.refl _ _⟩
end Go.Proofs.YtblngphjoafidaaGreat
