import Derived.Test.YtblngphjoafidaaGreatRChk
import Derived.BigQuiet
import Derived.Deep.QuietTactic
import Derived.Deep.DeepCutAuto
namespace Go.Proofs.YtblngphjoafidaaGreat
open Go.RowKit Go.QK
set_option maxRecDepth 100000
set_option maxHeartbeats 0 in
theorem rLive_any (ls : List LiveM) (a : Option Addr) (c : Nat) (next : Int) (w : World) (hs : Lies w a (liveCs ls)) (h1 : 1 ≤ next) (h2 : next ≤ 2147483648) :
    Calls Tryz.prog 37 #[.slice a ls.length c, .int .i64 next] w fun e w' => e = .returned (.bool (decide (ls.length ≤ 32) && liveB next 0 1 ls)) ∧ Below w.heap.size w w' := by
  by_cases hl : ls.length ≤ 32
  · have hg : decide ((32 : Int) < (ls.length : Int)) = false := by simp; omega
    have hr : (decide (ls.length ≤ 32) && liveB next 0 1 ls) = liveB next 0 1 ls := by simp [hl]
    rw [hr]
    clear hr
    generalize hR : liveB next 0 1 ls = R
    have HR := hide hR
    clear hR
    go_enter Tryz.func37, Tryz.ntmps37
    go_wp2_with fail
    go_loopw [5] (fun i wr => ∃ (k : Nat) (m : Int), i = .int .i64 (k : Int) ∧ k ≤ ls.length ∧ 1 ≤ m ∧ (k = 0 → m = 1) ∧ (∀ j (h : j < ls.length), k = j + 1 → m = ls[j].tx + 1) ∧ R = liveB next 0 m (ls.drop k) ∧ Below w.heap.size w wr) (fun i _ => (ls.length + 1 - (intOf i).toNat))
    case atStart => exact ⟨0, 1, rfl, Nat.zero_le _, by omega, fun _ => rfl, fun j h e => (by omega), HR.out.symm, Below.refl _ _⟩
    case round =>
      clear HR
      obtain ⟨k, m, rfl, hk, hm1, hM, hP, hB, hb⟩ := hrel
      have HJ := hide hm1
      clear hm1
      have HB := hide hB
      have HM := hide hM
      have HP := hide hP
      clear hB hM hP
      by_cases hlt : k < ls.length
      · have hg1 : decide ((k : Int) < (ls.length : Int)) = true := by simp; omega
        rcases k with _ | j
        · have hd : liveB next 0 m (ls.drop 0) = (fromB m ls[0].tx (next - 1) && recB ls[0].last 0 && !(ls[0].com && ls[0].und) && liveB next 0 (ls[0].tx + 1) (ls.drop (0 + 1))) := by rw [List.drop_eq_getElem_cons hlt]; rfl
          rw [hd] at HB
          clear hd
          have hr : fromB m ls[0].tx (next - 1) = (fromB 1 ls[0].tx 2147483647 && !decide (next ≤ ls[0].tx)) := by
            rw [HM.out rfl]
            unfold fromB
            rw [Bool.eq_iff_iff]
            simp
            omega
          rw [hr] at HB
          clear hr
          clear HP HM HJ
          have hr : recB ls[0].last 0 = fromB 1 ls[0].last 2147483647 := by unfold recB aheadB; simp
          rw [hr] at HB
          clear hr
          obtain ⟨b, off, rfl, hbl, k0, k1, k2, k3⟩ := (hs.below hb).liveAt 0 hlt
          simp only [Nat.zero_mul, Nat.add_zero] at k0 k1 k2 k3
          clear hs
          have hb1 : Below w.heap.size w (wr.alloc (.cells #[.int .i64 ls[0].tx, .int .i64 ls[0].last, .bool ls[0].com, .bool ls[0].und] 58)) := hb.alloc hb.size _
          have HN : ∃ x, ls[0].tx = x := ⟨_, rfl⟩
          obtain ⟨x, hx⟩ := HN
          have HN : Hid (x + (1 : Int) = ls[0].tx + (1 : Int)) := hide (by rw [hx])
          rw [hx] at HB k0 hb1
          clear hx
          generalize ls[0].last = y at *
          generalize ls[0].com = p at *
          generalize ls[0].und = q at *
          have HQ : Hid (fromB 1 x 2147483647 = true → 1 ≤ x + 1) := hide (by unfold fromB; simp; omega)
          have ⟨q1, hq1⟩ : ∃ g, fromB 1 x 2147483647 = g := ⟨_, rfl⟩
          have ⟨q2, hq2⟩ : ∃ g, fromB 1 y 2147483647 = g := ⟨_, rfl⟩
          rw [hq1, hq2] at HB
          have ⟨g, hg⟩ : ∃ g, decide (next ≤ x) = g := ⟨_, rfl⟩
          rw [hg] at HB
          cases q1
          · go_upto_region 7 with fail
            go_quiet ((go_at_call 51; exact Calls.quiet_of_same (within_any _ _ _ _)))
            go_wp2_with fail
            go_ret
            exact ⟨by rw [HB.out]; simp, bdrewN hb1 _⟩
          · cases g
            · cases q2
              · go_upto_region 7 with fail
                go_quiet ((go_at_call 51; exact Calls.quiet_of_same (within_any _ _ _ _)))
                go_wp2_with fail
                go_ret
                exact ⟨by rw [HB.out]; simp, bdrewN hb1 _⟩
              · cases p
                · go_upto_region 7 with fail
                  go_quiet ((go_at_call 51; exact Calls.quiet_of_same (within_any _ _ _ _)))
                  go_wp2_with fail
                  go_roundw
                  case rel => exact ⟨0 + 1, x + 1, by go_num, hlt, HQ.out hq1, by intro h; omega, (fun i h e => by (have e1 : i = 0 := (by omega)); cases e1; exact HN.out), by rw [HB.out]; simp, bdrewN hb1 _⟩
                  case measure => simp [intOf] <;> omega
                · cases q
                  · go_upto_region 7 with fail
                    go_quiet ((go_at_call 51; exact Calls.quiet_of_same (within_any _ _ _ _)))
                    go_wp2_with fail
                    go_roundw
                    case rel => exact ⟨0 + 1, x + 1, by go_num, hlt, HQ.out hq1, by intro h; omega, (fun i h e => by (have e1 : i = 0 := (by omega)); cases e1; exact HN.out), by rw [HB.out]; simp, bdrewN hb1 _⟩
                    case measure => simp [intOf] <;> omega
                  · go_upto_region 7 with fail
                    go_quiet ((go_at_call 51; exact Calls.quiet_of_same (within_any _ _ _ _)))
                    go_wp2_with fail
                    go_ret
                    exact ⟨by rw [HB.out]; simp, bdrewN hb1 _⟩
            · go_upto_region 7 with fail
              go_quiet ((go_at_call 51; exact Calls.quiet_of_same (within_any _ _ _ _)))
              go_wp2_with fail
              go_ret
              exact ⟨by rw [HB.out]; simp, bdrewN hb1 _⟩
        · have hd : liveB next 0 m (ls.drop (j + 1)) = (fromB m ls[(j + 1)].tx (next - 1) && recB ls[(j + 1)].last 0 && !(ls[(j + 1)].com && ls[(j + 1)].und) && liveB next 0 (ls[(j + 1)].tx + 1) (ls.drop ((j + 1) + 1))) := by rw [List.drop_eq_getElem_cons hlt]; rfl
          rw [hd] at HB
          clear hd
          have hpv := HP.out j (by omega) rfl
          rw [hpv] at HB
          clear hpv
          have hr : fromB (ls[j].tx + 1) ls[j + 1].tx (next - 1) = (fromB 1 ls[j + 1].tx 2147483647 && !decide (next ≤ ls[j + 1].tx) && !decide (ls[j + 1].tx ≤ ls[j].tx)) := by
            have := HJ.out
            rw [HP.out j (by omega) rfl] at this
            unfold fromB
            rw [Bool.eq_iff_iff]
            simp
            omega
          rw [hr] at HB
          clear hr
          clear HP HM HJ
          have hr : recB ls[(j + 1)].last 0 = fromB 1 ls[(j + 1)].last 2147483647 := by unfold recB aheadB; simp
          rw [hr] at HB
          clear hr
          obtain ⟨b, off, rfl, hbl, k0, k1, k2, k3⟩ := (hs.below hb).liveAt (j + 1) hlt
          obtain ⟨b', off', hab, _, p0, _⟩ := (hs.below hb).liveAt j (by omega)
          cases hab
          clear hs
          have hb1 : Below w.heap.size w (wr.alloc (.cells #[.int .i64 ls[(j + 1)].tx, .int .i64 ls[(j + 1)].last, .bool ls[(j + 1)].com, .bool ls[(j + 1)].und] 58)) := hb.alloc hb.size _
          have HN : ∃ x, ls[(j + 1)].tx = x := ⟨_, rfl⟩
          obtain ⟨x, hx⟩ := HN
          have HN : Hid (x + (1 : Int) = ls[(j + 1)].tx + (1 : Int)) := hide (by rw [hx])
          rw [hx] at HB k0 hb1
          clear hx
          generalize ls[(j + 1)].last = y at *
          generalize ls[(j + 1)].com = p at *
          generalize ls[(j + 1)].und = q at *
          generalize ls[j].tx = pv at *
          have ew : IntKind.i64.wrap ((j : Int) + 1 - 1) = (j : Int) := by rw [IntKind.wrap_i64]; omega
          have hi0 : decide ((0 : Int) < (j : Int) + 1) = true := by rw [decide_eq_true_iff]; omega
          have HQ : Hid (fromB 1 x 2147483647 = true → 1 ≤ x + 1) := hide (by unfold fromB; simp; omega)
          have ⟨q1, hq1⟩ : ∃ g, fromB 1 x 2147483647 = g := ⟨_, rfl⟩
          have ⟨q2, hq2⟩ : ∃ g, fromB 1 y 2147483647 = g := ⟨_, rfl⟩
          rw [hq1, hq2] at HB
          have ⟨g, hg⟩ : ∃ g, decide (next ≤ x) = g := ⟨_, rfl⟩
          rw [hg] at HB
          have ⟨h, hh⟩ : ∃ h, decide (x ≤ pv) = h := ⟨_, rfl⟩
          rw [hh] at HB
          cases q1
          · go_upto_region 7 with fail
            go_quiet ((go_at_call 51; exact Calls.quiet_of_same (within_any _ _ _ _)))
            go_wp2_with fail
            go_ret
            exact ⟨by rw [HB.out]; simp, bdrewN hb1 _⟩
          · cases g
            · cases h
              · cases q2
                · go_upto_region 7 with fail
                  go_quiet ((go_at_call 51; exact Calls.quiet_of_same (within_any _ _ _ _)))
                  go_wp2_with fail
                  go_ret
                  exact ⟨by rw [HB.out]; simp, bdrewN hb1 _⟩
                · cases p
                  · go_upto_region 7 with fail
                    go_quiet ((go_at_call 51; exact Calls.quiet_of_same (within_any _ _ _ _)))
                    go_wp2_with fail
                    go_roundw
                    case rel => exact ⟨(j + 1) + 1, x + 1, by go_num, hlt, HQ.out hq1, by intro h; omega, (fun i h e => by (have e1 : i = (j + 1) := (by omega)); cases e1; exact HN.out), by rw [HB.out]; simp, bdrewN hb1 _⟩
                    case measure => simp [intOf] <;> omega
                  · cases q
                    · go_upto_region 7 with fail
                      go_quiet ((go_at_call 51; exact Calls.quiet_of_same (within_any _ _ _ _)))
                      go_wp2_with fail
                      go_roundw
                      case rel => exact ⟨(j + 1) + 1, x + 1, by go_num, hlt, HQ.out hq1, by intro h; omega, (fun i h e => by (have e1 : i = (j + 1) := (by omega)); cases e1; exact HN.out), by rw [HB.out]; simp, bdrewN hb1 _⟩
                      case measure => simp [intOf] <;> omega
                    · go_upto_region 7 with fail
                      go_quiet ((go_at_call 51; exact Calls.quiet_of_same (within_any _ _ _ _)))
                      go_wp2_with fail
                      go_ret
                      exact ⟨by rw [HB.out]; simp, bdrewN hb1 _⟩
              · go_upto_region 7 with fail
                go_quiet ((go_at_call 51; exact Calls.quiet_of_same (within_any _ _ _ _)))
                go_wp2_with fail
                go_ret
                exact ⟨by rw [HB.out]; simp, bdrewN hb1 _⟩
            · go_upto_region 7 with fail
              go_quiet ((go_at_call 51; exact Calls.quiet_of_same (within_any _ _ _ _)))
              go_wp2_with fail
              go_ret
              exact ⟨by rw [HB.out]; simp, bdrewN hb1 _⟩
      · have hg1 : decide ((k : Int) < (ls.length : Int)) = false := by simp; omega
        have HF : Hid (R = true) := hide (by rw [HB.out, List.drop_eq_nil_of_le (by omega)]; rfl)
        clear HB
        go_wp2_with fail
        go_ret
        exact ⟨by rw [HF.out]; rfl, hb⟩
  · have hg : decide ((32 : Int) < (ls.length : Int)) = true := by simp; omega
    go_enter Tryz.func37, Tryz.ntmps37
    go_wp2_with fail
    go_ret
    exact ⟨by simp [hl], Below.refl _ _⟩
end Go.Proofs.YtblngphjoafidaaGreat
