import Derived.Test.YtblngphjoafidaaGreatRLive
import Derived.Test.YtblngphjoafidaaGreatRDirty
namespace Go.Proofs.YtblngphjoafidaaGreat
open Go.RowKit Go.QK
set_option maxRecDepth 100000
theorem liveB_all (next lsn m : Int) (ls : List LiveM) : liveB next lsn m ls = (liveB next 0 m ls && ls.all (fun l => aheadB l.last lsn)) := by
  induction ls generalizing m with
  | nil => rfl
  | cons l ls ih =>
    simp only [liveB, List.all_cons, ih, recB]
    have : aheadB l.last 0 = true := by simp [aheadB]
    rw [this]
    generalize fromB m l.tx (next - 1) = a
    generalize fromB 1 l.last 2147483647 = b
    generalize aheadB l.last lsn = c
    generalize liveB next 0 (l.tx + 1) ls = d
    generalize (l.com && l.und) = e
    generalize ls.all _ = f
    cases a <;> cases b <;> cases c <;> cases d <;> cases e <;> cases f <;> rfl
theorem dirtyB_all (lsn m : Int) (ls : List DirtyM) : dirtyB lsn m ls = (dirtyB 0 m ls && ls.all (fun l => aheadB l.since lsn)) := by
  induction ls generalizing m with
  | nil => rfl
  | cons l ls ih =>
    simp only [dirtyB, List.all_cons, ih, recB]
    have : aheadB l.since 0 = true := by simp [aheadB]
    rw [this]
    generalize fromB m l.page 63 = a
    generalize fromB 1 l.since 2147483647 = b
    generalize aheadB l.since lsn = c
    generalize dirtyB 0 (l.page + 1) ls = d
    generalize ls.all _ = f
    cases a <;> cases b <;> cases c <;> cases d <;> cases f <;> rfl
theorem pointsB_all (ls : List LiveM) (ds : List DirtyM) (next lsn : Int) : pointsB true ls ds next lsn = (decide (1 ≤ next) && decide (next ≤ 2147483648) && (decide (ls.length ≤ 32) && liveB next 0 1 ls) && (decide (ds.length ≤ 16) && dirtyB 0 0 ds) && ls.all (fun l => aheadB l.last lsn) && ds.all (fun l => aheadB l.since lsn)) := by
  unfold pointsB
  rw [cond_true, liveB_all, dirtyB_all]
  unfold fromB
  generalize decide (ls.length ≤ 32) = a
  generalize decide (ds.length ≤ 16) = b
  generalize liveB next 0 1 ls = c
  generalize dirtyB 0 0 ds = d
  generalize ls.all _ = e
  generalize ds.all _ = f
  generalize decide (1 ≤ next) = g
  generalize decide (next ≤ 2147483648) = h
  cases a <;> cases b <;> cases c <;> cases d <;> cases e <;> cases f <;> cases g <;> cases h <;> rfl
set_option maxHeartbeats 0 in
theorem rPoints_any (ls : List LiveM) (ds : List DirtyM) (la da : Option Addr) (lc dc : Nat) (next lsn : Int) (w : World) (hl : Lies w la (liveCs ls)) (hd : Lies w da (dirtyCs ds)) :
    Calls Tryz.prog 79 #[.agg #[.slice la ls.length lc, .slice da ds.length dc, .int .i64 next], .int .i64 lsn] w fun e w' => e = .returned (.bool (pointsB true ls ds next lsn)) ∧ Below w.heap.size w w' := by
  rw [pointsB_all]
  have HL := hide hl
  have HD := hide hd
  clear hl hd
  by_cases h1 : 1 ≤ next
  case neg =>
    have g1 : decide (next < 1) = true := by rw [decide_eq_true_iff]; omega
    have g2 : decide (1 ≤ next) = false := by rw [decide_eq_false_iff_not]; exact h1
    rw [g2]
    go_enter Tryz.func79, Tryz.ntmps79
    go_wp2_with fail
    go_ret
    exact ⟨by simp, alloc_below _ _⟩
  by_cases h2 : next ≤ 2147483648
  case neg =>
    have g1 : decide (next < 1) = false := by rw [decide_eq_false_iff_not]; omega
    have g3 : decide (2147483648 < next) = true := by rw [decide_eq_true_iff]; omega
    have g2 : decide (next ≤ 2147483648) = false := by rw [decide_eq_false_iff_not]; exact h2
    rw [g2]
    go_enter Tryz.func79, Tryz.ntmps79
    go_wp2_with fail
    go_ret
    exact ⟨by simp, alloc_below _ _⟩
  have g1 : decide (next < 1) = false := by rw [decide_eq_false_iff_not]; omega
  have g3 : decide (2147483648 < next) = false := by rw [decide_eq_false_iff_not]; omega
  have g4 : decide (1 ≤ next) = true := by rw [decide_eq_true_iff]; exact h1
  have g2 : decide (next ≤ 2147483648) = true := by rw [decide_eq_true_iff]; exact h2
  rw [g4, g2]
  clear g4 g2
  have f2 := fun w h => rLive_any ls la lc next w h h1 h2
  have f3 := fun w h => rDirty_any ds da dc w h
  have l2 : (decide (ls.length ≤ 32) && liveB next 0 1 ls) = true → ls.length ≤ 32 := by simp; intro h _; exact h
  have l3 : (decide (ds.length ≤ 16) && dirtyB 0 0 ds) = true → ds.length ≤ 16 := by simp; intro h _; exact h
  generalize (decide (ls.length ≤ 32) && liveB next 0 1 ls) = q2 at *
  generalize (decide (ds.length ≤ 16) && dirtyB 0 0 ds) = q3 at *
  generalize hR : (true && true && q2 && q3 && ls.all (fun l => aheadB l.last lsn) && ds.all (fun l => aheadB l.since lsn)) = R
  have HR := hide hR
  clear hR
  have L2 := hide l2
  have L3 := hide l3
  clear l2 l3
  go_enter Tryz.func79, Tryz.ntmps79
  go_wp2_with fail
  generalize hw0 : w.alloc (.cells #[.slice la ls.length lc, .slice da ds.length dc, .int .i64 next] 53) = w0
  have b0 : Below w.heap.size w w0 := by rw [← hw0]; exact alloc_below _ _
  have C : Cells w0 w.heap.size [.slice la ls.length lc, .slice da ds.length dc, .int .i64 next] := by rw [← hw0]; exact Cells.new _ _ _
  clear hw0
  refine (f2 _ (HL.out.below b0)).mono ?_
  rintro e w1 ⟨rfl, b1⟩
  replace C := C.below b1
  have b2 := bnext b0 b1 (Nat.le_refl _)
  clear b0 b1
  obtain ⟨c1, _⟩ := C.get 1 _ rfl
  cases q2
  · go_wp2_with fail
    go_ret
    exact ⟨by rw [← HR.out]; simp, b2⟩
  · go_wp2_with fail
    refine (f3 _ (HD.out.below b2)).mono ?_
    rintro e w2 ⟨rfl, b3⟩
    have b4 := bnext b2 b3 (Nat.le_refl _)
    replace C := C.below b3
    clear b2 b3 c1
    obtain ⟨c0, _⟩ := C.get 0 _ rfl
    obtain ⟨c1, _⟩ := C.get 1 _ rfl
    clear C f2 f3
    cases q3
    · go_wp2_with fail
      go_ret
      exact ⟨by rw [← HR.out]; simp, b4⟩
    · have l2 := L2.out (by first | rfl | trivial)
      have l3 := L3.out (by first | rfl | trivial)
      clear L2 L3
      have hl := HL.out.below b4
      have hd := HD.out.below b4
      clear HL HD
      go_wp2_with fail
      go_loopw [5] (fun i wr => ∃ (k : Nat), i = .int .i64 (k : Int) ∧ k ≤ ls.length ∧ R = ((ls.drop k).all (fun l => aheadB l.last lsn) && ds.all (fun l => aheadB l.since lsn)) ∧ wr = w2) (fun i _ => (ls.length + 1 - (intOf i).toNat))
      case atStart => exact ⟨0, rfl, Nat.zero_le _, by rw [← HR.out]; simp, rfl⟩
      case round =>
        clear HR
        obtain ⟨k, rfl, hk, hB, hw⟩ := hrel
        have hw' := hw.symm
        clear hw
        subst hw'
        have HB := hide hB
        clear hB
        by_cases hlt : k < ls.length
        · have hg1 : decide ((k : Int) < (ls.length : Int)) = true := by simp; omega
          obtain ⟨b, off, rfl, hbl, k0, k1, k2, k3⟩ := hl.liveAt k hlt
          clear k0 k2 k3
          have hd : (ls.drop k).all (fun l => aheadB l.last lsn) = (aheadB ls[k].last lsn && (ls.drop (k + 1)).all (fun l => aheadB l.last lsn)) := by rw [List.drop_eq_getElem_cons hlt]; rfl
          rw [hd] at HB
          clear hd
          generalize ls[k].last = y at *
          unfold aheadB at HB
          by_cases hz : lsn = 0
          · have hz1 : (lsn != 0) = false := by simp [hz]
            have HZ := hide hz
            clear hz
            go_wp2_with fail
            go_roundw
            case rel => exact ⟨k + 1, by go_num, hlt, by rw [HB.out, HZ.out]; simp [aheadB], (by first | rfl | trivial)⟩
            case measure => simp [intOf] <;> omega
          · have hz1 : (lsn != 0) = true := by simp [hz]
            by_cases hy : lsn ≤ y
            · have hy1 : decide (lsn ≤ y) = true := by rw [decide_eq_true_iff]; exact hy
              go_wp2_with fail
              go_ret
              exact ⟨by rw [HB.out]; have h3 : decide (y < lsn) = false := (by rw [decide_eq_false_iff_not]; omega); simp [hz, h3], b4⟩
            · have hy1 : decide (lsn ≤ y) = false := by rw [decide_eq_false_iff_not]; exact hy
              go_wp2_with fail
              go_roundw
              case rel => exact ⟨k + 1, by go_num, hlt, by rw [HB.out]; have h3 : decide (y < lsn) = true := (by rw [decide_eq_true_iff]; omega); simp [h3, aheadB], (by first | rfl | trivial)⟩
              case measure => simp [intOf] <;> omega
        · have hg1 : decide ((k : Int) < (ls.length : Int)) = false := by simp; omega
          rw [List.drop_eq_nil_of_le (by omega)] at HB
          go_wp2_with fail
          go_loopw [6] (fun i wr => ∃ (k : Nat), i = .int .i64 (k : Int) ∧ k ≤ ds.length ∧ R = (ds.drop k).all (fun l => aheadB l.since lsn) ∧ wr = w2) (fun i _ => (ds.length + 1 - (intOf i).toNat))
          case atStart => exact ⟨0, rfl, Nat.zero_le _, by rw [HB.out]; simp, rfl⟩
          case round =>
            clear HB
            obtain ⟨j, rfl, hj, hB, hw⟩ := hrel
            have hw' := hw.symm
            clear hw
            subst hw'
            have HB := hide hB
            clear hB
            by_cases hlt : j < ds.length
            · have hg2 : decide ((j : Int) < (ds.length : Int)) = true := by simp; omega
              obtain ⟨b, off, rfl, hbl, k0, k1⟩ := hd.dirtyAt j hlt
              clear k0
              have hd : (ds.drop j).all (fun l => aheadB l.since lsn) = (aheadB ds[j].since lsn && (ds.drop (j + 1)).all (fun l => aheadB l.since lsn)) := by rw [List.drop_eq_getElem_cons hlt]; rfl
              rw [hd] at HB
              clear hd
              generalize ds[j].since = y at *
              unfold aheadB at HB
              by_cases hz : lsn = 0
              · have hz1 : (lsn != 0) = false := by simp [hz]
                have HZ := hide hz
                clear hz
                go_wp2_with fail
                go_roundw
                case rel => exact ⟨j + 1, by go_num, hlt, by rw [HB.out, HZ.out]; simp [aheadB], (by first | rfl | trivial)⟩
                case measure => simp [intOf] <;> omega
              · have hz1 : (lsn != 0) = true := by simp [hz]
                by_cases hy : lsn ≤ y
                · have hy1 : decide (lsn ≤ y) = true := by rw [decide_eq_true_iff]; exact hy
                  go_wp2_with fail
                  go_ret
                  exact ⟨by rw [HB.out]; have h3 : decide (y < lsn) = false := (by rw [decide_eq_false_iff_not]; omega); simp [hz, h3], b4⟩
                · have hy1 : decide (lsn ≤ y) = false := by rw [decide_eq_false_iff_not]; exact hy
                  go_wp2_with fail
                  go_roundw
                  case rel => exact ⟨j + 1, by go_num, hlt, by rw [HB.out]; have h3 : decide (y < lsn) = true := (by rw [decide_eq_true_iff]; omega); simp [h3, aheadB], (by first | rfl | trivial)⟩
                  case measure => simp [intOf] <;> omega
            · have hg2 : decide ((j : Int) < (ds.length : Int)) = false := by simp; omega
              rw [List.drop_eq_nil_of_le (by omega)] at HB
              go_wp2_with fail
              go_ret
              exact ⟨by rw [HB.out]; rfl, b4⟩
end Go.Proofs.YtblngphjoafidaaGreat
