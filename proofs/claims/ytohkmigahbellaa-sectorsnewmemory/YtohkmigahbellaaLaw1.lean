import Derived.Test.YtohkmigahbellaaDev12
namespace Go.Proofs.Ytohkmigahbellaa
open Go.RowKit Go.QK

def opC (k : Int) (two : Bool) (i : Int) (fill : Nat) (len : Int) (a : Option Addr) (n c : Nat) (tn off : Int) : Array Value := #[.int .i64 k, .bool two, .int .i64 i, .int .u8 (fill : Int), .int .i64 len, .slice a n c, .int .i64 tn, .int .i64 off]
def fillLen (len : Int) : Nat := if 0 < len then (min len 1536).toNat else if len < 0 then (max (512 + max len (-512)) 0).toNat else 512
def filledB (fill n : Nat) : List Nat := (List.range n).map fun j => (fill + j / 200) % 256
theorem fillLen_le (len : Int) : fillLen len ≤ 1536 := by
  unfold fillLen
  split
  · omega
  · split <;> omega
theorem filledB_length (fill n : Nat) : (filledB fill n).length = n := by simp [filledB]
theorem filledB_allB (fill n : Nat) : AllB (filledB fill n) := by
  intro x hx
  simp [filledB] at hx
  obtain ⟨a, _, rfl⟩ := hx
  omega
theorem quo200 (p : Nat) : (p : Int).tdiv 200 = ((p / 200 : Nat) : Int) := by rw [Int.tdiv_eq_ediv_of_nonneg (by omega)]; omega
theorem filledB_step (fill n j : Nat) (hj : j < n) : (filledB fill j ++ List.replicate (n - j) 0).set j ((fill + j / 200) % 256) = filledB fill (j + 1) ++ List.replicate (n - (j + 1)) 0 := by
  obtain ⟨m, hm⟩ : ∃ m, n - j = m + 1 := ⟨n - j - 1, by omega⟩
  rw [hm, show n - (j + 1) = m by omega, List.replicate_succ, List.set_append_right _ _ (by rw [filledB_length]; exact Nat.le_refl _), filledB_length, Nat.sub_self, List.set_cons_zero]
  simp [filledB, List.range_succ]
theorem ints_set (l : List Nat) (i x : Nat) : ints (l.set i x) = (ints l).set i (x : Int) := by simp [ints, List.map_set]

set_option maxHeartbeats 1000000 in
set_option maxRecDepth 100000 in
theorem filled_any (k : Int) (two : Bool) (i : Int) (fill : Nat) (len : Int) (a : Option Addr) (n c : Nat) (tn off : Int) (w : World) :
    Calls Try.prog 15 #[.agg (opC k two i fill len a n c tn off)] w fun e w' => ∃ g, e = .returned (.slice (some ⟨g, 0, none⟩) (fillLen len) (fillLen len)) ∧ OwnB w' w.heap.size (.slice (some ⟨g, 0, none⟩) (fillLen len) (fillLen len)) (filledB fill (fillLen len)) ∧ Below w.heap.size w w' := by
  unfold opC
  have B0 := alloc_below w (.cells #[.int .i64 k, .bool two, .int .i64 i, .int .u8 (fill : Int), .int .i64 len, .slice a n c, .int .i64 tn, .int .i64 off] 39)
  obtain ⟨m, hm⟩ : ∃ m, m = fillLen len := ⟨_, rfl⟩
  have hm1 : m ≤ 1536 := by rw [hm]; exact fillLen_le len
  rw [← hm]
  have HM := hide hm
  clear hm
  obtain ⟨w1, m1, o1, b1, z1⟩ := makeB (w.alloc (.cells #[.int .i64 k, .bool two, .int .i64 i, .int .u8 (fill : Int), .int .i64 len, .slice a n c, .int .i64 tn, .int .i64 off] 39)) m (by omega)
  rw [World.size_alloc] at m1 o1
  have k1 := (b1.cell (p := ⟨w.heap.size, 3, none⟩) (by simp)).trans (show (w.alloc (.cells #[.int .i64 k, .bool two, .int .i64 i, .int .u8 (fill : Int), .int .i64 len, .slice a n c, .int .i64 tn, .int .i64 off] 39)).cell? ⟨w.heap.size, 3, none⟩ = some (.int .u8 (fill : Int)) by rw [World.cell?_alloc_new]; rfl)
  have B1 : Below w.heap.size w w1 := bnext B0 b1 (Nat.le_refl _)
  have O1 := hide (Owns.base o1 (Nat.le_succ _))
  clear o1
  have hmm := HM.out
  unfold fillLen at hmm
  by_cases h1 : 0 < len
  · rw [if_pos h1] at hmm
    by_cases h2 : len ≤ 1536
    · obtain rfl : len = (m : Int) := by omega
      clear hmm HM
      go_enter Try.func15, Try.ntmps15
      go_wp2_with fail
      go_loopw [5] (fun j wr => ∃ q : Nat, q ≤ m ∧ j = .int .i64 (q : Int) ∧ OwnB wr w.heap.size (.slice (some ⟨w.heap.size + 1, 0, none⟩) m m) (filledB fill q ++ List.replicate (m - q) 0) ∧ Below w.heap.size w wr ∧ wr.cell? ⟨w.heap.size, 3, none⟩ = some (.int .u8 (fill : Int))) (fun j _ => m - (intOf j).toNat)
      case atStart => exact ⟨0, Nat.zero_le _, rfl, by simpa [filledB] using O1.out, B1, k1⟩
      case round =>
        obtain ⟨q, hq, rfl, hown, hbl, hk3⟩ := hrel
        by_cases hlt : q < m
        · have hlt' : (q : Int) < (m : Int) := by omega
          have hin : q < (ints (filledB fill q ++ List.replicate (m - q) 0)).length := by simp [filledB_length]; omega
          have hfz := Owns.frozen hown q
          obtain ⟨b1, off1, hab, _, hcell⟩ := Seen.at (Owns.seen_at hown) hin
          simp only [Option.some.injEq, Addr.mk.injEq] at hab
          obtain ⟨rfl, rfl, _⟩ := hab
          rw [Nat.zero_add] at hcell
          generalize (ints (filledB fill q ++ List.replicate (m - q) 0))[q] = old at *
          have eq := quo200 q
          have ec : (((fill + q / 200) % 256 : Nat) : Int) = ((fill : Int) + ((q / 200 : Nat) : Int)) % 256 := by omega
          have hst := Owns.stored hown q ((((fill + q / 200) % 256 : Nat)) : Int)
          rw [← ints_set, filledB_step fill m q hlt, ec] at hst
          have eq' : wrap64 ((q / 200 : Nat) : Int) = ((q / 200 : Nat) : Int) := by unfold wrap64; omega
          generalize q / 200 = z at *
          have HST := hide hst
          have BL := hide (hbl.setCell (p := ⟨w.heap.size + 1, q, none⟩) (by show w.heap.size ≤ w.heap.size + 1; omega) (.int .u8 (((fill : Int) + (z : Int)) % 256)))
          have CK := hide ((World.cell?_setCell_other wr ⟨w.heap.size + 1, q, none⟩ ⟨w.heap.size, 3, none⟩ (.int .u8 (((fill : Int) + (z : Int)) % 256)) (by simp)).trans hk3)
          clear hst hown hbl ec
          go_wp2_with fail
          go_roundw
          case rel => exact ⟨q + 1, by omega, by go_num, HST.out, BL.out, CK.out⟩
          case measure => simp [intOf]; omega
        · obtain rfl : q = m := by omega
          rw [Nat.sub_self, List.replicate_zero, List.append_nil] at hown
          have HO := hide hown
          clear hown
          go_wp2_with fail
          go_ret
          exact ⟨w.heap.size + 1, rfl, HO.out, hbl⟩
    · have EM := hide (show m = 1536 by omega)
      rw [show (m : Int) = 1536 by omega] at m1
      clear hmm HM
      go_enter Try.func15, Try.ntmps15
      go_wp2_with fail
      go_loopw [5] (fun j wr => ∃ q : Nat, q ≤ m ∧ j = .int .i64 (q : Int) ∧ OwnB wr w.heap.size (.slice (some ⟨w.heap.size + 1, 0, none⟩) m m) (filledB fill q ++ List.replicate (m - q) 0) ∧ Below w.heap.size w wr ∧ wr.cell? ⟨w.heap.size, 3, none⟩ = some (.int .u8 (fill : Int))) (fun j _ => m - (intOf j).toNat)
      case atStart => exact ⟨0, Nat.zero_le _, rfl, by simpa [filledB] using O1.out, B1, k1⟩
      case round =>
        obtain ⟨q, hq, rfl, hown, hbl, hk3⟩ := hrel
        by_cases hlt : q < m
        · have hlt' : (q : Int) < 1536 := by have := EM.out; omega
          have hin : q < (ints (filledB fill q ++ List.replicate (m - q) 0)).length := by simp [filledB_length]; omega
          have hfz := Owns.frozen hown q
          obtain ⟨b1, off1, hab, _, hcell⟩ := Seen.at (Owns.seen_at hown) hin
          simp only [Option.some.injEq, Addr.mk.injEq] at hab
          obtain ⟨rfl, rfl, _⟩ := hab
          rw [Nat.zero_add] at hcell
          generalize (ints (filledB fill q ++ List.replicate (m - q) 0))[q] = old at *
          have eq := quo200 q
          have ec : (((fill + q / 200) % 256 : Nat) : Int) = ((fill : Int) + ((q / 200 : Nat) : Int)) % 256 := by omega
          have hst := Owns.stored hown q ((((fill + q / 200) % 256 : Nat)) : Int)
          rw [← ints_set, filledB_step fill m q hlt, ec] at hst
          have eq' : wrap64 ((q / 200 : Nat) : Int) = ((q / 200 : Nat) : Int) := by unfold wrap64; omega
          generalize q / 200 = z at *
          have HST := hide hst
          have BL := hide (hbl.setCell (p := ⟨w.heap.size + 1, q, none⟩) (by show w.heap.size ≤ w.heap.size + 1; omega) (.int .u8 (((fill : Int) + (z : Int)) % 256)))
          have CK := hide ((World.cell?_setCell_other wr ⟨w.heap.size + 1, q, none⟩ ⟨w.heap.size, 3, none⟩ (.int .u8 (((fill : Int) + (z : Int)) % 256)) (by simp)).trans hk3)
          clear hst hown hbl ec
          go_wp2_with fail
          go_roundw
          case rel => exact ⟨q + 1, by omega, by go_num, HST.out, BL.out, CK.out⟩
          case measure => simp [intOf]; omega
        · obtain rfl : q = m := by omega
          have hge : ¬ ((q : Int) < 1536) := by have := EM.out; omega
          rw [Nat.sub_self, List.replicate_zero, List.append_nil] at hown
          have HO := hide hown
          clear hown
          go_wp2_with fail
          go_ret
          exact ⟨w.heap.size + 1, rfl, HO.out, hbl⟩
  · rw [if_neg h1] at hmm
    by_cases h2 : len < 0
    · rw [if_pos h2] at hmm
      by_cases h3 : len < -512
      · have EM := hide (show m = 0 by omega)
        rw [show (m : Int) = 0 by omega] at m1
        clear hmm HM
        go_enter Try.func15, Try.ntmps15
        go_wp2_with fail
        go_loopw [5] (fun j wr => ∃ q : Nat, q ≤ m ∧ j = .int .i64 (q : Int) ∧ OwnB wr w.heap.size (.slice (some ⟨w.heap.size + 1, 0, none⟩) m m) (filledB fill q ++ List.replicate (m - q) 0) ∧ Below w.heap.size w wr ∧ wr.cell? ⟨w.heap.size, 3, none⟩ = some (.int .u8 (fill : Int))) (fun j _ => m - (intOf j).toNat)
        case atStart => exact ⟨0, Nat.zero_le _, rfl, by simpa [filledB] using O1.out, B1, k1⟩
        case round =>
          obtain ⟨q, hq, rfl, hown, hbl, hk3⟩ := hrel
          by_cases hlt : q < m
          · exfalso; have := EM.out; omega
          · obtain rfl : q = m := by omega
            have hge : ¬ ((q : Int) < 0) := by have := EM.out; omega
            rw [Nat.sub_self, List.replicate_zero, List.append_nil] at hown
            have HO := hide hown
            clear hown
            go_wp2_with fail
            go_ret
            exact ⟨w.heap.size + 1, rfl, HO.out, hbl⟩
      · obtain rfl : len = (m : Int) - 512 := by omega
        have g1 : IntKind.i64.wrap (512 + ((m : Int) - 512)) = (m : Int) := by rw [IntKind.wrap_i64]; omega
        have g2 : ¬ ((m : Int) < 0) := by omega
        clear hmm HM
        go_enter Try.func15, Try.ntmps15
        go_wp2_with fail
        go_loopw [5] (fun j wr => ∃ q : Nat, q ≤ m ∧ j = .int .i64 (q : Int) ∧ OwnB wr w.heap.size (.slice (some ⟨w.heap.size + 1, 0, none⟩) m m) (filledB fill q ++ List.replicate (m - q) 0) ∧ Below w.heap.size w wr ∧ wr.cell? ⟨w.heap.size, 3, none⟩ = some (.int .u8 (fill : Int))) (fun j _ => m - (intOf j).toNat)
        case atStart => exact ⟨0, Nat.zero_le _, rfl, by simpa [filledB] using O1.out, B1, k1⟩
        case round =>
          obtain ⟨q, hq, rfl, hown, hbl, hk3⟩ := hrel
          by_cases hlt : q < m
          · have hlt' : (q : Int) < (m : Int) := by omega
            have hin : q < (ints (filledB fill q ++ List.replicate (m - q) 0)).length := by simp [filledB_length]; omega
            have hfz := Owns.frozen hown q
            obtain ⟨b1, off1, hab, _, hcell⟩ := Seen.at (Owns.seen_at hown) hin
            simp only [Option.some.injEq, Addr.mk.injEq] at hab
            obtain ⟨rfl, rfl, _⟩ := hab
            rw [Nat.zero_add] at hcell
            generalize (ints (filledB fill q ++ List.replicate (m - q) 0))[q] = old at *
            have eq := quo200 q
            have ec : (((fill + q / 200) % 256 : Nat) : Int) = ((fill : Int) + ((q / 200 : Nat) : Int)) % 256 := by omega
            have hst := Owns.stored hown q ((((fill + q / 200) % 256 : Nat)) : Int)
            rw [← ints_set, filledB_step fill m q hlt, ec] at hst
            have eq' : wrap64 ((q / 200 : Nat) : Int) = ((q / 200 : Nat) : Int) := by unfold wrap64; omega
            generalize q / 200 = z at *
            have HST := hide hst
            have BL := hide (hbl.setCell (p := ⟨w.heap.size + 1, q, none⟩) (by show w.heap.size ≤ w.heap.size + 1; omega) (.int .u8 (((fill : Int) + (z : Int)) % 256)))
            have CK := hide ((World.cell?_setCell_other wr ⟨w.heap.size + 1, q, none⟩ ⟨w.heap.size, 3, none⟩ (.int .u8 (((fill : Int) + (z : Int)) % 256)) (by simp)).trans hk3)
            clear hst hown hbl ec
            go_wp2_with fail
            go_roundw
            case rel => exact ⟨q + 1, by omega, by go_num, HST.out, BL.out, CK.out⟩
            case measure => simp [intOf]; omega
          · obtain rfl : q = m := by omega
            rw [Nat.sub_self, List.replicate_zero, List.append_nil] at hown
            have HO := hide hown
            clear hown
            go_wp2_with fail
            go_ret
            exact ⟨w.heap.size + 1, rfl, HO.out, hbl⟩
    · rw [if_neg h2] at hmm
      have EM := hide hmm
      rw [show (m : Int) = 512 by omega] at m1
      obtain rfl : len = 0 := by omega
      clear HM h1 h2 hmm
      go_enter Try.func15, Try.ntmps15
      go_wp2_with fail
      go_loopw [5] (fun j wr => ∃ q : Nat, q ≤ m ∧ j = .int .i64 (q : Int) ∧ OwnB wr w.heap.size (.slice (some ⟨w.heap.size + 1, 0, none⟩) m m) (filledB fill q ++ List.replicate (m - q) 0) ∧ Below w.heap.size w wr ∧ wr.cell? ⟨w.heap.size, 3, none⟩ = some (.int .u8 (fill : Int))) (fun j _ => m - (intOf j).toNat)
      case atStart => exact ⟨0, Nat.zero_le _, rfl, by simpa [filledB] using O1.out, B1, k1⟩
      case round =>
        obtain ⟨q, hq, rfl, hown, hbl, hk3⟩ := hrel
        by_cases hlt : q < m
        · have hlt' : (q : Int) < 512 := by have := EM.out; omega
          have hin : q < (ints (filledB fill q ++ List.replicate (m - q) 0)).length := by simp [filledB_length]; omega
          have hfz := Owns.frozen hown q
          obtain ⟨b1, off1, hab, _, hcell⟩ := Seen.at (Owns.seen_at hown) hin
          simp only [Option.some.injEq, Addr.mk.injEq] at hab
          obtain ⟨rfl, rfl, _⟩ := hab
          rw [Nat.zero_add] at hcell
          generalize (ints (filledB fill q ++ List.replicate (m - q) 0))[q] = old at *
          have eq := quo200 q
          have ec : (((fill + q / 200) % 256 : Nat) : Int) = ((fill : Int) + ((q / 200 : Nat) : Int)) % 256 := by omega
          have hst := Owns.stored hown q ((((fill + q / 200) % 256 : Nat)) : Int)
          rw [← ints_set, filledB_step fill m q hlt, ec] at hst
          have eq' : wrap64 ((q / 200 : Nat) : Int) = ((q / 200 : Nat) : Int) := by unfold wrap64; omega
          generalize q / 200 = z at *
          have HST := hide hst
          have BL := hide (hbl.setCell (p := ⟨w.heap.size + 1, q, none⟩) (by show w.heap.size ≤ w.heap.size + 1; omega) (.int .u8 (((fill : Int) + (z : Int)) % 256)))
          have CK := hide ((World.cell?_setCell_other wr ⟨w.heap.size + 1, q, none⟩ ⟨w.heap.size, 3, none⟩ (.int .u8 (((fill : Int) + (z : Int)) % 256)) (by simp)).trans hk3)
          clear hst hown hbl ec
          go_wp2_with fail
          go_roundw
          case rel => exact ⟨q + 1, by omega, by go_num, HST.out, BL.out, CK.out⟩
          case measure => simp [intOf]; omega
        · obtain rfl : q = m := by omega
          have hge : ¬ ((q : Int) < 512) := by have := EM.out; omega
          rw [Nat.sub_self, List.replicate_zero, List.append_nil] at hown
          have HO := hide hown
          clear hown
          go_wp2_with fail
          go_ret
          exact ⟨w.heap.size + 1, rfl, HO.out, hbl⟩
end Go.Proofs.Ytohkmigahbellaa
