import Derived.Test.YtllpfojkbeloeaaDoorRef3
namespace Go.Proofs.YtllpfojkbeloeaaDoor
open Go.RowKit Go.QK

theorem Bn_succ : (k r : Nat) → Bn (k + 1) r = B1 (Bn k r)
  | 0, _ => rfl
  | k + 1, r => by
    show Bn (k + 1) (B1 r) = B1 (Bn k (B1 r))
    exact Bn_succ k (B1 r)

set_option maxHeartbeats 2000000 in
set_option maxRecDepth 100000 in
theorem rSum_any (ps : List (Value × List Nat)) (a : Option Addr) (c : Nat) (w : World) (hp : Parts w a ps) (hl : ps.length ≤ maxLen) (hall : AllB (joined ps)) :
    Calls Tryd.prog 51 #[.slice a ps.length c] w fun e w' => e = .returned (.int .u32 ((sumOf (joined ps) : Nat) : Int)) ∧ w' = w := by
  unfold maxLen at hl
  have hsz : ∀ k j (hk : k < ps.length), crc 4294967295 (joined (ps.take k) ++ ps[k].2.take j) < 4294967296 := by
    intro k j hk
    refine crc_lt _ _ (by decide) ?_
    intro x hx
    refine hall x ?_
    rcases List.mem_append.1 hx with q | q
    · simp only [joined, List.mem_flatMap] at q ⊢
      obtain ⟨y, hy, hxy⟩ := q
      exact ⟨y, List.mem_of_mem_take hy, hxy⟩
    · simp only [joined, List.mem_flatMap]
      exact ⟨_, List.getElem_mem hk, List.mem_of_mem_take q⟩
  have hend : crc 4294967295 (joined ps) < 4294967296 := crc_lt _ _ (by decide) hall
  go_enter Tryd.func51, Tryd.ntmps51
  go_wp2_with fail
  go_loopw [3, 4] (fun r i wr => ∃ k : Nat, i = .int .i64 (k : Int) ∧ k ≤ ps.length ∧ r = .int .u32 ((crc 4294967295 (joined (ps.take k)) : Nat) : Int) ∧ wr = w) (fun _ i _ => ps.length - (intOf i).toNat)
  case atStart => exact ⟨0, rfl, Nat.zero_le _, rfl, rfl⟩
  case round =>
    obtain ⟨k, rfl, hk, rfl, rfl⟩ := hrel
    by_cases hlt : k < ps.length
    · rcases hp with hp | ⟨b, off, rfl, hb, hp⟩
      · simp [hp] at hlt
      · obtain ⟨hc, ai, ci, hv, hbs, hba, hml⟩ := hp k hlt
        have HJ : Hid _ := joined_take_succ ps k hlt
        have hz := fun j => hsz k j hlt
        rw [hv] at hc
        generalize ps[k].2 = m at *
        unfold maxLen at hml
        have e0 : crc 4294967295 (joined (ps.take k)) = crc 4294967295 (joined (ps.take k) ++ m.take 0) := by simp
        clear hp hsz hv
        go_wp2_with fail
        go_loopw [3, 5] (fun r i ws => ∃ j : Nat, i = .int .i64 (j : Int) ∧ j ≤ m.length ∧ r = .int .u32 ((crc 4294967295 (joined (ps.take k) ++ m.take j) : Nat) : Int) ∧ ws = wr) (fun _ i _ => m.length - (intOf i).toNat)
        case atStart => exact ⟨0, rfl, Nat.zero_le _, by rw [← e0], rfl⟩
        case round =>
          obtain ⟨j, rfl, hj, rfl, rfl⟩ := hrel
          by_cases hjl : j < m.length
          · obtain ⟨b2, off2, rfl, hb2, hc2⟩ := hbs.at hjl
            have hx := hba.get j
            have hr := hz j
            have hs8 : crc 4294967295 (joined (ps.take k) ++ m.take (j + 1)) = Bn 8 (crc 4294967295 (joined (ps.take k) ++ m.take j) ^^^ m.getD j 0) := by
              rw [List.take_succ_eq_append_getElem hjl, ← List.append_assoc, crc_append]
              simp [hjl, S8]
            have HS : Hid _ := hs8
            clear hs8
            generalize m.getD j 0 = x at *
            generalize crc 4294967295 (joined (ps.take k) ++ m.take j) = r at *
            have e1 : IntKind.u32.wrap (x : Int) = (x : Int) := by rw [IntKind.wrap_u32]; omega
            obtain ⟨y, hy⟩ : ∃ y, y = r ^^^ x := ⟨_, rfl⟩
            have e2 : bits .xor .u32 (r : Int) (x : Int) = (y : Int) := by rw [xor_u32 r x hr (by omega), hy]
            have hyl : y < 4294967296 := by rw [hy]; exact Nat.xor_lt_two_pow (n := 32) (by omega) (by omega)
            rw [← hy] at HS
            clear hy
            go_wp2_with fail
            go_loopw [3, 6] (fun q i wt => ∃ t : Nat, i = .int .i64 (t : Int) ∧ t ≤ 8 ∧ q = .int .u32 ((Bn t y : Nat) : Int) ∧ wt = wr) (fun _ i _ => 8 - (intOf i).toNat)
            case atStart => exact ⟨0, rfl, by omega, rfl, rfl⟩
            case round =>
              obtain ⟨t, rfl, ht, rfl, rfl⟩ := hrel
              by_cases ht8 : t < 8
              · have hbl := Bn_lt t y hyl
                have hbs1 := Bn_succ t y
                have HB : Hid (Bn (t + 1) y = B1 (Bn t y)) := hbs1
                clear hbs1
                generalize Bn t y = z at *
                have hand : bits .and .u32 (z : Int) 1 = ((z % 2 : Nat) : Int) := and1_u32 z hbl
                by_cases hodd : z % 2 = 1
                · rw [hodd] at hand
                  obtain ⟨n, hn⟩ : ∃ n, n = B1 z := ⟨_, rfl⟩
                  have hx2 : bits .xor .u32 ((z : Int) / 2) 3988292384 = (n : Int) := by
                    have : ((z : Int) / 2) = ((z / 2 : Nat) : Int) := by omega
                    rw [this, show (3988292384 : Int) = ((3988292384 : Nat) : Int) from rfl, xor_u32 _ _ (by omega) (by decide), hn]
                    unfold B1
                    rw [if_pos hodd]
                    rfl
                  have HN : Hid (n = B1 z) := hn
                  clear hn
                  go_wp2_with fail
                  go_roundw
                  case rel => exact ⟨t + 1, by go_num, by omega, by rw [HB.out, ← HN.out], trivial⟩
                  case measure => simp [intOf]; omega
                · have h0 : z % 2 = 0 := by omega
                  rw [h0] at hand
                  have hx2 : B1 z = z / 2 := by
                    unfold B1
                    rw [if_neg hodd, Nat.xor_zero]
                  have HN : Hid (B1 z = z / 2) := hx2
                  clear hx2
                  go_wp2_with fail
                  go_roundw
                  case rel => exact ⟨t + 1, by go_num, by omega, by rw [HB.out, HN.out]; go_num, trivial⟩
                  case measure => simp [intOf]; omega
              · obtain rfl : t = 8 := by omega
                go_wp2_with fail
                go_roundw
                case rel => exact ⟨j + 1, by go_num, by omega, by rw [HS.out], trivial⟩
                case measure => simp [intOf]; omega
          · obtain rfl : j = m.length := by omega
            rw [List.take_length]
            go_wp2_with fail
            go_roundw
            case rel => exact ⟨k + 1, by go_num, by omega, by rw [HJ.out], trivial⟩
            case measure => simp [intOf]; omega
    · obtain rfl : k = ps.length := by omega
      rw [List.take_length]
      have hsg : IntKind.u32.signed = false := rfl
      have e1 : bits .xor .u32 IntKind.u32.max ((crc 4294967295 (joined ps) : Nat) : Int) = ((sumOf (joined ps) : Nat) : Int) := not_u32 _ hend
      have E1 : Hid _ := e1
      clear e1
      go_wp2_with fail
      go_ret
      exact ⟨by rw [← E1.out]; rfl, rfl⟩

/-! The reference's Put and Get. -/
set_option maxRecDepth 100000 in
theorem place_no (n : Nat) (pos size : Int) (w : World) (hn : n ≤ 1000000) (h : ¬ placed n pos size) (h1 : -9223372036854775808 ≤ pos ∧ pos ≤ 9223372036854775807) :
    Calls Tryd.prog 56 #[.int .i64 (n : Int), .int .i64 pos, .int .i64 size] w fun e w' => e = .returned (.bool false) ∧ w' = w := by
  unfold placed at h
  have HH : Hid (¬ (1 ≤ size ∧ size ≤ 8 ∧ 0 ≤ pos ∧ pos + size ≤ n)) := h
  clear h
  by_cases q1 : 1 ≤ size
  · by_cases q2 : size ≤ 8
    · by_cases q3 : 0 ≤ pos
      · by_cases q4 : pos ≤ (n : Int)
        · have q5 : decide (size ≤ (n : Int) - pos) = false := by have := HH.out; simp; omega
          go_enter Tryd.func56, Tryd.ntmps56
          go_wp2_with fail
          go_ret
          exact ⟨rfl, rfl⟩
        · have q5 : decide (pos ≤ (n : Int)) = false := by simp; omega
          go_enter Tryd.func56, Tryd.ntmps56
          go_wp2_with fail
          go_ret
          exact ⟨rfl, rfl⟩
      · have q5 : decide (0 ≤ pos) = false := by simp; omega
        go_enter Tryd.func56, Tryd.ntmps56
        go_wp2_with fail
        go_ret
        exact ⟨rfl, rfl⟩
    · have q5 : decide (size ≤ 8) = false := by simp; omega
      go_enter Tryd.func56, Tryd.ntmps56
      go_wp2_with fail
      go_ret
      exact ⟨rfl, rfl⟩
  · have q5 : decide (1 ≤ size) = false := by simp; omega
    go_enter Tryd.func56, Tryd.ntmps56
    go_wp2_with fail
    go_ret
    exact ⟨rfl, rfl⟩

set_option maxRecDepth 100000 in
theorem place_yes (n pos size : Nat) (w : World) (hn : n ≤ 1000000) (h1 : 1 ≤ size) (h8 : size ≤ 8) (h2 : pos + size ≤ n) :
    Calls Tryd.prog 56 #[.int .i64 (n : Int), .int .i64 (pos : Int), .int .i64 (size : Int)] w fun e w' => e = .returned (.bool true) ∧ w' = w := by
  have q1 : (1 : Int) ≤ (size : Int) := by omega
  have q2 : (size : Int) ≤ 8 := by omega
  have q3 : (0 : Int) ≤ (pos : Int) := by omega
  have q4 : (pos : Int) ≤ (n : Int) := by omega
  have q5 : (size : Int) ≤ (n : Int) - (pos : Int) := by omega
  go_enter Tryd.func56, Tryd.ntmps56
  go_wp2_with fail
  go_ret
  exact ⟨rfl, rfl⟩
end Go.Proofs.YtllpfojkbeloeaaDoor
