import Derived.Test.YtgpmghdoofcpaaaGreatWrite
namespace Go.Proofs.YtgpmghdoofcpaaaGreat
open Go.RowKit Go.QK

def badForm (l : List Nat) : Prop := 1 < l.length ∧ l.getD (l.length - 1) 0 = 0 ∨ l.length = 10 ∧ 1 < l.getD (l.length - 1) 0

set_option maxRecDepth 100000 in
theorem shortest_bad (l : List Nat) (a : Option Addr) (c : Nat) (w : World) (hs : Bytes w a l) (hl : 0 < l.length) (hl2 : l.length ≤ 10) (hbad : badForm l) :
    Calls Tryz.prog 122 #[.slice a l.length c] w fun e w' => e = .returned (.tuple #[.slice none 0 0, .int .i64 22]) ∧ w' = w := by
  obtain ⟨b, off, rfl, hb, hc⟩ := hs.at (i := l.length - 1) (by omega)
  unfold badForm at hbad
  generalize l.getD (l.length - 1) 0 = x at *
  generalize hn : l.length = n at *
  have e1 : ((n : Int) - 1) = ((n - 1 : Nat) : Int) := by omega
  generalize hm : n - 1 = m at *
  have hn' : n = m + 1 := by omega
  subst hn'
  have HB : Hid (1 < m + 1 ∧ x = 0 ∨ m + 1 = 10 ∧ 1 < x) := hbad
  clear hbad
  go_enter Tryz.func122, Tryz.ntmps122
  go_wp2_with fail
  all_goals first
    | (exfalso; have hbad := HB.out; simp at *; omega)
    | (refine bodyPost_ret (v := .tuple #[.slice none 0 0, .int .i64 22]) (by simp [results, Tryz.results122, go_sem]) rfl ⟨rfl, rfl⟩)

set_option maxRecDepth 100000 in
theorem shortest_good (l : List Nat) (a : Option Addr) (c : Nat) (w : World) (hs : Bytes w a l) (hl : 0 < l.length) (hl2 : l.length ≤ 10) (hbad : ¬ badForm l) :
    Calls Tryz.prog 122 #[.slice a l.length c] w fun e w' => e = .returned (.tuple #[.slice a l.length c, .int .i64 0]) ∧ w' = w := by
  obtain ⟨b, off, rfl, hb, hc⟩ := hs.at (i := l.length - 1) (by omega)
  unfold badForm at hbad
  generalize l.getD (l.length - 1) 0 = x at *
  generalize hn : l.length = n at *
  have e1 : ((n : Int) - 1) = ((n - 1 : Nat) : Int) := by omega
  generalize hm : n - 1 = m at *
  have hn' : n = m + 1 := by omega
  subst hn'
  have HB : Hid (¬ (1 < m + 1 ∧ x = 0 ∨ m + 1 = 10 ∧ 1 < x)) := hbad
  clear hbad
  go_enter Tryz.func122, Tryz.ntmps122
  go_wp2_with fail
  all_goals first
    | (exfalso; have hbad := HB.out; simp at *; omega)
    | (refine bodyPost_ret (v := .tuple #[.slice (some ⟨b, off, none⟩) (m + 1) c, .int .i64 0]) (by simp [results, Tryz.results122, go_sem]) rfl ⟨rfl, rfl⟩)

/-- What a reading finds. -/
def rdE (l : List Nat) : Nat := (rd l).1
def rdX (l : List Nat) : Nat := (rd l).2.1
def rdN (l : List Nat) : Nat := (rd l).2.2
theorem rd_parts (l : List Nat) : rd l = (rdE l, rdX l, rdN l) := rfl
theorem rd_far {l : List Nat} (h : 10 ≤ lead l) : rdE l = 22 := by unfold rdE rd; rw [if_pos h]
theorem rd_end {l : List Nat} (h : lead l < 10) (h2 : lead l = l.length) : rdE l = 20 := by unfold rdE rd; rw [if_neg (by omega), if_pos h2]
theorem rd_bad {l : List Nat} (h : lead l < 10) (h2 : lead l < l.length) (h3 : badForm (l.take (lead l + 1))) : rdE l = 22 := by
  unfold badForm at h3
  unfold rdE rd
  rw [List.length_take, Nat.min_eq_left (by omega), Nat.add_sub_cancel] at h3
  have e : (l.take (lead l + 1)).getD (lead l) 0 = l.getD (lead l) 0 := by simp
  rw [e] at h3
  rw [if_neg (by omega), if_neg (by omega), if_pos (by omega)]
theorem rd_fine {l : List Nat} (h : lead l < 10) (h2 : lead l < l.length) (h3 : ¬ badForm (l.take (lead l + 1))) : rdE l = 0 ∧ rdN l = lead l + 1 ∧ rdX l = dec (l.take (lead l + 1)) := by
  unfold badForm at h3
  unfold rdE rdN rdX rd
  rw [List.length_take, Nat.min_eq_left (by omega), Nat.add_sub_cancel] at h3
  have e : (l.take (lead l + 1)).getD (lead l) 0 = l.getD (lead l) 0 := by simp
  rw [e] at h3
  rw [if_neg (by omega), if_neg (by omega), if_neg (by omega)]
  exact ⟨rfl, rfl, rfl⟩
theorem badForm_dec (l : List Nat) : badForm l ∨ ¬ badForm l := Classical.em _
/-- The slice that 'first' answers. -/
def firstV (l : List Nat) (a : Option Addr) (c : Nat) : Value := if rdE l = 0 then .slice a (rdN l) c else .slice none 0 0
theorem lead_ge (l : List Nat) (k : Nat) (h : ∀ i, i < k → 128 ≤ l.getD i 0) (hk : k ≤ l.length) : k ≤ lead l := by
  by_cases q : k ≤ lead l
  · exact q
  · have a := h (lead l) (by omega)
    have b := lead_at l (by omega)
    omega

set_option maxHeartbeats 1000000 in
set_option maxRecDepth 100000 in
theorem first_le (l : List Nat) (a : Option Addr) (c : Nat) (w : World) (hs : Bytes w a l) (hc : l.length ≤ c) (hl : l.length ≤ 140737488355328) (hmin : l.length ≤ 10) (hcm : c ≤ maxLen) :
    Calls Tryz.prog 113 #[.slice a l.length c] w fun e w' => e = .returned (.tuple #[firstV l a c, .int .i64 ((rdE l : Nat) : Int)]) ∧ w' = w := by
  unfold maxLen at hcm
  go_enter Tryz.func113, Tryz.ntmps113
  go_wp2_with fail
  go_loopw [8] (fun i wr => ∃ k : Nat, i = .int .i64 (k : Int) ∧ k ≤ l.length ∧ (∀ j, j < k → 128 ≤ l.getD j 0) ∧ wr = w) (fun i _ => 10 - (intOf i).toNat)
  case atStart => exact ⟨0, rfl, Nat.zero_le _, nofun, rfl⟩
  case round =>
    obtain ⟨k, rfl, hk, hj, rfl⟩ := hrel
    by_cases hlt : k < l.length
    · obtain ⟨b, off, rfl, hb, hcell⟩ := hs.at (i := k) (by omega)
      by_cases hx : l.getD k 0 < 128
      · have hld : lead l = k := lead_eq l k hj (by omega) hx
        have hst := hs.take (k + 1)
        have hlen : (l.take (k + 1)).length = k + 1 := by simp; omega
        have HC : Hid (Calls Tryz.prog 122 #[.slice (some ⟨b, off, none⟩) (k + 1) c] wr fun e w' => e = .returned (.tuple #[firstV l (some ⟨b, off, none⟩) c, .int .i64 ((rdE l : Nat) : Int)]) ∧ w' = wr) := by
          unfold Hid
          rcases badForm_dec (l.take (k + 1)) with q | q
          · have := shortest_bad (l.take (k + 1)) (some ⟨b, off, none⟩) c wr hst (by omega) (by omega) q
            rw [hlen] at this
            refine this.mono ?_
            rintro e w' ⟨rfl, rfl⟩
            have hE : rdE l = 22 := rd_bad (by omega) (by omega) (by rw [hld]; exact q)
            refine ⟨?_, rfl⟩
            unfold firstV
            rw [hE]
            rfl
          · have := shortest_good (l.take (k + 1)) (some ⟨b, off, none⟩) c wr hst (by omega) (by omega) q
            rw [hlen] at this
            refine this.mono ?_
            rintro e w' ⟨rfl, rfl⟩
            obtain ⟨hE, hN, _⟩ := rd_fine (l := l) (by omega) (by omega) (by rw [hld]; exact q)
            refine ⟨?_, rfl⟩
            unfold firstV
            rw [hE, hN, hld]
            rfl
        generalize l.getD k 0 = x at *
        have hkc : k + 1 ≤ c := by omega
        clear hst hlen hld
        go_wp2_with fail
        refine HC.out.mono ?_
        rintro e w' ⟨rfl, rfl⟩
        go_wp2_with fail
        exact bodyPost_ret (v := .tuple #[firstV l (some ⟨b, off, none⟩) c, .int .i64 ((rdE l : Nat) : Int)]) (by simp [results, Tryz.results113, go_sem]) rfl ⟨rfl, rfl⟩
      · have hjn : ∀ j, j < k + 1 → 128 ≤ l.getD j 0 := by
          intro j hj1
          rcases Nat.lt_or_ge j k with q | q
          · exact hj j q
          · obtain rfl : j = k := by omega
            omega
        generalize l.getD k 0 = x at *
        go_wp2_with fail
        go_roundw
        case rel => exact ⟨k + 1, by go_num, by omega, hjn, trivial⟩
        case measure => simp [intOf]; omega
    · obtain rfl : k = l.length := by omega
      have hge := lead_ge l _ hj (Nat.le_refl _)
      have hle := lead_le l
      by_cases q : l.length = 10
      · have hE : Hid (rdE l = 22) := rd_far (by omega)
        go_wp2_with fail
        exact bodyPost_ret (v := .tuple #[.slice none 0 0, .int .i64 22]) (by simp [results, Tryz.results113, go_sem]) rfl ⟨by unfold firstV; rw [hE.out]; rfl, rfl⟩
      · have hE : Hid (rdE l = 20) := rd_end (by omega) (by omega)
        go_wp2_with fail
        exact bodyPost_ret (v := .tuple #[.slice none 0 0, .int .i64 20]) (by simp [results, Tryz.results113, go_sem]) rfl ⟨by unfold firstV; rw [hE.out]; rfl, rfl⟩

set_option maxHeartbeats 1000000 in
set_option maxRecDepth 100000 in
theorem first_gt (l : List Nat) (a : Option Addr) (c : Nat) (w : World) (hs : Bytes w a l) (hc : l.length ≤ c) (hl : l.length ≤ 140737488355328) (hmin : 10 < l.length) :
    Calls Tryz.prog 113 #[.slice a l.length c] w fun e w' => e = .returned (.tuple #[firstV l a c, .int .i64 ((rdE l : Nat) : Int)]) ∧ w' = w := by
  go_enter Tryz.func113, Tryz.ntmps113
  go_wp2_with fail
  go_loopw [8] (fun i wr => ∃ k : Nat, i = .int .i64 (k : Int) ∧ k ≤ 10 ∧ (∀ j, j < k → 128 ≤ l.getD j 0) ∧ wr = w) (fun i _ => 10 - (intOf i).toNat)
  case atStart => exact ⟨0, rfl, Nat.zero_le _, nofun, rfl⟩
  case round =>
    obtain ⟨k, rfl, hk, hj, rfl⟩ := hrel
    by_cases hlt : k < 10
    · obtain ⟨b, off, rfl, hb, hcell⟩ := hs.at (i := k) (by omega)
      by_cases hx : l.getD k 0 < 128
      · have hld : lead l = k := lead_eq l k hj (by omega) hx
        have hst := hs.take (k + 1)
        have hlen : (l.take (k + 1)).length = k + 1 := by simp; omega
        have HC : Hid (Calls Tryz.prog 122 #[.slice (some ⟨b, off, none⟩) (k + 1) c] wr fun e w' => e = .returned (.tuple #[firstV l (some ⟨b, off, none⟩) c, .int .i64 ((rdE l : Nat) : Int)]) ∧ w' = wr) := by
          unfold Hid
          rcases badForm_dec (l.take (k + 1)) with q | q
          · have := shortest_bad (l.take (k + 1)) (some ⟨b, off, none⟩) c wr hst (by omega) (by omega) q
            rw [hlen] at this
            refine this.mono ?_
            rintro e w' ⟨rfl, rfl⟩
            have hE : rdE l = 22 := rd_bad (by omega) (by omega) (by rw [hld]; exact q)
            refine ⟨?_, rfl⟩
            unfold firstV
            rw [hE]
            rfl
          · have := shortest_good (l.take (k + 1)) (some ⟨b, off, none⟩) c wr hst (by omega) (by omega) q
            rw [hlen] at this
            refine this.mono ?_
            rintro e w' ⟨rfl, rfl⟩
            obtain ⟨hE, hN, _⟩ := rd_fine (l := l) (by omega) (by omega) (by rw [hld]; exact q)
            refine ⟨?_, rfl⟩
            unfold firstV
            rw [hE, hN, hld]
            rfl
        generalize l.getD k 0 = x at *
        have hkc : k + 1 ≤ c := by omega
        clear hst hlen hld
        go_wp2_with fail
        refine HC.out.mono ?_
        rintro e w' ⟨rfl, rfl⟩
        go_wp2_with fail
        exact bodyPost_ret (v := .tuple #[firstV l (some ⟨b, off, none⟩) c, .int .i64 ((rdE l : Nat) : Int)]) (by simp [results, Tryz.results113, go_sem]) rfl ⟨rfl, rfl⟩
      · have hjn : ∀ j, j < k + 1 → 128 ≤ l.getD j 0 := by
          intro j hj1
          rcases Nat.lt_or_ge j k with q | q
          · exact hj j q
          · obtain rfl : j = k := by omega
            omega
        generalize l.getD k 0 = x at *
        go_wp2_with fail
        go_roundw
        case rel => exact ⟨k + 1, by go_num, by omega, hjn, trivial⟩
        case measure => simp [intOf]; omega
    · obtain rfl : k = 10 := by omega
      have hge := lead_ge l _ hj (by omega)
      have hE : Hid (rdE l = 22) := rd_far (by omega)
      go_wp2_with fail
      exact bodyPost_ret (v := .tuple #[.slice none 0 0, .int .i64 22]) (by simp [results, Tryz.results113, go_sem]) rfl ⟨by unfold firstV; rw [hE.out]; rfl, rfl⟩

theorem first_any (l : List Nat) (a : Option Addr) (c : Nat) (w : World) (hs : Bytes w a l) (hc : l.length ≤ c) (hl : l.length ≤ 140737488355328) (hcm : c ≤ maxLen) :
    Calls Tryz.prog 113 #[.slice a l.length c] w fun e w' => e = .returned (.tuple #[firstV l a c, .int .i64 ((rdE l : Nat) : Int)]) ∧ w' = w := by
  by_cases h : l.length ≤ 10
  · exact first_le l a c w hs hc hl h hcm
  · exact first_gt l a c w hs hc hl (by omega)

set_option maxHeartbeats 1000000 in
set_option maxRecDepth 100000 in
theorem value_any (l : List Nat) (a : Option Addr) (c : Nat) (w : World) (hs : Bytes w a l) (hl : l.length ≤ 10) (hb : AllB l) (hd : dec l < 18446744073709551616) :
    Calls Tryz.prog 114 #[.slice a l.length c] w fun e w' => e = .returned (.int .u64 ((dec l : Nat) : Int)) ∧ w' = w := by
  go_enter Tryz.func114, Tryz.ntmps114
  go_wp2_with fail
  go_loopw [3, 8] (fun x i wr => ∃ k : Nat, i = .int .i64 (k : Int) ∧ k ≤ l.length ∧ x = .int .u64 ((dec (l.take k) : Nat) : Int) ∧ wr = w) (fun _ i _ => 10 - (intOf i).toNat)
  case atStart => exact ⟨0, rfl, Nat.zero_le _, rfl, rfl⟩
  case round =>
    obtain ⟨k, rfl, hk, rfl, rfl⟩ := hrel
    by_cases hlt : k < l.length
    · obtain ⟨b, off, rfl, hbl, hcell⟩ := hs.at hlt
      have hx := hb.get k
      have hstep := dec_take_succ l k hlt
      have hlow := dec_lt (l.take k)
      rw [List.length_take, Nat.min_eq_left hk] at hlow
      have hbound : dec (l.take (k + 1)) ≤ dec l := by
        have := dec_append (l.take (k + 1)) (l.drop (k + 1))
        rw [List.take_append_drop] at this
        omega
      generalize l.getD k 0 = x at *
      generalize dec (l.take k) = n at *
      generalize hN : dec (l.take (k + 1)) = n1 at *
      have e1 : bits .andNot .u8 (x : Int) 128 = (x : Int) % 128 := by rw [andNot128_u8 x hx]; simp
      have e2 : IntKind.u64.wrap ((x : Int) % 128) = (x : Int) % 128 := by rw [IntKind.wrap_u64]; omega
      have hp : (128 : Nat) ^ k = 2 ^ (7 * k) := by rw [Nat.pow_mul]
      rw [hp] at hlow hstep
      have e3 : bits .or .u64 (n : Int) (IntKind.u64.wrap ((x : Int) % 128 * 2 ^ (7 * k))) = (n1 : Int) := by
        have q : ((x : Int) % 128 * 2 ^ (7 * k)) = ((2 ^ (7 * k) * (x % 128) : Nat) : Int) := by
          rw [Int.natCast_mul, Int.mul_comm]
          simp
        rw [q, hstep, ← or_join_u64 n (x % 128) (7 * k) hlow (by omega), IntKind.wrap_u64]
        congr 1
        omega
      have E3 : Hid _ := e3
      clear e3
      go_wp2_with fail
      refine ⟨⟨k + 1, by go_num, by omega, ?_, trivial⟩, by simp [intOf]; omega⟩
      rw [E3.out, hN]
    · obtain rfl : k = l.length := by omega
      have ht : l.take l.length = l := List.take_length
      rw [ht]
      go_wp2_with fail
      go_ret
      exact ⟨rfl, rfl⟩

set_option maxRecDepth 100000 in
theorem unfold_any (n : Nat) (w : World) (h : n < 18446744073709551616) :
    Calls Tryz.prog 115 #[.int .u64 (n : Int)] w fun e w' => e = .returned (.int .i64 (uns n)) ∧ w' = w := by
  have e1 : IntKind.i64.wrap ((n : Int) / 2) = (n : Int) / 2 := by rw [IntKind.wrap_i64]; omega
  have e2 : bits .and .u64 (n : Int) 1 = (n : Int) % 2 := by rw [and1_u64 n h]; simp
  by_cases q : n % 2 = 1
  · have q1 : (n : Int) % 2 = 1 := by omega
    have e3 : bits .xor .i64 (-1) ((n : Int) / 2) = uns n := by
      rw [not_i64 _ (by omega) (by omega)]
      unfold uns
      rw [if_neg (by omega)]
      omega
    have E3 : Hid _ := e3
    clear e3
    have hsg : IntKind.i64.signed = true := rfl
    go_enter Tryz.func115, Tryz.ntmps115
    go_wp2_with fail
    go_ret
    exact ⟨by rw [← E3.out]; rfl, rfl⟩
  · have q1 : (n : Int) % 2 = 0 := by omega
    have e3 : uns n = (n : Int) / 2 := by
      unfold uns
      rw [if_pos (by omega)]
      omega
    rw [e3]
    clear e3
    go_enter Tryz.func115, Tryz.ntmps115
    go_wp2_with fail
    go_ret
    exact ⟨rfl, rfl⟩
end Go.Proofs.YtgpmghdoofcpaaaGreat
