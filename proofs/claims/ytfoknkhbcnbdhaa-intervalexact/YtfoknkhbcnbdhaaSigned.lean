import Derived.Test.YtfoknkhbcnbdhaaParts
import Derived.Test.YtfoknkhbcnbdhaaRef
namespace Go.Proofs.Ytfoknkhbcnbdhaa
open Go.RowKit Quota

set_option maxHeartbeats 400000 in
theorem signed_true (xs : List Int) (a : Option Addr) (cap : Nat) (w : World) (hs : Seen w a xs) (hl : xs.length ≤ 100000) :
    Calls Try.prog 41 #[.slice a xs.length cap, .bool true] w fun e w' => ∃ v, e = .returned v ∧ Owns w' w.heap.size v (negs xs) ∧ Below w.heap.size w w' := by
  go_enter Try.func41, Try.ntmps41
  go_wp2_with fail
  go_loopw [5, 6] (fun v i wr => ∃ k : Nat, k ≤ xs.length ∧ i = .int .i64 k ∧ Owns wr w.heap.size v (negs (xs.take k)) ∧ Below w.heap.size w wr) (fun _ i _ => xs.length - (intOf i).toNat)
  case atStart => exact ⟨0, Nat.zero_le _, rfl, Owns.nil _ _, Below.refl _ _⟩
  case round =>
    obtain ⟨k, hk, rfl, O, hb⟩ := hrel
    have P1 : Hid (Owns wr w.heap.size u5 (negs (xs.take k))) := O
    clear O
    by_cases hlt : k < xs.length
    · have hck : ∃ b off, a = some ⟨b, off, none⟩ ∧ wr.cell? ⟨b, off + k, none⟩ = some (.int .i64 xs[k]) := by
        rcases hs.below hb with hn | ⟨b, off, ea, hbl, hcell⟩
        · simp [hn] at hlt
        · exact ⟨b, off, ea, hcell k hlt⟩
      obtain ⟨b, off, rfl, hck⟩ := hck
      have hn1 := negs_len (xs.take k)
      have hn2 : (xs.take k).length ≤ 100000 := by simp; omega
      have hz := hb.size
      by_cases hneg : xs[k] < 0
      · have HS : Hid _ := negs_step xs k hlt hneg
        have hd : decide (xs[k] < 0) = true := by simpa using hneg
        generalize xs[k] = x at *
        go_wp2_with (at_builtin; refine push_own rfl (.tmp 20) (.tmp 25) rfl w.heap.size _ (negs (xs.take k)) rfl ⟨wr.heap.size, 0, none⟩ x rfl (P1.out.alloc _) (by simp [go_sem]) ?c2 ?c3 ?_)
        case c2 => first | omega | (simp; omega)
        case c3 => first | omega | (simp; omega)
        intro v' w' o1 r1 _
        have hb' : Below w.heap.size w w' := (hb.alloc hz _).trans (grown_below (P1.out.alloc _) (by simp; omega) r1)
        have P2 : Hid (Owns w' w.heap.size v' (negs (xs.take k) ++ [x])) := o1
        clear o1 r1 P1
        go_wp2_with fail
        go_roundw
        case rel => exact ⟨k + 1, by omega, by go_num, by rw [HS.out.1]; exact P2.out, hb'⟩
        case measure => simp [intOf]; omega
      · have HS : Hid _ := poss_step xs k hlt hneg
        have hd : decide (xs[k] < 0) = false := by simpa using hneg
        generalize xs[k] = x at *
        go_wp2_with fail
        go_roundw
        case rel => exact ⟨k + 1, by omega, by go_num, by rw [HS.out.1]; exact P1.out, hb⟩
        case measure => simp [intOf]; omega
    · obtain rfl : k = xs.length := by omega
      rw [List.take_length] at P1
      go_wp2_with fail
      go_ret
      exact ⟨_, rfl, P1.out, hb⟩

set_option maxHeartbeats 400000 in
theorem signed_false (xs : List Int) (a : Option Addr) (cap : Nat) (w : World) (hs : Seen w a xs) (hl : xs.length ≤ 100000) :
    Calls Try.prog 41 #[.slice a xs.length cap, .bool false] w fun e w' => ∃ v, e = .returned v ∧ Owns w' w.heap.size v (poss xs) ∧ Below w.heap.size w w' := by
  go_enter Try.func41, Try.ntmps41
  go_wp2_with fail
  go_loopw [5, 6] (fun v i wr => ∃ k : Nat, k ≤ xs.length ∧ i = .int .i64 k ∧ Owns wr w.heap.size v (poss (xs.take k)) ∧ Below w.heap.size w wr) (fun _ i _ => xs.length - (intOf i).toNat)
  case atStart => exact ⟨0, Nat.zero_le _, rfl, Owns.nil _ _, Below.refl _ _⟩
  case round =>
    obtain ⟨k, hk, rfl, O, hb⟩ := hrel
    have P1 : Hid (Owns wr w.heap.size u5 (poss (xs.take k))) := O
    clear O
    by_cases hlt : k < xs.length
    · have hck : ∃ b off, a = some ⟨b, off, none⟩ ∧ wr.cell? ⟨b, off + k, none⟩ = some (.int .i64 xs[k]) := by
        rcases hs.below hb with hn | ⟨b, off, ea, hbl, hcell⟩
        · simp [hn] at hlt
        · exact ⟨b, off, ea, hcell k hlt⟩
      obtain ⟨b, off, rfl, hck⟩ := hck
      have hn1 := negs_len (xs.take k)
      have hn2 : (xs.take k).length ≤ 100000 := by simp; omega
      have hz := hb.size
      by_cases hneg : xs[k] < 0
      · have HS : Hid _ := negs_step xs k hlt hneg
        have hd : decide (xs[k] < 0) = true := by simpa using hneg
        generalize xs[k] = x at *
        go_wp2_with fail
        go_roundw
        case rel => exact ⟨k + 1, by omega, by go_num, by rw [HS.out.2]; exact P1.out, hb⟩
        case measure => simp [intOf]; omega
      · have HS : Hid _ := poss_step xs k hlt hneg
        have hd : decide (xs[k] < 0) = false := by simpa using hneg
        generalize xs[k] = x at *
        go_wp2_with (at_builtin; refine push_own rfl (.tmp 20) (.tmp 25) rfl w.heap.size _ (poss (xs.take k)) rfl ⟨wr.heap.size, 0, none⟩ x rfl (P1.out.alloc _) (by simp [go_sem]) ?c2 ?c3 ?_)
        case c2 => first | omega | (simp; omega)
        case c3 => first | omega | (simp; omega)
        intro v' w' o1 r1 _
        have hb' : Below w.heap.size w w' := (hb.alloc hz _).trans (grown_below (P1.out.alloc _) (by simp; omega) r1)
        have P2 : Hid (Owns w' w.heap.size v' (poss (xs.take k) ++ [x])) := o1
        clear o1 r1 P1
        go_wp2_with fail
        go_roundw
        case rel => exact ⟨k + 1, by omega, by go_num, by rw [HS.out.2]; exact P2.out, hb'⟩
        case measure => simp [intOf]; omega
    · obtain rfl : k = xs.length := by omega
      rw [List.take_length] at P1
      go_wp2_with fail
      go_ret
      exact ⟨_, rfl, P1.out, hb⟩

end Go.Proofs.Ytfoknkhbcnbdhaa
