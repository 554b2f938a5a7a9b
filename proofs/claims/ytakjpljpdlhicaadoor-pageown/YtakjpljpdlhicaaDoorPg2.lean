import Derived.Test.YtakjpljpdlhicaaDoorPg1
namespace Go.Proofs.YtakjpljpdlhicaaDoor
open Go.RowKit Go.QK Go.Pg
set_option maxRecDepth 100000

/-! Numbers laid one behind the other, and taken. -/

theorem wrote_app (pre old post : List Nat) (x : Nat) : (i : Nat) → i ≤ old.length → wrote (pre ++ old ++ post) pre.length x i = pre ++ (bytesOf i x ++ old.drop i) ++ post
  | 0, _ => by simp [wrote, bytesOf]
  | i + 1, h => by
    rw [wrote, wrote_app pre old post x i (by omega)]
    have e1 : bytesOf (i + 1) x = bytesOf i x ++ [QK.byteOf x i] := by simp [bytesOf, List.range_succ]
    have e2 : old.drop i = old.getD i 0 :: old.drop (i + 1) := by
      rw [List.drop_eq_getElem_cons (by omega)]
      simp [show i < old.length by omega]
    have e3 : pre.length + i = (pre ++ bytesOf i x).length := by simp
    rw [e2, e1, e3]
    have : pre ++ (bytesOf i x ++ old.getD i 0 :: old.drop (i + 1)) ++ post = (pre ++ bytesOf i x) ++ (old.getD i 0 :: (old.drop (i + 1) ++ post)) := by simp
    rw [this, List.set_append_right _ _ (Nat.le_refl _), Nat.sub_self, List.set_cons_zero]
    simp
theorem wrote_full (pre old post : List Nat) (x size : Nat) (h : old.length = size) : wrote (pre ++ old ++ post) pre.length x size = pre ++ bytesOf size x ++ post := by
  rw [wrote_app pre old post x size (by omega), List.drop_of_length_le (by omega), List.append_nil]

set_option maxHeartbeats 1000000 in
theorem put_at (g N cN off n c size x B : Nat) (L : List Nat) (w : World) (ho : OwnB w B (.slice (some ⟨g, 0, none⟩) N cN) L) (hn : n ≤ 1000000) (h1 : 1 ≤ size) (h8 : size ≤ 8) (h2 : size ≤ n) (h3 : n ≤ c) (hL : off + n ≤ L.length) (hx : x < 256 ^ size) :
    Calls Tryd.prog 62 #[.slice (some ⟨g, off, none⟩) n c, .int .i64 0, .int .i64 (size : Int), .int .u64 (x : Int)] w fun e w' => e = .returned (.int .i64 0) ∧ OwnB w' B (.slice (some ⟨g, 0, none⟩) N cN) (wrote L off x size) ∧ Keep (fun k => k = g) w w' := by
  have hq : x / 2 ^ (8 * size) = 0 := by
    rw [Nat.pow_mul]
    exact Nat.div_eq_of_lt hx
  have hd : ((x : Int) / 2 ^ (8 * size) != 0) = false := by rw [div_cast, hq]; rfl
  have hp := placeOf_ok g off n c 0 size w hn h1 h8 (by omega) h3
  rw [Nat.add_zero, Nat.sub_zero] at hp
  simp only [Int.natCast_zero] at hp
  clear hq hx
  go_enter Tryd.func62, Tryd.ntmps62
  go_wp2_with fail
  refine hp.mono ?_
  rintro e w' ⟨rfl, rfl⟩
  clear hp
  go_wp2_with fail
  go_loopw [29] (fun i ws => ∃ k : Nat, i = .int .i64 (k : Int) ∧ k ≤ size ∧ OwnB ws B (.slice (some ⟨g, 0, none⟩) N cN) (wrote L off x k) ∧ Keep (fun k => k = g) w' ws) (fun i _ => size - (intOf i).toNat)
  case atStart => exact ⟨0, rfl, Nat.zero_le _, ho, Keep.refl _ _⟩
  case round =>
    obtain ⟨k, rfl, hk, hown, hkeep⟩ := hrel
    by_cases hlt : k < size
    · have hin : off + k < (ints (wrote L off x k)).length := by simp; omega
      have hfz := Owns.frozen hown (off + k)
      obtain ⟨b1, off1, hab, _, hcell⟩ := Seen.at (Owns.seen_at hown) hin
      simp only [Option.some.injEq, Addr.mk.injEq] at hab
      obtain ⟨rfl, rfl, _⟩ := hab
      rw [Nat.zero_add] at hcell
      generalize (ints (wrote L off x k))[off + k] = old at *
      obtain ⟨y, hy⟩ : ∃ y, y = QK.byteOf x k := ⟨_, rfl⟩
      have e1 : IntKind.u8.wrap ((x : Int) / 2 ^ (8 * k)) = (y : Int) := by
        rw [IntKind.wrap_u8, div_cast, hy]
        unfold QK.byteOf
        simp
      have hst := Owns.stored hown (off + k) (y : Int)
      rw [← ints_set] at hst
      have HS : Hid (OwnB (wr.setCell ⟨g, off + k, none⟩ (.int .u8 (y : Int))) B (.slice (some ⟨g, 0, none⟩) N cN) (wrote L off x (k + 1))) := by unfold Hid; rw [wrote, ← hy]; exact hst
      have HK : Hid (Keep (fun k => k = g) w' (wr.setCell ⟨g, off + k, none⟩ (.int .u8 (y : Int)))) := hkeep.setCell (fun _ => rfl) _
      clear hst hy hown hkeep hin
      go_wp2_with fail
      go_roundw
      case rel => exact ⟨k + 1, by go_num, by omega, HS.out, HK.out⟩
      case measure => simp [intOf]; omega
    · obtain rfl : k = size := by omega
      go_wp2_with fail
      go_ret
      exact ⟨rfl, hown, hkeep⟩

/-- Bytes of the program's own, from a place on. -/
abbrev spot (g off n : Nat) : Value := .slice (if n = 0 then none else some ⟨g, off, none⟩) n n

theorem size63 (w : World) : (Go.sizeOf 63).run Tryd.prog w = .ok 1 w := rfl
theorem size5 (w : World) : (Go.sizeOf 5).run Tryd.prog w = .ok 1 w := rfl
end Go.Proofs.YtakjpljpdlhicaaDoor
