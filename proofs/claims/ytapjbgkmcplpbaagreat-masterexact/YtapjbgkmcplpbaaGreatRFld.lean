import Derived.Test.YtapjbgkmcplpbaaGreatSlot
import Derived.Test.YtapjbgkmcplpbaaGreatG12
namespace Go.Proofs.YtapjbgkmcplpbaaGreat
open Go.RowKit Go.QK

set_option maxRecDepth 100000 in
theorem place_yes (n pos size : Nat) (w : World) (hn : n ≤ 1000000) (h1 : 1 ≤ size) (h8 : size ≤ 8) (h2 : pos + size ≤ n) :
    Calls Tryz.prog 92 #[.int .i64 (n : Int), .int .i64 (pos : Int), .int .i64 (size : Int)] w fun e w' => e = .returned (.bool true) ∧ w' = w := by
  have q1 : (1 : Int) ≤ (size : Int) := by omega
  have q2 : (size : Int) ≤ 8 := by omega
  have q3 : (0 : Int) ≤ (pos : Int) := by omega
  have q4 : (pos : Int) ≤ (n : Int) := by omega
  have q5 : (size : Int) ≤ (n : Int) - (pos : Int) := by omega
  go_enter Tryz.func92, Tryz.ntmps92
  go_wp2_with fail
  go_ret
  exact ⟨rfl, rfl⟩

theorem shl_pow (size : Nat) (h : size < 8) : IntKind.u64.wrap (2 ^ (8 * size)) = ((256 ^ size : Nat) : Int) := by
  have hc : size = 0 ∨ size = 1 ∨ size = 2 ∨ size = 3 ∨ size = 4 ∨ size = 5 ∨ size = 6 ∨ size = 7 := by omega
  rcases hc with rfl | rfl | rfl | rfl | rfl | rfl | rfl | rfl <;> rfl

set_option maxHeartbeats 2000000 in
set_option maxRecDepth 100000 in
theorem rPut_ok (g n c pos size x B : Nat) (L : List Nat) (w : World) (ho : OwnB w B (.slice (some ⟨g, 0, none⟩) n c) L) (hn : n ≤ 1000000) (h1 : 1 ≤ size) (h8 : size ≤ 8) (h2 : pos + size ≤ n) (hL : n ≤ L.length) (hx : x < 256 ^ size) (hx64 : x < 18446744073709551616) :
    Calls Tryz.prog 82 #[.slice (some ⟨g, 0, none⟩) n c, .int .i64 (pos : Int), .int .i64 (size : Int), .int .u64 (x : Int)] w fun e w' => e = .returned (.int .i64 0) ∧ OwnB w' B (.slice (some ⟨g, 0, none⟩) n c) (wrote L pos x size) ∧ Keep (fun k => k = g) w w' := by
  have HO : Hid (OwnB w B (.slice (some ⟨g, 0, none⟩) n c) L) := ho
  clear ho
  by_cases hs8 : size < 8
  · have hs := shl_pow size hs8
    obtain ⟨q, hq⟩ : ∃ q, q = 256 ^ size := ⟨_, rfl⟩
    rw [← hq] at hs hx
    have g1 : (size : Int) < 8 := by omega
    have g2 : decide ((q : Int) ≤ (x : Int)) = false := by simp; omega
    clear hq
    go_enter Tryz.func82, Tryz.ntmps82
    go_wp2_with fail
    refine (place_yes n pos size w hn h1 h8 h2).mono ?_
    rintro e w' ⟨rfl, rfl⟩
    go_wp2_with fail
    go_loopw [3, 9] (fun y i ws => ∃ k : Nat, i = .int .i64 (k : Int) ∧ k ≤ size ∧ y = .int .u64 ((x / 256 ^ k : Nat) : Int) ∧ OwnB ws B (.slice (some ⟨g, 0, none⟩) n c) (wrote L pos x k) ∧ Keep (fun k => k = g) w' ws) (fun _ i _ => size - (intOf i).toNat)
    case atStart => exact ⟨0, rfl, Nat.zero_le _, by simp, HO.out, Keep.refl _ _⟩
    case round =>
      obtain ⟨k, rfl, hk, rfl, hown, hkeep⟩ := hrel
      by_cases hlt : k < size
      · have gk : (k : Int) < (size : Int) := by omega
        have hin : pos + k < (ints (wrote L pos x k)).length := by simp; omega
        have hfz := Owns.frozen hown (pos + k)
        obtain ⟨b1, off1, hab, _, hcell⟩ := Seen.at (Owns.seen_at hown) hin
        simp only [Option.some.injEq, Addr.mk.injEq] at hab
        obtain ⟨rfl, rfl, _⟩ := hab
        rw [Nat.zero_add] at hcell
        generalize (ints (wrote L pos x k))[pos + k] = old at *
        obtain ⟨y, hy⟩ : ∃ y, y = QK.byteOf x k := ⟨_, rfl⟩
        have hpk : (256 : Nat) ^ k = 2 ^ (8 * k) := by rw [Nat.pow_mul]
        have hqs : x / 256 ^ k / 256 = x / 256 ^ (k + 1) := by rw [Nat.div_div_eq_div_mul, Nat.pow_succ]
        have e1 : IntKind.u8.wrap ((x / 256 ^ k : Nat) : Int) = (y : Int) := by
          rw [IntKind.wrap_u8, hy, hpk]
          unfold QK.byteOf
          simp
        have hst := Owns.stored hown (pos + k) (y : Int)
        rw [← ints_set'] at hst
        have HS : Hid (OwnB (wr.setCell ⟨g, pos + k, none⟩ (.int .u8 (y : Int))) B (.slice (some ⟨g, 0, none⟩) n c) (wrote L pos x (k + 1))) := by unfold Hid; rw [wrote, ← hy]; exact hst
        have HK : Hid (Keep (fun k => k = g) w' (wr.setCell ⟨g, pos + k, none⟩ (.int .u8 (y : Int)))) := hkeep.setCell (fun _ => rfl) _
        have HQ : Hid (x / 256 ^ k / 256 = x / 256 ^ (k + 1)) := hqs
        have hbnd : x / 256 ^ k < 18446744073709551616 := Nat.lt_of_le_of_lt (Nat.div_le_self _ _) hx64
        clear hst hy hown hkeep hin hpk hqs
        generalize x / 256 ^ k = z at *
        go_wp2_with fail
        go_roundw
        case rel => exact ⟨k + 1, by go_num, by omega, by rw [← HQ.out]; go_num, HS.out, HK.out⟩
        case measure => simp [intOf]; omega
      · obtain rfl : k = size := by omega
        go_wp2_with fail
        go_ret
        exact ⟨rfl, hown, hkeep⟩
  · have g1 : decide ((size : Int) < 8) = false := by simp; omega
    go_enter Tryz.func82, Tryz.ntmps82
    go_wp2_with fail
    refine (place_yes n pos size w hn h1 h8 h2).mono ?_
    rintro e w' ⟨rfl, rfl⟩
    go_wp2_with fail
    go_loopw [3, 9] (fun y i ws => ∃ k : Nat, i = .int .i64 (k : Int) ∧ k ≤ size ∧ y = .int .u64 ((x / 256 ^ k : Nat) : Int) ∧ OwnB ws B (.slice (some ⟨g, 0, none⟩) n c) (wrote L pos x k) ∧ Keep (fun k => k = g) w' ws) (fun _ i _ => size - (intOf i).toNat)
    case atStart => exact ⟨0, rfl, Nat.zero_le _, by simp, HO.out, Keep.refl _ _⟩
    case round =>
      obtain ⟨k, rfl, hk, rfl, hown, hkeep⟩ := hrel
      by_cases hlt : k < size
      · have gk : (k : Int) < (size : Int) := by omega
        have hin : pos + k < (ints (wrote L pos x k)).length := by simp; omega
        have hfz := Owns.frozen hown (pos + k)
        obtain ⟨b1, off1, hab, _, hcell⟩ := Seen.at (Owns.seen_at hown) hin
        simp only [Option.some.injEq, Addr.mk.injEq] at hab
        obtain ⟨rfl, rfl, _⟩ := hab
        rw [Nat.zero_add] at hcell
        generalize (ints (wrote L pos x k))[pos + k] = old at *
        obtain ⟨y, hy⟩ : ∃ y, y = QK.byteOf x k := ⟨_, rfl⟩
        have hpk : (256 : Nat) ^ k = 2 ^ (8 * k) := by rw [Nat.pow_mul]
        have hqs : x / 256 ^ k / 256 = x / 256 ^ (k + 1) := by rw [Nat.div_div_eq_div_mul, Nat.pow_succ]
        have e1 : IntKind.u8.wrap ((x / 256 ^ k : Nat) : Int) = (y : Int) := by
          rw [IntKind.wrap_u8, hy, hpk]
          unfold QK.byteOf
          simp
        have hst := Owns.stored hown (pos + k) (y : Int)
        rw [← ints_set'] at hst
        have HS : Hid (OwnB (wr.setCell ⟨g, pos + k, none⟩ (.int .u8 (y : Int))) B (.slice (some ⟨g, 0, none⟩) n c) (wrote L pos x (k + 1))) := by unfold Hid; rw [wrote, ← hy]; exact hst
        have HK : Hid (Keep (fun k => k = g) w' (wr.setCell ⟨g, pos + k, none⟩ (.int .u8 (y : Int)))) := hkeep.setCell (fun _ => rfl) _
        have HQ : Hid (x / 256 ^ k / 256 = x / 256 ^ (k + 1)) := hqs
        have hbnd : x / 256 ^ k < 18446744073709551616 := Nat.lt_of_le_of_lt (Nat.div_le_self _ _) hx64
        clear hst hy hown hkeep hin hpk hqs
        generalize x / 256 ^ k = z at *
        go_wp2_with fail
        go_roundw
        case rel => exact ⟨k + 1, by go_num, by omega, by rw [← HQ.out]; go_num, HS.out, HK.out⟩
        case measure => simp [intOf]; omega
      · obtain rfl : k = size := by omega
        go_wp2_with fail
        go_ret
        exact ⟨rfl, hown, hkeep⟩

theorem fromB_drop (l : List Nat) (i : Nat) (h : i < l.length) : fromB (l.drop i) = l.getD i 0 + 256 * fromB (l.drop (i + 1)) := by
  rw [List.drop_eq_getElem_cons h, fromB]
  simp [h]
theorem fromB_drop_le (l : List Nat) (i : Nat) : fromB (l.drop i) ≤ fromB l := by
  have h := fromB_append (l.take i) (l.drop i)
  rw [List.take_append_drop] at h
  have : 1 * fromB (l.drop i) ≤ 256 ^ (l.take i).length * fromB (l.drop i) := Nat.mul_le_mul_right _ (Nat.pow_pos (by decide))
  omega

set_option maxHeartbeats 2000000 in
set_option maxRecDepth 100000 in
theorem rGet_ok (a : Option Addr) (c pos size : Nat) (l : List Nat) (w : World) (hs : Bytes w a l) (hb : AllB l) (hn : l.length ≤ 1000000) (h1 : 1 ≤ size) (h8 : size ≤ 8) (h2 : pos + size ≤ l.length) :
    Calls Tryz.prog 100 #[.slice a l.length c, .int .i64 (pos : Int), .int .i64 (size : Int)] w fun e w' => e = .returned (.tuple #[.int .u64 ((fromB ((l.drop pos).take size) : Nat) : Int), .int .i64 0]) ∧ w' = w := by
  obtain ⟨b, off, rfl, hbl, _⟩ := hs.at (i := pos) (by omega)
  have hcells : ∀ k, k < size → w.cell? ⟨b, off + (pos + k), none⟩ = some (.int .u8 ((((l.drop pos).take size).getD k 0 : Nat) : Int)) := by
    intro k hk
    obtain ⟨b1, off1, hab, _, hc⟩ := Bytes.at hs (i := pos + k) (by omega)
    simp only [Option.some.injEq, Addr.mk.injEq] at hab
    obtain ⟨rfl, rfl, _⟩ := hab
    rw [hc]
    simp [hk, List.getElem?_drop]
  have hml : ((l.drop pos).take size).length = size := by simp; omega
  have hmb : AllB ((l.drop pos).take size) := (hb.drop _).take _
  generalize (l.drop pos).take size = m at *
  have hfl := fromB_lt m hmb
  rw [hml] at hfl
  have hf8 : 256 ^ size ≤ 256 ^ 8 := Nat.pow_le_pow_right (by decide) h8
  have hc8 : (256 : Nat) ^ 8 = 18446744073709551616 := by decide
  have hd0 : fromB (m.drop size) = 0 := by rw [List.drop_of_length_le (by omega)]; rfl
  have HC : Hid (∀ k, k < size → w.cell? ⟨b, off + (pos + k), none⟩ = some (.int .u8 ((m.getD k 0 : Nat) : Int))) := hcells
  clear hcells hs
  generalize l.length = n at *
  go_enter Tryz.func100, Tryz.ntmps100
  go_wp2_with fail
  refine (place_yes n pos size w hn h1 h8 h2).mono ?_
  rintro e w' ⟨rfl, rfl⟩
  go_wp2_with fail
  go_loopw [8, 9] (fun y i ws => ∃ t : Nat, t ≤ size ∧ i = .int .i64 ((t : Int) - 1) ∧ y = .int .u64 ((fromB (m.drop t) : Nat) : Int) ∧ ws = w') (fun _ i _ => (intOf i + 1).toNat)
  case atStart => exact ⟨size, Nat.le_refl _, by go_num, by rw [hd0]; rfl, rfl⟩
  case round =>
    obtain ⟨t, ht, rfl, rfl, rfl⟩ := hrel
    by_cases ht0 : 0 < t
    · obtain ⟨q, rfl⟩ : ∃ q, t = q + 1 := ⟨t - 1, by omega⟩
      have ei : (((q + 1 : Nat) : Int) - 1) = (q : Int) := by omega
      rw [ei]
      have hcq := HC.out q (by omega)
      have hst := fromB_drop m q (by omega)
      have hle := fromB_drop_le m q
      have hxq := hmb.get q
      generalize m.getD q 0 = y at *
      generalize fromB (m.drop (q + 1)) = d1 at *
      generalize hd : fromB (m.drop q) = d0 at *
      have r1 : IntKind.u64.wrap ((d1 : Int) * 256) = (d1 : Int) * 256 := by rw [IntKind.wrap_u64]; omega
      have r2 : IntKind.u64.wrap (y : Int) = (y : Int) := by rw [IntKind.wrap_u64]; omega
      have r3 : IntKind.u64.wrap ((d1 : Int) * 256 + (y : Int)) = (d0 : Int) := by rw [IntKind.wrap_u64]; omega
      have hq0 : ¬ (q : Int) < 0 := by omega
      have hqm : (pos : Int) + (q : Int) < (n : Int) := by omega
      have hqn : pos + q < n := by omega
      clear ei hst
      go_wp2_with fail
      go_roundw
      case rel => exact ⟨q, by omega, by go_num, by rw [hd], trivial⟩
      case measure => simp [intOf]
    · obtain rfl : t = 0 := by omega
      rw [List.drop_zero]
      go_wp2_with fail
      exact bodyPost_ret (v := .tuple #[.int .u64 ((fromB m : Nat) : Int), .int .i64 0]) (by simp [results, Tryz.results100, go_sem]) rfl ⟨rfl, rfl⟩
end Go.Proofs.YtapjbgkmcplpbaaGreat
