import Derived.Test.YtakjpljpdlhicaaDoorPg33
set_option linter.all false
namespace Go.Proofs.YtakjpljpdlhicaaDoor
open Go.RowKit Go.QK Go.Pg
set_option maxRecDepth 100000
/-! The document's own writing: a number's bytes; a page's first fault. -/
set_option maxHeartbeats 4000000 in
theorem rput_any (g N cN off size x B : Nat) (L : List Nat) (w : World) (ho : OwnB w B (.slice (some ⟨g, 0, none⟩) N cN) L) (hn : N ≤ 1000000) (h8 : size ≤ 8) (hL : off + size ≤ L.length) (hx : x < 18446744073709551616) :
    Calls Tryd.prog 38 #[.slice (some ⟨g, 0, none⟩) N cN, .int .i64 (off : Int), .int .i64 (size : Int), .int .u64 (x : Int)] w fun e w' => e = .returned (.tuple #[]) ∧ OwnB w' B (.slice (some ⟨g, 0, none⟩) N cN) (wrote L off x size) ∧ Keep (fun k => k = g) w w' := by
  have hNL : N = L.length := by have := Owns.len ho; simpa using this
  have HNL := hide hNL
  clear hNL
  go_enter Tryd.func38, Tryd.ntmps38
  go_wp2_with fail
  go_loopw [8] (fun i ws => ∃ k : Nat, i = .int .i64 (k : Int) ∧ k ≤ size ∧ OwnB ws B (.slice (some ⟨g, 0, none⟩) N cN) (wrote L off x k) ∧ Keep (fun k => k = g) w ws) (fun i _ => size - (intOf i).toNat)
  case atStart => exact ⟨0, rfl, Nat.zero_le _, ho, Keep.refl _ _⟩
  case round =>
    obtain ⟨k, rfl, hk, hown, hkeep⟩ := hrel
    by_cases hlt : k < size
    · have hin : off + k < (ints (wrote L off x k)).length := by simp; omega
      have hfz := Owns.frozen hown (off + k)
      obtain ⟨b1, off1, hab, _, hcell⟩ := Seen.at (Owns.seen_at hown) hin
      simp only [Option.some.injEq, Addr.mk.injEq] at hab
      obtain ⟨rfl, rfl, _⟩ := hab
      rw [Nat.zero_add] at hcell
      generalize (ints (wrote L off x k))[off + k] = old at *
      obtain ⟨y, hy⟩ : ∃ y, y = QK.byteOf x k := ⟨_, rfl⟩
      have e0 : IntKind.u64.wrap (8 * (k : Int)) = 8 * (k : Int) := by rw [IntKind.wrap_u64]; omega
      have e1 : IntKind.u8.wrap ((x : Int) / 2 ^ (8 * k)) = (y : Int) := by
        rw [IntKind.wrap_u8, div_cast, hy]
        unfold QK.byteOf
        simp
      have e2 : (8 * (k : Int)).toNat = 8 * k := by omega
      have e3 : (8 * (k : Int)) < 64 := by omega
      have dk : decide ((k : Int) < (size : Int)) = true := decide_eq_true (by omega)
      have bk : (off : Int) + (k : Int) < (N : Int) := by have := HNL.out; omega
      have hst := Owns.stored hown (off + k) (y : Int)
      rw [← ints_set] at hst
      have HS : Hid (OwnB (wr.setCell ⟨g, off + k, none⟩ (.int .u8 (y : Int))) B (.slice (some ⟨g, 0, none⟩) N cN) (wrote L off x (k + 1))) := by unfold Hid; rw [wrote, ← hy]; exact hst
      have HK : Hid (Keep (fun k => k = g) w (wr.setCell ⟨g, off + k, none⟩ (.int .u8 (y : Int)))) := hkeep.setCell (fun _ => rfl) _
      clear hst hy hown hkeep hin ho
      go_wp2_with fail
      go_roundw
      case rel => exact ⟨k + 1, by go_num, by omega, HS.out, HK.out⟩
      case measure => simp [intOf]; omega
    · obtain rfl : k = size := by omega
      have dk : decide ((k : Int) < (k : Int)) = false := decide_eq_false (by omega)
      clear ho
      go_wp2_with fail
      go_end0
      exact ⟨rfl, hown, hkeep⟩
end Go.Proofs.YtakjpljpdlhicaaDoor
