import Derived.Test.YtapjbgkmcplpbaaGreatG12
import Derived.Test.YtapjbgkmcplpbaaGreatSlot
import Derived.Deep.WholeRow
import Derived.LaidEql
namespace Go.QK
open Go.RowKit

/-! Arrays of bytes: a block of their own, and by value. -/
def bytesV (L : List Nat) : Array Value := ((ints L).map (Value.int .u8)).toArray
@[simp] theorem bytesV_size (L : List Nat) : (bytesV L).size = L.length := by simp [bytesV]
/-- The array L lies at block g. -/
def Arr (w : World) (t : TypeId) (g : Nat) (L : List Nat) : Prop := w.heap[g]? = some (.cells (bytesV L) t)
section
variable {w w' : World} {t : TypeId} {g : Nat} {L : List Nat} {S : Nat → Prop}
theorem Arr.lt (h : Arr w t g L) : g < w.heap.size := (Array.getElem?_eq_some_iff.1 h).1
theorem Arr.keep (h : Arr w t g L) (hk : Keep S w w') (hn : ¬ S g) : Arr w' t g L := (hk.block g h.lt hn).trans h
theorem Arr.below (h : Arr w t g L) (hk : Below w.heap.size w w') : Arr w' t g L := (hk.block g h.lt).trans h
theorem Arr.new (w : World) (t : TypeId) (L : List Nat) : Arr (w.alloc (.cells (bytesV L) t)) t w.heap.size L := heap_alloc_last w _
theorem Arr.cell (h : Arr w t g L) (i : Nat) (hi : i < L.length) : w.cell? ⟨g, i, none⟩ = some (.int .u8 ((L.getD i 0 : Nat) : Int)) := by
  rw [cell_of_row w g i _ t (0, 0) h]
  simp [bytesV, ints, hi]
theorem Arr.frozen (h : Arr w t g L) (i : Nat) : w.frozen? ⟨g, i, none⟩ = false := by
  have h' : w.heap[g]? = some (.cells (bytesV L) t (0, 0)) := h
  simp [World.frozen?, h']
theorem Arr.seen (h : Arr w t g L) : Bytes w (some ⟨g, 0, none⟩) L := by
  refine .inr ⟨g, 0, rfl, h.lt, fun i hi => ?_⟩
  rw [Nat.zero_add, h.cell i (by simpa using hi), ints_getD]
theorem Arr.set (h : Arr w t g L) (i y : Nat) : Arr (w.setCell ⟨g, i, none⟩ (.int .u8 (y : Int))) t g (L.set i y) := by
  have h' : w.heap[g]? = some (.cells (bytesV L) t (0, 0)) := h
  unfold Arr
  have e : bytesV (L.set i y) = (bytesV L).setIfInBounds i (.int .u8 (y : Int)) := by
    simp [bytesV, ints_set', List.map_set]
  rw [e]
  simp [World.setCell, Array.getElem?_modify, h']
end
end Go.QK

namespace Go.Proofs.YtapjbgkmcplpbaaGreat
open Go.RowKit Go.QK

/-! Package field: Put and Get. -/
theorem or_join_u64 (n x k : Nat) (hn : n < 2 ^ k) (h : n + 2 ^ k * x < 18446744073709551616) : bits .or .u64 (n : Int) ((2 ^ k * x : Nat) : Int) = ((n + 2 ^ k * x : Nat) : Int) := by
  rw [bits_or_u64_nat _ _ (by omega) (by omega), Nat.or_comm, ← Nat.two_pow_add_eq_or_of_lt hn, Nat.add_comm]
theorem slice_mid (b off n c pos size : Nat) (w : World) (h1 : 1 ≤ size) (h2 : pos + size ≤ n) (h3 : n ≤ c) :
    (Instr.slice 34 (.slice (some ⟨b, off, none⟩) n c) (some (.int .i64 (pos : Int))) (some (.int .i64 ((pos : Int) + (size : Int)))) none).run Tryz.prog w = .ok (.slice (some ⟨b, off + pos, none⟩) size (c - pos)) w := by
  have q' : ¬ pos = c := by omega
  have e : ((pos : Int) + (size : Int)).toNat = pos + size := by omega
  have e2 : pos + size - pos = size := by omega
  go_simp
  rw [if_pos (by omega), if_neg (by omega)]


set_option maxHeartbeats 1000000 in
set_option maxRecDepth 100000 in
theorem placeOf_ok (b off n c pos size : Nat) (w : World) (hn : n ≤ 1000000) (h1 : 1 ≤ size) (h8 : size ≤ 8) (h2 : pos + size ≤ n) (h3 : n ≤ c) :
    Calls Tryz.prog 101 #[.slice (some ⟨b, off, none⟩) n c, .int .i64 (pos : Int), .int .i64 (size : Int)] w fun e w' => e = .returned (.tuple #[.slice (some ⟨b, off + pos, none⟩) size (c - pos), .int .i64 0]) ∧ w' = w := by
  have sl := fun w => slice_mid b off n c pos size w h1 h2 h3
  have g1 : ¬ (size : Int) < 1 := by omega
  have g2 : ¬ (8 : Int) < (size : Int) := by omega
  have g3 : ¬ (pos : Int) < 0 := by omega
  have g4 : ¬ (n : Int) - (size : Int) < (pos : Int) := by omega
  go_enter Tryz.func101, Tryz.ntmps101
  go_wp2_with fail
  all_goals first
    | (exfalso; simp at *; omega)
    | (refine bodyPost_ret (v := .tuple #[.slice (some ⟨b, off + pos, none⟩) size (c - pos), .int .i64 0]) (by simp [results, Tryz.results101, go_sem]) rfl ⟨rfl, rfl⟩)


theorem div_cast (x k : Nat) : (x : Int) / 2 ^ k = ((x / 2 ^ k : Nat) : Int) := by simp

set_option maxHeartbeats 1000000 in
set_option maxRecDepth 100000 in
theorem put_ok (t : TypeId) (g n c pos size x : Nat) (L : List Nat) (w : World) (ho : Arr w t g L) (hn : n ≤ 1000000) (h1 : 1 ≤ size) (h8 : size ≤ 8) (h2 : pos + size ≤ n) (h3 : n ≤ c) (hL : n ≤ L.length) (hx : x < 256 ^ size) :
    Calls Tryz.prog 97 #[.slice (some ⟨g, 0, none⟩) n c, .int .i64 (pos : Int), .int .i64 (size : Int), .int .u64 (x : Int)] w fun e w' => e = .returned (.int .i64 0) ∧ Arr w' t g (wrote L pos x size) ∧ Keep (fun k => k = g) w w' := by
  have hq : x / 2 ^ (8 * size) = 0 := by
    rw [Nat.pow_mul]
    exact Nat.div_eq_of_lt hx
  have hd : ((x : Int) / 2 ^ (8 * size) != 0) = false := by rw [div_cast, hq]; rfl
  have hp := placeOf_ok g 0 n c pos size w hn h1 h8 h2 h3
  rw [Nat.zero_add] at hp
  clear hq hx
  go_enter Tryz.func97, Tryz.ntmps97
  go_wp2_with fail
  refine hp.mono ?_
  rintro e w' ⟨rfl, rfl⟩
  clear hp
  go_wp2_with fail
  go_loopw [29] (fun i ws => ∃ k : Nat, i = .int .i64 (k : Int) ∧ k ≤ size ∧ Arr ws t g (wrote L pos x k) ∧ Keep (fun k => k = g) w' ws) (fun i _ => size - (intOf i).toNat)
  case atStart => exact ⟨0, rfl, Nat.zero_le _, ho, Keep.refl _ _⟩
  case round =>
    obtain ⟨k, rfl, hk, hown, hkeep⟩ := hrel
    by_cases hlt : k < size
    · have hfz := hown.frozen (pos + k)
      have hcell := hown.cell (pos + k) (by simp; omega)
      generalize (((wrote L pos x k).getD (pos + k) 0 : Nat) : Int) = old at *
      obtain ⟨y, hy⟩ : ∃ y, y = QK.byteOf x k := ⟨_, rfl⟩
      have e1 : IntKind.u8.wrap ((x : Int) / 2 ^ (8 * k)) = (y : Int) := by
        rw [IntKind.wrap_u8, div_cast, hy]
        unfold QK.byteOf
        simp
      have hst := hown.set (pos + k) y
      have HS : Hid (Arr (wr.setCell ⟨g, pos + k, none⟩ (.int .u8 (y : Int))) t g (wrote L pos x (k + 1))) := by unfold Hid; rw [wrote, ← hy]; exact hst
      have HK : Hid (Keep (fun k => k = g) w' (wr.setCell ⟨g, pos + k, none⟩ (.int .u8 (y : Int)))) := hkeep.setCell (fun _ => rfl) _
      clear hst hy hown hkeep
      go_wp2_with fail
      go_roundw
      case rel => exact ⟨k + 1, by go_num, by omega, HS.out, HK.out⟩
      case measure => simp [intOf]; omega
    · obtain rfl : k = size := by omega
      go_wp2_with fail
      go_ret
      exact ⟨rfl, hown, hkeep⟩


set_option maxHeartbeats 1000000 in
set_option maxRecDepth 100000 in
theorem get_ok (a : Option Addr) (c pos size : Nat) (l : List Nat) (w : World) (hs : Bytes w a l) (hb : AllB l) (hn : l.length ≤ 1000000) (h1 : 1 ≤ size) (h8 : size ≤ 8) (h2 : pos + size ≤ l.length) (h3 : l.length ≤ c) :
    Calls Tryz.prog 99 #[.slice a l.length c, .int .i64 (pos : Int), .int .i64 (size : Int)] w fun e w' => e = .returned (.tuple #[.int .u64 ((fromB ((l.drop pos).take size) : Nat) : Int), .int .i64 0]) ∧ w' = w := by
  obtain ⟨b, off, rfl, hbl, _⟩ := hs.at (i := pos) (by omega)
  have hp := placeOf_ok b off l.length c pos size w hn h1 h8 h2 h3
  have hcells : ∀ k, k < size → w.cell? ⟨b, off + pos + k, none⟩ = some (.int .u8 ((((l.drop pos).take size).getD k 0 : Nat) : Int)) := by
    intro k hk
    obtain ⟨b1, off1, hab, _, hc⟩ := hs.at (i := pos + k) (by omega)
    simp only [Option.some.injEq, Addr.mk.injEq] at hab
    obtain ⟨rfl, rfl, _⟩ := hab
    rw [← Nat.add_assoc] at hc
    rw [hc]
    simp [hk, List.getElem?_drop]
  have hml : ((l.drop pos).take size).length = size := by simp; omega
  have hmb : AllB ((l.drop pos).take size) := (hb.drop _).take _
  generalize (l.drop pos).take size = m at *
  have hfl := fromB_lt m hmb
  rw [hml] at hfl
  have hf8 : 256 ^ size ≤ 256 ^ 8 := Nat.pow_le_pow_right (by decide) h8
  have hc8 : (256 : Nat) ^ 8 = 18446744073709551616 := by decide
  go_enter Tryz.func99, Tryz.ntmps99
  go_wp2_with fail
  refine hp.mono ?_
  rintro e w' ⟨rfl, rfl⟩
  clear hp
  go_wp2_with fail
  go_loopw [10, 25] (fun x i ws => ∃ k : Nat, i = .int .i64 (k : Int) ∧ k ≤ size ∧ x = .int .u64 ((fromB (m.take k) : Nat) : Int) ∧ ws = w') (fun _ i _ => size - (intOf i).toNat)
  case atStart => exact ⟨0, rfl, Nat.zero_le _, rfl, rfl⟩
  case round =>
    obtain ⟨k, rfl, hk, rfl, rfl⟩ := hrel
    by_cases hlt : k < size
    · have hcell := hcells k hlt
      have hx := hmb.get k
      have hstep := fromB_take_succ m k (by omega)
      have hlow := fromB_lt (m.take k) (hmb.take _)
      rw [List.length_take, Nat.min_eq_left (by omega)] at hlow
      have hbound : fromB (m.take (k + 1)) ≤ fromB m := by
        have := fromB_append (m.take (k + 1)) (m.drop (k + 1))
        rw [List.take_append_drop] at this
        omega
      generalize m.getD k 0 = x at *
      generalize fromB (m.take k) = n at *
      generalize hN : fromB (m.take (k + 1)) = n1 at *
      have e2 : IntKind.u64.wrap (x : Int) = (x : Int) := by rw [IntKind.wrap_u64]; omega
      have hpw : (256 : Nat) ^ k = 2 ^ (8 * k) := by rw [Nat.pow_mul]
      rw [hpw] at hlow hstep
      have e3 : bits .or .u64 (n : Int) (IntKind.u64.wrap ((x : Int) * 2 ^ (8 * k))) = (n1 : Int) := by
        have q : ((x : Int) * 2 ^ (8 * k)) = ((2 ^ (8 * k) * x : Nat) : Int) := by
          rw [Int.natCast_mul, Int.mul_comm]
          simp
        rw [q, hstep, ← or_join_u64 n x (8 * k) hlow (by omega), IntKind.wrap_u64]
        congr 1
        omega
      have E3 : Hid _ := e3
      clear e3 hcells
      go_wp2_with fail
      refine ⟨⟨k + 1, by go_num, by omega, ?_, trivial⟩, by simp [intOf]; omega⟩
      rw [E3.out, hN]
    · obtain rfl : k = size := by omega
      have ht : m.take k = m := List.take_of_length_le (by omega)
      rw [ht]
      go_wp2_with fail
      exact bodyPost_ret (v := .tuple #[.int .u64 ((fromB m : Nat) : Int), .int .i64 0]) (by simp [results, Tryz.results99, go_sem]) rfl ⟨rfl, rfl⟩


end Go.Proofs.YtapjbgkmcplpbaaGreat
