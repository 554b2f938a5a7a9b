import Derived.Test.YtakjpljpdlhicabDoorPg8
namespace Go.Proofs.YtakjpljpdlhicabDoor
open Go.RowKit Go.QK Go.Pg
set_option maxRecDepth 100000

/-- 1024 bytes, whatever they are. -/
def Buf (w : World) (B g : Nat) : Prop := ∃ xs : List Int, xs.length = 1024 ∧ (∀ x ∈ xs, 0 ≤ x ∧ x < 256) ∧ Owns .u8 5 w B (.slice (some ⟨g, 0, none⟩) 1024 1024) xs
theorem Buf.below {w w' : World} {B g : Nat} (h : Buf w B g) (k : Below w.heap.size w w') : Buf w' B g := by
  obtain ⟨xs, h1, h2, h3⟩ := h
  exact ⟨xs, h1, h2, h3.below k⟩
theorem Buf.put {w : World} {B g : Nat} (h : Buf w B g) (j : Nat) (z : Int) (hz : 0 ≤ z ∧ z < 256) : Buf (w.setCell ⟨g, j, none⟩ (.int .u8 z)) B g := by
  obtain ⟨xs, h1, h2, h3⟩ := h
  refine ⟨xs.set j z, by simpa using h1, fun x hx => ?_, h3.stored j z⟩
  rcases List.mem_or_eq_of_mem_set hx with q | q
  · exact h2 x q
  · rw [q]; exact hz
theorem Buf.cell {w : World} {B g : Nat} (h : Buf w B g) (j : Nat) (hj : j < 1024) : ∃ z, w.cell? ⟨g, j, none⟩ = some (.int .u8 z) := by
  obtain ⟨xs, h1, h2, h3⟩ := h
  obtain ⟨b, o, q, _, hc⟩ := Seen.at (Owns.seen_at h3) (i := j) (by omega)
  cases q
  rw [Nat.zero_add] at hc
  exact ⟨_, hc⟩
theorem Buf.frozen {w : World} {B g : Nat} (h : Buf w B g) (j : Nat) : w.frozen? ⟨g, j, none⟩ = false := by
  obtain ⟨xs, h1, h2, h3⟩ := h
  exact Owns.frozen h3 j
theorem Buf.lt {w : World} {B g : Nat} (h : Buf w B g) : B ≤ g ∧ g < w.heap.size := by
  obtain ⟨xs, h1, h2, h3⟩ := h
  exact World.ownsRow.lt h3 g rfl
theorem Buf.bytes {w : World} {B g : Nat} (h : Buf w B g) : ∃ l : List Nat, l.length = 1024 ∧ AllB l ∧ Bytes w (some ⟨g, 0, none⟩) l := by
  obtain ⟨xs, h1, h2, h3⟩ := h
  have e : ints (xs.map Int.toNat) = xs := by
    unfold ints
    rw [List.map_map]
    conv => rhs; rw [← List.map_id xs]
    apply List.map_congr_left
    intro x hx
    have := h2 x hx
    simp
    omega
  refine ⟨xs.map Int.toNat, by simpa using h1, fun x hx => ?_, ?_⟩
  · obtain ⟨y, hy, rfl⟩ := List.mem_map.1 hx
    have := h2 y hy
    omega
  · have := Owns.seen_at h3
    unfold Bytes
    rw [e]
    exact this
theorem u8_in (z : Int) : 0 ≤ IntKind.u8.wrap z ∧ IntKind.u8.wrap z < 256 := by
  rw [IntKind.wrap_u8]
  omega

set_option maxHeartbeats 2000000 in
theorem rput_any (g : Nat) (p n z : Int) (pn nn : Nat) (hp : p = pn) (hn : n = nn) (h : pn + nn ≤ 1024) (h8 : nn ≤ 8) (B : Nat) (w : World) (hb : Buf w B g) :
    Calls Tryd.prog 11 #[.slice (some ⟨g, 0, none⟩) 1024 1024, .int .i64 p, .int .i64 n, .int .u64 z] w fun r w' => r = .returned (.tuple #[]) ∧ Buf w' B g ∧ Keep (fun x => x = g) w w' := by
  subst hp hn
  have HB := hide hb
  clear hb
  go_enter Tryd.func11, Tryd.ntmps11
  go_wp2_with fail
  go_loopw [8] (fun i wr => ∃ k : Nat, k ≤ nn ∧ i = .int .i64 k ∧ Buf wr B g ∧ Keep (fun x => x = g) w wr) (fun i _ => nn - (intOf i).toNat)
  case atStart => exact ⟨0, Nat.zero_le _, rfl, HB.out, Keep.refl _ _⟩
  case round =>
    clear HB
    obtain ⟨k, hk, rfl, hb, hkp⟩ := hrel
    have HB := hide hb
    have HK := hide hkp
    clear hb hkp
    by_cases q : k < nn
    · obtain ⟨zo, y0⟩ := HB.out.cell (pn + k) (by omega)
      have f0 := HB.out.frozen (pn + k)
      have hw1 : IntKind.i64.wrap ((pn : Int) + (k : Int)) = ((pn + k : Nat) : Int) := by rw [IntKind.wrap_i64]; omega
      have hw2 : IntKind.i64.wrap (8 * (k : Int)) = ((8 * k : Nat) : Int) := by rw [IntKind.wrap_i64]; omega
      have hw3 : IntKind.u64.wrap ((8 * k : Nat) : Int) = ((8 * k : Nat) : Int) := by rw [IntKind.wrap_u64]; omega
      go_wp2_with fail
      go_roundw
      case rel => exact ⟨k + 1, by omega, by go_num, HB.out.put _ _ (u8_in _), HK.out.setCell (fun _ => rfl) _⟩
      case measure => simp [intOf]; omega
    · go_wp2_with fail
      go_end0
      exact ⟨rfl, HB.out, HK.out⟩
end Go.Proofs.YtakjpljpdlhicabDoor
