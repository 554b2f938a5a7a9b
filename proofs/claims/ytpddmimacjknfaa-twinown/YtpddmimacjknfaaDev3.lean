import Derived.Deep.DeepCutAuto
import Derived.Test.YtpddmimacjknfaaDev2
import Derived.Test.YtpddmimacjknfaaCopy
namespace Go.Proofs.Ytpddmimacjknfaa
open Go.RowKit Go.QK

theorem splice_ints (img : List Nat) (o : Nat) (cs : List Nat) : ints (splice img o cs) = splice (ints img) o (ints cs) := splice_map _ _ _ _
def pendV (s k c : Nat) : Value := .agg #[.int .i64 (s : Int), .slice (some ⟨k, 0, none⟩) 512 c]

set_option maxHeartbeats 1000000 in
set_option maxRecDepth 100000 in
theorem land_at {w : World} {d ib ic k c s n : Nat} {img b : List Nat} (c0 : w.cell? ⟨d, 0, none⟩ = some (.slice (some ⟨ib, 0, none⟩) img.length ic)) (hd : d < w.heap.size) (hi : OwnB w 0 (.slice (some ⟨ib, 0, none⟩) img.length ic) img)
    (hb : Bytes w (some ⟨k, 0, none⟩) b) (hbl : b.length = 512) (hbc : 512 ≤ c) (hs : 512 * s + 512 ≤ img.length) (hm : img.length ≤ 4194304) (hn : n ≤ 512) :
    Calls Try.prog 80 #[.pointer (some ⟨d, 0, none⟩), .agg #[.int .i64 (s : Int), .slice (some ⟨k, 0, none⟩) 512 c], .int .i64 (n : Int)] w fun e w' => (∃ v, e = .returned v) ∧ OwnB w' 0 (.slice (some ⟨ib, 0, none⟩) img.length ic) (lay img s b n) ∧ Keep (fun j => j = ib) w w' := by
  obtain ⟨a, cap, hv, hsn, ha, hle, hmx⟩ := hi.seen
  rw [ints_length] at hle hv
  cases hv
  clear hmx hsn
  have hib : ib < w.heap.size := (World.ownsRow.lt hi ib rfl).2
  have B0 := alloc_below w (.cells #[.int .i64 (s : Int), .slice (some ⟨k, 0, none⟩) 512 c] 102)
  have k0 : (w.alloc (.cells #[.int .i64 (s : Int), .slice (some ⟨k, 0, none⟩) 512 c] 102)).cell? ⟨w.heap.size, 0, none⟩ = some (.int .i64 (s : Int)) := by rw [World.cell?_alloc_new]; rfl
  have k1 : (w.alloc (.cells #[.int .i64 (s : Int), .slice (some ⟨k, 0, none⟩) 512 c] 102)).cell? ⟨w.heap.size, 1, none⟩ = some (.slice (some ⟨k, 0, none⟩) 512 c) := by rw [World.cell?_alloc_new]; rfl
  have K0 := ((B0.cell (p := ⟨d, 0, none⟩) hd).trans c0 : (w.alloc (.cells #[.int .i64 (s : Int), .slice (some ⟨k, 0, none⟩) 512 c] 102)).drew.cell? ⟨d, 0, none⟩ = _)
  have OI := hide ((Owns.below hi B0.drew : OwnB (w.alloc (.cells #[.int .i64 (s : Int), .slice (some ⟨k, 0, none⟩) 512 c] 102)).drew 0 _ img))
  have BS := hide ((Seen.below (hb.take n) B0.drew : Bytes (w.alloc (.cells #[.int .i64 (s : Int), .slice (some ⟨k, 0, none⟩) 512 c] 102)).drew _ (b.take n)))
  have hnc : n ≤ c := by omega
  clear c0 hi hb ha
  go_enter Try.func80, Try.ntmps80
  go_upto_region 1 with fail
  refine wp_region_held_drew (S := fun wq => wq.cell? ⟨w.heap.size, 0, none⟩ = some (.int .i64 (s : Int)) ∧ wq.cell? ⟨w.heap.size, 1, none⟩ = some (.slice (some ⟨k, 0, none⟩) 512 c)) (by kernel_rfl) ⟨k0, k1⟩ (fun hS => ?_)
  refine take_at 0 (some 6) (v := ?_) rfl rfl (by kernel_rfl) (by kernel_rfl) (by kernel_rfl) (fun _ _ _ h => h) ⟨by rfl, ?_⟩ hS ?_
  rotate_left
  · intro wq hSw; (try dsimp only at hSw); go_simp; try rfl
  simp only [Act.put, List.setIfInBounds_toArray, List.set_cons_zero, List.set_cons_succ]
  refine take_at 1 (some 7) (v := ?_) rfl rfl (by kernel_rfl) (by kernel_rfl) (by kernel_rfl) (fun _ _ _ h => h) ⟨by rfl, ?_⟩ hS ?_
  rotate_left
  · intro wq hSw; (try dsimp only at hSw); go_simp; try rfl
  simp only [Act.put, List.setIfInBounds_toArray, List.set_cons_zero, List.set_cons_succ]
  refine take_at 2 (some 8) (v := ?_) rfl rfl (by kernel_rfl) (by kernel_rfl) (by kernel_rfl) (fun _ _ _ h => h) ⟨by rfl, ?_⟩ hS ?_
  rotate_left
  · intro wq hSw; (try dsimp only at hSw); go_simp; try rfl
  simp only [Act.put, List.setIfInBounds_toArray, List.set_cons_zero, List.set_cons_succ]
  refine take_at 4 (some 10) (v := ?_) rfl rfl (by kernel_rfl) (by kernel_rfl) (by kernel_rfl) (fun _ _ _ h => h) ⟨by rfl, ?_⟩ hS ?_
  rotate_left
  · intro wq hSw; (try dsimp only at hSw); go_simp; try rfl
  simp only [Act.put, List.setIfInBounds_toArray, List.set_cons_zero, List.set_cons_succ]
  refine take_at 5 (some 11) (v := ?_) rfl rfl (by kernel_rfl) (by kernel_rfl) (by kernel_rfl) (fun _ _ _ h => h) ⟨by rfl, ?_⟩ hS ?_
  rotate_left
  · intro wq hSw; (try dsimp only at hSw); go_simp; try rfl
  simp only [Act.put, List.setIfInBounds_toArray, List.set_cons_zero, List.set_cons_succ]
  refine take_at 6 (some 12) (v := ?_) rfl rfl (by kernel_rfl) (by kernel_rfl) (by kernel_rfl) (fun _ _ _ h => h) ⟨by rfl, ?_⟩ hS ?_
  rotate_left
  · intro wq hSw; (try dsimp only at hSw); go_simp; try rfl
  simp only [Act.put, List.setIfInBounds_toArray, List.set_cons_zero, List.set_cons_succ]
  refine take_at 7 (some 13) (v := ?_) rfl rfl (by kernel_rfl) (by kernel_rfl) (by kernel_rfl) (fun _ _ _ h => h) ⟨by rfl, ?_⟩ hS ?_
  rotate_left
  · intro wq hSw; (try dsimp only at hSw); go_simp; try rfl
  simp only [Act.put, List.setIfInBounds_toArray, List.set_cons_zero, List.set_cons_succ]
  refine wpAnyH_ready (rs := [3]) (by kernel_rfl) (by simp) ?_
  refine AllReadyH.cons rfl (fun K hK => ?_) AllReadyH.nil
  go_simp
  go_wp2_with fail
  refine (durable_at s (by exact K0) hs hle hm).mono ?_
  rintro e w1 ⟨rfl, rfl⟩
  go_wp2_with fail
  refine hK.out _ _ hS (fun _ => ?_)
  clear hK K
  refine wpAnyH_ready (rs := [8]) (by kernel_rfl) (by simp) ?_
  refine AllReadyH.cons rfl (fun K hK => ?_) AllReadyH.nil
  refine wp_copy (k := .u8) rfl (.tmp 9) (.tmp 13) 22 22 5 rfl Try.underlying22 (by kernel_rfl) 0 ib img.length ic (512 * s) 512 (ic - 512 * s) (ints img) OI.out ⟨k, 0, none⟩ n c (ints (b.take n)) rfl rfl BS.out (by simp [hbl]) (by simp; omega) ?_
  intro w2 o2 k2
  have hsp := hide (splice_ints img (512 * s) (b.take n))
  refine hK.out _ _ ⟨(k2.cell (p := ⟨w.heap.size, 0, none⟩) (by simp) (by simp; omega)).trans hS.1, (k2.cell (p := ⟨w.heap.size, 1, none⟩) (by simp) (by simp; omega)).trans hS.2⟩ (fun _ => ?_)
  clear hK K
  refine wpAnyH_done (by kernel_rfl) ?_ _
  go_wp2_with fail
  go_end0
  refine ⟨⟨_, rfl⟩, ?_, ?_⟩
  · unfold lay OwnB
    rw [hsp.out]
    have hl : img.length = (ints img).length := by simp
    exact o2
  · exact (Keep.of_below B0).trans (Keep.undrew k2) (fun _ _ q => q)
end Go.Proofs.Ytpddmimacjknfaa
