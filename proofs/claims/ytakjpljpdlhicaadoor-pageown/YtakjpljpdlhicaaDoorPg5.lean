import Derived.Test.YtakjpljpdlhicaaDoorPg4
import Derived.Deep.DeepCutAuto
import Derived.Laws.MakeOwn
import Derived.Laws.OwnMore
import Derived.BigRegion
namespace Go.Proofs.YtakjpljpdlhicaaDoor
open Go.RowKit Go.QK Go.Pg
set_option maxRecDepth 100000

theorem info5 : (Tryd.prog.info? 5).map (fun i => (i.zero, i.size, i.bytes)) = some (some (.int .u8 0), 1, 1) := by kernel_rfl
/-- 'make([]byte, n)'. -/
theorem makeB (w : World) (n : Nat) (hn : n ≤ 5000000) : ∃ w1, (Instr.makeSlice 22 (.int .i64 (n : Int)) (.int .i64 (n : Int))).run Tryd.prog w = .ok (.slice (some ⟨w.heap.size, 0, none⟩) n n) w1 ∧
    OwnB w1 w.heap.size (.slice (some ⟨w.heap.size, 0, none⟩) n n) (zs n) ∧ Below w.heap.size w w1 ∧ w.heap.size < w1.heap.size := by
  obtain ⟨i0, hi, hz0, hz1, hz2⟩ := info_of info5
  obtain ⟨w1, h1, h2, h3⟩ := run_makeSlice_full (P := Tryd.prog) (w := w) w.heap.size 22 5 i0 (.int .u8 0) 1 Tryd.underlying22 hi hz0 hz1 .i64 .i64 n (by omega) (by rw [hz2]; omega) (by unfold maxLen; omega) (Nat.le_refl _)
  refine ⟨w1, h1, ?_, (Below.refl _ _).grown h3 (Nat.le_refl _) (by nofun), (World.ownsRow.lt h2 _ rfl).2⟩
  have e : (madeCells (Value.cells (.int .u8 0)) (n * 1)).toList = (ints (zs n)).map (Value.int .u8) := by
    simp only [madeCells, Value.cells, ints, Nat.mul_one, zs]
    apply List.ext_getElem
    · simp
    · intro i _ _
      simp [Nat.mod_one]
  unfold OwnB Owns
  rw [← e]
  simpa using h2
def Part (w : World) (p : Value × List Nat) : Prop := ∃ ai ci, p.1 = .slice ai p.2.length ci ∧ Bytes w ai p.2 ∧ AllB p.2 ∧ p.2.length ≤ maxLen
theorem Part.below {w w' : World} {p : Value × List Nat} (h : Part w p) (k : Below w.heap.size w w') : Part w' p := by
  obtain ⟨ai, ci, h1, h2, h3⟩ := h
  exact ⟨ai, ci, h1, Seen.below h2 k, h3⟩
theorem Parts.lit (w : World) (ps : List (Value × List Nat)) (h : ∀ p ∈ ps, Part w p) : Parts (w.alloc (.cells (ps.map (·.1)).toArray 22)) (some ⟨w.heap.size, 0, none⟩) ps := by
  refine .inr ⟨w.heap.size, 0, rfl, by simp, fun i hi => ⟨?_, ?_⟩⟩
  · rw [Nat.zero_add, World.cell?_alloc_new]
    simp [hi]
  · exact (h _ (List.getElem_mem hi)).below (alloc_below _ _)

set_option maxHeartbeats 2000000 in
theorem sumOf_any (a : Option Addr) (c : Nat) (l : List Nat) (w : World) (hs : Bytes w a l) (hb : AllB l) (hl : l.length = 1024) (hc : 1024 ≤ c) (ht : Tab w) :
    Calls Tryd.prog 28 #[.slice a 1024 c] w fun e w' => e = .returned (.int .u32 ((psum l : Nat) : Int)) ∧ Below w.heap.size w w' := by
  have sl1 : ∀ w, (Instr.slice 22 (.slice a 1024 c) none (some (.int .i64 12)) none).run Tryd.prog w = .ok (.slice a 12 c) w := by
    intro w
    go_simp
    all_goals (intro q; omega)
  have sl2 : ∀ w, (Instr.slice 22 (.slice a 1024 c) (some (.int .i64 16)) none none).run Tryd.prog w = .ok (.slice (dropA a c 16) 1008 (c - 16)) w := fun w => slice_from (P := Tryd.prog) Tryd.underlying22 (fun _ => rfl) a 1024 c 16 w (by omega) (by omega)
  have hdr := hs.drop (cap := c) 16 (by omega)
  have htk := hs.take 12
  generalize dropA a c 16 = an at *
  obtain ⟨w1, m1, o1, b1, z1⟩ := makeB w.drew 4 (by decide)
  have m1 : (Instr.makeSlice 22 (.int .i64 4) (.int .i64 4)).run Tryd.prog w.drew = .ok (.slice (some ⟨w.drew.heap.size, 0, none⟩) 4 4) w1 := m1
  have hbw : Below w.heap.size w w.drew := (Below.refl _ _).drew
  have bw1 : Below w.heap.size w w1 := hbw.trans b1
  have P1 := hide (show Parts (w1.alloc (.cells #[.slice a 12 c, .slice (some ⟨w.drew.heap.size, 0, none⟩) 4 4, .slice an 1008 (c - 16)] 22)) (some ⟨w1.heap.size, 0, none⟩) [(.slice a 12 c, l.take 12), (.slice (some ⟨w.drew.heap.size, 0, none⟩) 4 4, zs 4), (.slice an 1008 (c - 16), l.drop 16)] from by
    refine Parts.lit w1 [(.slice a 12 c, l.take 12), (.slice (some ⟨w.drew.heap.size, 0, none⟩) 4 4, zs 4), (.slice an 1008 (c - 16), l.drop 16)] ?_
    intro p hp
    simp at hp
    rcases hp with rfl | rfl | rfl
    · exact ⟨a, c, by simp [hl], htk.below bw1, hb.take _, by simp [maxLen, hl]⟩
    · exact ⟨_, 4, by simp, Owns.seen_at o1, zs_bytes 4, by simp [maxLen]⟩
    · exact ⟨an, c - 16, by simp [hl], hdr.below bw1, hb.drop _, by simp [maxLen, hl]⟩)
  have T1 := hide (ht.below bw1)
  have BW := hide bw1
  have hj : joined [(.slice a 12 c, l.take 12), (.slice (some ⟨w.drew.heap.size, 0, none⟩) 4 4, zs 4), (.slice an 1008 (c - 16), l.drop 16)] = hollow l := by simp [joined, hollow]
  have HJ := hide hj
  have HB := hide (hollow_bytes hb)
  clear o1 b1 hbw bw1 hj hdr htk
  go_enter Tryd.func28, Tryd.ntmps28
  go_upto_region 1 with fail
  refine wp_region_held_drew (S := fun _ => True) (by kernel_rfl) trivial (fun hS => ?_)
  refine take_at 0 (some 3) (v := ?_) rfl rfl (by kernel_rfl) (by kernel_rfl) (by kernel_rfl) (fun _ _ _ h => h) ⟨by rfl, ?_⟩ hS ?_
  rotate_left
  · intro wq hSw; go_simp; try rfl
  simp only [Act.put, List.setIfInBounds_toArray, List.set_cons_zero, List.set_cons_succ]
  refine take_at 3 (some 6) (v := ?_) rfl rfl (by kernel_rfl) (by kernel_rfl) (by kernel_rfl) (fun _ _ _ h => h) ⟨by rfl, ?_⟩ hS ?_
  rotate_left
  · intro wq hSw; go_simp; try rfl
  simp only [Act.put, List.setIfInBounds_toArray, List.set_cons_zero, List.set_cons_succ]
  refine take_at 1 (some 4) (v := ?_) rfl rfl (by kernel_rfl) (by kernel_rfl) (by kernel_rfl) (fun _ _ _ h => h) ⟨by rfl, ?_⟩ hS ?_
  rotate_left
  · intro wq hSw; go_simp; try rfl
  simp only [Act.put, List.setIfInBounds_toArray, List.set_cons_zero, List.set_cons_succ]
  refine take_at 4 (some 7) (v := ?_) rfl rfl (by kernel_rfl) (by kernel_rfl) (by kernel_rfl) (fun _ _ _ h => h) ⟨by rfl, ?_⟩ hS ?_
  rotate_left
  · intro wq hSw; go_simp; try rfl
  simp only [Act.put, List.setIfInBounds_toArray, List.set_cons_zero, List.set_cons_succ]
  refine wpAnyH_ready (rs := [2]) (by kernel_rfl) (by simp) ?_
  refine AllReadyH.cons rfl (fun K hK => ?_) AllReadyH.nil
  go_simp
  go_wp2_with fail
  refine hK.out _ _ trivial (fun hS => ?_)
  clear hK K
  (try simp only [Act.put, List.setIfInBounds_toArray, List.set_cons_zero, List.set_cons_succ])
  refine wpAnyH_ready (rs := [5]) (by kernel_rfl) (by simp) ?_
  refine AllReadyH.cons rfl (fun K hK => ?_) AllReadyH.nil
  go_simp
  go_wp2_with fail
  refine hK.out _ _ trivial (fun hS => ?_)
  clear hK K
  (try simp only [Act.put, List.setIfInBounds_toArray, List.set_cons_zero, List.set_cons_succ])
  refine wpAnyH_ready (rs := [6]) (by kernel_rfl) (by simp) ?_
  refine AllReadyH.cons rfl (fun K hK => ?_) AllReadyH.nil
  go_simp
  go_wp2_with fail
  refine (sum_any [(.slice a 12 c, l.take 12), (.slice (some ⟨w.drew.heap.size, 0, none⟩) 4 4, zs 4), (.slice an 1008 (c - 16), l.drop 16)] _ 3 _ (T1.out.below (alloc_below _ _)) P1.out (by unfold maxLen; simp) (by rw [HJ.out]; exact HB.out)).mono ?_
  rintro e w4 ⟨rfl, rfl⟩
  rw [HJ.out]
  go_wp2_with fail
  refine hK.out _ _ trivial (fun hS => ?_)
  clear hK K
  (try simp only [Act.put, List.setIfInBounds_toArray, List.set_cons_zero, List.set_cons_succ])
  refine take_at 7 (some 2) (v := ?_) rfl rfl (by kernel_rfl) (by kernel_rfl) (by kernel_rfl) (fun _ _ _ h => h) ⟨by rfl, ?_⟩ hS ?_
  rotate_left
  · intro wq hSw; go_simp; try rfl
  simp only [Act.put, List.setIfInBounds_toArray, List.set_cons_zero, List.set_cons_succ]
  refine wpAnyH_done (by kernel_rfl) ?_ _
  go_wp2_with fail
  go_ret
  exact ⟨rfl, bnext BW.out (alloc_below _ _) (Nat.le_refl _)⟩
end Go.Proofs.YtakjpljpdlhicaaDoor
