import Derived.Test.YtcnlcmdppkdmmaaEc7
import Derived.Shelf.Sort.Plain
import Derived.Sort.OwnSortedInts
import Derived.Shelf.SlMaps.Clone
namespace Go.Proofs.Ytcnlcmdppkdmmaa
open Go.RowKit Go.QK Quota Go.Maps Go.Shelf
set_option maxRecDepth 100000

/-! The library's sort of numbers, at this program's numbers. -/
def renF : Nat → Nat
  | 189 => 38
  | 125 => 56
  | 257 => 55
  | 128 => 76
  | 129 => 77
  | 294 => 67
  | 295 => 68
  | 296 => 69
  | 297 => 70
  | 298 => 71
  | 299 => 72
  | 216 => 73
  | 300 => 74
  | 301 => 75
  | 328 => 80
  | 329 => 81
  | 330 => 82
  | 331 => 83
  | 332 => 84
  | 215 => 85
  | 343 => 86
  | n => n
def renT : Nat → Nat
  | 28 => 36
  | 3 => 3
  | 46 => 54
  | 0 => 0
  | 51 => 120
  | 53 => 104
  | 4 => 4
  | 183 => 112
  | 182 => 111
  | 131 => 117
  | 5 => 5
  | 9 => 9
  | 218 => 125
  | 222 => 129
  | 228 => 131
  | 229 => 132
  | n => n
def renS : Ren := { f := renF, t := renT, g := fun n => n }
theorem laysS : Lays.n189 Try.prog renS :=
  { mixed := by kernel_rfl,
    f125 := Try.func56.trans (congrArg some (by kernel_rfl)),
    f128 := Try.func76.trans (congrArg some (by kernel_rfl)),
    f129 := Try.func77.trans (congrArg some (by kernel_rfl)),
    f189 := Try.func38.trans (congrArg some (by kernel_rfl)),
    f215 := Try.func85.trans (congrArg some (by kernel_rfl)),
    f216 := Try.func73.trans (congrArg some (by kernel_rfl)),
    f257 := Try.func55.trans (congrArg some (by kernel_rfl)),
    f294 := Try.func67.trans (congrArg some (by kernel_rfl)),
    f295 := Try.func68.trans (congrArg some (by kernel_rfl)),
    f296 := Try.func69.trans (congrArg some (by kernel_rfl)),
    f297 := Try.func70.trans (congrArg some (by kernel_rfl)),
    f298 := Try.func71.trans (congrArg some (by kernel_rfl)),
    f299 := Try.func72.trans (congrArg some (by kernel_rfl)),
    f300 := Try.func74.trans (congrArg some (by kernel_rfl)),
    f301 := Try.func75.trans (congrArg some (by kernel_rfl)),
    f328 := Try.func80.trans (congrArg some (by kernel_rfl)),
    f329 := Try.func81.trans (congrArg some (by kernel_rfl)),
    f330 := Try.func82.trans (congrArg some (by kernel_rfl)),
    f331 := Try.func83.trans (congrArg some (by kernel_rfl)),
    f332 := Try.func84.trans (congrArg some (by kernel_rfl)),
    f343 := Try.func86.trans (congrArg some (by kernel_rfl)),
    t0 := Try.underlying0, a0 := Try.isAgg0, z0 := Try.sizeOf0, v0 := Try.zeroValue0, t3 := Try.underlying3, a3 := Try.isAgg3, z3 := Try.sizeOf3, v3 := Try.zeroValue3, t4 := Try.underlying4, a4 := Try.isAgg4, z4 := Try.sizeOf4, v4 := Try.zeroValue4, t5 := Try.underlying5, a5 := Try.isAgg5, z5 := Try.sizeOf5, v5 := Try.zeroValue5, t9 := Try.underlying9, a9 := Try.isAgg9, z9 := Try.sizeOf9, v9 := Try.zeroValue9, t28 := Try.underlying36, a28 := Try.isAgg36, z28 := Try.sizeOf36, v28 := Try.zeroValue36, t46 := Try.underlying54, a46 := Try.isAgg54, z46 := Try.sizeOf54, v46 := Try.zeroValue54, t51 := Try.underlying120, a51 := Try.isAgg120, z51 := Try.sizeOf120, v51 := Try.zeroValue120, t53 := Try.underlying104, a53 := Try.isAgg104, z53 := Try.sizeOf104, v53 := Try.zeroValue104, t131 := Try.underlying117, a131 := Try.isAgg117, z131 := Try.sizeOf117, v131 := Try.zeroValue117, t182 := Try.underlying111, a182 := Try.isAgg111, z182 := Try.sizeOf111, v182 := Try.zeroValue111, t183 := Try.underlying112, a183 := Try.isAgg112, z183 := Try.sizeOf112, v183 := Try.zeroValue112, t218 := Try.underlying125, a218 := Try.isAgg125, z218 := Try.sizeOf125, v218 := Try.zeroValue125, t222 := Try.underlying129, a222 := Try.isAgg129, z222 := Try.sizeOf129, v222 := Try.zeroValue129, t228 := Try.underlying131, a228 := Try.isAgg131, z228 := Try.sizeOf131, v228 := Try.zeroValue131, t229 := Try.underlying132, a229 := Try.isAgg132, z229 := Try.sizeOf132, v229 := Try.zeroValue132 }

theorem sort_any (B : Nat) (v : Value) (ks : List Int) (w : World) (h : Owns .i64 3 w B v ks) (hn : v.ownBlock ≠ none) (hl : ks.length < 4611686018427387904) :
    Calls Try.prog 38 #[v] w fun r w' => r = .returned (.tuple #[]) ∧ Owns .i64 3 w' B v (ks.mergeSort fun x y => decide (x ≤ y)) ∧ Keep (fun x => v.ownBlock = some x) w w' := by
  have hlt := World.ownsRow.lt h
  rcases h.2 with ⟨q, _⟩ | ⟨g, cap, cur, q, hB, hg, h1, h2, h3, h4⟩
  · rw [q] at hn; exact absurd rfl hn
  · subst q
    have hgl := (hlt g rfl).2
    have hH := holds_of_blockI (ss := ks) hg (by simpa using h4)
    have K := Any.slices_Sort_int laysS g 0 cap ks w hH hgl hl
    refine K.mono ?_
    rintro r w' ⟨rfl, n, os, rfl⟩
    refine ⟨rfl, ?_, ?_⟩
    · have := ownsRow_sortedI (n := n) (os := os) (ts := ks.mergeSort fun x y => decide (x ≤ y)) (by simp) hB hg h1 h2 h3
      unfold Owns
      rw [List.length_mergeSort]
      exact this
    · exact (Keep.refl _ w).grown (grownBy_sortedI _) (fun g' hg' _ => by cases hg'; rfl)

set_option maxHeartbeats 2000000 in
theorem clone_any (m : Nat) (L : Nets) (w : World) (h : MapAt w m L) :
    Calls Try.prog 39 #[.map (some m)] w fun r w' => r = .returned (.map (some w.heap.size)) ∧ MapAt w' w.heap.size L ∧ Below w.heap.size w w' := by
  obtain ⟨es, clock, hb, F, hs, hD⟩ := h
  have hq := fun w => run_eql_map_nil_sl (P := Try.prog) w 77 _ _ (some m) Try.underlying77
  have hz : w.heap[w.heap.size]? = none := by simp
  go_enter Try.func39, Try.ntmps39
  go_wp2
  rw [run_callFunc_extern Try.func57 (by kernel_rfl) (by kernel_rfl) (by kernel_rfl) (e := Extern.MapsClone.clone) (by kernel_rfl), run_maps_clone_sl w 77 hb]
  simp only [Result.andThen]
  rw [Oper.upon_value]
  go_wp2
  rw [run_typeAssert_map_sl _ 77 20 _ _ _ Try.underlying77]
  simp only [Result.andThen]
  rw [Oper.upon_value]
  go_wp2
  go_ret
  exact ⟨rfl, ⟨es, clock, (MapKept.heap_alloc w _).1, F, hs, hD⟩, (Below.refl _ _).alloc (Nat.le_refl _) _⟩

set_option maxHeartbeats 2000000 in
theorem copy_any (b m : Nat) (e : Esc) (w : World) (h : PE w b m e) :
    Calls Try.prog 15 #[ptr b] w fun r w' => ∃ b' m', r = .returned (ptr b') ∧ PE w' b' m' e ∧ w.heap.size ≤ b' ∧ w.heap.size ≤ m' ∧ Below w.heap.size w w' := by
  have k0 := h.c0
  have k1 := h.c1
  have k2 := h.c2
  have k3 := h.c3
  have k4 := h.c4
  have k5 := h.c5
  have hbl := h.lt.1
  have hbn : b ≠ w.heap.size := by omega
  have HP := hide h
  clear h
  go_enter Try.func15, Try.ntmps15
  go_wp2_with fail
  have o1 := (Below.refl w.heap.size w).alloc (Nat.le_refl _) (.cells (escC e m).toArray 79)
  refine (clone_any m e.nets _ (HP.out.map.below o1)).mono ?_
  rintro r w1 ⟨rfl, hm, hb1⟩
  have C1 := (Cells.new w (escC e m).toArray 79).below hb1
  have HM : Hid (MapAt w1 (w.heap.size + 1) e.nets) := hide (by simpa using hm)
  have HB := hide (below1 hb1)
  have s1 := hb1.size
  simp at s1
  clear hm hb1 o1 k0 k1 k2 k3 k4 k5
  obtain ⟨y5, x5⟩ := C1.get 5 _ rfl
  have HC := hide C1
  clear C1
  go_wp2_with fail
  go_ret
  refine ⟨w.heap.size, w.heap.size + 1, rfl, ⟨?_, ?_, HP.out.ok⟩, Nat.le_refl _, by omega, HB.out.setCell (Nat.le_refl _) _⟩
  · have := HC.out.stored (j := 5) (by simp [escC]) (.map (some (w.heap.size + 1)))
    simpa [escC] using this
  · exact HM.out.keep ((Keep.refl (fun x => x = w.heap.size) w1).setCell (g := w.heap.size) (fun _ => rfl) _) (by simp)
end Go.Proofs.Ytcnlcmdppkdmmaa
