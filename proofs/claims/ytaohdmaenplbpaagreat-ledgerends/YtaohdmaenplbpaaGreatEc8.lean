import Derived.Test.YtaohdmaenplbpaaGreatEc7
import Derived.Shelf.Sort.Plain
import Derived.Sort.OwnSortedInts
import Derived.Shelf.SlMaps.Clone
namespace Go.Proofs.YtaohdmaenplbpaaGreat
open Go.RowKit Go.QK Quota Go.Maps Go.Shelf
set_option maxRecDepth 100000

/-! The library's sort of numbers, at this program's numbers. -/
def renF : Nat → Nat
  | 189 => 55
  | 125 => 90
  | 257 => 91
  | 128 => 119
  | 129 => 120
  | 294 => 121
  | 295 => 122
  | 296 => 123
  | 297 => 124
  | 298 => 125
  | 299 => 126
  | 216 => 127
  | 300 => 128
  | 301 => 129
  | 328 => 149
  | 329 => 145
  | 330 => 146
  | 331 => 150
  | 332 => 151
  | 215 => 152
  | 343 => 158
  | n => n
def renT : Nat → Nat
  | 28 => 117
  | 3 => 3
  | 46 => 130
  | 0 => 0
  | 51 => 191
  | 53 => 193
  | 4 => 4
  | 183 => 184
  | 182 => 183
  | 131 => 188
  | 5 => 5
  | 9 => 9
  | 218 => 214
  | 222 => 218
  | 228 => 226
  | 229 => 227
  | n => n
def renS : Ren := { f := renF, t := renT, g := fun n => n }
theorem laysS : Lays.n189 Tryz.prog renS :=
  { mixed := by kernel_rfl,
    f125 := Tryz.func90.trans (congrArg some (by kernel_rfl)),
    f128 := Tryz.func119.trans (congrArg some (by kernel_rfl)),
    f129 := Tryz.func120.trans (congrArg some (by kernel_rfl)),
    f189 := Tryz.func55.trans (congrArg some (by kernel_rfl)),
    f215 := Tryz.func152.trans (congrArg some (by kernel_rfl)),
    f216 := Tryz.func127.trans (congrArg some (by kernel_rfl)),
    f257 := Tryz.func91.trans (congrArg some (by kernel_rfl)),
    f294 := Tryz.func121.trans (congrArg some (by kernel_rfl)),
    f295 := Tryz.func122.trans (congrArg some (by kernel_rfl)),
    f296 := Tryz.func123.trans (congrArg some (by kernel_rfl)),
    f297 := Tryz.func124.trans (congrArg some (by kernel_rfl)),
    f298 := Tryz.func125.trans (congrArg some (by kernel_rfl)),
    f299 := Tryz.func126.trans (congrArg some (by kernel_rfl)),
    f300 := Tryz.func128.trans (congrArg some (by kernel_rfl)),
    f301 := Tryz.func129.trans (congrArg some (by kernel_rfl)),
    f328 := Tryz.func149.trans (congrArg some (by kernel_rfl)),
    f329 := Tryz.func145.trans (congrArg some (by kernel_rfl)),
    f330 := Tryz.func146.trans (congrArg some (by kernel_rfl)),
    f331 := Tryz.func150.trans (congrArg some (by kernel_rfl)),
    f332 := Tryz.func151.trans (congrArg some (by kernel_rfl)),
    f343 := Tryz.func158.trans (congrArg some (by kernel_rfl)),
    t0 := Tryz.underlying0, a0 := Tryz.isAgg0, z0 := Tryz.sizeOf0, v0 := Tryz.zeroValue0, t3 := Tryz.underlying3, a3 := Tryz.isAgg3, z3 := Tryz.sizeOf3, v3 := Tryz.zeroValue3, t4 := Tryz.underlying4, a4 := Tryz.isAgg4, z4 := Tryz.sizeOf4, v4 := Tryz.zeroValue4, t5 := Tryz.underlying5, a5 := Tryz.isAgg5, z5 := Tryz.sizeOf5, v5 := Tryz.zeroValue5, t9 := Tryz.underlying9, a9 := Tryz.isAgg9, z9 := Tryz.sizeOf9, v9 := Tryz.zeroValue9, t28 := Tryz.underlying117, a28 := Tryz.isAgg117, z28 := Tryz.sizeOf117, v28 := Tryz.zeroValue117, t46 := Tryz.underlying130, a46 := Tryz.isAgg130, z46 := Tryz.sizeOf130, v46 := Tryz.zeroValue130, t51 := Tryz.underlying191, a51 := Tryz.isAgg191, z51 := Tryz.sizeOf191, v51 := Tryz.zeroValue191, t53 := Tryz.underlying193, a53 := Tryz.isAgg193, z53 := Tryz.sizeOf193, v53 := Tryz.zeroValue193, t131 := Tryz.underlying188, a131 := Tryz.isAgg188, z131 := Tryz.sizeOf188, v131 := Tryz.zeroValue188, t182 := Tryz.underlying183, a182 := Tryz.isAgg183, z182 := Tryz.sizeOf183, v182 := Tryz.zeroValue183, t183 := Tryz.underlying184, a183 := Tryz.isAgg184, z183 := Tryz.sizeOf184, v183 := Tryz.zeroValue184, t218 := Tryz.underlying214, a218 := Tryz.isAgg214, z218 := Tryz.sizeOf214, v218 := Tryz.zeroValue214, t222 := Tryz.underlying218, a222 := Tryz.isAgg218, z222 := Tryz.sizeOf218, v222 := Tryz.zeroValue218, t228 := Tryz.underlying226, a228 := Tryz.isAgg226, z228 := Tryz.sizeOf226, v228 := Tryz.zeroValue226, t229 := Tryz.underlying227, a229 := Tryz.isAgg227, z229 := Tryz.sizeOf227, v229 := Tryz.zeroValue227 }

theorem sort_any (B : Nat) (v : Value) (ks : List Int) (w : World) (h : Owns .i64 3 w B v ks) (hn : v.ownBlock ≠ none) (hl : ks.length < 4611686018427387904) :
    Calls Tryz.prog 55 #[v] w fun r w' => r = .returned (.tuple #[]) ∧ Owns .i64 3 w' B v (ks.mergeSort fun x y => decide (x ≤ y)) ∧ Keep (fun x => v.ownBlock = some x) w w' := by
  have hlt := World.ownsRow.lt h
  rcases h.2 with ⟨q, _⟩ | ⟨g, cap, cur, q, hB, hg, h1, h2, h3, h4⟩
  · rw [q] at hn; exact absurd rfl hn
  · subst q
    have hgl := (hlt g rfl).2
    have hH := holds_of_blockI (ss := ks) hg (by simpa using h4)
    have K := Any.slices_Sort_int laysS g 0 cap ks w hH hgl hl
    refine K.mono ?_
    rintro r w' ⟨rfl, n, os, rfl⟩
    refine ⟨rfl, ?_, ?_⟩
    · have := ownsRow_sortedI (n := n) (os := os) (ts := ks.mergeSort fun x y => decide (x ≤ y)) (by simp) hB hg h1 h2 h3
      unfold Owns
      rw [List.length_mergeSort]
      exact this
    · exact (Keep.refl _ w).grown (grownBy_sortedI _) (fun g' hg' _ => by cases hg'; rfl)

set_option maxHeartbeats 2000000 in
theorem clone_any (m : Nat) (L : Nets) (w : World) (h : MapAt w m L) :
    Calls Tryz.prog 93 #[.map (some m)] w fun r w' => r = .returned (.map (some w.heap.size)) ∧ MapAt w' w.heap.size L ∧ Below w.heap.size w w' := by
  obtain ⟨es, clock, hb, F, hs, hD⟩ := h
  have hq := fun w => run_eql_map_nil_sl (P := Tryz.prog) w 114 _ _ (some m) Tryz.underlying114
  have hz : w.heap[w.heap.size]? = none := by simp
  go_enter Tryz.func93, Tryz.ntmps93
  go_wp2
  rw [run_callFunc_extern Tryz.func130 (by kernel_rfl) (by kernel_rfl) (by kernel_rfl) (e := Extern.MapsClone.clone) (by kernel_rfl), run_maps_clone_sl w 114 hb]
  simp only [Result.andThen]
  rw [Oper.upon_value]
  go_wp2
  rw [run_typeAssert_map_sl _ 114 20 _ _ _ Tryz.underlying114]
  simp only [Result.andThen]
  rw [Oper.upon_value]
  go_wp2
  go_ret
  exact ⟨rfl, ⟨es, clock, (MapKept.heap_alloc w _).1, F, hs, hD⟩, (Below.refl _ _).alloc (Nat.le_refl _) _⟩

set_option maxHeartbeats 2000000 in
theorem copy_any (b m : Nat) (e : Esc) (w : World) (h : PE w b m e) :
    Calls Tryz.prog 57 #[ptr b] w fun r w' => ∃ b' m', r = .returned (ptr b') ∧ PE w' b' m' e ∧ w.heap.size ≤ b' ∧ w.heap.size ≤ m' ∧ Below w.heap.size w w' := by
  have k0 := h.c0
  have k1 := h.c1
  have k2 := h.c2
  have k3 := h.c3
  have k4 := h.c4
  have k5 := h.c5
  have hbl := h.lt.1
  have hbn : b ≠ w.heap.size := by omega
  have HP := hide h
  clear h
  go_enter Tryz.func57, Tryz.ntmps57
  go_wp2_with fail
  have o1 := (Below.refl w.heap.size w).alloc (Nat.le_refl _) (.cells (escC e m).toArray 116)
  refine (clone_any m e.nets _ (HP.out.map.below o1)).mono ?_
  rintro r w1 ⟨rfl, hm, hb1⟩
  have C1 := (Cells.new w (escC e m).toArray 116).below hb1
  have HM : Hid (MapAt w1 (w.heap.size + 1) e.nets) := hide (by simpa using hm)
  have HB := hide (below1 hb1)
  have s1 := hb1.size
  simp at s1
  clear hm hb1 o1 k0 k1 k2 k3 k4 k5
  obtain ⟨y5, x5⟩ := C1.get 5 _ rfl
  have HC := hide C1
  clear C1
  go_wp2_with fail
  go_ret
  refine ⟨w.heap.size, w.heap.size + 1, rfl, ⟨?_, ?_, HP.out.ok⟩, Nat.le_refl _, by omega, HB.out.setCell (Nat.le_refl _) _⟩
  · have := HC.out.stored (j := 5) (by simp [escC]) (.map (some (w.heap.size + 1)))
    simpa [escC] using this
  · exact HM.out.keep ((Keep.refl (fun x => x = w.heap.size) w1).setCell (g := w.heap.size) (fun _ => rfl) _) (by simp)
end Go.Proofs.YtaohdmaenplbpaaGreat
