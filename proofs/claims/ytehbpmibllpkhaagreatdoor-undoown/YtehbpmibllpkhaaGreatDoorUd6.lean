import Derived.Test.YtehbpmibllpkhaaGreatDoorUd5
import Derived.Shelf.Sort.Plain
import Derived.Sort.OwnSortedInts
set_option linter.all false
namespace Go.Proofs.YtehbpmibllpkhaaGreatDoor
open Go.RowKit Go.QK Go.Maps Go.QM Go.QU Go.Shelf
set_option maxRecDepth 100000
/-! The library's sort of numbers, at this program's numbers. -/
def renF : Nat → Nat
  | 189 => 51
  | 125 => 71
  | 257 => 70
  | 128 => 112
  | 129 => 113
  | 294 => 103
  | 295 => 104
  | 296 => 105
  | 297 => 106
  | 298 => 107
  | 299 => 108
  | 216 => 109
  | 300 => 110
  | 301 => 111
  | 328 => 148
  | 329 => 149
  | 330 => 150
  | 331 => 151
  | 332 => 152
  | 215 => 153
  | 343 => 188
  | n => n
def renT : Nat → Nat
  | 28 => 35
  | 3 => 3
  | 46 => 99
  | 0 => 0
  | 51 => 213
  | 53 => 215
  | 4 => 4
  | 183 => 205
  | 182 => 204
  | 131 => 210
  | 5 => 5
  | 9 => 9
  | 218 => 262
  | 222 => 266
  | 228 => 302
  | 229 => 303
  | n => n
def renS : Ren := { f := renF, t := renT, g := fun n => n }
theorem laysS : Lays.n189 Tryz.prog renS :=
  { mixed := by kernel_rfl,
    f125 := Tryz.func71.trans (congrArg some (by kernel_rfl)),
    f128 := Tryz.func112.trans (congrArg some (by kernel_rfl)),
    f129 := Tryz.func113.trans (congrArg some (by kernel_rfl)),
    f189 := Tryz.func51.trans (congrArg some (by kernel_rfl)),
    f215 := Tryz.func153.trans (congrArg some (by kernel_rfl)),
    f216 := Tryz.func109.trans (congrArg some (by kernel_rfl)),
    f257 := Tryz.func70.trans (congrArg some (by kernel_rfl)),
    f294 := Tryz.func103.trans (congrArg some (by kernel_rfl)),
    f295 := Tryz.func104.trans (congrArg some (by kernel_rfl)),
    f296 := Tryz.func105.trans (congrArg some (by kernel_rfl)),
    f297 := Tryz.func106.trans (congrArg some (by kernel_rfl)),
    f298 := Tryz.func107.trans (congrArg some (by kernel_rfl)),
    f299 := Tryz.func108.trans (congrArg some (by kernel_rfl)),
    f300 := Tryz.func110.trans (congrArg some (by kernel_rfl)),
    f301 := Tryz.func111.trans (congrArg some (by kernel_rfl)),
    f328 := Tryz.func148.trans (congrArg some (by kernel_rfl)),
    f329 := Tryz.func149.trans (congrArg some (by kernel_rfl)),
    f330 := Tryz.func150.trans (congrArg some (by kernel_rfl)),
    f331 := Tryz.func151.trans (congrArg some (by kernel_rfl)),
    f332 := Tryz.func152.trans (congrArg some (by kernel_rfl)),
    f343 := Tryz.func188.trans (congrArg some (by kernel_rfl)),
    t0 := Tryz.underlying0, a0 := Tryz.isAgg0, z0 := Tryz.sizeOf0, v0 := Tryz.zeroValue0, t3 := Tryz.underlying3, a3 := Tryz.isAgg3, z3 := Tryz.sizeOf3, v3 := Tryz.zeroValue3, t4 := Tryz.underlying4, a4 := Tryz.isAgg4, z4 := Tryz.sizeOf4, v4 := Tryz.zeroValue4, t5 := Tryz.underlying5, a5 := Tryz.isAgg5, z5 := Tryz.sizeOf5, v5 := Tryz.zeroValue5, t9 := Tryz.underlying9, a9 := Tryz.isAgg9, z9 := Tryz.sizeOf9, v9 := Tryz.zeroValue9, t28 := Tryz.underlying35, a28 := Tryz.isAgg35, z28 := Tryz.sizeOf35, v28 := Tryz.zeroValue35, t46 := Tryz.underlying99, a46 := Tryz.isAgg99, z46 := Tryz.sizeOf99, v46 := Tryz.zeroValue99, t51 := Tryz.underlying213, a51 := Tryz.isAgg213, z51 := Tryz.sizeOf213, v51 := Tryz.zeroValue213, t53 := Tryz.underlying215, a53 := Tryz.isAgg215, z53 := Tryz.sizeOf215, v53 := Tryz.zeroValue215, t131 := Tryz.underlying210, a131 := Tryz.isAgg210, z131 := Tryz.sizeOf210, v131 := Tryz.zeroValue210, t182 := Tryz.underlying204, a182 := Tryz.isAgg204, z182 := Tryz.sizeOf204, v182 := Tryz.zeroValue204, t183 := Tryz.underlying205, a183 := Tryz.isAgg205, z183 := Tryz.sizeOf205, v183 := Tryz.zeroValue205, t218 := Tryz.underlying262, a218 := Tryz.isAgg262, z218 := Tryz.sizeOf262, v218 := Tryz.zeroValue262, t222 := Tryz.underlying266, a222 := Tryz.isAgg266, z222 := Tryz.sizeOf266, v222 := Tryz.zeroValue266, t228 := Tryz.underlying302, a228 := Tryz.isAgg302, z228 := Tryz.sizeOf302, v228 := Tryz.zeroValue302, t229 := Tryz.underlying303, a229 := Tryz.isAgg303, z229 := Tryz.sizeOf303, v229 := Tryz.zeroValue303 }

theorem sort_any (B : Nat) (v : Value) (ks : List Int) (w : World) (h : Owns .i64 3 w B v ks) (hn : v.ownBlock ≠ none) (hl : ks.length < 4611686018427387904) :
    Calls Tryz.prog 51 #[v] w fun r w' => r = .returned (.tuple #[]) ∧ Owns .i64 3 w' B v (ks.mergeSort fun x y => decide (x ≤ y)) ∧ Keep (fun x => v.ownBlock = some x) w w' := by
  have hlt := World.ownsRow.lt h
  rcases h.2 with ⟨q, _⟩ | ⟨g, cap, cur, q, hB, hg, h1, h2, h3, h4⟩
  · rw [q] at hn; exact absurd rfl hn
  · subst q
    have hgl := (hlt g rfl).2
    have hH := holds_of_blockI (ss := ks) hg (by simpa using h4)
    have K := Any.slices_Sort_int laysS g 0 cap ks w hH hgl hl
    refine K.mono ?_
    rintro r w' ⟨rfl, n, os, rfl⟩
    refine ⟨rfl, ?_, ?_⟩
    · have := ownsRow_sortedI (n := n) (os := os) (ts := ks.mergeSort fun x y => decide (x ≤ y)) (by simp) hB hg h1 h2 h3
      unfold Owns
      rw [List.length_mergeSort]
      exact this
    · exact (Keep.refl _ w).grown (grownBy_sortedI _) (fun g' hg' _ => by cases hg'; rfl)

set_option maxHeartbeats 1000000 in
theorem ins_nil (w : World) : Calls Tryz.prog 103 #[.slice none 0 0, .int .i64 0, .int .i64 0] w fun r w' => r = .returned (.tuple #[]) ∧ w' = w := by
  go_enter Tryz.func103, Tryz.ntmps103
  go_wp2_with fail
  go_loopw [6] (fun v wr => v = .int .i64 1 ∧ wr = w) (fun _ _ => 0)
  case atStart => exact ⟨rfl, rfl⟩
  case round =>
    obtain ⟨rfl, rfl⟩ := hrel
    go_wp2_with fail
    go_end0
    exact ⟨rfl, rfl⟩
set_option maxHeartbeats 1000000 in
theorem len64_nil (w : World) : Calls Tryz.prog 113 #[.int .u64 0] w fun r w' => r = .returned (.int .i64 0) ∧ w' = w := by
  go_enter Tryz.func113, Tryz.ntmps113
  go_wp2_with fail
  go_ret
  refine ⟨?_, rfl⟩
  show Ending.returned (Value.int .i64 (wrap64 (wrap64 (Lib.len8 0)))) = _
  rw [show wrap64 (wrap64 (Lib.len8 0)) = 0 by kernel_rfl]
set_option maxHeartbeats 1000000 in
theorem bitslen_nil (w : World) : Calls Tryz.prog 71 #[.int .u64 0] w fun r w' => r = .returned (.int .i64 0) ∧ w' = w := by
  have K := len64_nil w
  go_enter Tryz.func71, Tryz.ntmps71
  go_wp2_with fail
  refine K.mono ?_
  rintro r w1 ⟨rfl, rfl⟩
  clear K
  go_wp2_with fail
  go_ret
  exact ⟨rfl, rfl⟩
set_option maxHeartbeats 2000000 in
theorem pdq_nil (w : World) : Calls Tryz.prog 70 #[.slice none 0 0, .int .i64 0, .int .i64 0, .int .i64 0] w fun r w' => r = .returned (.tuple #[]) ∧ w' = w := by
  have K := ins_nil w
  go_enter Tryz.func70, Tryz.ntmps70
  go_wp2_with fail
  go_loopw [1, 2, 3, 8, 9] (fun a b c d e wr => a = .int .i64 0 ∧ b = .int .i64 0 ∧ c = .int .i64 0 ∧ wr = w) (fun _ _ _ _ _ _ => 0)
  case atStart => exact ⟨rfl, rfl, rfl, rfl⟩
  case round =>
    obtain ⟨rfl, rfl, rfl, rfl⟩ := hrel
    go_wp2_with fail
    refine K.mono ?_
    rintro r w1 ⟨rfl, rfl⟩
    clear K
    go_wp2_with fail
    refine bodyPost_ret (v := .tuple #[]) (by simp [results, Tryz.results70, go_sem]) rfl ⟨rfl, rfl⟩
set_option maxHeartbeats 1000000 in
theorem sort_nil (w : World) : Calls Tryz.prog 51 #[.slice none 0 0] w fun r w' => r = .returned (.tuple #[]) ∧ w' = w := by
  have K1 := bitslen_nil w
  have K2 := pdq_nil w
  go_enter Tryz.func51, Tryz.ntmps51
  go_wp2_with fail
  refine K1.mono ?_
  rintro r w1 ⟨rfl, rfl⟩
  clear K1
  go_wp2_with fail
  refine K2.mono ?_
  rintro r w1 ⟨rfl, rfl⟩
  clear K2
  go_wp2_with fail
  go_end0
  exact ⟨rfl, rfl⟩
theorem sortO (B : Nat) (v : Value) (ks : List Int) (w : World) (h : Owns .i64 3 w B v ks) (hl : ks.length < 4611686018427387904) :
    Calls Tryz.prog 51 #[v] w fun r w' => r = .returned (.tuple #[]) ∧ Owns .i64 3 w' B v (ks.mergeSort fun x y => decide (x ≤ y)) ∧ Keep (fun x => v.ownBlock = some x) w w' := by
  rcases h.2 with ⟨q, q2⟩ | ⟨g, cap, cur, q, _⟩
  · have e : ks = [] := List.eq_nil_of_length_eq_zero q2
    subst q e
    refine (sort_nil w).mono ?_
    rintro r w' ⟨rfl, rfl⟩
    exact ⟨rfl, by simpa using h, Keep.refl _ _⟩
  · exact sort_any B v ks w h (by rw [q]; exact fun r => by cases r) hl
end Go.Proofs.YtehbpmibllpkhaaGreatDoor
