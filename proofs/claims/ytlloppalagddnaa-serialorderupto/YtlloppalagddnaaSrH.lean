import Derived.Test.YtlloppalagddnaaSrS
import Derived.Shelf.SlSortCmp.WholeK
set_option linter.all false
namespace Go.Proofs.Ytlloppalagddnaa
open Go.RowKit Go.QK Quota Go.Maps Go.QM Go.Shelf Go.Lib Go.Sort
set_option maxRecDepth 100000
def renFH3 : Nat → Nat
  | 6 => 61
  | 14 => 71
  | 15 => 70
  | 20 => 84
  | 21 => 85
  | 22 => 86
  | 23 => 87
  | 24 => 88
  | 25 => 89
  | 26 => 90
  | 27 => 91
  | 28 => 82
  | 29 => 83
  | 46 => 98
  | 47 => 94
  | 48 => 95
  | 49 => 99
  | 50 => 100
  | 57 => 103
  | n => n
def renTH3 : Nat → Nat
  | 0 => 0
  | 3 => 3
  | 4 => 4
  | 5 => 5
  | 9 => 9
  | 22 => 30
  | 24 => 74
  | 25 => 126
  | 39 => 121
  | 45 => 155
  | 46 => 156
  | 50 => 160
  | 53 => 163
  | 55 => 141
  | 66 => 174
  | 70 => 178
  | 76 => 183
  | 77 => 184
  | n => n
def renH3 : Ren := { f := renFH3, t := renTH3, g := fun n => n }
theorem laysH3 : SlLaysF0.n6 Try.prog renH3 :=
  { mixed := by kernel_rfl,
    f6 := ⟨Try.f61.name, by decide, Try.func61.trans (congrArg some (by kernel_rfl))⟩,
    f14 := ⟨Try.f71.name, by decide, Try.func71.trans (congrArg some (by kernel_rfl))⟩,
    f15 := Try.func70.trans (congrArg some (by kernel_rfl)),
    f20 := ⟨Try.f84.name, by decide, Try.func84.trans (congrArg some (by kernel_rfl))⟩,
    f21 := ⟨Try.f85.name, by decide, Try.func85.trans (congrArg some (by kernel_rfl))⟩,
    f22 := ⟨Try.f86.name, by decide, Try.func86.trans (congrArg some (by kernel_rfl))⟩,
    f23 := ⟨Try.f87.name, by decide, Try.func87.trans (congrArg some (by kernel_rfl))⟩,
    f24 := ⟨Try.f88.name, by decide, Try.func88.trans (congrArg some (by kernel_rfl))⟩,
    f25 := ⟨Try.f89.name, by decide, Try.func89.trans (congrArg some (by kernel_rfl))⟩,
    f26 := ⟨Try.f90.name, by decide, Try.func90.trans (congrArg some (by kernel_rfl))⟩,
    f27 := ⟨Try.f91.name, by decide, Try.func91.trans (congrArg some (by kernel_rfl))⟩,
    f28 := Try.func82.trans (congrArg some (by kernel_rfl)),
    f29 := Try.func83.trans (congrArg some (by kernel_rfl)),
    f46 := ⟨Try.f98.name, by decide, Try.func98.trans (congrArg some (by kernel_rfl))⟩,
    f47 := Try.func94.trans (congrArg some (by kernel_rfl)),
    f48 := Try.func95.trans (congrArg some (by kernel_rfl)),
    f49 := ⟨Try.f99.name, by decide, Try.func99.trans (congrArg some (by kernel_rfl))⟩,
    f50 := ⟨Try.f100.name, by decide, Try.func100.trans (congrArg some (by kernel_rfl))⟩,
    f57 := ⟨Try.f103.name, by decide, Try.func103.trans (congrArg some (by kernel_rfl))⟩,
    t0 := Try.underlying0, a0 := Try.isAgg0, z0 := Try.sizeOf0, v0 := Try.zeroValue0, t3 := Try.underlying3, a3 := Try.isAgg3, z3 := Try.sizeOf3, v3 := Try.zeroValue3, t4 := Try.underlying4, a4 := Try.isAgg4, z4 := Try.sizeOf4, v4 := Try.zeroValue4, t5 := Try.underlying5, a5 := Try.isAgg5, z5 := Try.sizeOf5, v5 := Try.zeroValue5, t9 := Try.underlying9, a9 := Try.isAgg9, z9 := Try.sizeOf9, v9 := Try.zeroValue9, t22 := Try.underlying30, a22 := Try.isAgg30, z22 := Try.sizeOf30, v22 := Try.zeroValue30, t25 := Try.underlying126, a25 := Try.isAgg126, z25 := Try.sizeOf126, v25 := Try.zeroValue126, t39 := Try.underlying121, a39 := Try.isAgg121, z39 := Try.sizeOf121, v39 := Try.zeroValue121, t45 := Try.underlying155, a45 := Try.isAgg155, z45 := Try.sizeOf155, v45 := Try.zeroValue155, t46 := Try.underlying156, a46 := Try.isAgg156, z46 := Try.sizeOf156, v46 := Try.zeroValue156, t50 := Try.underlying160, a50 := Try.isAgg160, z50 := Try.sizeOf160, v50 := Try.zeroValue160, t53 := Try.underlying163, a53 := Try.isAgg163, z53 := Try.sizeOf163, v53 := Try.zeroValue163, t55 := Try.underlying141, a55 := Try.isAgg141, z55 := Try.sizeOf141, v55 := Try.zeroValue141, t66 := Try.underlying174, a66 := Try.isAgg174, z66 := Try.sizeOf174, v66 := Try.zeroValue174, t70 := Try.underlying178, a70 := Try.isAgg178, z70 := Try.sizeOf178, v70 := Try.zeroValue178, t76 := Try.underlying183, a76 := Try.isAgg183, z76 := Try.sizeOf183, v76 := Try.zeroValue183, t77 := Try.underlying184, a77 := Try.isAgg184, z77 := Try.sizeOf184, v77 := Try.zeroValue184 }


abbrev QH3 := Fin 1048577 × Int × Int
abbrev encH3 (x : QH3) : List Value := [.int .i64 x.2.1, .int .i64 ((x.1.val : Nat) : Int), .int .i64 x.2.2]
abbrev cfH3 (x y : QH3) : Int := ((x.1.val : Nat) : Int) - ((y.1.val : Nat) : Int)
theorem ltH3 (x y : QH3) : ltOf cfH3 x y = decide (x.1.val < y.1.val) := by
  unfold ltOf cfH3
  by_cases h : x.1.val < y.1.val
  · have : ((x.1.val : Nat) : Int) - ((y.1.val : Nat) : Int) < 0 := by omega
    simp [h, this]
  · have : ¬ ((x.1.val : Nat) : Int) - ((y.1.val : Nat) : Int) < 0 := by omega
    simp [h, this]
theorem swoH3 : SWO (ltOf cfH3) where
  irrefl x := by rw [ltH3]; simp
  trans x y z h1 h2 := by rw [ltH3] at *; simp at *; omega
  ntrans x y z h1 h2 := by rw [ltH3] at *; simp at *; omega
set_option maxHeartbeats 1000000 in
theorem closureH3 (x y : QH3) (W : World) : Calls Try.prog 62 #[.agg (encH3 x).toArray, .agg (encH3 y).toArray] W fun e w' => e = .returned (.int .i64 (cfH3 x y)) ∧ ∃ q os', w' = grow (W.drewN q) os' := by
  obtain ⟨x1, x2, x3⟩ := x
  obtain ⟨y1, y2, y3⟩ := y
  show Calls Try.prog 62 #[.agg #[.int .i64 x2, .int .i64 ((x1.val : Nat) : Int), .int .i64 x3], .agg #[.int .i64 y2, .int .i64 ((y1.val : Nat) : Int), .int .i64 y3]] W fun e w' => e = .returned (.int .i64 (((x1.val : Nat) : Int) - ((y1.val : Nat) : Int))) ∧ ∃ q os', w' = grow (W.drewN q) os'
  have h1 := x1.isLt
  have h2 := y1.isLt
  generalize x1.val = a at *
  generalize y1.val = b at *
  go_enter Try.func62, Try.ntmps62
  go_wp2
  go_ret
  exact ⟨rfl, 0, _, by rw [alloc_eq_grow, alloc_eq_grow, grow_grow]; rfl⟩
/-! The row's cells, flat. -/
theorem flatH3 (ds : List QH3) : flatK encH3 3 ds.toArray = (rowsC encH3 ds).toArray := by
  have hl := rowsC_len encH3 3 (fun _ => rfl) ds
  refine ext_get! (by simp [hl]; omega) (fun t ht => ?_)
  simp only [size_flatK, List.size_toArray] at ht
  rw [get_flatK _ _ _ t (by simpa using ht)]
  have h1 : t / 3 < ds.length := by omega
  have e := rowsC_get encH3 3 (fun _ => rfl) ds (t / 3) h1 (t % 3) (by omega)
  rw [show 3 * (t / 3) + t % 3 = t by omega] at e
  have h2 : t < (rowsC encH3 ds).length := by omega
  have e1 : ds.toArray[t / 3]! = ds[t / 3] := by simp [h1]
  rw [e1]
  have h3 : t % 3 < (encH3 ds[t / 3]).length := by show t % 3 < 3; omega
  have e2 : (encH3 ds[t / 3])[t % 3]! = (encH3 ds[t / 3])[t % 3] := getElem!_pos (encH3 ds[t / 3]) (t % 3) h3
  rw [e2]
  have e3 : (rowsC encH3 ds).toArray[t]! = (rowsC encH3 ds)[t] := by rw [getElem!_pos (rowsC encH3 ds).toArray t (by simpa using h2)]; simp
  rw [e3]
  rw [List.getElem?_eq_getElem h2, List.getElem?_eq_getElem h3] at e
  exact (Option.some.inj e).symm
theorem sortH3_any (B : Nat) (v : Value) (ds : List QH3) (w : World) (h : GRow w B 74 3 v ds.length (rowsC encH3 ds)) (hn : v.ownBlock ≠ none) (hl : ds.length < 4611686018427387904) :
    Calls Try.prog 61 #[v, .func (.func 62) #[] #[]] w fun r w' => r = .returned (.tuple #[]) ∧ ∃ ds' : List QH3, ds'.Perm ds ∧ ds'.Pairwise (fun x y => x.1.val ≤ y.1.val) ∧ GRow w' B 74 3 v ds.length (rowsC encH3 ds') ∧ Keep (fun x => v.ownBlock = some x) w w' := by
  have hlt := World.ownsRow.lt h
  have hlen := h.1
  rcases h.2 with ⟨q, _⟩ | ⟨g, cap, cur, q, hB, hg, h1, h2, h3, h4⟩
  · rw [q] at hn; exact absurd rfl hn
  · subst q
    have hgl := (hlt g rfl).2
    have hrl := rowsC_len encH3 3 (fun _ => rfl) ds
    have hH : HoldsK encH3 3 w g 0 ds.toArray := by
      unfold HoldsK
      rw [flatH3]
      intro j hj
      have hj' : j < (rowsC encH3 ds).length := by simpa using hj
      refine ⟨?_, by simp [World.frozen?, hg]⟩
      have e1 : (cur.toList.take (ds.length * 3))[j]? = (rowsC encH3 ds)[j]? := by rw [h4]
      rw [List.getElem?_take_of_lt (by omega)] at e1
      simp only [World.cell?, hg, Nat.zero_add]
      simp only [Option.isSome_none, Bool.false_eq_true, if_false]
      rw [← Array.getElem?_toList, e1]
      simp [hj']
    have eg : ∀ args w, (callFunc 62 args).run Try.prog w = .ok (.enter 62 args) w := enters_of Try.func62 (by kernel_rfl) rfl
    have K := AnyQ.slices_SortFunc laysH3 3 Try.isAgg74 Try.sizeOf74 encH3 (fun _ => rfl) (fun x v hv => by simp [encH3] at hv; rcases hv with rfl | rfl | rfl <;> rfl) cfH3 swoH3 62 #[] g 0 cap ds.toArray w eg (fun _ _ _ _ x y => closureH3 x y _) hH hgl (by simpa using hl)
    change Calls Try.prog 61 _ _ _ at K
    simp only [List.size_toArray] at K
    refine K.mono ?_
    rintro r w' ⟨rfl, d', n, os, hp, hs, rfl⟩
    obtain ⟨p1, -, p3⟩ := hp
    simp only [List.size_toArray] at p1
    have pe : d'.toList.Perm ds := by
      have e1 : d'.extract 0 ds.length = d' := by rw [← p1]; simp
      have e2 : ds.toArray.extract 0 ds.length = ds.toArray := by
        have : ds.length = ds.toArray.size := by simp
        rw [this]; simp
      rw [e1, e2] at p3
      exact p3
    have dl : d'.toList.length = ds.length := by simpa using p1
    have fr : flatK encH3 3 d' = (rowsC encH3 d'.toList).toArray := by
      have := flatH3 d'.toList
      simpa using this
    refine ⟨rfl, d'.toList, pe, ?_, ?_, ?_⟩
    · rw [List.pairwise_iff_getElem]
      intro i j hi hj hij
      have := hs i j (Nat.zero_le _) hij (by omega)
      rw [ltH3] at this
      simp only [decide_eq_false_iff_not] at this
      rw [getElem!_pos d' i (by simpa using hi), getElem!_pos d' j (by simpa using hj)] at this
      simpa using this
    · have hrl2 := rowsC_len encH3 3 (fun _ => rfl) d'.toList
      refine ⟨by omega, .inr ⟨g, cap, putCells id 0 (rowsC encH3 d'.toList).toArray cur, rfl, hB, ?_, h1, h2, ?_, ?_⟩⟩
      · unfold sortWorldK putRowK
        rw [fr]
        exact heap_sortedV _ hg
      · simp [putCells, h3]
      · rw [show ds.length * 3 = (rowsC encH3 d'.toList).length by omega]
        exact take_putCellsV cur _ (by omega)
    · unfold sortWorldK putRowK
      exact (Keep.refl _ w).grown (grownBy_sortedV _) (fun g' hg' _ => by cases hg'; rfl)
end Go.Proofs.Ytlloppalagddnaa
