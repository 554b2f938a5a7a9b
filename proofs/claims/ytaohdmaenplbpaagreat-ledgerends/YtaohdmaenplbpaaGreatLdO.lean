import Derived.Test.YtaohdmaenplbpaaGreatLdN
import Derived.Shelf.SlSortCmp.WholeK
set_option linter.all false
namespace Go.Proofs.YtaohdmaenplbpaaGreat
open Go.RowKit Go.QK Quota Go.Maps Go.QM Go.Shelf Go.Lib Go.Sort
set_option maxRecDepth 100000
def renFG2 : Nat → Nat
  | 6 => 64
  | 14 => 99
  | 15 => 90
  | 20 => 135
  | 21 => 136
  | 22 => 137
  | 23 => 138
  | 24 => 139
  | 25 => 140
  | 26 => 141
  | 27 => 142
  | 28 => 119
  | 29 => 120
  | 46 => 154
  | 47 => 145
  | 48 => 146
  | 49 => 155
  | 50 => 156
  | 57 => 159
  | n => n
def renTG2 : Nat → Nat
  | 22 => 76
  | 24 => 84
  | 25 => 136
  | 3 => 3
  | 39 => 130
  | 0 => 0
  | 53 => 191
  | 55 => 193
  | 4 => 4
  | 46 => 184
  | 45 => 183
  | 50 => 188
  | 5 => 5
  | 9 => 9
  | 66 => 214
  | 70 => 218
  | 76 => 226
  | 77 => 227
  | n => n
def renG2 : Ren := { f := renFG2, t := renTG2, g := fun n => n }
theorem laysG2 : SlLaysF0.n6 Tryz.prog renG2 :=
  { mixed := by kernel_rfl,
    f6 := ⟨Tryz.f64.name, by decide, Tryz.func64.trans (congrArg some (by kernel_rfl))⟩,
    f14 := ⟨Tryz.f99.name, by decide, Tryz.func99.trans (congrArg some (by kernel_rfl))⟩,
    f15 := Tryz.func90.trans (congrArg some (by kernel_rfl)),
    f20 := ⟨Tryz.f135.name, by decide, Tryz.func135.trans (congrArg some (by kernel_rfl))⟩,
    f21 := ⟨Tryz.f136.name, by decide, Tryz.func136.trans (congrArg some (by kernel_rfl))⟩,
    f22 := ⟨Tryz.f137.name, by decide, Tryz.func137.trans (congrArg some (by kernel_rfl))⟩,
    f23 := ⟨Tryz.f138.name, by decide, Tryz.func138.trans (congrArg some (by kernel_rfl))⟩,
    f24 := ⟨Tryz.f139.name, by decide, Tryz.func139.trans (congrArg some (by kernel_rfl))⟩,
    f25 := ⟨Tryz.f140.name, by decide, Tryz.func140.trans (congrArg some (by kernel_rfl))⟩,
    f26 := ⟨Tryz.f141.name, by decide, Tryz.func141.trans (congrArg some (by kernel_rfl))⟩,
    f27 := ⟨Tryz.f142.name, by decide, Tryz.func142.trans (congrArg some (by kernel_rfl))⟩,
    f28 := Tryz.func119.trans (congrArg some (by kernel_rfl)),
    f29 := Tryz.func120.trans (congrArg some (by kernel_rfl)),
    f46 := ⟨Tryz.f154.name, by decide, Tryz.func154.trans (congrArg some (by kernel_rfl))⟩,
    f47 := Tryz.func145.trans (congrArg some (by kernel_rfl)),
    f48 := Tryz.func146.trans (congrArg some (by kernel_rfl)),
    f49 := ⟨Tryz.f155.name, by decide, Tryz.func155.trans (congrArg some (by kernel_rfl))⟩,
    f50 := ⟨Tryz.f156.name, by decide, Tryz.func156.trans (congrArg some (by kernel_rfl))⟩,
    f57 := ⟨Tryz.f159.name, by decide, Tryz.func159.trans (congrArg some (by kernel_rfl))⟩,
    t0 := Tryz.underlying0, a0 := Tryz.isAgg0, z0 := Tryz.sizeOf0, v0 := Tryz.zeroValue0, t3 := Tryz.underlying3, a3 := Tryz.isAgg3, z3 := Tryz.sizeOf3, v3 := Tryz.zeroValue3, t4 := Tryz.underlying4, a4 := Tryz.isAgg4, z4 := Tryz.sizeOf4, v4 := Tryz.zeroValue4, t5 := Tryz.underlying5, a5 := Tryz.isAgg5, z5 := Tryz.sizeOf5, v5 := Tryz.zeroValue5, t9 := Tryz.underlying9, a9 := Tryz.isAgg9, z9 := Tryz.sizeOf9, v9 := Tryz.zeroValue9, t22 := Tryz.underlying76, a22 := Tryz.isAgg76, z22 := Tryz.sizeOf76, v22 := Tryz.zeroValue76, t25 := Tryz.underlying136, a25 := Tryz.isAgg136, z25 := Tryz.sizeOf136, v25 := Tryz.zeroValue136, t39 := Tryz.underlying130, a39 := Tryz.isAgg130, z39 := Tryz.sizeOf130, v39 := Tryz.zeroValue130, t45 := Tryz.underlying183, a45 := Tryz.isAgg183, z45 := Tryz.sizeOf183, v45 := Tryz.zeroValue183, t46 := Tryz.underlying184, a46 := Tryz.isAgg184, z46 := Tryz.sizeOf184, v46 := Tryz.zeroValue184, t50 := Tryz.underlying188, a50 := Tryz.isAgg188, z50 := Tryz.sizeOf188, v50 := Tryz.zeroValue188, t53 := Tryz.underlying191, a53 := Tryz.isAgg191, z53 := Tryz.sizeOf191, v53 := Tryz.zeroValue191, t55 := Tryz.underlying193, a55 := Tryz.isAgg193, z55 := Tryz.sizeOf193, v55 := Tryz.zeroValue193, t66 := Tryz.underlying214, a66 := Tryz.isAgg214, z66 := Tryz.sizeOf214, v66 := Tryz.zeroValue214, t70 := Tryz.underlying218, a70 := Tryz.isAgg218, z70 := Tryz.sizeOf218, v70 := Tryz.zeroValue218, t76 := Tryz.underlying226, a76 := Tryz.isAgg226, z76 := Tryz.sizeOf226, v76 := Tryz.zeroValue226, t77 := Tryz.underlying227, a77 := Tryz.isAgg227, z77 := Tryz.sizeOf227, v77 := Tryz.zeroValue227 }


abbrev QG2 := Fin 1048577 × Int
abbrev encG2 (x : QG2) : List Value := [.int .i64 ((x.1.val : Nat) : Int), .int .i64 x.2]
abbrev cfG2 (x y : QG2) : Int := ((x.1.val : Nat) : Int) - ((y.1.val : Nat) : Int)
theorem ltG2 (x y : QG2) : ltOf cfG2 x y = decide (x.1.val < y.1.val) := by
  unfold ltOf cfG2
  by_cases h : x.1.val < y.1.val
  · have : ((x.1.val : Nat) : Int) - ((y.1.val : Nat) : Int) < 0 := by omega
    simp [h, this]
  · have : ¬ ((x.1.val : Nat) : Int) - ((y.1.val : Nat) : Int) < 0 := by omega
    simp [h, this]
theorem swoG2 : SWO (ltOf cfG2) where
  irrefl x := by rw [ltG2]; simp
  trans x y z h1 h2 := by rw [ltG2] at *; simp at *; omega
  ntrans x y z h1 h2 := by rw [ltG2] at *; simp at *; omega
set_option maxHeartbeats 1000000 in
theorem closureG2 (x y : QG2) (W : World) : Calls Tryz.prog 65 #[.agg (encG2 x).toArray, .agg (encG2 y).toArray] W fun e w' => e = .returned (.int .i64 (cfG2 x y)) ∧ ∃ q os', w' = grow (W.drewN q) os' := by
  obtain ⟨x1, x2⟩ := x
  obtain ⟨y1, y2⟩ := y
  show Calls Tryz.prog 65 #[.agg #[.int .i64 ((x1.val : Nat) : Int), .int .i64 x2], .agg #[.int .i64 ((y1.val : Nat) : Int), .int .i64 y2]] W fun e w' => e = .returned (.int .i64 (((x1.val : Nat) : Int) - ((y1.val : Nat) : Int))) ∧ ∃ q os', w' = grow (W.drewN q) os'
  have h1 := x1.isLt
  have h2 := y1.isLt
  generalize x1.val = a at *
  generalize y1.val = b at *
  go_enter Tryz.func65, Tryz.ntmps65
  go_wp2
  go_ret
  exact ⟨rfl, 0, _, by rw [alloc_eq_grow, alloc_eq_grow, grow_grow]; rfl⟩
/-! The row's cells, flat. -/
theorem flatG2 (ds : List QG2) : flatK encG2 2 ds.toArray = (rowsC encG2 ds).toArray := by
  have hl := rowsC_len encG2 2 (fun _ => rfl) ds
  refine ext_get! (by simp [hl]; omega) (fun t ht => ?_)
  simp only [size_flatK, List.size_toArray] at ht
  rw [get_flatK _ _ _ t (by simpa using ht)]
  have h1 : t / 2 < ds.length := by omega
  have e := rowsC_get encG2 2 (fun _ => rfl) ds (t / 2) h1 (t % 2) (by omega)
  rw [show 2 * (t / 2) + t % 2 = t by omega] at e
  have h2 : t < (rowsC encG2 ds).length := by omega
  have e1 : ds.toArray[t / 2]! = ds[t / 2] := by simp [h1]
  rw [e1]
  have h3 : t % 2 < (encG2 ds[t / 2]).length := by show t % 2 < 2; omega
  have e2 : (encG2 ds[t / 2])[t % 2]! = (encG2 ds[t / 2])[t % 2] := getElem!_pos (encG2 ds[t / 2]) (t % 2) h3
  rw [e2]
  have e3 : (rowsC encG2 ds).toArray[t]! = (rowsC encG2 ds)[t] := by rw [getElem!_pos (rowsC encG2 ds).toArray t (by simpa using h2)]; simp
  rw [e3]
  rw [List.getElem?_eq_getElem h2, List.getElem?_eq_getElem h3] at e
  exact (Option.some.inj e).symm
theorem sortG2_any (B : Nat) (v : Value) (ds : List QG2) (w : World) (h : GRow w B 84 2 v ds.length (rowsC encG2 ds)) (hn : v.ownBlock ≠ none) (hl : ds.length < 4611686018427387904) :
    Calls Tryz.prog 64 #[v, .func (.func 65) #[] #[]] w fun r w' => r = .returned (.tuple #[]) ∧ ∃ ds' : List QG2, ds'.Perm ds ∧ ds'.Pairwise (fun x y => x.1.val ≤ y.1.val) ∧ GRow w' B 84 2 v ds.length (rowsC encG2 ds') ∧ Keep (fun x => v.ownBlock = some x) w w' := by
  have hlt := World.ownsRow.lt h
  have hlen := h.1
  rcases h.2 with ⟨q, _⟩ | ⟨g, cap, cur, q, hB, hg, h1, h2, h3, h4⟩
  · rw [q] at hn; exact absurd rfl hn
  · subst q
    have hgl := (hlt g rfl).2
    have hrl := rowsC_len encG2 2 (fun _ => rfl) ds
    have hH : HoldsK encG2 2 w g 0 ds.toArray := by
      unfold HoldsK
      rw [flatG2]
      intro j hj
      have hj' : j < (rowsC encG2 ds).length := by simpa using hj
      refine ⟨?_, by simp [World.frozen?, hg]⟩
      have e1 : (cur.toList.take (ds.length * 2))[j]? = (rowsC encG2 ds)[j]? := by rw [h4]
      rw [List.getElem?_take_of_lt (by omega)] at e1
      simp only [World.cell?, hg, Nat.zero_add]
      simp only [Option.isSome_none, Bool.false_eq_true, if_false]
      rw [← Array.getElem?_toList, e1]
      simp [hj']
    have eg : ∀ args w, (callFunc 65 args).run Tryz.prog w = .ok (.enter 65 args) w := enters_of Tryz.func65 (by kernel_rfl) rfl
    have K := AnyQ.slices_SortFunc laysG2 2 Tryz.isAgg84 Tryz.sizeOf84 encG2 (fun _ => rfl) (fun x v hv => by simp [encG2] at hv; rcases hv with rfl | rfl <;> rfl) cfG2 swoG2 65 #[] g 0 cap ds.toArray w eg (fun _ _ _ _ x y => closureG2 x y _) hH hgl (by simpa using hl)
    change Calls Tryz.prog 64 _ _ _ at K
    simp only [List.size_toArray] at K
    refine K.mono ?_
    rintro r w' ⟨rfl, d', n, os, hp, hs, rfl⟩
    obtain ⟨p1, -, p3⟩ := hp
    simp only [List.size_toArray] at p1
    have pe : d'.toList.Perm ds := by
      have e1 : d'.extract 0 ds.length = d' := by rw [← p1]; simp
      have e2 : ds.toArray.extract 0 ds.length = ds.toArray := by
        have : ds.length = ds.toArray.size := by simp
        rw [this]; simp
      rw [e1, e2] at p3
      exact p3
    have dl : d'.toList.length = ds.length := by simpa using p1
    have fr : flatK encG2 2 d' = (rowsC encG2 d'.toList).toArray := by
      have := flatG2 d'.toList
      simpa using this
    refine ⟨rfl, d'.toList, pe, ?_, ?_, ?_⟩
    · rw [List.pairwise_iff_getElem]
      intro i j hi hj hij
      have := hs i j (Nat.zero_le _) hij (by omega)
      rw [ltG2] at this
      simp only [decide_eq_false_iff_not] at this
      rw [getElem!_pos d' i (by simpa using hi), getElem!_pos d' j (by simpa using hj)] at this
      simpa using this
    · have hrl2 := rowsC_len encG2 2 (fun _ => rfl) d'.toList
      refine ⟨by omega, .inr ⟨g, cap, putCells id 0 (rowsC encG2 d'.toList).toArray cur, rfl, hB, ?_, h1, h2, ?_, ?_⟩⟩
      · unfold sortWorldK putRowK
        rw [fr]
        exact heap_sortedV _ hg
      · simp [putCells, h3]
      · rw [show ds.length * 2 = (rowsC encG2 d'.toList).length by omega]
        exact take_putCellsV cur _ (by omega)
    · unfold sortWorldK putRowK
      exact (Keep.refl _ w).grown (grownBy_sortedV _) (fun g' hg' _ => by cases hg'; rfl)
end Go.Proofs.YtaohdmaenplbpaaGreat
