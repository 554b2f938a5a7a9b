import Derived.Test.YtaohdmaenplbpaaGreatBD
import Derived.Shelf.SlSortCmp.WholeK
set_option linter.all false
namespace Go.Proofs.YtaohdmaenplbpaaGreat
open Go.RowKit Go.QK Quota Go.Maps Go.QM Go.Shelf Go.Lib Go.Sort
set_option maxRecDepth 100000
def renFC5 : Nat → Nat
  | 6 => 52
  | 14 => 89
  | 15 => 90
  | 20 => 111
  | 21 => 112
  | 22 => 113
  | 23 => 114
  | 24 => 115
  | 25 => 116
  | 26 => 117
  | 27 => 118
  | 28 => 119
  | 29 => 120
  | 46 => 144
  | 47 => 145
  | 48 => 146
  | 49 => 147
  | 50 => 148
  | 57 => 157
  | n => n
def renTC5 : Nat → Nat
  | 22 => 31
  | 24 => 43
  | 25 => 112
  | 3 => 3
  | 39 => 130
  | 0 => 0
  | 53 => 191
  | 55 => 193
  | 4 => 4
  | 46 => 184
  | 45 => 183
  | 50 => 188
  | 5 => 5
  | 9 => 9
  | 66 => 214
  | 70 => 218
  | 76 => 226
  | 77 => 227
  | n => n
def renC5 : Ren := { f := renFC5, t := renTC5, g := fun n => n }
theorem laysC5 : SlLaysF0.n6 Tryz.prog renC5 :=
  { mixed := by kernel_rfl,
    f6 := ⟨Tryz.f52.name, by decide, Tryz.func52.trans (congrArg some (by kernel_rfl))⟩,
    f14 := ⟨Tryz.f89.name, by decide, Tryz.func89.trans (congrArg some (by kernel_rfl))⟩,
    f15 := Tryz.func90.trans (congrArg some (by kernel_rfl)),
    f20 := ⟨Tryz.f111.name, by decide, Tryz.func111.trans (congrArg some (by kernel_rfl))⟩,
    f21 := ⟨Tryz.f112.name, by decide, Tryz.func112.trans (congrArg some (by kernel_rfl))⟩,
    f22 := ⟨Tryz.f113.name, by decide, Tryz.func113.trans (congrArg some (by kernel_rfl))⟩,
    f23 := ⟨Tryz.f114.name, by decide, Tryz.func114.trans (congrArg some (by kernel_rfl))⟩,
    f24 := ⟨Tryz.f115.name, by decide, Tryz.func115.trans (congrArg some (by kernel_rfl))⟩,
    f25 := ⟨Tryz.f116.name, by decide, Tryz.func116.trans (congrArg some (by kernel_rfl))⟩,
    f26 := ⟨Tryz.f117.name, by decide, Tryz.func117.trans (congrArg some (by kernel_rfl))⟩,
    f27 := ⟨Tryz.f118.name, by decide, Tryz.func118.trans (congrArg some (by kernel_rfl))⟩,
    f28 := Tryz.func119.trans (congrArg some (by kernel_rfl)),
    f29 := Tryz.func120.trans (congrArg some (by kernel_rfl)),
    f46 := ⟨Tryz.f144.name, by decide, Tryz.func144.trans (congrArg some (by kernel_rfl))⟩,
    f47 := Tryz.func145.trans (congrArg some (by kernel_rfl)),
    f48 := Tryz.func146.trans (congrArg some (by kernel_rfl)),
    f49 := ⟨Tryz.f147.name, by decide, Tryz.func147.trans (congrArg some (by kernel_rfl))⟩,
    f50 := ⟨Tryz.f148.name, by decide, Tryz.func148.trans (congrArg some (by kernel_rfl))⟩,
    f57 := ⟨Tryz.f157.name, by decide, Tryz.func157.trans (congrArg some (by kernel_rfl))⟩,
    t0 := Tryz.underlying0, a0 := Tryz.isAgg0, z0 := Tryz.sizeOf0, v0 := Tryz.zeroValue0, t3 := Tryz.underlying3, a3 := Tryz.isAgg3, z3 := Tryz.sizeOf3, v3 := Tryz.zeroValue3, t4 := Tryz.underlying4, a4 := Tryz.isAgg4, z4 := Tryz.sizeOf4, v4 := Tryz.zeroValue4, t5 := Tryz.underlying5, a5 := Tryz.isAgg5, z5 := Tryz.sizeOf5, v5 := Tryz.zeroValue5, t9 := Tryz.underlying9, a9 := Tryz.isAgg9, z9 := Tryz.sizeOf9, v9 := Tryz.zeroValue9, t22 := Tryz.underlying31, a22 := Tryz.isAgg31, z22 := Tryz.sizeOf31, v22 := Tryz.zeroValue31, t25 := Tryz.underlying112, a25 := Tryz.isAgg112, z25 := Tryz.sizeOf112, v25 := Tryz.zeroValue112, t39 := Tryz.underlying130, a39 := Tryz.isAgg130, z39 := Tryz.sizeOf130, v39 := Tryz.zeroValue130, t45 := Tryz.underlying183, a45 := Tryz.isAgg183, z45 := Tryz.sizeOf183, v45 := Tryz.zeroValue183, t46 := Tryz.underlying184, a46 := Tryz.isAgg184, z46 := Tryz.sizeOf184, v46 := Tryz.zeroValue184, t50 := Tryz.underlying188, a50 := Tryz.isAgg188, z50 := Tryz.sizeOf188, v50 := Tryz.zeroValue188, t53 := Tryz.underlying191, a53 := Tryz.isAgg191, z53 := Tryz.sizeOf191, v53 := Tryz.zeroValue191, t55 := Tryz.underlying193, a55 := Tryz.isAgg193, z55 := Tryz.sizeOf193, v55 := Tryz.zeroValue193, t66 := Tryz.underlying214, a66 := Tryz.isAgg214, z66 := Tryz.sizeOf214, v66 := Tryz.zeroValue214, t70 := Tryz.underlying218, a70 := Tryz.isAgg218, z70 := Tryz.sizeOf218, v70 := Tryz.zeroValue218, t76 := Tryz.underlying226, a76 := Tryz.isAgg226, z76 := Tryz.sizeOf226, v76 := Tryz.zeroValue226, t77 := Tryz.underlying227, a77 := Tryz.isAgg227, z77 := Tryz.sizeOf227, v77 := Tryz.zeroValue227 }


abbrev QC5 := Fin 1048577 × Int × Int × Int × Int
abbrev encC5 (x : QC5) : List Value := [.int .i64 ((x.1.val : Nat) : Int), .int .i64 x.2.1, .int .i64 x.2.2.1, .int .i64 x.2.2.2.1, .int .i64 x.2.2.2.2]
abbrev cfC5 (x y : QC5) : Int := ((x.1.val : Nat) : Int) - ((y.1.val : Nat) : Int)
theorem ltC5 (x y : QC5) : ltOf cfC5 x y = decide (x.1.val < y.1.val) := by
  unfold ltOf cfC5
  by_cases h : x.1.val < y.1.val
  · have : ((x.1.val : Nat) : Int) - ((y.1.val : Nat) : Int) < 0 := by omega
    simp [h, this]
  · have : ¬ ((x.1.val : Nat) : Int) - ((y.1.val : Nat) : Int) < 0 := by omega
    simp [h, this]
theorem swoC5 : SWO (ltOf cfC5) where
  irrefl x := by rw [ltC5]; simp
  trans x y z h1 h2 := by rw [ltC5] at *; simp at *; omega
  ntrans x y z h1 h2 := by rw [ltC5] at *; simp at *; omega
set_option maxHeartbeats 1000000 in
theorem closureC5 (x y : QC5) (W : World) : Calls Tryz.prog 53 #[.agg (encC5 x).toArray, .agg (encC5 y).toArray] W fun e w' => e = .returned (.int .i64 (cfC5 x y)) ∧ ∃ q os', w' = grow (W.drewN q) os' := by
  obtain ⟨x1, x2, x3, x4, x5⟩ := x
  obtain ⟨y1, y2, y3, y4, y5⟩ := y
  show Calls Tryz.prog 53 #[.agg #[.int .i64 ((x1.val : Nat) : Int), .int .i64 x2, .int .i64 x3, .int .i64 x4, .int .i64 x5], .agg #[.int .i64 ((y1.val : Nat) : Int), .int .i64 y2, .int .i64 y3, .int .i64 y4, .int .i64 y5]] W fun e w' => e = .returned (.int .i64 (((x1.val : Nat) : Int) - ((y1.val : Nat) : Int))) ∧ ∃ q os', w' = grow (W.drewN q) os'
  have h1 := x1.isLt
  have h2 := y1.isLt
  generalize x1.val = a at *
  generalize y1.val = b at *
  go_enter Tryz.func53, Tryz.ntmps53
  go_wp2
  go_ret
  exact ⟨rfl, 0, _, by rw [alloc_eq_grow, alloc_eq_grow, grow_grow]; rfl⟩
/-! The row's cells, flat. -/
theorem rowsC_len {α : Type} (f : α → List Value) (n : Nat) (hf : ∀ x, (f x).length = n) (ls : List α) : (rowsC f ls).length = n * ls.length := by
  unfold rowsC
  induction ls with
  | nil => rfl
  | cons x xs ih => rw [List.flatMap_cons, List.length_append, hf, ih, List.length_cons, Nat.mul_succ]; omega
theorem flatC5 (ds : List QC5) : flatK encC5 5 ds.toArray = (rowsC encC5 ds).toArray := by
  have hl := rowsC_len encC5 5 (fun _ => rfl) ds
  refine ext_get! (by simp [hl]; omega) (fun t ht => ?_)
  simp only [size_flatK, List.size_toArray] at ht
  rw [get_flatK _ _ _ t (by simpa using ht)]
  have h1 : t / 5 < ds.length := by omega
  have e := rowsC_get encC5 5 (fun _ => rfl) ds (t / 5) h1 (t % 5) (by omega)
  rw [show 5 * (t / 5) + t % 5 = t by omega] at e
  have h2 : t < (rowsC encC5 ds).length := by omega
  have e1 : ds.toArray[t / 5]! = ds[t / 5] := by simp [h1]
  rw [e1]
  have h3 : t % 5 < (encC5 ds[t / 5]).length := by show t % 5 < 5; omega
  have e2 : (encC5 ds[t / 5])[t % 5]! = (encC5 ds[t / 5])[t % 5] := getElem!_pos (encC5 ds[t / 5]) (t % 5) h3
  rw [e2]
  have e3 : (rowsC encC5 ds).toArray[t]! = (rowsC encC5 ds)[t] := by rw [getElem!_pos (rowsC encC5 ds).toArray t (by simpa using h2)]; simp
  rw [e3]
  rw [List.getElem?_eq_getElem h2, List.getElem?_eq_getElem h3] at e
  exact (Option.some.inj e).symm
theorem heap_sortedV {w : World} {g n : Nat} {os : Array Obj} {cur : Array Value} {e : TypeId} {fr : Nat × Nat} (F : Array Value) (hb : w.heap[g]? = some (.cells cur e fr)) :
    (grow (putRow id (Sort.ahead w n) g 0 F) os).heap[g]? = some (.cells (putCells id 0 F cur) e fr) := by
  have hg : g < w.heap.size := (Array.getElem?_eq_some_iff.1 hb).1
  rw [heap_grow_old _ _ (by simpa using hg)]
  simp [putRow, mapBlock, Sort.ahead, Array.getElem?_modify, hb, onCells]
theorem grownBy_sortedV {w : World} {g n : Nat} {os : Array Obj} (F : Array Value) : w.grownBy (grow (putRow id (Sort.ahead w n) g 0 F) os) (some g) := by
  refine ⟨rfl, rfl, rfl, by simp, fun k hk hne => ?_⟩
  rw [heap_grow_old _ _ (by simpa using hk)]
  have : g ≠ k := fun e => hne (by rw [e])
  simp [putRow, mapBlock, Sort.ahead, Array.getElem?_modify, this]
theorem take_putCellsV (cur : Array Value) (ts : List Value) (h : ts.length ≤ cur.size) : (putCells id 0 ts.toArray cur).toList.take ts.length = ts := by
  apply List.ext_getElem?
  intro j
  by_cases hj : j < ts.length
  · rw [List.getElem?_take_of_lt hj, Array.getElem?_toList]
    simp [putCells, hj, show j < cur.size by omega]
  · rw [List.getElem?_take_eq_none (by omega), List.getElem?_eq_none (by omega)]
theorem sortC5_any (B : Nat) (v : Value) (ds : List QC5) (w : World) (h : GRow w B 43 5 v ds.length (rowsC encC5 ds)) (hn : v.ownBlock ≠ none) (hl : ds.length < 4611686018427387904) :
    Calls Tryz.prog 52 #[v, .func (.func 53) #[] #[]] w fun r w' => r = .returned (.tuple #[]) ∧ ∃ ds' : List QC5, ds'.Perm ds ∧ ds'.Pairwise (fun x y => x.1.val ≤ y.1.val) ∧ GRow w' B 43 5 v ds.length (rowsC encC5 ds') ∧ Keep (fun x => v.ownBlock = some x) w w' := by
  have hlt := World.ownsRow.lt h
  have hlen := h.1
  rcases h.2 with ⟨q, _⟩ | ⟨g, cap, cur, q, hB, hg, h1, h2, h3, h4⟩
  · rw [q] at hn; exact absurd rfl hn
  · subst q
    have hgl := (hlt g rfl).2
    have hrl := rowsC_len encC5 5 (fun _ => rfl) ds
    have hH : HoldsK encC5 5 w g 0 ds.toArray := by
      unfold HoldsK
      rw [flatC5]
      intro j hj
      have hj' : j < (rowsC encC5 ds).length := by simpa using hj
      refine ⟨?_, by simp [World.frozen?, hg]⟩
      have e1 : (cur.toList.take (ds.length * 5))[j]? = (rowsC encC5 ds)[j]? := by rw [h4]
      rw [List.getElem?_take_of_lt (by omega)] at e1
      simp only [World.cell?, hg, Nat.zero_add]
      simp only [Option.isSome_none, Bool.false_eq_true, if_false]
      rw [← Array.getElem?_toList, e1]
      simp [hj']
    have eg : ∀ args w, (callFunc 53 args).run Tryz.prog w = .ok (.enter 53 args) w := enters_of Tryz.func53 (by kernel_rfl) rfl
    have K := AnyQ.slices_SortFunc laysC5 5 Tryz.isAgg43 Tryz.sizeOf43 encC5 (fun _ => rfl) (fun x v hv => by simp [encC5] at hv; rcases hv with rfl | rfl | rfl | rfl | rfl <;> rfl) cfC5 swoC5 53 #[] g 0 cap ds.toArray w eg (fun _ _ _ _ x y => closureC5 x y _) hH hgl (by simpa using hl)
    change Calls Tryz.prog 52 _ _ _ at K
    simp only [List.size_toArray] at K
    refine K.mono ?_
    rintro r w' ⟨rfl, d', n, os, hp, hs, rfl⟩
    obtain ⟨p1, -, p3⟩ := hp
    simp only [List.size_toArray] at p1
    have pe : d'.toList.Perm ds := by
      have e1 : d'.extract 0 ds.length = d' := by rw [← p1]; simp
      have e2 : ds.toArray.extract 0 ds.length = ds.toArray := by
        have : ds.length = ds.toArray.size := by simp
        rw [this]; simp
      rw [e1, e2] at p3
      exact p3
    have dl : d'.toList.length = ds.length := by simpa using p1
    have fr : flatK encC5 5 d' = (rowsC encC5 d'.toList).toArray := by
      have := flatC5 d'.toList
      simpa using this
    refine ⟨rfl, d'.toList, pe, ?_, ?_, ?_⟩
    · rw [List.pairwise_iff_getElem]
      intro i j hi hj hij
      have := hs i j (Nat.zero_le _) hij (by omega)
      rw [ltC5] at this
      simp only [decide_eq_false_iff_not] at this
      rw [getElem!_pos d' i (by simpa using hi), getElem!_pos d' j (by simpa using hj)] at this
      simpa using this
    · have hrl2 := rowsC_len encC5 5 (fun _ => rfl) d'.toList
      refine ⟨by omega, .inr ⟨g, cap, putCells id 0 (rowsC encC5 d'.toList).toArray cur, rfl, hB, ?_, h1, h2, ?_, ?_⟩⟩
      · unfold sortWorldK putRowK
        rw [fr]
        exact heap_sortedV _ hg
      · simp [putCells, h3]
      · rw [show ds.length * 5 = (rowsC encC5 d'.toList).length by omega]
        exact take_putCellsV cur _ (by omega)
    · unfold sortWorldK putRowK
      exact (Keep.refl _ w).grown (grownBy_sortedV _) (fun g' hg' _ => by cases hg'; rfl)
end Go.Proofs.YtaohdmaenplbpaaGreat
