import Derived.Test.YtlloppalagddnaaSrC
import Derived.Shelf.SlSortCmp.WholeK
set_option linter.all false
namespace Go.Proofs.Ytlloppalagddnaa
open Go.RowKit Go.QK Quota Go.Maps Go.QM Go.Shelf Go.Lib Go.Sort
set_option maxRecDepth 100000
def renFC5 : Nat → Nat
  | 6 => 56
  | 14 => 69
  | 15 => 70
  | 20 => 74
  | 21 => 75
  | 22 => 76
  | 23 => 77
  | 24 => 78
  | 25 => 79
  | 26 => 80
  | 27 => 81
  | 28 => 82
  | 29 => 83
  | 46 => 93
  | 47 => 94
  | 48 => 95
  | 49 => 96
  | 50 => 97
  | 57 => 102
  | n => n
def renTC5 : Nat → Nat
  | 0 => 0
  | 3 => 3
  | 4 => 4
  | 5 => 5
  | 9 => 9
  | 22 => 35
  | 24 => 65
  | 25 => 119
  | 39 => 121
  | 45 => 155
  | 46 => 156
  | 50 => 160
  | 53 => 163
  | 55 => 141
  | 66 => 174
  | 70 => 178
  | 76 => 183
  | 77 => 184
  | n => n
def renC5 : Ren := { f := renFC5, t := renTC5, g := fun n => n }
theorem laysC5 : SlLaysF0.n6 Try.prog renC5 :=
  { mixed := by kernel_rfl,
    f6 := ⟨Try.f56.name, by decide, Try.func56.trans (congrArg some (by kernel_rfl))⟩,
    f14 := ⟨Try.f69.name, by decide, Try.func69.trans (congrArg some (by kernel_rfl))⟩,
    f15 := Try.func70.trans (congrArg some (by kernel_rfl)),
    f20 := ⟨Try.f74.name, by decide, Try.func74.trans (congrArg some (by kernel_rfl))⟩,
    f21 := ⟨Try.f75.name, by decide, Try.func75.trans (congrArg some (by kernel_rfl))⟩,
    f22 := ⟨Try.f76.name, by decide, Try.func76.trans (congrArg some (by kernel_rfl))⟩,
    f23 := ⟨Try.f77.name, by decide, Try.func77.trans (congrArg some (by kernel_rfl))⟩,
    f24 := ⟨Try.f78.name, by decide, Try.func78.trans (congrArg some (by kernel_rfl))⟩,
    f25 := ⟨Try.f79.name, by decide, Try.func79.trans (congrArg some (by kernel_rfl))⟩,
    f26 := ⟨Try.f80.name, by decide, Try.func80.trans (congrArg some (by kernel_rfl))⟩,
    f27 := ⟨Try.f81.name, by decide, Try.func81.trans (congrArg some (by kernel_rfl))⟩,
    f28 := Try.func82.trans (congrArg some (by kernel_rfl)),
    f29 := Try.func83.trans (congrArg some (by kernel_rfl)),
    f46 := ⟨Try.f93.name, by decide, Try.func93.trans (congrArg some (by kernel_rfl))⟩,
    f47 := Try.func94.trans (congrArg some (by kernel_rfl)),
    f48 := Try.func95.trans (congrArg some (by kernel_rfl)),
    f49 := ⟨Try.f96.name, by decide, Try.func96.trans (congrArg some (by kernel_rfl))⟩,
    f50 := ⟨Try.f97.name, by decide, Try.func97.trans (congrArg some (by kernel_rfl))⟩,
    f57 := ⟨Try.f102.name, by decide, Try.func102.trans (congrArg some (by kernel_rfl))⟩,
    t0 := Try.underlying0, a0 := Try.isAgg0, z0 := Try.sizeOf0, v0 := Try.zeroValue0, t3 := Try.underlying3, a3 := Try.isAgg3, z3 := Try.sizeOf3, v3 := Try.zeroValue3, t4 := Try.underlying4, a4 := Try.isAgg4, z4 := Try.sizeOf4, v4 := Try.zeroValue4, t5 := Try.underlying5, a5 := Try.isAgg5, z5 := Try.sizeOf5, v5 := Try.zeroValue5, t9 := Try.underlying9, a9 := Try.isAgg9, z9 := Try.sizeOf9, v9 := Try.zeroValue9, t22 := Try.underlying35, a22 := Try.isAgg35, z22 := Try.sizeOf35, v22 := Try.zeroValue35, t25 := Try.underlying119, a25 := Try.isAgg119, z25 := Try.sizeOf119, v25 := Try.zeroValue119, t39 := Try.underlying121, a39 := Try.isAgg121, z39 := Try.sizeOf121, v39 := Try.zeroValue121, t45 := Try.underlying155, a45 := Try.isAgg155, z45 := Try.sizeOf155, v45 := Try.zeroValue155, t46 := Try.underlying156, a46 := Try.isAgg156, z46 := Try.sizeOf156, v46 := Try.zeroValue156, t50 := Try.underlying160, a50 := Try.isAgg160, z50 := Try.sizeOf160, v50 := Try.zeroValue160, t53 := Try.underlying163, a53 := Try.isAgg163, z53 := Try.sizeOf163, v53 := Try.zeroValue163, t55 := Try.underlying141, a55 := Try.isAgg141, z55 := Try.sizeOf141, v55 := Try.zeroValue141, t66 := Try.underlying174, a66 := Try.isAgg174, z66 := Try.sizeOf174, v66 := Try.zeroValue174, t70 := Try.underlying178, a70 := Try.isAgg178, z70 := Try.sizeOf178, v70 := Try.zeroValue178, t76 := Try.underlying183, a76 := Try.isAgg183, z76 := Try.sizeOf183, v76 := Try.zeroValue183, t77 := Try.underlying184, a77 := Try.isAgg184, z77 := Try.sizeOf184, v77 := Try.zeroValue184 }


abbrev QC5 := Fin 1048577 × Int × Int × Int × Int
abbrev encC5 (x : QC5) : List Value := [.int .i64 ((x.1.val : Nat) : Int), .int .i64 x.2.1, .int .i64 x.2.2.1, .int .i64 x.2.2.2.1, .int .i64 x.2.2.2.2]
abbrev cfC5 (x y : QC5) : Int := ((x.1.val : Nat) : Int) - ((y.1.val : Nat) : Int)
theorem ltC5 (x y : QC5) : ltOf cfC5 x y = decide (x.1.val < y.1.val) := by
  unfold ltOf cfC5
  by_cases h : x.1.val < y.1.val
  · have : ((x.1.val : Nat) : Int) - ((y.1.val : Nat) : Int) < 0 := by omega
    simp [h, this]
  · have : ¬ ((x.1.val : Nat) : Int) - ((y.1.val : Nat) : Int) < 0 := by omega
    simp [h, this]
theorem swoC5 : SWO (ltOf cfC5) where
  irrefl x := by rw [ltC5]; simp
  trans x y z h1 h2 := by rw [ltC5] at *; simp at *; omega
  ntrans x y z h1 h2 := by rw [ltC5] at *; simp at *; omega
set_option maxHeartbeats 1000000 in
theorem closureC5 (x y : QC5) (W : World) : Calls Try.prog 57 #[.agg (encC5 x).toArray, .agg (encC5 y).toArray] W fun e w' => e = .returned (.int .i64 (cfC5 x y)) ∧ ∃ q os', w' = grow (W.drewN q) os' := by
  obtain ⟨x1, x2, x3, x4, x5⟩ := x
  obtain ⟨y1, y2, y3, y4, y5⟩ := y
  show Calls Try.prog 57 #[.agg #[.int .i64 ((x1.val : Nat) : Int), .int .i64 x2, .int .i64 x3, .int .i64 x4, .int .i64 x5], .agg #[.int .i64 ((y1.val : Nat) : Int), .int .i64 y2, .int .i64 y3, .int .i64 y4, .int .i64 y5]] W fun e w' => e = .returned (.int .i64 (((x1.val : Nat) : Int) - ((y1.val : Nat) : Int))) ∧ ∃ q os', w' = grow (W.drewN q) os'
  have h1 := x1.isLt
  have h2 := y1.isLt
  generalize x1.val = a at *
  generalize y1.val = b at *
  go_enter Try.func57, Try.ntmps57
  go_wp2
  go_ret
  exact ⟨rfl, 0, _, by rw [alloc_eq_grow, alloc_eq_grow, grow_grow]; rfl⟩
/-! The row's cells, flat. -/
theorem rowsC_len {α : Type} (f : α → List Value) (n : Nat) (hf : ∀ x, (f x).length = n) (ls : List α) : (rowsC f ls).length = n * ls.length := by
  unfold rowsC
  induction ls with
  | nil => rfl
  | cons x xs ih => rw [List.flatMap_cons, List.length_append, hf, ih, List.length_cons, Nat.mul_succ]; omega
theorem heap_sortedV {w : World} {g n : Nat} {os : Array Obj} {cur : Array Value} {e : TypeId} {fr : Nat × Nat} (F : Array Value) (hb : w.heap[g]? = some (.cells cur e fr)) :
    (grow (putRow id (Sort.ahead w n) g 0 F) os).heap[g]? = some (.cells (putCells id 0 F cur) e fr) := by
  have hg : g < w.heap.size := (Array.getElem?_eq_some_iff.1 hb).1
  rw [heap_grow_old _ _ (by simpa using hg)]
  simp [putRow, mapBlock, Sort.ahead, Array.getElem?_modify, hb, onCells]
theorem grownBy_sortedV {w : World} {g n : Nat} {os : Array Obj} (F : Array Value) : w.grownBy (grow (putRow id (Sort.ahead w n) g 0 F) os) (some g) := by
  refine ⟨rfl, rfl, rfl, by simp, fun k hk hne => ?_⟩
  rw [heap_grow_old _ _ (by simpa using hk)]
  have : g ≠ k := fun e => hne (by rw [e])
  simp [putRow, mapBlock, Sort.ahead, Array.getElem?_modify, this]
theorem take_putCellsV (cur : Array Value) (ts : List Value) (h : ts.length ≤ cur.size) : (putCells id 0 ts.toArray cur).toList.take ts.length = ts := by
  apply List.ext_getElem?
  intro j
  by_cases hj : j < ts.length
  · rw [List.getElem?_take_of_lt hj, Array.getElem?_toList]
    simp [putCells, hj, show j < cur.size by omega]
  · rw [List.getElem?_take_eq_none (by omega), List.getElem?_eq_none (by omega)]
theorem flatC5 (ds : List QC5) : flatK encC5 5 ds.toArray = (rowsC encC5 ds).toArray := by
  have hl := rowsC_len encC5 5 (fun _ => rfl) ds
  refine ext_get! (by simp [hl]; omega) (fun t ht => ?_)
  simp only [size_flatK, List.size_toArray] at ht
  rw [get_flatK _ _ _ t (by simpa using ht)]
  have h1 : t / 5 < ds.length := by omega
  have e := rowsC_get encC5 5 (fun _ => rfl) ds (t / 5) h1 (t % 5) (by omega)
  rw [show 5 * (t / 5) + t % 5 = t by omega] at e
  have h2 : t < (rowsC encC5 ds).length := by omega
  have e1 : ds.toArray[t / 5]! = ds[t / 5] := by simp [h1]
  rw [e1]
  have h3 : t % 5 < (encC5 ds[t / 5]).length := by show t % 5 < 5; omega
  have e2 : (encC5 ds[t / 5])[t % 5]! = (encC5 ds[t / 5])[t % 5] := getElem!_pos (encC5 ds[t / 5]) (t % 5) h3
  rw [e2]
  have e3 : (rowsC encC5 ds).toArray[t]! = (rowsC encC5 ds)[t] := by rw [getElem!_pos (rowsC encC5 ds).toArray t (by simpa using h2)]; simp
  rw [e3]
  rw [List.getElem?_eq_getElem h2, List.getElem?_eq_getElem h3] at e
  exact (Option.some.inj e).symm
theorem sortC5_any (B : Nat) (v : Value) (ds : List QC5) (w : World) (h : GRow w B 65 5 v ds.length (rowsC encC5 ds)) (hn : v.ownBlock ≠ none) (hl : ds.length < 4611686018427387904) :
    Calls Try.prog 56 #[v, .func (.func 57) #[] #[]] w fun r w' => r = .returned (.tuple #[]) ∧ ∃ ds' : List QC5, ds'.Perm ds ∧ ds'.Pairwise (fun x y => x.1.val ≤ y.1.val) ∧ GRow w' B 65 5 v ds.length (rowsC encC5 ds') ∧ Keep (fun x => v.ownBlock = some x) w w' := by
  have hlt := World.ownsRow.lt h
  have hlen := h.1
  rcases h.2 with ⟨q, _⟩ | ⟨g, cap, cur, q, hB, hg, h1, h2, h3, h4⟩
  · rw [q] at hn; exact absurd rfl hn
  · subst q
    have hgl := (hlt g rfl).2
    have hrl := rowsC_len encC5 5 (fun _ => rfl) ds
    have hH : HoldsK encC5 5 w g 0 ds.toArray := by
      unfold HoldsK
      rw [flatC5]
      intro j hj
      have hj' : j < (rowsC encC5 ds).length := by simpa using hj
      refine ⟨?_, by simp [World.frozen?, hg]⟩
      have e1 : (cur.toList.take (ds.length * 5))[j]? = (rowsC encC5 ds)[j]? := by rw [h4]
      rw [List.getElem?_take_of_lt (by omega)] at e1
      simp only [World.cell?, hg, Nat.zero_add]
      simp only [Option.isSome_none, Bool.false_eq_true, if_false]
      rw [← Array.getElem?_toList, e1]
      simp [hj']
    have eg : ∀ args w, (callFunc 57 args).run Try.prog w = .ok (.enter 57 args) w := enters_of Try.func57 (by kernel_rfl) rfl
    have K := AnyQ.slices_SortFunc laysC5 5 Try.isAgg65 Try.sizeOf65 encC5 (fun _ => rfl) (fun x v hv => by simp [encC5] at hv; rcases hv with rfl | rfl | rfl | rfl | rfl <;> rfl) cfC5 swoC5 57 #[] g 0 cap ds.toArray w eg (fun _ _ _ _ x y => closureC5 x y _) hH hgl (by simpa using hl)
    change Calls Try.prog 56 _ _ _ at K
    simp only [List.size_toArray] at K
    refine K.mono ?_
    rintro r w' ⟨rfl, d', n, os, hp, hs, rfl⟩
    obtain ⟨p1, -, p3⟩ := hp
    simp only [List.size_toArray] at p1
    have pe : d'.toList.Perm ds := by
      have e1 : d'.extract 0 ds.length = d' := by rw [← p1]; simp
      have e2 : ds.toArray.extract 0 ds.length = ds.toArray := by
        have : ds.length = ds.toArray.size := by simp
        rw [this]; simp
      rw [e1, e2] at p3
      exact p3
    have dl : d'.toList.length = ds.length := by simpa using p1
    have fr : flatK encC5 5 d' = (rowsC encC5 d'.toList).toArray := by
      have := flatC5 d'.toList
      simpa using this
    refine ⟨rfl, d'.toList, pe, ?_, ?_, ?_⟩
    · rw [List.pairwise_iff_getElem]
      intro i j hi hj hij
      have := hs i j (Nat.zero_le _) hij (by omega)
      rw [ltC5] at this
      simp only [decide_eq_false_iff_not] at this
      rw [getElem!_pos d' i (by simpa using hi), getElem!_pos d' j (by simpa using hj)] at this
      simpa using this
    · have hrl2 := rowsC_len encC5 5 (fun _ => rfl) d'.toList
      refine ⟨by omega, .inr ⟨g, cap, putCells id 0 (rowsC encC5 d'.toList).toArray cur, rfl, hB, ?_, h1, h2, ?_, ?_⟩⟩
      · unfold sortWorldK putRowK
        rw [fr]
        exact heap_sortedV _ hg
      · simp [putCells, h3]
      · rw [show ds.length * 5 = (rowsC encC5 d'.toList).length by omega]
        exact take_putCellsV cur _ (by omega)
    · unfold sortWorldK putRowK
      exact (Keep.refl _ w).grown (grownBy_sortedV _) (fun g' hg' _ => by cases hg'; rfl)
end Go.Proofs.Ytlloppalagddnaa
