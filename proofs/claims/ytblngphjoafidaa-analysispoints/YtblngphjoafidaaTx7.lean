import Derived.Test.YtblngphjoafidaaTx1
import Derived.Shelf.SlSortCmp.WholeK
namespace Go.Proofs.Ytblngphjoafidaa
open Go.RowKit Go.QK Go.Maps Go.QM Go.QT Go.Shelf Go.Lib Go.Sort
set_option maxRecDepth 100000

/-! The library's sort of structs, at this program's numbers. -/
def renF : Nat → Nat
  | 6 => 33
  | 14 => 56
  | 15 => 57
  | 20 => 66
  | 21 => 67
  | 22 => 68
  | 23 => 69
  | 24 => 70
  | 25 => 71
  | 26 => 72
  | 27 => 73
  | 28 => 74
  | 29 => 75
  | 46 => 77
  | 47 => 78
  | 48 => 79
  | 49 => 80
  | 50 => 81
  | 57 => 82
  | n => n
def renT : Nat → Nat
  | 22 => 28
  | 24 => 48
  | 25 => 93
  | 3 => 3
  | 39 => 108
  | 0 => 0
  | 53 => 124
  | 55 => 126
  | 4 => 4
  | 46 => 117
  | 45 => 116
  | 50 => 121
  | 5 => 5
  | 9 => 9
  | 66 => 127
  | 70 => 131
  | 76 => 133
  | 77 => 134
  | n => n
def renS : Ren := { f := renF, t := renT, g := fun n => n }
theorem laysF : SlLaysF0.n6 Try.prog renS :=
  { mixed := by kernel_rfl,
    f6 := ⟨Try.f33.name, by decide, Try.func33.trans (congrArg some (by kernel_rfl))⟩,
    f14 := ⟨Try.f56.name, by decide, Try.func56.trans (congrArg some (by kernel_rfl))⟩,
    f15 := Try.func57.trans (congrArg some (by kernel_rfl)),
    f20 := ⟨Try.f66.name, by decide, Try.func66.trans (congrArg some (by kernel_rfl))⟩,
    f21 := ⟨Try.f67.name, by decide, Try.func67.trans (congrArg some (by kernel_rfl))⟩,
    f22 := ⟨Try.f68.name, by decide, Try.func68.trans (congrArg some (by kernel_rfl))⟩,
    f23 := ⟨Try.f69.name, by decide, Try.func69.trans (congrArg some (by kernel_rfl))⟩,
    f24 := ⟨Try.f70.name, by decide, Try.func70.trans (congrArg some (by kernel_rfl))⟩,
    f25 := ⟨Try.f71.name, by decide, Try.func71.trans (congrArg some (by kernel_rfl))⟩,
    f26 := ⟨Try.f72.name, by decide, Try.func72.trans (congrArg some (by kernel_rfl))⟩,
    f27 := ⟨Try.f73.name, by decide, Try.func73.trans (congrArg some (by kernel_rfl))⟩,
    f28 := Try.func74.trans (congrArg some (by kernel_rfl)),
    f29 := Try.func75.trans (congrArg some (by kernel_rfl)),
    f46 := ⟨Try.f77.name, by decide, Try.func77.trans (congrArg some (by kernel_rfl))⟩,
    f47 := Try.func78.trans (congrArg some (by kernel_rfl)),
    f48 := Try.func79.trans (congrArg some (by kernel_rfl)),
    f49 := ⟨Try.f80.name, by decide, Try.func80.trans (congrArg some (by kernel_rfl))⟩,
    f50 := ⟨Try.f81.name, by decide, Try.func81.trans (congrArg some (by kernel_rfl))⟩,
    f57 := ⟨Try.f82.name, by decide, Try.func82.trans (congrArg some (by kernel_rfl))⟩,
    t0 := Try.underlying0, a0 := Try.isAgg0, z0 := Try.sizeOf0, v0 := Try.zeroValue0, t3 := Try.underlying3, a3 := Try.isAgg3, z3 := Try.sizeOf3, v3 := Try.zeroValue3, t4 := Try.underlying4, a4 := Try.isAgg4, z4 := Try.sizeOf4, v4 := Try.zeroValue4, t5 := Try.underlying5, a5 := Try.isAgg5, z5 := Try.sizeOf5, v5 := Try.zeroValue5, t9 := Try.underlying9, a9 := Try.isAgg9, z9 := Try.sizeOf9, v9 := Try.zeroValue9, t22 := Try.underlying28, a22 := Try.isAgg28, z22 := Try.sizeOf28, v22 := Try.zeroValue28, t25 := Try.underlying93, a25 := Try.isAgg93, z25 := Try.sizeOf93, v25 := Try.zeroValue93, t39 := Try.underlying108, a39 := Try.isAgg108, z39 := Try.sizeOf108, v39 := Try.zeroValue108, t45 := Try.underlying116, a45 := Try.isAgg116, z45 := Try.sizeOf116, v45 := Try.zeroValue116, t46 := Try.underlying117, a46 := Try.isAgg117, z46 := Try.sizeOf117, v46 := Try.zeroValue117, t50 := Try.underlying121, a50 := Try.isAgg121, z50 := Try.sizeOf121, v50 := Try.zeroValue121, t53 := Try.underlying124, a53 := Try.isAgg124, z53 := Try.sizeOf124, v53 := Try.zeroValue124, t55 := Try.underlying126, a55 := Try.isAgg126, z55 := Try.sizeOf126, v55 := Try.zeroValue126, t66 := Try.underlying127, a66 := Try.isAgg127, z66 := Try.sizeOf127, v66 := Try.zeroValue127, t70 := Try.underlying131, a70 := Try.isAgg131, z70 := Try.sizeOf131, v70 := Try.zeroValue131, t76 := Try.underlying133, a76 := Try.isAgg133, z76 := Try.sizeOf133, v76 := Try.zeroValue133, t77 := Try.underlying134, a77 := Try.isAgg134, z77 := Try.sizeOf134, v77 := Try.zeroValue134 }

/-! Transactions as plain tuples, for the library's laws. -/
abbrev Q4 := Int × Int × Bool × Bool
abbrev enc4 (x : Q4) : List Value := [.int .i64 x.1, .int .i64 x.2.1, .bool x.2.2.1, .bool x.2.2.2]
abbrev cf4 (x y : Q4) : Int := Lib.compareInt x.1 y.1
theorem lt4 (x y : Q4) : ltOf cf4 x y = decide (x.1 < y.1) := by
  unfold ltOf cf4 Lib.compareInt
  by_cases h1 : x.1 < y.1
  · simp [h1]
  · by_cases h2 : y.1 < x.1 <;> simp [h1, h2]
theorem swo4 : SWO (ltOf cf4) where
  irrefl x := by rw [lt4]; simp
  trans x y z h1 h2 := by rw [lt4] at *; simp at *; omega
  ntrans x y z h1 h2 := by rw [lt4] at *; simp at *; omega
set_option maxHeartbeats 1000000 in
theorem nan_any (x : Int) (w : World) : Calls Try.prog 58 #[.int .i64 x] w fun e w' => e = .returned (.bool false) ∧ w = w' := by
  go_enter Try.func58, Try.ntmps58
  go_wp2
  go_ret
  exact ⟨rfl, rfl⟩
set_option maxHeartbeats 1000000 in
theorem compare_any (x y : Int) (w : World) : Calls Try.prog 35 #[.int .i64 x, .int .i64 y] w fun e w' => e = .returned (.int .i64 (Lib.compareInt x y)) ∧ w = w' := by
  have K := fun x w => nan_any x w
  unfold Lib.compareInt
  by_cases h1 : x < y
  · have d1 : decide (x < y) = true := by simpa using h1
    rw [if_pos h1]
    go_enter Try.func35, Try.ntmps35
    go_wp2_with (go_at_call 58; refine (K _ _).mono ?_; rintro e wz ⟨rfl, rfl⟩)
    go_ret
    exact ⟨rfl, rfl⟩
  · have d1 : decide (x < y) = false := by simpa using h1
    rw [if_neg h1]
    by_cases h2 : y < x
    · have d2 : decide (y < x) = true := by simpa using h2
      rw [if_pos h2]
      go_enter Try.func35, Try.ntmps35
      go_wp2_with (go_at_call 58; refine (K _ _).mono ?_; rintro e wz ⟨rfl, rfl⟩)
      go_ret
      exact ⟨rfl, rfl⟩
    · have d2 : decide (y < x) = false := by simpa using h2
      rw [if_neg h2]
      go_enter Try.func35, Try.ntmps35
      go_wp2_with (go_at_call 58; refine (K _ _).mono ?_; rintro e wz ⟨rfl, rfl⟩)
      go_ret
      exact ⟨rfl, rfl⟩
set_option maxHeartbeats 1000000 in
theorem closure_any (x y : Q4) (W : World) : Calls Try.prog 34 #[.agg (enc4 x).toArray, .agg (enc4 y).toArray] W fun e w' => e = .returned (.int .i64 (cf4 x y)) ∧ ∃ q os', w' = grow (W.drewN q) os' := by
  obtain ⟨x1, x2, x3, x4⟩ := x
  obtain ⟨y1, y2, y3, y4⟩ := y
  have K := fun w => compare_any x1 y1 w
  show Calls Try.prog 34 #[.agg #[.int .i64 x1, .int .i64 x2, .bool x3, .bool x4], .agg #[.int .i64 y1, .int .i64 y2, .bool y3, .bool y4]] W fun e w' => e = .returned (.int .i64 (Lib.compareInt x1 y1)) ∧ ∃ q os', w' = grow (W.drewN q) os'
  generalize Lib.compareInt x1 y1 = r at *
  go_enter Try.func34, Try.ntmps34
  go_wp2_with (go_at_call 35; refine (K _).mono ?_; rintro e wz ⟨rfl, rfl⟩)
  go_ret
  exact ⟨rfl, 0, _, by rw [alloc_eq_grow, alloc_eq_grow, grow_grow]; rfl⟩

/-! The row's cells, flat. -/
theorem rowsC_len {α : Type} (f : α → List Value) (n : Nat) (hf : ∀ x, (f x).length = n) (ls : List α) : (rowsC f ls).length = n * ls.length := by
  unfold rowsC
  induction ls with
  | nil => rfl
  | cons x xs ih => rw [List.flatMap_cons, List.length_append, hf, ih, List.length_cons, Nat.mul_succ]; omega
theorem flat_rows (ds : List Q4) : flatK enc4 4 ds.toArray = (rowsC enc4 ds).toArray := by
  have hl := rowsC_len enc4 4 (fun _ => rfl) ds
  refine ext_get! (by simp [hl]; omega) (fun t ht => ?_)
  simp only [size_flatK, List.size_toArray] at ht
  rw [get_flatK _ _ _ t (by simpa using ht)]
  have h1 : t / 4 < ds.length := by omega
  have e := rowsC_get enc4 4 (fun _ => rfl) ds (t / 4) h1 (t % 4) (by omega)
  rw [show 4 * (t / 4) + t % 4 = t by omega] at e
  have h2 : t < (rowsC enc4 ds).length := by omega
  have e1 : ds.toArray[t / 4]! = ds[t / 4] := by simp [h1]
  rw [e1]
  have h3 : t % 4 < (enc4 ds[t / 4]).length := by show t % 4 < 4; omega
  have e2 : (enc4 ds[t / 4])[t % 4]! = (enc4 ds[t / 4])[t % 4] := getElem!_pos (enc4 ds[t / 4]) (t % 4) h3
  rw [e2]
  have e3 : (rowsC enc4 ds).toArray[t]! = (rowsC enc4 ds)[t] := by rw [getElem!_pos (rowsC enc4 ds).toArray t (by simpa using h2)]; simp
  rw [e3]
  rw [List.getElem?_eq_getElem h2, List.getElem?_eq_getElem h3] at e
  exact (Option.some.inj e).symm
theorem heap_sortedV {w : World} {g n : Nat} {os : Array Obj} {cur : Array Value} {e : TypeId} {fr : Nat × Nat} (F : Array Value) (hb : w.heap[g]? = some (.cells cur e fr)) :
    (grow (putRow id (Sort.ahead w n) g 0 F) os).heap[g]? = some (.cells (putCells id 0 F cur) e fr) := by
  have hg : g < w.heap.size := (Array.getElem?_eq_some_iff.1 hb).1
  rw [heap_grow_old _ _ (by simpa using hg)]
  simp [putRow, mapBlock, Sort.ahead, Array.getElem?_modify, hb, onCells]
theorem grownBy_sortedV {w : World} {g n : Nat} {os : Array Obj} (F : Array Value) : w.grownBy (grow (putRow id (Sort.ahead w n) g 0 F) os) (some g) := by
  refine ⟨rfl, rfl, rfl, by simp, fun k hk hne => ?_⟩
  rw [heap_grow_old _ _ (by simpa using hk)]
  have : g ≠ k := fun e => hne (by rw [e])
  simp [putRow, mapBlock, Sort.ahead, Array.getElem?_modify, this]
theorem take_putCellsV (cur : Array Value) (ts : List Value) (h : ts.length ≤ cur.size) : (putCells id 0 ts.toArray cur).toList.take ts.length = ts := by
  apply List.ext_getElem?
  intro j
  by_cases hj : j < ts.length
  · rw [List.getElem?_take_of_lt hj, Array.getElem?_toList]
    simp [putCells, hj, show j < cur.size by omega]
  · rw [List.getElem?_take_eq_none (by omega), List.getElem?_eq_none (by omega)]
theorem sort4_any (B : Nat) (v : Value) (ds : List Q4) (w : World) (h : GRow w B 48 4 v ds.length (rowsC enc4 ds)) (hn : v.ownBlock ≠ none) (hl : ds.length < 4611686018427387904) :
    Calls Try.prog 33 #[v, .func (.func 34) #[] #[]] w fun r w' => r = .returned (.tuple #[]) ∧ ∃ ds' : List Q4, ds'.Perm ds ∧ ds'.Pairwise (fun x y => x.1 ≤ y.1) ∧ GRow w' B 48 4 v ds.length (rowsC enc4 ds') ∧ Keep (fun x => v.ownBlock = some x) w w' := by
  have hlt := World.ownsRow.lt h
  have hlen := h.1
  rcases h.2 with ⟨q, _⟩ | ⟨g, cap, cur, q, hB, hg, h1, h2, h3, h4⟩
  · rw [q] at hn; exact absurd rfl hn
  · subst q
    have hgl := (hlt g rfl).2
    have hrl := rowsC_len enc4 4 (fun _ => rfl) ds
    have hH : HoldsK enc4 4 w g 0 ds.toArray := by
      unfold HoldsK
      rw [flat_rows]
      intro j hj
      have hj' : j < (rowsC enc4 ds).length := by simpa using hj
      refine ⟨?_, by simp [World.frozen?, hg]⟩
      have e1 : (cur.toList.take (ds.length * 4))[j]? = (rowsC enc4 ds)[j]? := by rw [h4]
      rw [List.getElem?_take_of_lt (by omega)] at e1
      simp only [World.cell?, hg, Nat.zero_add]
      simp only [Option.isSome_none, Bool.false_eq_true, if_false]
      rw [← Array.getElem?_toList, e1]
      simp [hj']
    have eg : ∀ args w, (callFunc 34 args).run Try.prog w = .ok (.enter 34 args) w := enters_of Try.func34 (by kernel_rfl) rfl
    have K := AnyQ.slices_SortFunc laysF 4 Try.isAgg48 Try.sizeOf48 enc4 (fun _ => rfl) (fun x v hv => by simp [enc4] at hv; rcases hv with rfl | rfl | rfl | rfl <;> rfl) cf4 swo4 34 #[] g 0 cap ds.toArray w eg (fun _ _ _ _ x y => closure_any x y _) hH hgl (by simpa using hl)
    change Calls Try.prog 33 _ _ _ at K
    simp only [List.size_toArray] at K
    refine K.mono ?_
    rintro r w' ⟨rfl, d', n, os, hp, hs, rfl⟩
    obtain ⟨p1, -, p3⟩ := hp
    simp only [List.size_toArray] at p1
    have pe : d'.toList.Perm ds := by
      have e1 : d'.extract 0 ds.length = d' := by rw [← p1]; simp
      have e2 : ds.toArray.extract 0 ds.length = ds.toArray := by
        have : ds.length = ds.toArray.size := by simp
        rw [this]; simp
      rw [e1, e2] at p3
      exact p3
    have dl : d'.toList.length = ds.length := by simpa using p1
    have fr : flatK enc4 4 d' = (rowsC enc4 d'.toList).toArray := by
      have := flat_rows d'.toList
      simpa using this
    refine ⟨rfl, d'.toList, pe, ?_, ?_, ?_⟩
    · rw [List.pairwise_iff_getElem]
      intro i j hi hj hij
      have := hs i j (Nat.zero_le _) hij (by omega)
      rw [lt4] at this
      simp only [decide_eq_false_iff_not] at this
      rw [getElem!_pos d' i (by simpa using hi), getElem!_pos d' j (by simpa using hj)] at this
      simpa using this
    · have hrl2 := rowsC_len enc4 4 (fun _ => rfl) d'.toList
      refine ⟨by omega, .inr ⟨g, cap, putCells id 0 (rowsC enc4 d'.toList).toArray cur, rfl, hB, ?_, h1, h2, ?_, ?_⟩⟩
      · unfold sortWorldK putRowK
        rw [fr]
        exact heap_sortedV _ hg
      · simp [putCells, h3]
      · rw [show ds.length * 4 = (rowsC enc4 d'.toList).length by omega]
        exact take_putCellsV cur _ (by omega)
    · unfold sortWorldK putRowK
      exact (Keep.refl _ w).grown (grownBy_sortedV _) (fun g' hg' _ => by cases hg'; rfl)
end Go.Proofs.Ytblngphjoafidaa
