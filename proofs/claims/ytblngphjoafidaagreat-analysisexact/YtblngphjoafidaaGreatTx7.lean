import Derived.Test.YtblngphjoafidaaGreatTx1
import Derived.Shelf.SlSortCmp.WholeK
namespace Go.Proofs.YtblngphjoafidaaGreat
open Go.RowKit Go.QK Go.Maps Go.QM Go.QT Go.Shelf Go.Lib Go.Sort
set_option maxRecDepth 100000

/-! The library's sort of structs, at this program's numbers. -/
def renF : Nat → Nat
  | 6 => 47
  | 14 => 73
  | 15 => 74
  | 20 => 87
  | 21 => 88
  | 22 => 89
  | 23 => 90
  | 24 => 91
  | 25 => 92
  | 26 => 93
  | 27 => 94
  | 28 => 95
  | 29 => 96
  | 46 => 99
  | 47 => 100
  | 48 => 101
  | 49 => 102
  | 50 => 103
  | 57 => 104
  | n => n
def renT : Nat → Nat
  | 22 => 31
  | 24 => 58
  | 25 => 109
  | 3 => 3
  | 39 => 125
  | 0 => 0
  | 53 => 141
  | 55 => 143
  | 4 => 4
  | 46 => 134
  | 45 => 133
  | 50 => 138
  | 5 => 5
  | 9 => 9
  | 66 => 145
  | 70 => 149
  | 76 => 151
  | 77 => 91
  | n => n
def renS : Ren := { f := renF, t := renT, g := fun n => n }
theorem laysF : SlLaysF0.n6 Tryz.prog renS :=
  { mixed := by kernel_rfl,
    f6 := ⟨Tryz.f47.name, by decide, Tryz.func47.trans (congrArg some (by kernel_rfl))⟩,
    f14 := ⟨Tryz.f73.name, by decide, Tryz.func73.trans (congrArg some (by kernel_rfl))⟩,
    f15 := Tryz.func74.trans (congrArg some (by kernel_rfl)),
    f20 := ⟨Tryz.f87.name, by decide, Tryz.func87.trans (congrArg some (by kernel_rfl))⟩,
    f21 := ⟨Tryz.f88.name, by decide, Tryz.func88.trans (congrArg some (by kernel_rfl))⟩,
    f22 := ⟨Tryz.f89.name, by decide, Tryz.func89.trans (congrArg some (by kernel_rfl))⟩,
    f23 := ⟨Tryz.f90.name, by decide, Tryz.func90.trans (congrArg some (by kernel_rfl))⟩,
    f24 := ⟨Tryz.f91.name, by decide, Tryz.func91.trans (congrArg some (by kernel_rfl))⟩,
    f25 := ⟨Tryz.f92.name, by decide, Tryz.func92.trans (congrArg some (by kernel_rfl))⟩,
    f26 := ⟨Tryz.f93.name, by decide, Tryz.func93.trans (congrArg some (by kernel_rfl))⟩,
    f27 := ⟨Tryz.f94.name, by decide, Tryz.func94.trans (congrArg some (by kernel_rfl))⟩,
    f28 := Tryz.func95.trans (congrArg some (by kernel_rfl)),
    f29 := Tryz.func96.trans (congrArg some (by kernel_rfl)),
    f46 := ⟨Tryz.f99.name, by decide, Tryz.func99.trans (congrArg some (by kernel_rfl))⟩,
    f47 := Tryz.func100.trans (congrArg some (by kernel_rfl)),
    f48 := Tryz.func101.trans (congrArg some (by kernel_rfl)),
    f49 := ⟨Tryz.f102.name, by decide, Tryz.func102.trans (congrArg some (by kernel_rfl))⟩,
    f50 := ⟨Tryz.f103.name, by decide, Tryz.func103.trans (congrArg some (by kernel_rfl))⟩,
    f57 := ⟨Tryz.f104.name, by decide, Tryz.func104.trans (congrArg some (by kernel_rfl))⟩,
    t0 := Tryz.underlying0, a0 := Tryz.isAgg0, z0 := Tryz.sizeOf0, v0 := Tryz.zeroValue0, t3 := Tryz.underlying3, a3 := Tryz.isAgg3, z3 := Tryz.sizeOf3, v3 := Tryz.zeroValue3, t4 := Tryz.underlying4, a4 := Tryz.isAgg4, z4 := Tryz.sizeOf4, v4 := Tryz.zeroValue4, t5 := Tryz.underlying5, a5 := Tryz.isAgg5, z5 := Tryz.sizeOf5, v5 := Tryz.zeroValue5, t9 := Tryz.underlying9, a9 := Tryz.isAgg9, z9 := Tryz.sizeOf9, v9 := Tryz.zeroValue9, t22 := Tryz.underlying31, a22 := Tryz.isAgg31, z22 := Tryz.sizeOf31, v22 := Tryz.zeroValue31, t25 := Tryz.underlying109, a25 := Tryz.isAgg109, z25 := Tryz.sizeOf109, v25 := Tryz.zeroValue109, t39 := Tryz.underlying125, a39 := Tryz.isAgg125, z39 := Tryz.sizeOf125, v39 := Tryz.zeroValue125, t45 := Tryz.underlying133, a45 := Tryz.isAgg133, z45 := Tryz.sizeOf133, v45 := Tryz.zeroValue133, t46 := Tryz.underlying134, a46 := Tryz.isAgg134, z46 := Tryz.sizeOf134, v46 := Tryz.zeroValue134, t50 := Tryz.underlying138, a50 := Tryz.isAgg138, z50 := Tryz.sizeOf138, v50 := Tryz.zeroValue138, t53 := Tryz.underlying141, a53 := Tryz.isAgg141, z53 := Tryz.sizeOf141, v53 := Tryz.zeroValue141, t55 := Tryz.underlying143, a55 := Tryz.isAgg143, z55 := Tryz.sizeOf143, v55 := Tryz.zeroValue143, t66 := Tryz.underlying145, a66 := Tryz.isAgg145, z66 := Tryz.sizeOf145, v66 := Tryz.zeroValue145, t70 := Tryz.underlying149, a70 := Tryz.isAgg149, z70 := Tryz.sizeOf149, v70 := Tryz.zeroValue149, t76 := Tryz.underlying151, a76 := Tryz.isAgg151, z76 := Tryz.sizeOf151, v76 := Tryz.zeroValue151, t77 := Tryz.underlying91, a77 := Tryz.isAgg91, z77 := Tryz.sizeOf91, v77 := Tryz.zeroValue91 }

/-! Transactions as plain tuples, for the library's laws. -/
abbrev Q4 := Int × Int × Bool × Bool
abbrev enc4 (x : Q4) : List Value := [.int .i64 x.1, .int .i64 x.2.1, .bool x.2.2.1, .bool x.2.2.2]
abbrev cf4 (x y : Q4) : Int := Lib.compareInt x.1 y.1
theorem lt4 (x y : Q4) : ltOf cf4 x y = decide (x.1 < y.1) := by
  unfold ltOf cf4 Lib.compareInt
  by_cases h1 : x.1 < y.1
  · simp [h1]
  · by_cases h2 : y.1 < x.1 <;> simp [h1, h2]
theorem swo4 : SWO (ltOf cf4) where
  irrefl x := by rw [lt4]; simp
  trans x y z h1 h2 := by rw [lt4] at *; simp at *; omega
  ntrans x y z h1 h2 := by rw [lt4] at *; simp at *; omega
set_option maxHeartbeats 1000000 in
theorem nan_any (x : Int) (w : World) : Calls Tryz.prog 75 #[.int .i64 x] w fun e w' => e = .returned (.bool false) ∧ w = w' := by
  go_enter Tryz.func75, Tryz.ntmps75
  go_wp2
  go_ret
  exact ⟨rfl, rfl⟩
set_option maxHeartbeats 1000000 in
theorem compare_any (x y : Int) (w : World) : Calls Tryz.prog 49 #[.int .i64 x, .int .i64 y] w fun e w' => e = .returned (.int .i64 (Lib.compareInt x y)) ∧ w = w' := by
  have K := fun x w => nan_any x w
  unfold Lib.compareInt
  by_cases h1 : x < y
  · have d1 : decide (x < y) = true := by simpa using h1
    rw [if_pos h1]
    go_enter Tryz.func49, Tryz.ntmps49
    go_wp2_with (go_at_call 75; refine (K _ _).mono ?_; rintro e wz ⟨rfl, rfl⟩)
    go_ret
    exact ⟨rfl, rfl⟩
  · have d1 : decide (x < y) = false := by simpa using h1
    rw [if_neg h1]
    by_cases h2 : y < x
    · have d2 : decide (y < x) = true := by simpa using h2
      rw [if_pos h2]
      go_enter Tryz.func49, Tryz.ntmps49
      go_wp2_with (go_at_call 75; refine (K _ _).mono ?_; rintro e wz ⟨rfl, rfl⟩)
      go_ret
      exact ⟨rfl, rfl⟩
    · have d2 : decide (y < x) = false := by simpa using h2
      rw [if_neg h2]
      go_enter Tryz.func49, Tryz.ntmps49
      go_wp2_with (go_at_call 75; refine (K _ _).mono ?_; rintro e wz ⟨rfl, rfl⟩)
      go_ret
      exact ⟨rfl, rfl⟩
set_option maxHeartbeats 1000000 in
theorem closure_any (x y : Q4) (W : World) : Calls Tryz.prog 48 #[.agg (enc4 x).toArray, .agg (enc4 y).toArray] W fun e w' => e = .returned (.int .i64 (cf4 x y)) ∧ ∃ q os', w' = grow (W.drewN q) os' := by
  obtain ⟨x1, x2, x3, x4⟩ := x
  obtain ⟨y1, y2, y3, y4⟩ := y
  have K := fun w => compare_any x1 y1 w
  show Calls Tryz.prog 48 #[.agg #[.int .i64 x1, .int .i64 x2, .bool x3, .bool x4], .agg #[.int .i64 y1, .int .i64 y2, .bool y3, .bool y4]] W fun e w' => e = .returned (.int .i64 (Lib.compareInt x1 y1)) ∧ ∃ q os', w' = grow (W.drewN q) os'
  generalize Lib.compareInt x1 y1 = r at *
  go_enter Tryz.func48, Tryz.ntmps48
  go_wp2_with (go_at_call 49; refine (K _).mono ?_; rintro e wz ⟨rfl, rfl⟩)
  go_ret
  exact ⟨rfl, 0, _, by rw [alloc_eq_grow, alloc_eq_grow, grow_grow]; rfl⟩

/-! The row's cells, flat. -/
theorem rowsC_len {α : Type} (f : α → List Value) (n : Nat) (hf : ∀ x, (f x).length = n) (ls : List α) : (rowsC f ls).length = n * ls.length := by
  unfold rowsC
  induction ls with
  | nil => rfl
  | cons x xs ih => rw [List.flatMap_cons, List.length_append, hf, ih, List.length_cons, Nat.mul_succ]; omega
theorem flat_rows (ds : List Q4) : flatK enc4 4 ds.toArray = (rowsC enc4 ds).toArray := by
  have hl := rowsC_len enc4 4 (fun _ => rfl) ds
  refine ext_get! (by simp [hl]; omega) (fun t ht => ?_)
  simp only [size_flatK, List.size_toArray] at ht
  rw [get_flatK _ _ _ t (by simpa using ht)]
  have h1 : t / 4 < ds.length := by omega
  have e := rowsC_get enc4 4 (fun _ => rfl) ds (t / 4) h1 (t % 4) (by omega)
  rw [show 4 * (t / 4) + t % 4 = t by omega] at e
  have h2 : t < (rowsC enc4 ds).length := by omega
  have e1 : ds.toArray[t / 4]! = ds[t / 4] := by simp [h1]
  rw [e1]
  have h3 : t % 4 < (enc4 ds[t / 4]).length := by show t % 4 < 4; omega
  have e2 : (enc4 ds[t / 4])[t % 4]! = (enc4 ds[t / 4])[t % 4] := getElem!_pos (enc4 ds[t / 4]) (t % 4) h3
  rw [e2]
  have e3 : (rowsC enc4 ds).toArray[t]! = (rowsC enc4 ds)[t] := by rw [getElem!_pos (rowsC enc4 ds).toArray t (by simpa using h2)]; simp
  rw [e3]
  rw [List.getElem?_eq_getElem h2, List.getElem?_eq_getElem h3] at e
  exact (Option.some.inj e).symm
theorem heap_sortedV {w : World} {g n : Nat} {os : Array Obj} {cur : Array Value} {e : TypeId} {fr : Nat × Nat} (F : Array Value) (hb : w.heap[g]? = some (.cells cur e fr)) :
    (grow (putRow id (Sort.ahead w n) g 0 F) os).heap[g]? = some (.cells (putCells id 0 F cur) e fr) := by
  have hg : g < w.heap.size := (Array.getElem?_eq_some_iff.1 hb).1
  rw [heap_grow_old _ _ (by simpa using hg)]
  simp [putRow, mapBlock, Sort.ahead, Array.getElem?_modify, hb, onCells]
theorem grownBy_sortedV {w : World} {g n : Nat} {os : Array Obj} (F : Array Value) : w.grownBy (grow (putRow id (Sort.ahead w n) g 0 F) os) (some g) := by
  refine ⟨rfl, rfl, rfl, by simp, fun k hk hne => ?_⟩
  rw [heap_grow_old _ _ (by simpa using hk)]
  have : g ≠ k := fun e => hne (by rw [e])
  simp [putRow, mapBlock, Sort.ahead, Array.getElem?_modify, this]
theorem take_putCellsV (cur : Array Value) (ts : List Value) (h : ts.length ≤ cur.size) : (putCells id 0 ts.toArray cur).toList.take ts.length = ts := by
  apply List.ext_getElem?
  intro j
  by_cases hj : j < ts.length
  · rw [List.getElem?_take_of_lt hj, Array.getElem?_toList]
    simp [putCells, hj, show j < cur.size by omega]
  · rw [List.getElem?_take_eq_none (by omega), List.getElem?_eq_none (by omega)]
theorem sort4_any (B : Nat) (v : Value) (ds : List Q4) (w : World) (h : GRow w B 58 4 v ds.length (rowsC enc4 ds)) (hn : v.ownBlock ≠ none) (hl : ds.length < 4611686018427387904) :
    Calls Tryz.prog 47 #[v, .func (.func 48) #[] #[]] w fun r w' => r = .returned (.tuple #[]) ∧ ∃ ds' : List Q4, ds'.Perm ds ∧ ds'.Pairwise (fun x y => x.1 ≤ y.1) ∧ GRow w' B 58 4 v ds.length (rowsC enc4 ds') ∧ Keep (fun x => v.ownBlock = some x) w w' := by
  have hlt := World.ownsRow.lt h
  have hlen := h.1
  rcases h.2 with ⟨q, _⟩ | ⟨g, cap, cur, q, hB, hg, h1, h2, h3, h4⟩
  · rw [q] at hn; exact absurd rfl hn
  · subst q
    have hgl := (hlt g rfl).2
    have hrl := rowsC_len enc4 4 (fun _ => rfl) ds
    have hH : HoldsK enc4 4 w g 0 ds.toArray := by
      unfold HoldsK
      rw [flat_rows]
      intro j hj
      have hj' : j < (rowsC enc4 ds).length := by simpa using hj
      refine ⟨?_, by simp [World.frozen?, hg]⟩
      have e1 : (cur.toList.take (ds.length * 4))[j]? = (rowsC enc4 ds)[j]? := by rw [h4]
      rw [List.getElem?_take_of_lt (by omega)] at e1
      simp only [World.cell?, hg, Nat.zero_add]
      simp only [Option.isSome_none, Bool.false_eq_true, if_false]
      rw [← Array.getElem?_toList, e1]
      simp [hj']
    have eg : ∀ args w, (callFunc 48 args).run Tryz.prog w = .ok (.enter 48 args) w := enters_of Tryz.func48 (by kernel_rfl) rfl
    have K := AnyQ.slices_SortFunc laysF 4 Tryz.isAgg58 Tryz.sizeOf58 enc4 (fun _ => rfl) (fun x v hv => by simp [enc4] at hv; rcases hv with rfl | rfl | rfl | rfl <;> rfl) cf4 swo4 48 #[] g 0 cap ds.toArray w eg (fun _ _ _ _ x y => closure_any x y _) hH hgl (by simpa using hl)
    change Calls Tryz.prog 47 _ _ _ at K
    simp only [List.size_toArray] at K
    refine K.mono ?_
    rintro r w' ⟨rfl, d', n, os, hp, hs, rfl⟩
    obtain ⟨p1, -, p3⟩ := hp
    simp only [List.size_toArray] at p1
    have pe : d'.toList.Perm ds := by
      have e1 : d'.extract 0 ds.length = d' := by rw [← p1]; simp
      have e2 : ds.toArray.extract 0 ds.length = ds.toArray := by
        have : ds.length = ds.toArray.size := by simp
        rw [this]; simp
      rw [e1, e2] at p3
      exact p3
    have dl : d'.toList.length = ds.length := by simpa using p1
    have fr : flatK enc4 4 d' = (rowsC enc4 d'.toList).toArray := by
      have := flat_rows d'.toList
      simpa using this
    refine ⟨rfl, d'.toList, pe, ?_, ?_, ?_⟩
    · rw [List.pairwise_iff_getElem]
      intro i j hi hj hij
      have := hs i j (Nat.zero_le _) hij (by omega)
      rw [lt4] at this
      simp only [decide_eq_false_iff_not] at this
      rw [getElem!_pos d' i (by simpa using hi), getElem!_pos d' j (by simpa using hj)] at this
      simpa using this
    · have hrl2 := rowsC_len enc4 4 (fun _ => rfl) d'.toList
      refine ⟨by omega, .inr ⟨g, cap, putCells id 0 (rowsC enc4 d'.toList).toArray cur, rfl, hB, ?_, h1, h2, ?_, ?_⟩⟩
      · unfold sortWorldK putRowK
        rw [fr]
        exact heap_sortedV _ hg
      · simp [putCells, h3]
      · rw [show ds.length * 4 = (rowsC enc4 d'.toList).length by omega]
        exact take_putCellsV cur _ (by omega)
    · unfold sortWorldK putRowK
      exact (Keep.refl _ w).grown (grownBy_sortedV _) (fun g' hg' _ => by cases hg'; rfl)
end Go.Proofs.YtblngphjoafidaaGreat
