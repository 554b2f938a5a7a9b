import Derived.Test.YtimakfnlcgedkaaRg5
namespace Go.Proofs.Ytimakfnlcgedkaa
open Go.RowKit Go.QK Go.Maps Go.QM Go.QR Go.Shelf
set_option maxRecDepth 100000

/-! The library's sort of numbers, at this program's numbers. -/
def renF : Nat → Nat
  | 189 => 35
  | 125 => 44
  | 257 => 43
  | 128 => 59
  | 129 => 60
  | 294 => 50
  | 295 => 51
  | 296 => 52
  | 297 => 53
  | 298 => 54
  | 299 => 55
  | 216 => 56
  | 300 => 57
  | 301 => 58
  | 328 => 61
  | 329 => 62
  | 330 => 63
  | 331 => 64
  | 332 => 65
  | 215 => 66
  | 343 => 67
  | n => n
def renT : Nat → Nat
  | 28 => 34
  | 3 => 3
  | 46 => 99
  | 0 => 0
  | 51 => 110
  | 53 => 112
  | 4 => 4
  | 183 => 103
  | 182 => 102
  | 131 => 107
  | 5 => 5
  | 9 => 9
  | 218 => 113
  | 222 => 117
  | 228 => 119
  | 229 => 120
  | n => n
def renS : Ren := { f := renF, t := renT, g := fun n => n }
theorem laysS : Lays.n189 Try.prog renS :=
  { mixed := by kernel_rfl,
    f125 := Try.func44.trans (congrArg some (by kernel_rfl)),
    f128 := Try.func59.trans (congrArg some (by kernel_rfl)),
    f129 := Try.func60.trans (congrArg some (by kernel_rfl)),
    f189 := Try.func35.trans (congrArg some (by kernel_rfl)),
    f215 := Try.func66.trans (congrArg some (by kernel_rfl)),
    f216 := Try.func56.trans (congrArg some (by kernel_rfl)),
    f257 := Try.func43.trans (congrArg some (by kernel_rfl)),
    f294 := Try.func50.trans (congrArg some (by kernel_rfl)),
    f295 := Try.func51.trans (congrArg some (by kernel_rfl)),
    f296 := Try.func52.trans (congrArg some (by kernel_rfl)),
    f297 := Try.func53.trans (congrArg some (by kernel_rfl)),
    f298 := Try.func54.trans (congrArg some (by kernel_rfl)),
    f299 := Try.func55.trans (congrArg some (by kernel_rfl)),
    f300 := Try.func57.trans (congrArg some (by kernel_rfl)),
    f301 := Try.func58.trans (congrArg some (by kernel_rfl)),
    f328 := Try.func61.trans (congrArg some (by kernel_rfl)),
    f329 := Try.func62.trans (congrArg some (by kernel_rfl)),
    f330 := Try.func63.trans (congrArg some (by kernel_rfl)),
    f331 := Try.func64.trans (congrArg some (by kernel_rfl)),
    f332 := Try.func65.trans (congrArg some (by kernel_rfl)),
    f343 := Try.func67.trans (congrArg some (by kernel_rfl)),
    t0 := Try.underlying0, a0 := Try.isAgg0, z0 := Try.sizeOf0, v0 := Try.zeroValue0, t3 := Try.underlying3, a3 := Try.isAgg3, z3 := Try.sizeOf3, v3 := Try.zeroValue3, t4 := Try.underlying4, a4 := Try.isAgg4, z4 := Try.sizeOf4, v4 := Try.zeroValue4, t5 := Try.underlying5, a5 := Try.isAgg5, z5 := Try.sizeOf5, v5 := Try.zeroValue5, t9 := Try.underlying9, a9 := Try.isAgg9, z9 := Try.sizeOf9, v9 := Try.zeroValue9, t28 := Try.underlying34, a28 := Try.isAgg34, z28 := Try.sizeOf34, v28 := Try.zeroValue34, t46 := Try.underlying99, a46 := Try.isAgg99, z46 := Try.sizeOf99, v46 := Try.zeroValue99, t51 := Try.underlying110, a51 := Try.isAgg110, z51 := Try.sizeOf110, v51 := Try.zeroValue110, t53 := Try.underlying112, a53 := Try.isAgg112, z53 := Try.sizeOf112, v53 := Try.zeroValue112, t131 := Try.underlying107, a131 := Try.isAgg107, z131 := Try.sizeOf107, v131 := Try.zeroValue107, t182 := Try.underlying102, a182 := Try.isAgg102, z182 := Try.sizeOf102, v182 := Try.zeroValue102, t183 := Try.underlying103, a183 := Try.isAgg103, z183 := Try.sizeOf103, v183 := Try.zeroValue103, t218 := Try.underlying113, a218 := Try.isAgg113, z218 := Try.sizeOf113, v218 := Try.zeroValue113, t222 := Try.underlying117, a222 := Try.isAgg117, z222 := Try.sizeOf117, v222 := Try.zeroValue117, t228 := Try.underlying119, a228 := Try.isAgg119, z228 := Try.sizeOf119, v228 := Try.zeroValue119, t229 := Try.underlying120, a229 := Try.isAgg120, z229 := Try.sizeOf120, v229 := Try.zeroValue120 }

theorem sort_any (B : Nat) (v : Value) (ks : List Int) (w : World) (h : Owns .i64 3 w B v ks) (hn : v.ownBlock ≠ none) (hl : ks.length < 4611686018427387904) :
    Calls Try.prog 35 #[v] w fun r w' => r = .returned (.tuple #[]) ∧ Owns .i64 3 w' B v (ks.mergeSort fun x y => decide (x ≤ y)) ∧ Keep (fun x => v.ownBlock = some x) w w' := by
  have hlt := World.ownsRow.lt h
  rcases h.2 with ⟨q, _⟩ | ⟨g, cap, cur, q, hB, hg, h1, h2, h3, h4⟩
  · rw [q] at hn; exact absurd rfl hn
  · subst q
    have hgl := (hlt g rfl).2
    have hH := holds_of_blockI (ss := ks) hg (by simpa using h4)
    have K := Any.slices_Sort_int laysS g 0 cap ks w hH hgl hl
    refine K.mono ?_
    rintro r w' ⟨rfl, n, os, rfl⟩
    refine ⟨rfl, ?_, ?_⟩
    · have := ownsRow_sortedI (n := n) (os := os) (ts := ks.mergeSort fun x y => decide (x ≤ y)) (by simp) hB hg h1 h2 h3
      unfold Owns
      rw [List.length_mergeSort]
      exact this
    · exact (Keep.refl _ w).grown (grownBy_sortedI _) (fun g' hg' _ => by cases hg'; rfl)


theorem info3 : (Try.prog.info? 3).map (fun i => (i.zero, i.size, i.bytes)) = some (some (.int .i64 0), 1, 8) := by kernel_rfl
theorem key_int {key : Value} {kl : Lit} (h : keyOf Try.prog 3 key = some kl) : ∃ x : Int, key = .int .i64 x := by
  obtain ⟨x, e, _⟩ := Maps.keyOf_int_inv Try.underlying3 h
  exact ⟨x, e⟩
abbrev metE (L : Prs Value) (left : Lit → Bool) : Prs Value := L.filter (fun p => !left (.int .i64 p.1))
theorem metE_start (L : Prs Value) : metE L (Maps.has (mapE (H := Value) .held L)) = [] := by
  rw [List.filter_eq_nil_iff]
  intro p hp
  rw [mapE_has]
  have : hasM L p.1 = true := List.any_eq_true.2 ⟨p, hp, by simp⟩
  simp [this]
theorem metE_end (L : Prs Value) {left : Lit → Bool} (h : ∀ kl, left kl = false) : metE L left = L := by
  rw [List.filter_eq_self]
  intro p _
  simp [h]
theorem keys_of {L : Prs Value} (h : Up L) : (L.map Prod.fst).Pairwise (· ≤ ·) := by
  rw [List.pairwise_map]
  exact h.imp (fun {a b} q => Int.le_of_lt q)

set_option maxHeartbeats 2000000 in
theorem rising25_any (m : Nat) (f : Int → Option Value) (kk : List Int) (w : World) (h : CM w m f kk) (hl : kk.length < 1000000000) :
    Calls Try.prog 25 #[.map (some m)] w fun r w' => ∃ v, r = .returned v ∧ Owns .i64 3 w' w.heap.size v (rise kk) ∧ v.ownBlock ≠ none ∧ Below w.heap.size w w' := by
  obtain ⟨L, hU, hA, hf, hperm⟩ := h
  obtain ⟨i0, hi, hz0, hz1, hz2⟩ := info_parts info3
  have hll : L.length < 1000000000 := by have := hperm.length_eq; simp at this; omega
  have hml := World.ownsMap.lt hA
  have MW := hide (show w.ownsMap Try.prog 3 anyElem m _ (mapE .held L) from hA)
  have HSZ := hide (mapE_size (en := DataW.held (H := Value)) L)
  have HL := hide hll
  have HR := hide (show L.map Prod.fst = rise kk from rise_of hperm (keys_of hU))
  have HU := hide hU
  clear hA hU hf hperm hl hll
  go_enter Try.func25, Try.ntmps25
  go_wp2_with (first
    | (at_len; refine wpList_len_own _ rfl _ 66 rfl 3 70 Try.underlying66 _ m _ _ rfl MW.out ?_; rw [HSZ.out])
    | (at_make; refine wpList_make_own _ rfl _ _ 34 rfl w.heap.size 3 i0 (.int .i64 0) 1 Try.underlying34 hi hz0 hz1 _ _ _ L.length rfl rfl rfl (by have := HL.out; rw [hz2]; omega) (by have := HL.out; unfold maxLen; omega) (Nat.le_refl _) ?_; intro w1 hrow1 hg1)
    | (at_range; refine wpList_range_own _ rfl _ 66 rfl 3 70 lawK Try.underlying66 _ m _ _ rfl (MW.out.kept hg1 (by simp)) ?_; intro w0 hrg0 hg0 hs0)
    | fail)
  go_frame
  have hb1 := (Below.refl w.heap.size w).grown hg1 (Nat.le_refl _) (fun j hj => by cases hj)
  have s1 := hb1.size
  clear hs0
  go_loopw [3] (fun v wr => ∃ (left : Lit → Bool) (cnt : Nat) (ks : List Int), wr.ranges Try.prog 3 anyElem m w1.heap.size L.length (mapE .held L) left cnt ∧ ks.length + cnt ≤ L.length ∧ GRow wr w.heap.size 3 1 v ks.length (ks.map (Value.int .i64)) ∧ v ≠ .slice none 0 0 ∧ ks.Perm ((metE L left).map Prod.fst) ∧ Below w.heap.size w wr) (fun _ wr => wr.rangeLeft m w1.heap.size)
  case atStart =>
    refine ⟨_, _, [], hrg0, by rw [mapE_size]; simp, World.ownsRow.kept hrow1 hg0 (Or.inr (by simp [Value.ownBlock])), by simp, by rw [metE_start]; exact List.Perm.refl _, ?_⟩
    exact hb1.grown hg0 s1 (fun j hj => by cases hj)
  case round =>
    obtain ⟨left, cnt, ks, hrg, hcs, hrow, hnn, hP, hb⟩ := hrel
    go_wp2_with (at_next; refine wpList_next_ranges (α := Int) (β := Value) _ rfl _ rfl 3 lawK anyElem (Value.int .i64) id (fun _ _ hk => key_int hk) (fun v _ _ => ⟨v, rfl⟩) m w1.heap.size _ _ _ _ rfl hrg ?_ ?_)
    · intro _ hl0
      rw [metE_end _ hl0] at hP
      have hnb : u3.ownBlock ≠ none := by
        rcases hrow.2 with ⟨q, _⟩ | ⟨g, cap, cur, q, _⟩
        · exact absurd q hnn
        · rw [q]; simp [Value.ownBlock]
      have KS := sort_any w.heap.size u3 ks wr (by simpa [Owns] using hrow) hnb (by have := HL.out; omega)
      have HLOW := hide (fun g (hg : u3.ownBlock = some g) => (World.ownsRow.lt hrow g hg).1)
      have hfin : (ks.mergeSort fun x y => decide (x ≤ y)) = rise kk := by
        rw [← HR.out]
        exact sorted_eq ((List.mergeSort_perm ks _).trans hP) (rise_sorted ks) (keys_of HU.out)
      rw [hfin] at KS
      have HNB := hide hnb
      have HBW := hide hb
      clear hfin hnb hb hcs hP hnn hrow
      go_wp2_with fail
      refine KS.mono ?_
      rintro r w' ⟨rfl, ho, hk⟩
      go_wp2_with fail
      go_ret
      exact ⟨_, rfl, ho, HNB.out, HBW.out.trans (hk.below HBW.out.size (fun k hk' q => by have := HLOW.out k q; omega))⟩
    · intro x c kl y1 y2 w2 cnt2 hkx hlx hRc hRd hat hrg2 hlt hg2 hs2 hen
      obtain ⟨x', ex, rfl, hwx⟩ := Maps.keyOf_int_inv Try.underlying3 hkx
      injection ex with _ ex
      subst ex
      subst hRc hRd
      obtain ⟨c', hc', hd', hperm⟩ := visitE (en := DataW.held (H := Value)) HU.out left hlx hat
      have hP2 : (ks ++ [x]).Perm ((metE L (fun z => left z && !z.sameKey (.int .i64 x))).map Prod.fst) := by
        refine (List.perm_append_singleton x ks).trans ?_
        refine (List.Perm.cons x hP).trans ?_
        exact (hperm.map Prod.fst).symm
      have HP2 := hide hP2
      have hrow2 := World.ownsRow.kept hrow hg2 (Or.inr (row_ne_iter hrow hrg).symm)
      have hsz2 := hb.size
      have hg2s := hg2.size
      have hLL := HL.out
      clear hs2 hP2 hperm hc' hd' hat hlx hkx hwx
      go_wp2_with (first
        | (at_builtin; refine wpList_append_own _ rfl _ _ 34 rfl w.heap.size 3 i0 (.int .i64 0) 1 8 Try.underlying34 hi hz0 hz1 hz2 rfl (by decide) _ _ _ rfl (hrow2.alloc _) ⟨w2.heap.size, 0, none⟩ 1 1 [.int .i64 x] rfl rfl (cell_one_new _ _ _) (by simp [Value.oneCell']) (by unfold maxLen at *; omega) (by omega) (by simp; omega) ?_; intro v' w3 hown' hg3 hnil3; go_frame)
        | fail)
      have hrg3 := (hrg2.alloc _).kept hg3 (row_ne_low hrow2 hml) (row_ne_iter hrow2 hrg2)
      go_roundw
      case rel =>
        refine ⟨_, cnt2, ks ++ [x], hrg3, by simp; omega, by simpa using hown', fun hv' => by have := (hnil3.1 hv').2; omega, HP2.out, ?_⟩
        exact ((hb.grown hg2 hb.size (fun j hj => by cases hj; exact s1)).alloc (by omega) _).grown hg3 (by simp; omega) (fun j hj => (hrow2.lt j hj).1)
      case measure => rw [hrg3.left_eq, hrg.left_eq]; exact hlt

set_option maxHeartbeats 2000000 in
theorem rising26_any (m : Nat) (f : Int → Option Value) (kk : List Int) (w : World) (h : CM w m f kk) (hl : kk.length < 1000000000) :
    Calls Try.prog 26 #[.map (some m)] w fun r w' => ∃ v, r = .returned v ∧ Owns .i64 3 w' w.heap.size v (rise kk) ∧ v.ownBlock ≠ none ∧ Below w.heap.size w w' := by
  obtain ⟨L, hU, hA, hf, hperm⟩ := h
  obtain ⟨i0, hi, hz0, hz1, hz2⟩ := info_parts info3
  have hll : L.length < 1000000000 := by have := hperm.length_eq; simp at this; omega
  have hml := World.ownsMap.lt hA
  have MW := hide (show w.ownsMap Try.prog 3 anyElem m _ (mapE .held L) from hA)
  have HSZ := hide (mapE_size (en := DataW.held (H := Value)) L)
  have HL := hide hll
  have HR := hide (show L.map Prod.fst = rise kk from rise_of hperm (keys_of hU))
  have HU := hide hU
  clear hA hU hf hperm hl hll
  go_enter Try.func26, Try.ntmps26
  go_wp2_with (first
    | (at_len; refine wpList_len_own _ rfl _ 41 rfl 3 30 Try.underlying41 _ m _ _ rfl MW.out ?_; rw [HSZ.out])
    | (at_make; refine wpList_make_own _ rfl _ _ 34 rfl w.heap.size 3 i0 (.int .i64 0) 1 Try.underlying34 hi hz0 hz1 _ _ _ L.length rfl rfl rfl (by have := HL.out; rw [hz2]; omega) (by have := HL.out; unfold maxLen; omega) (Nat.le_refl _) ?_; intro w1 hrow1 hg1)
    | (at_range; refine wpList_range_own _ rfl _ 41 rfl 3 30 lawK Try.underlying41 _ m _ _ rfl (MW.out.kept hg1 (by simp)) ?_; intro w0 hrg0 hg0 hs0)
    | fail)
  go_frame
  have hb1 := (Below.refl w.heap.size w).grown hg1 (Nat.le_refl _) (fun j hj => by cases hj)
  have s1 := hb1.size
  clear hs0
  go_loopw [3] (fun v wr => ∃ (left : Lit → Bool) (cnt : Nat) (ks : List Int), wr.ranges Try.prog 3 anyElem m w1.heap.size L.length (mapE .held L) left cnt ∧ ks.length + cnt ≤ L.length ∧ GRow wr w.heap.size 3 1 v ks.length (ks.map (Value.int .i64)) ∧ v ≠ .slice none 0 0 ∧ ks.Perm ((metE L left).map Prod.fst) ∧ Below w.heap.size w wr) (fun _ wr => wr.rangeLeft m w1.heap.size)
  case atStart =>
    refine ⟨_, _, [], hrg0, by rw [mapE_size]; simp, World.ownsRow.kept hrow1 hg0 (Or.inr (by simp [Value.ownBlock])), by simp, by rw [metE_start]; exact List.Perm.refl _, ?_⟩
    exact hb1.grown hg0 s1 (fun j hj => by cases hj)
  case round =>
    obtain ⟨left, cnt, ks, hrg, hcs, hrow, hnn, hP, hb⟩ := hrel
    go_wp2_with (at_next; refine wpList_next_ranges (α := Int) (β := Value) _ rfl _ rfl 3 lawK anyElem (Value.int .i64) id (fun _ _ hk => key_int hk) (fun v _ _ => ⟨v, rfl⟩) m w1.heap.size _ _ _ _ rfl hrg ?_ ?_)
    · intro _ hl0
      rw [metE_end _ hl0] at hP
      have hnb : u3.ownBlock ≠ none := by
        rcases hrow.2 with ⟨q, _⟩ | ⟨g, cap, cur, q, _⟩
        · exact absurd q hnn
        · rw [q]; simp [Value.ownBlock]
      have KS := sort_any w.heap.size u3 ks wr (by simpa [Owns] using hrow) hnb (by have := HL.out; omega)
      have HLOW := hide (fun g (hg : u3.ownBlock = some g) => (World.ownsRow.lt hrow g hg).1)
      have hfin : (ks.mergeSort fun x y => decide (x ≤ y)) = rise kk := by
        rw [← HR.out]
        exact sorted_eq ((List.mergeSort_perm ks _).trans hP) (rise_sorted ks) (keys_of HU.out)
      rw [hfin] at KS
      have HNB := hide hnb
      have HBW := hide hb
      clear hfin hnb hb hcs hP hnn hrow
      go_wp2_with fail
      refine KS.mono ?_
      rintro r w' ⟨rfl, ho, hk⟩
      go_wp2_with fail
      go_ret
      exact ⟨_, rfl, ho, HNB.out, HBW.out.trans (hk.below HBW.out.size (fun k hk' q => by have := HLOW.out k q; omega))⟩
    · intro x c kl y1 y2 w2 cnt2 hkx hlx hRc hRd hat hrg2 hlt hg2 hs2 hen
      obtain ⟨x', ex, rfl, hwx⟩ := Maps.keyOf_int_inv Try.underlying3 hkx
      injection ex with _ ex
      subst ex
      subst hRc hRd
      obtain ⟨c', hc', hd', hperm⟩ := visitE (en := DataW.held (H := Value)) HU.out left hlx hat
      have hP2 : (ks ++ [x]).Perm ((metE L (fun z => left z && !z.sameKey (.int .i64 x))).map Prod.fst) := by
        refine (List.perm_append_singleton x ks).trans ?_
        refine (List.Perm.cons x hP).trans ?_
        exact (hperm.map Prod.fst).symm
      have HP2 := hide hP2
      have hrow2 := World.ownsRow.kept hrow hg2 (Or.inr (row_ne_iter hrow hrg).symm)
      have hsz2 := hb.size
      have hg2s := hg2.size
      have hLL := HL.out
      clear hs2 hP2 hperm hc' hd' hat hlx hkx hwx
      go_wp2_with (first
        | (at_builtin; refine wpList_append_own _ rfl _ _ 34 rfl w.heap.size 3 i0 (.int .i64 0) 1 8 Try.underlying34 hi hz0 hz1 hz2 rfl (by decide) _ _ _ rfl (hrow2.alloc _) ⟨w2.heap.size, 0, none⟩ 1 1 [.int .i64 x] rfl rfl (cell_one_new _ _ _) (by simp [Value.oneCell']) (by unfold maxLen at *; omega) (by omega) (by simp; omega) ?_; intro v' w3 hown' hg3 hnil3; go_frame)
        | fail)
      have hrg3 := (hrg2.alloc _).kept hg3 (row_ne_low hrow2 hml) (row_ne_iter hrow2 hrg2)
      go_roundw
      case rel =>
        refine ⟨_, cnt2, ks ++ [x], hrg3, by simp; omega, by simpa using hown', fun hv' => by have := (hnil3.1 hv').2; omega, HP2.out, ?_⟩
        exact ((hb.grown hg2 hb.size (fun j hj => by cases hj; exact s1)).alloc (by omega) _).grown hg3 (by simp; omega) (fun j hj => (hrow2.lt j hj).1)
      case measure => rw [hrg3.left_eq, hrg.left_eq]; exact hlt

set_option maxHeartbeats 1000000 in
theorem counters_any (b m g : Nat) (r : Reg) (w : World) (h : PR w b m g r) : Calls Try.prog 13 #[ptr b] w fun e w' => ∃ v, e = .returned v ∧ Owns .i64 3 w' w.heap.size v (rise r.nums) ∧ v.ownBlock ≠ none ∧ Below w.heap.size w w' := by
  have K := rising25_any m _ _ w h.cm (by have := h.ok.lens.1; simp [Reg.nums]; omega)
  obtain ⟨k1, _⟩ := h.box.get 1 _ rfl
  clear h
  go_enter Try.func13, Try.ntmps13
  go_wp2_with fail
  refine K.mono ?_
  rintro e w' ⟨v, rfl, h1, h2, h3⟩
  go_wp2_with fail
  go_ret
  exact ⟨v, rfl, h1, h2, h3⟩
set_option maxHeartbeats 1000000 in
theorem groups_any (b m g : Nat) (r : Reg) (w : World) (h : PR w b m g r) : Calls Try.prog 17 #[ptr b] w fun e w' => ∃ v, e = .returned v ∧ Owns .i64 3 w' w.heap.size v (rise r.G) ∧ v.ownBlock ≠ none ∧ Below w.heap.size w w' := by
  have K := rising26_any g _ _ w h.gm (by have := h.ok.lens.2; omega)
  obtain ⟨k1, _⟩ := h.box.get 2 _ rfl
  clear h
  go_enter Try.func17, Try.ntmps17
  go_wp2_with fail
  refine K.mono ?_
  rintro e w' ⟨v, rfl, h1, h2, h3⟩
  go_wp2_with fail
  go_ret
  exact ⟨v, rfl, h1, h2, h3⟩
end Go.Proofs.Ytimakfnlcgedkaa
