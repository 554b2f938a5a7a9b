import Derived.Test.YtehbpmibllpkhaaGreatDoorUd6
set_option linter.all false
namespace Go.Proofs.YtehbpmibllpkhaaGreatDoor
open Go.RowKit Go.QK Go.Maps Go.QM Go.QU
set_option maxRecDepth 100000
theorem info3 : (Tryz.prog.info? 3).map (fun i => (i.zero, i.size, i.bytes)) = some (some (.int .i64 0), 1, 8) := by kernel_rfl
theorem key_int {key : Value} {kl : Lit} (h : keyOf Tryz.prog 3 key = some kl) : ∃ x : Int, key = .int .i64 x := by
  obtain ⟨x, e, _⟩ := Maps.keyOf_int_inv Tryz.underlying3 h
  exact ⟨x, e⟩
abbrev metE (L : Prs Value) (left : Lit → Bool) : Prs Value := L.filter (fun p => !left (.int .i64 p.1))
theorem metE_start (L : Prs Value) : metE L (Maps.has (mapE (H := Value) .held L)) = [] := by
  rw [List.filter_eq_nil_iff]
  intro p hp
  rw [mapE_has]
  have : hasM L p.1 = true := List.any_eq_true.2 ⟨p, hp, by simp⟩
  simp [this]
theorem metE_end (L : Prs Value) {left : Lit → Bool} (h : ∀ kl, left kl = false) : metE L left = L := by
  rw [List.filter_eq_self]
  intro p _
  simp [h]
theorem keys_of {L : Prs Value} (h : Up L) : (L.map Prod.fst).Pairwise (· ≤ ·) := by
  rw [List.pairwise_map]
  exact h.imp (fun {a b} q => Int.le_of_lt q)
theorem sort_is {ks zs : List Int} (h : ks.Perm zs) (hz : zs.Pairwise (· ≤ ·)) : (ks.mergeSort fun x y => decide (x ≤ y)) = zs := by
  refine ((List.mergeSort_perm ks _).trans h).eq_of_pairwise (le := (· ≤ ·)) (fun a b _ _ => Int.le_antisymm) ?_ hz
  have := List.pairwise_mergeSort (le := fun x y : Int => decide (x ≤ y)) (fun a b c h1 h2 => by simp at *; omega) (fun a b => by simp; omega) ks
  exact this.imp (fun {a b} q => by simpa using q)
theorem bkV_keys (L : Prs Hd) : (bkV L).map Prod.fst = L.map Prod.fst := by
  unfold bkV
  rw [List.map_map]
  rfl
set_option maxHeartbeats 4000000 in
theorem counters_any (b m : Nat) (L : Prs Hd) (w : World) (h : PB w b m L) :
    Calls Tryz.prog 35 #[ptr b] w fun r w' => ∃ v, r = .returned v ∧ Owns .i64 3 w' w.heap.size v (L.map (·.1)) ∧ Below w.heap.size w w' := by
  obtain ⟨k0, -⟩ := h.box.get 0 _ rfl
  obtain ⟨i0, hi, hz0, hz1, hz2⟩ := info_parts info3
  have hml := World.ownsMap.lt h.mp
  have MW := hide (show w.ownsMap Tryz.prog 3 anyElem m _ (mapE .held (bkV L)) from h.mp)
  have HL := hide (show (bkV L).length < 1000000000000 by rw [bkV_len]; exact h.few)
  have HU := hide (bkV_up h.up)
  have HK := hide (bkV_keys L)
  clear h
  obtain ⟨V, hV⟩ : ∃ V, V = bkV L := ⟨_, rfl⟩
  rw [← hV] at MW HL HU HK
  rw [← HK.out]
  clear hV HK
  go_enter Tryz.func35, Tryz.ntmps35
  go_wp2_with (first
    | (at_range; refine wpList_range_own _ rfl _ 93 rfl 3 98 lawK Tryz.underlying93 _ m _ _ rfl MW.out ?_; intro w0 hrg0 hg0 hs0)
    | fail)
  go_frame
  clear hs0
  go_loopw [3] (fun v wr => ∃ (left : Lit → Bool) (cnt : Nat) (ks : List Int), wr.ranges Tryz.prog 3 anyElem m w.heap.size V.length (mapE .held V) left cnt ∧ ks.length + cnt ≤ V.length ∧ GRow wr w.heap.size 3 1 v ks.length (ks.map (Value.int .i64)) ∧ ks.Perm ((metE V left).map Prod.fst) ∧ Below w.heap.size w wr) (fun _ wr => wr.rangeLeft m w.heap.size)
  case atStart =>
    refine ⟨_, _, [], hrg0, by rw [mapE_size]; simp, World.ownsRow_nil _ _ _ _, by rw [metE_start]; exact List.Perm.refl _, ?_⟩
    exact (Below.refl w.heap.size w).grown hg0 (Nat.le_refl _) (fun j hj => by cases hj)
  case round =>
    obtain ⟨left, cnt, ks, hrg, hcs, hrow, hP, hb⟩ := hrel
    go_wp2_with (at_next; refine wpList_next_ranges (α := Int) (β := Value) _ rfl _ rfl 3 lawK anyElem (Value.int .i64) id (fun _ _ hk => key_int hk) (fun v _ _ => ⟨v, rfl⟩) m w.heap.size _ _ _ _ rfl hrg ?_ ?_)
    · intro _ hl0
      rw [metE_end _ hl0] at hP
      have KS := sortO w.heap.size u3 ks wr (by simpa [Owns] using hrow) (by have := HL.out; omega)
      have HLOW := hide (fun g (hg : u3.ownBlock = some g) => (World.ownsRow.lt hrow g hg).1)
      rw [sort_is hP (keys_of HU.out)] at KS
      have HBW := hide hb
      clear hb hcs hP hrow
      go_wp2_with fail
      refine KS.mono ?_
      rintro r w' ⟨rfl, ho, hk⟩
      go_wp2_with fail
      go_ret
      exact ⟨_, rfl, ho, HBW.out.trans (hk.below HBW.out.size (fun k hk' q => by have := HLOW.out k q; omega))⟩
    · intro x c kl y1 y2 w2 cnt2 hkx hlx hRc hRd hat hrg2 hlt hg2 hs2 hen
      obtain ⟨x', ex, rfl, hwx⟩ := Maps.keyOf_int_inv Tryz.underlying3 hkx
      injection ex with _ ex
      subst ex
      subst hRc hRd
      obtain ⟨c', hc', hd', hperm⟩ := visitE (en := DataW.held (H := Value)) HU.out left hlx hat
      have hP2 : (ks ++ [x]).Perm ((metE V (fun z => left z && !z.sameKey (.int .i64 x))).map Prod.fst) := by
        refine (List.perm_append_singleton x ks).trans ?_
        refine (List.Perm.cons x hP).trans ?_
        exact (hperm.map Prod.fst).symm
      have HP2 := hide hP2
      have hrow2 := World.ownsRow.kept hrow hg2 (Or.inr (row_ne_iter hrow hrg).symm)
      have hsz2 := hb.size
      have hg2s := hg2.size
      have hLL := HL.out
      clear hs2 hP2 hperm hc' hd' hat hlx hkx hwx
      go_wp2_with (first
        | (at_builtin; refine wpList_append_own _ rfl _ _ 35 rfl w.heap.size 3 i0 (.int .i64 0) 1 8 Tryz.underlying35 hi hz0 hz1 hz2 rfl (by decide) _ _ _ rfl (hrow2.alloc _) ⟨w2.heap.size, 0, none⟩ 1 1 [.int .i64 x] rfl rfl (cell_one_new _ _ _) (by simp [Value.oneCell']) (by unfold maxLen at *; omega) (by omega) (by simp; omega) ?_; intro v' w3 hown' hg3 hnil3; go_frame)
        | fail)
      have hrg3 := (hrg2.alloc _).kept hg3 (row_ne_low hrow2 hml) (row_ne_iter hrow2 hrg2)
      go_roundw
      case rel =>
        refine ⟨_, cnt2, ks ++ [x], hrg3, by simp; omega, by simpa using hown', HP2.out, ?_⟩
        exact ((hb.grown hg2 hb.size (fun j hj => by cases hj; omega)).alloc (by omega) _).grown hg3 (by simp; omega) (fun j hj => (hrow2.lt j hj).1)
      case measure => rw [hrg3.left_eq, hrg.left_eq]; exact hlt
end Go.Proofs.YtehbpmibllpkhaaGreatDoor
