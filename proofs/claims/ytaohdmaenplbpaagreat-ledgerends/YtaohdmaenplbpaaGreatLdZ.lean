import Derived.Test.YtaohdmaenplbpaaGreatLdV
import Derived.Test.YtaohdmaenplbpaaGreatLdX
set_option linter.all false
namespace Go.Proofs.YtaohdmaenplbpaaGreat
open Go.RowKit Go.QK Quota Go.Maps Go.QM
set_option maxRecDepth 100000
theorem ranges_keep {H : Type} {P : Program} {k : TypeId} {R : Value → Option (DataW H × List MemPlace)} {w w' : World} {b r n : Nat} {D : DataW H} {left : Lit → Bool} {cnt : Nat} {S : Nat → Prop} (h : w.ranges P k R b r n D left cnt) (hk : Keep S w w') (hb : ¬ S b) (hr : ¬ S r) : w'.ranges P k R b r n D left cnt := by
  have l1 := World.ownsMap.lt h.owns
  have l2 := h.lt
  obtain ⟨es, clock, since, seen, c0, h1, h2, h3, h4, h5, h6⟩ := h
  exact ⟨es, clock, since, seen, c0, (hk.block b l1 hb).trans h1, h2, h3, h4, (hk.block r l2 hr).trans h5, h6⟩
theorem grown_keep {w w' : World} {row : Option Nat} (hg : w.grownBy w' row) : Keep (fun k => row = some k) w w' := (Keep.refl _ w).grown hg (fun _ hg' _ => hg')
/-- What Counters tells of a counter. -/
def kC (p : Int × Lm) : List Value := [.int .i64 p.1, .int .i64 p.2.c.grp, .int .i64 p.2.c.e.lo, .int .i64 p.2.c.e.hi, .int .i64 p.2.c.e.val]
def qK (p : Int × Lm) : QC5 := (Fin.ofNat 1048577 p.1.toNat, p.2.c.grp, p.2.c.e.lo, p.2.c.e.hi, p.2.c.e.val)
def IdsK (L : List (Int × Lm)) : Prop := ∀ p ∈ L, 1 ≤ p.1 ∧ p.1 ≤ 1048576
theorem rowsK {L : List (Int × Lm)} (h : IdsK L) : rowsC encC5 (L.map qK) = rowsC kC L := by
  unfold rowsC
  rw [List.flatMap_map]
  induction L with
  | nil => rfl
  | cons p r ih =>
    simp only [List.flatMap_cons]
    rw [ih (fun q hq => h q (List.mem_cons_of_mem _ hq))]
    congr 1
    have := h p (by simp)
    simp only [encC5, qK, kC, fin_id this.1 this.2]
theorem sortedK {L : List (Int × Lm)} {ds : List QC5} (hu : Up L) (hi : IdsK L) (hp : ds.Perm (L.map qK)) (hs : ds.Pairwise (fun x y => x.1.val ≤ y.1.val)) : ds = L.map qK := by
  refine List.Perm.eq_of_pairwise ?_ hs ?_ hp
  · intro a b ha hb h1 h2
    obtain ⟨x, hx, rfl⟩ := List.mem_map.1 (hp.mem_iff.1 ha)
    obtain ⟨y, hy, rfl⟩ := List.mem_map.1 hb
    have e1 := fin_id (hi x hx).1 (hi x hx).2
    have e2 := fin_id (hi y hy).1 (hi y hy).2
    simp only [qK] at h1 h2
    have e3 : x.1 = y.1 := by omega
    have g1 := getM_of_mem hu hx
    have g2 := getM_of_mem hu hy
    rw [e3, g2] at g1
    have : x = y := Prod.ext e3 (Option.some.inj g1).symm
    rw [this]
  · rw [List.pairwise_map]
    refine List.Pairwise.imp_of_mem ?_ hu
    intro a b ha hb hab
    have e1 := fin_id (hi a ha).1 (hi a ha).2
    have e2 := fin_id (hi b hb).1 (hi b hb).2
    simp only [qK]
    omega
theorem met_perm {L : Prs Lm} (hu : Up L) (left : Lit → Bool) {x : Int} {lm : Lm} (hg : getM L x = some lm) (hl : left (.int .i64 x) = true) {ls : List (Int × Lm)} (hp : ls.Perm (metL L left)) : (ls ++ [(x, lm)]).Perm (metL L (fun z => left z && !z.sameKey (.int .i64 x))) := by
  obtain ⟨c', hc', _, hperm⟩ := visitE (en := fun _ : Lm => (DataW.lit (H := Unit) (.bool true))) hu left (x := x) (d := .lit (.bool true)) hl (fun zd => by rw [mapE_at, hg]; rfl)
  rw [hg] at hc'
  cases hc'
  exact ((List.perm_append_singleton (x, lm) ls).trans (List.Perm.cons (x, lm) hp)).trans hperm.symm
theorem PL.kids {lab : Nat → Nat} {B : Nat} {w : World} {l : Led} (h : PL lab B w l) : IdsK l.K := fun p hp => (h.ok.ids (p.1, p.2.c) (List.mem_map.2 ⟨p, hp, rfl⟩)).1
theorem info43 : (Tryz.prog.info? 43).map (fun i => (i.zero, i.size, i.bytes)) = some (some (.agg #[.int .i64 0, .int .i64 0, .int .i64 0, .int .i64 0, .int .i64 0]), 5, 40) := by kernel_rfl
theorem kC_one (p : Int × Lm) : ∀ u ∈ kC p, u.oneCell' = true := by
  intro u hu
  simp [kC] at hu
  rcases hu with rfl | rfl | rfl | rfl | rfl <;> rfl
abbrev eL (p : Int × Lm) : Int × Value := (p.1, entV p.2)
set_option maxHeartbeats 4000000 in
theorem countersL_any (lab : Nat → Nat) (B : Nat) (l : Led) (w : World) (h : PL lab B w l) : Calls Tryz.prog 12 #[ptr l.lb] w fun e w' => ∃ v, e = .returned v ∧ GRow w' w.heap.size 43 5 v l.K.length (rowsC kC l.K) ∧ v.ownBlock ≠ none ∧ Below w.heap.size w w' := by
  obtain ⟨i0, hi, hz0, hz1, hz2⟩ := info_parts info43
  have hml := World.ownsMap.lt h.cm
  obtain ⟨k0, -⟩ := h.box.get 0 _ rfl
  have MW := hide (show w.ownsMap Tryz.prog 3 anyElem l.mc l.K.length (mapE .held (l.K.map eL)) by have q := h.cm; unfold AnyAt at q; rw [List.length_map] at q; exact q)
  have HSZ := hide (show Maps.size (mapE (H := Value) .held (l.K.map eL)) = l.K.length by rw [mapE_size, List.length_map])
  have HL := hide h.lenK
  have HU := hide ((up_map entV).2 h.upK)
  have HUG := hide h.upK
  have HID := hide h.kids
  have HBX := hide h.box
  have HESC := hide h.esc
  have HPL := hide (show (l.K.map eL).length = l.K.length by rw [List.length_map])
  have HGT := hide (fun k => getM_mapV entV l.K k)
  clear h
  go_enter Tryz.func12, Tryz.ntmps12
  go_upto_region 2 with (first
    | (at_len; refine wpList_len_own _ rfl _ 104 rfl 3 110 Tryz.underlying104 _ l.mc _ _ rfl MW.out ?_; rw [HSZ.out])
    | (at_make; refine wpList_make_own _ rfl _ _ 31 rfl w.heap.size 43 i0 (.agg #[.int .i64 0, .int .i64 0, .int .i64 0, .int .i64 0, .int .i64 0]) 5 Tryz.underlying31 hi hz0 hz1 _ _ _ l.K.length rfl rfl rfl (by have := HL.out; rw [hz2]; omega) (by have := HL.out; unfold maxLen; omega) (Nat.le_refl _) ?_; intro w1 hrow1 hg1))
  have kb := hide (((Below.refl w.heap.size w).grown hg1 (Nat.le_refl _) (fun j hj => by cases hj)))
  obtain ⟨k1, -⟩ := (HBX.out.below kb.out).get 0 _ rfl
  go_wp2_with (at_range; refine wpList_range_own _ rfl _ 104 rfl 3 110 lawK Tryz.underlying104 _ l.mc _ _ rfl (MW.out.kept hg1 (by simp)) ?_; intro w0 hrg0 hg0 hs0)
  go_frame
  have hb1 := kb.out
  have s1 := hb1.size
  clear hs0 kb k1
  go_loopw [3] (fun v wr => ∃ (left : Lit → Bool) (cnt : Nat) (ls : List (Int × Lm)), wr.ranges Tryz.prog 3 anyElem l.mc w1.heap.size l.K.length (mapE .held (l.K.map eL)) left cnt ∧ ls.length + cnt ≤ l.K.length ∧ GRow wr w.heap.size 43 5 v ls.length (rowsC kC ls) ∧ v ≠ .slice none 0 0 ∧ ls.Perm (metL l.K left) ∧ Below w.heap.size w wr) (fun _ wr => wr.rangeLeft l.mc w1.heap.size)
  case atStart =>
    refine ⟨_, _, [], hrg0, by rw [mapE_size]; simp, World.ownsRow.kept hrow1 hg0 (Or.inr (by simp [Value.ownBlock])), by simp, by rw [show metL l.K (Maps.has (mapE (H := Value) .held (l.K.map eL))) = [] from by have := met_none (L := l.K.map eL) (en := DataW.held); rw [metL_map eL (fun _ => rfl) l.K] at this; exact List.map_eq_nil_iff.1 this], ?_⟩
    exact hb1.grown hg0 s1 (fun j hj => by cases hj)
  case round =>
    obtain ⟨left, cnt, ls, hrg, hcs, hrow, hnn, hP, hb⟩ := hrel
    go_wp2_with (at_next; refine wpList_next_ranges (α := Int) (β := Value) _ rfl _ rfl 3 lawK anyElem (Value.int .i64) id (fun _ _ hk => by obtain ⟨x, e, _⟩ := Maps.keyOf_int_inv Tryz.underlying3 hk; exact ⟨x, e⟩) (fun v _ _ => ⟨v, rfl⟩) l.mc w1.heap.size _ _ _ _ rfl hrg ?_ ?_)
    · intro _ hl0
      rw [met_all _ _ hl0] at hP
      have hnb : u3.ownBlock ≠ none := by
        rcases hrow.2 with ⟨q, _⟩ | ⟨g, cap, cur, q, _⟩
        · exact absurd q hnn
        · rw [q]; simp [Value.ownBlock]
      have hPq := hP.map qK
      have hlen : ls.length = l.K.length := hP.length_eq
      have hids : IdsK ls := fun p hp => HID.out p (hP.mem_iff.1 hp)
      rw [← rowsK hids] at hrow
      have KS := hide (sortC5_any w.heap.size u3 (ls.map qK) wr (by simpa using hrow) hnb (by simp; have := HL.out; omega))
      have HLOW := hide (fun g (hg : u3.ownBlock = some g) => (World.ownsRow.lt hrow g hg).1)
      have HNB := hide hnb
      have HBW := hide hb
      have HPQ := hide hPq
      have HLN := hide hlen
      clear hnb hb hcs hP hnn hrow hPq hlen hids
      go_wp2_with fail
      refine KS.out.mono ?_
      rintro r w' ⟨rfl, ds, p1, p2, ho, hk⟩
      have ed : ds = l.K.map qK := sortedK HUG.out HID.out (p1.trans HPQ.out) p2
      have HO := hide (show GRow w' w.heap.size 43 5 u3 l.K.length (rowsC kC l.K) by
        rw [ed, rowsK HID.out] at ho
        simpa [HLN.out] using ho)
      have HK := hide hk
      clear p1 p2 ho hk ed
      go_wp2_with fail
      go_ret
      exact ⟨_, rfl, HO.out, HNB.out, HBW.out.trans (HK.out.below HBW.out.size (fun k hk' q => by have := HLOW.out k q; omega))⟩
    · intro x c kl y1 y2 w2 cnt2 hkx hlx hRc hRd hat hrg2 hlt hg2 hs2 hen
      obtain ⟨x', ex, rfl, hwx⟩ := Maps.keyOf_int_inv Tryz.underlying3 hkx
      injection ex with _ ex
      subst ex
      subst hRc hRd
      obtain ⟨c', hc', hd', hperm⟩ := visitE (en := DataW.held (H := Value)) HU.out left hlx hat
      have ec : c = c' := by injection hd'
      subst ec
      have hgt := HGT.out x
      obtain ⟨y, hy, hgy⟩ : ∃ y : Lm, c = entV y ∧ getM l.K x = some y := by
        rw [hgt] at hc'
        cases hg : getM l.K x with
        | none => rw [hg] at hc'; cases hc'
        | some y => rw [hg] at hc'; exact ⟨y, (Option.some.inj hc').symm, rfl⟩
      subst hy
      have HP2 := hide (met_perm HUG.out left hgy hlx hP)
      have hrow2 := World.ownsRow.kept hrow hg2 (Or.inr (row_ne_iter hrow hrg).symm)
      have hsz2 := hb.size
      have hg2s := hg2.size
      have hLL := HL.out
      have hPL := HPL.out
      have PEy := hide (HESC.out (x, y) (getM_mem hgy))
      have bw2 := hb.grown hg2 hb.size (fun j hj => by cases hj; exact s1)
      simp only [entV] at hen
      have HLT := hide hlt
      have R2 := hide hrow2
      have G2 := hide hrg2
      have BW2 := hide bw2
      clear hs2 hperm hc' hd' hat hlx hkx hwx hgt hgy hP hlt hrow hrow2 hrg2 bw2 hb
      obtain ⟨av, cv, hv, -⟩ := GRow.lies R2.out
      subst hv
      go_upto_region 5 with fail
      refine named (P := Code.wp _ _ _ _) ?_
      intro w4 hw4
      obtain ⟨b5, hb5⟩ : ∃ b5, b5 = w2.heap.size := ⟨_, rfl⟩
      rw [← hb5]
      have al : Below w2.heap.size w2 w4 := by rw [hw4]; exact alloc_below _ _
      have C4 := hide (show Cells w4 b5 [.int .i64 y.c.grp, ptr y.b] by rw [hw4, hb5]; exact Cells.new _ _ _)
      have R4 := hide (GRow.below R2.out al)
      have G4 := hide (ranges_keep G2.out (Keep.of_below (S := fun _ => False) al) id id)
      have BW4 := hide (BW2.out.trans (al.mono BW2.out.size))
      have LB := hide (show w.heap.size ≤ b5 ∧ (∀ g, (Value.slice av ls.length cv).ownBlock = some g → g ≠ b5) by have := BW2.out.size; exact ⟨by omega, fun g hg => by have := (World.ownsRow.lt R2.out g hg).2; omega⟩)
      clear hw4 hb5 al R2 G2 BW2
      obtain ⟨d0, -⟩ := C4.out.get 0 _ rfl
      obtain ⟨d1, -⟩ := C4.out.get 1 _ rfl
      refine wp_region_held_drew (S := fun wq => Below w.heap.size w wq ∧ wq.cell? ⟨b5, 0, none⟩ = some (.int .i64 y.c.grp) ∧ wq.cell? ⟨b5, 1, none⟩ = some (ptr y.b)) (by kernel_rfl) ⟨BW4.out.drew, d0, d1⟩ (fun hS => ?_)
      clear d0 d1
      refine take_at 0 (some 22) (v := ?_) rfl rfl (by kernel_rfl) (by kernel_rfl) (by kernel_rfl) (fun _ _ _ h => h) ⟨by rfl, ?_⟩ hS ?_
      rotate_left
      · intro wq hSw; go_simp; try rfl
      simp only [Act.put, List.setIfInBounds_toArray, List.set_cons_zero, List.set_cons_succ]
      refine take_at 1 (some 23) (v := ?_) rfl rfl (by kernel_rfl) (by kernel_rfl) (by kernel_rfl) (fun _ _ _ h => h) ⟨by rfl, ?_⟩ hS ?_
      rotate_left
      · intro wq hSw; go_simp; try rfl
      simp only [Act.put, List.setIfInBounds_toArray, List.set_cons_zero, List.set_cons_succ]
      refine take_at 2 (some 24) (v := ?_) rfl rfl (by kernel_rfl) (by kernel_rfl) (by kernel_rfl) (fun _ _ _ h => h) ⟨by rfl, ?_⟩ hS ?_
      rotate_left
      · intro wq hSw; go_simp; try rfl
      simp only [Act.put, List.setIfInBounds_toArray, List.set_cons_zero, List.set_cons_succ]
      refine take_at 3 (some 25) (v := ?_) rfl rfl (by kernel_rfl) (by kernel_rfl) (by kernel_rfl) (fun _ _ _ h => h) ⟨by rfl, ?_⟩ hS ?_
      rotate_left
      · intro wq hSw; obtain ⟨_, q0, q1⟩ := hSw; go_simp; try rfl
      simp only [Act.put, List.setIfInBounds_toArray, List.set_cons_zero, List.set_cons_succ]
      refine take_at 4 (some 26) (v := ?_) rfl rfl (by kernel_rfl) (by kernel_rfl) (by kernel_rfl) (fun _ _ _ h => h) ⟨by rfl, ?_⟩ hS ?_
      rotate_left
      · intro wq hSw; go_simp; try rfl
      simp only [Act.put, List.setIfInBounds_toArray, List.set_cons_zero, List.set_cons_succ]
      refine take_at 5 (some 27) (v := ?_) rfl rfl (by kernel_rfl) (by kernel_rfl) (by kernel_rfl) (fun _ _ _ h => h) ⟨by rfl, ?_⟩ hS ?_
      rotate_left
      · intro wq hSw; obtain ⟨_, q0, q1⟩ := hSw; go_simp; try rfl
      simp only [Act.put, List.setIfInBounds_toArray, List.set_cons_zero, List.set_cons_succ]
      refine take_at 7 (some 29) (v := ?_) rfl rfl (by kernel_rfl) (by kernel_rfl) (by kernel_rfl) (fun _ _ _ h => h) ⟨by rfl, ?_⟩ hS ?_
      rotate_left
      · intro wq hSw; go_simp; try rfl
      simp only [Act.put, List.setIfInBounds_toArray, List.set_cons_zero, List.set_cons_succ]
      refine take_at 8 (some 30) (v := ?_) rfl rfl (by kernel_rfl) (by kernel_rfl) (by kernel_rfl) (fun _ _ _ h => h) ⟨by rfl, ?_⟩ hS ?_
      rotate_left
      · intro wq hSw; obtain ⟨_, q0, q1⟩ := hSw; go_simp; try rfl
      simp only [Act.put, List.setIfInBounds_toArray, List.set_cons_zero, List.set_cons_succ]
      have C5 := hide (C4.out.below (show Below w4.heap.size w4 w4.drew from (Below.refl _ _).drew))
      have R5 := hide (GRow.below R4.out (show Below w4.heap.size w4 w4.drew from (Below.refl _ _).drew))
      have G5 := hide (ranges_keep G4.out (Keep.of_below (S := fun _ => False) (show Below w4.heap.size w4 w4.drew from (Below.refl _ _).drew)) id id)
      have B5 := hide hS.1
      clear hS C4 R4 G4 BW4
      generalize w4.drew = x0 at *
      refine wpAnyH_ready (rs := [6]) (by kernel_rfl) (by simp) ?_
      refine AllReadyH.cons rfl (fun K hK => ?_) AllReadyH.nil
      go_simp
      go_wp2_with fail
      refine (bounds_any y.b y.m y.c.e _ (PEy.out.below B5.out)).mono ?_
      rintro e x1 ⟨rfl, hh⟩
      have C6 := hide (C5.out.below hh)
      have R6 := hide (GRow.below R5.out hh)
      have G6 := hide (ranges_keep G5.out (Keep.of_below (S := fun _ => False) hh) id id)
      have B6 := hide (B5.out.trans (hh.mono B5.out.size))
      clear hh C5 R5 G5 B5
      go_wp2_with fail
      refine hK.out _ _ ⟨B6.out, (C6.out.get 0 _ rfl).1, (C6.out.get 1 _ rfl).1⟩ (fun hS => ?_)
      clear hK K 
      (try simp only [Act.put, List.setIfInBounds_toArray, List.set_cons_zero, List.set_cons_succ])
      refine wpAnyH_ready (rs := [9]) (by kernel_rfl) (by simp) ?_
      refine AllReadyH.cons rfl (fun K hK => ?_) AllReadyH.nil
      go_simp
      go_wp2_with fail
      refine (value_any y.b y.m y.c.e _ (PEy.out.below B6.out)).mono ?_
      rintro e x2 ⟨rfl, hh⟩
      have C7 := hide (C6.out.below hh)
      have R7 := hide (GRow.below R6.out hh)
      have G7 := hide (ranges_keep G6.out (Keep.of_below (S := fun _ => False) hh) id id)
      have B7 := hide (B6.out.trans (hh.mono B6.out.size))
      clear hh C6 R6 G6 B6
      go_wp2_with fail
      refine hK.out _ _ ⟨B7.out, (C7.out.get 0 _ rfl).1, (C7.out.get 1 _ rfl).1⟩ (fun hS => ?_)
      clear hK K 
      (try simp only [Act.put, List.setIfInBounds_toArray, List.set_cons_zero, List.set_cons_succ])
      refine take_at 10 (some 32) (v := ?_) rfl rfl (by kernel_rfl) (by kernel_rfl) (by kernel_rfl) (fun _ _ _ h => h) ⟨by rfl, ?_⟩ hS ?_
      rotate_left
      · intro wq hSw; go_simp; try rfl
      simp only [Act.put, List.setIfInBounds_toArray, List.set_cons_zero, List.set_cons_succ]
      clear hS
      have al := alloc_below x2 (.cells #[.int .i64 x, .int .i64 y.c.grp, .int .i64 y.c.e.lo, .int .i64 y.c.e.hi, .int .i64 y.c.e.val] 43)
      have C8 := hide (C7.out.below al)
      have R8 := hide (GRow.below R7.out al)
      have G8 := hide (ranges_keep G7.out (Keep.of_below (S := fun _ => False) al) id id)
      have B8 := hide (B7.out.trans (al.mono B7.out.size))
      clear al C7 R7 G7 B7
      refine wpAnyH_ready (rs := [11]) (by kernel_rfl) (by simp) ?_
      refine AllReadyH.cons rfl (fun K hK => ?_) AllReadyH.nil
      go_simp
      go_wp2_with fail
      refine hK.out _ _ ⟨B8.out, (C8.out.get 0 _ rfl).1, (C8.out.get 1 _ rfl).1⟩ (fun hS => ?_)
      clear hK K hS
      (try simp only [Act.put, List.setIfInBounds_toArray, List.set_cons_zero, List.set_cons_succ])
      obtain ⟨vn, x4, hrun, q1, q2, q3⟩ := run_pushR Tryz.underlying31 info43 rfl (by decide) (by decide) 31 _ w.heap.size _ ls.length (rowsC kC ls) R8.out ⟨x2.heap.size, 0, none⟩ 1 1 (kC (x, y)) rfl (by have := lies_lit x2 #[.int .i64 x, .int .i64 y.c.grp, .int .i64 y.c.e.lo, .int .i64 y.c.e.hi, .int .i64 y.c.e.val] 43; simpa [kC] using this) (kC_one _) (by omega) (by have := B8.out.size; omega)
      have HRR := hide hrun
      have kk := grown_keep q2
      have C9 := hide (C8.out.keep kk (fun q => LB.out.2 _ q rfl))
      have B9 := hide (B8.out.trans (kk.below B8.out.size (fun z hz q => by have := (World.ownsRow.lt R8.out z q).1; omega)))
      have G9 := hide (ranges_keep G8.out kk (fun q => by have := (World.ownsRow.lt R8.out _ q).1; omega) (fun q => by have := row_ne_iter R8.out G8.out; exact this q.symm))
      have Q1 := hide q1
      obtain ⟨an, cn, hvn, -⟩ := GRow.lies q1
      subst hvn
      clear hrun q1 q2 q3 kk C8 B8 G8 R8
      refine wpAnyH_ready (rs := [12]) (by kernel_rfl) (by simp) ?_
      refine AllReadyH.cons rfl (fun K hK => ?_) AllReadyH.nil
      refine wp_run 34 (.tmp 22) (.tmp 33) rfl rfl rfl rfl rfl HRR.out ?_
      refine hK.out _ _ ⟨B9.out, (C9.out.get 0 _ rfl).1, (C9.out.get 1 _ rfl).1⟩ (fun hS => ?_)
      clear hK K
      (try simp only [Act.put, List.setIfInBounds_toArray, List.set_cons_zero, List.set_cons_succ])
      refine take_at 13 (some 3) (v := ?_) rfl rfl (by kernel_rfl) (by kernel_rfl) (by kernel_rfl) (fun _ _ _ h => h) ⟨by rfl, ?_⟩ hS ?_
      rotate_left
      · intro wq hSw; go_simp; try rfl
      simp only [Act.put, List.setIfInBounds_toArray, List.set_cons_zero, List.set_cons_succ]
      clear hS
      refine wpAnyH_done (by kernel_rfl) ?_ _
      go_wp2_with fail
      go_roundw
      case rel =>
        refine ⟨_, cnt2, ls ++ [(x, y)], G9.out, by have := HLT.out; simp; omega, by simpa [rowsC] using Q1.out, by simp, HP2.out, B9.out⟩
      case measure => rw [G9.out.left_eq, hrg.left_eq]; exact HLT.out
end Go.Proofs.YtaohdmaenplbpaaGreat
