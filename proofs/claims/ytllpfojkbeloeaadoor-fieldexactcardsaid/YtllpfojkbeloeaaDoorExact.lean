import Derived.Test.YtllpfojkbeloeaaDoorPlays
import Derived.Deep.DeepCutAuto
namespace Go.Proofs.YtllpfojkbeloeaaDoor
open Go.RowKit Go.QK

/-- One side of the table, when it is made. -/
structure Side0 (w : World) (t p r : Nat) (ra : Option Addr) (rc d : Nat) (da : Option Addr) (dc : Nat) : Prop where
  wp : Cells w p [.slice none 0 0]
  rd : Rd w r ra rc [] 0 0
  rr : Rd w d da dc [] 0 0
  h1 : t < p
  h2 : p < r
  h3 : r < d
  h4 : d < w.heap.size
  h5 : ∀ ad, ra = some ad → t < ad.block
  h6 : ∀ ad, da = some ad → t < ad.block
theorem Side0.keep {w w' : World} {t p r : Nat} {ra : Option Addr} {rc d : Nat} {da : Option Addr} {dc : Nat} (h : Side0 w t p r ra rc d da dc) (hk : Keep (fun b => b = t) w w') : Side0 w' t p r ra rc d da dc :=
  ⟨h.wp.keep hk (fun q => by have := h.h1; omega), h.rd.keep hk (fun q => by have := h.h1; have := h.h2; omega) (fun ad had q => by have := h.h5 ad had; omega), h.rr.keep hk (fun q => by have := h.h1; have := h.h2; have := h.h3; omega) (fun ad had q => by have := h.h6 ad had; omega), h.h1, h.h2, h.h3, Nat.lt_of_lt_of_le h.h4 hk.size, h.h5, h.h6⟩

/-- The table while it is made. -/
def St0 (w : World) (t : Nat) : Nat → Prop
  | 0 => Cells w t [.pointer none, .pointer none, .slice none 0 0, .slice none 0 0, .pointer none, .pointer none, .pointer none, .pointer none, .slice none 0 0, .slice none 0 0]
  | 1 => ∃ p r ra rc d da dc, Side0 w t p r ra rc d da dc ∧ Cells w t [ptrAt p, .pointer none, .slice none 0 0, .slice none 0 0, ptrAt r, .pointer none, ptrAt d, .pointer none, .slice none 0 0, .slice none 0 0]
  | _ => ∃ p r ra rc d da dc, Side0 w t p r ra rc d da dc ∧ ∃ p' r' ra' rc' d' da' dc', Side0 w t p' r' ra' rc' d' da' dc' ∧ d < p' ∧ Cells w t [ptrAt p, ptrAt p', .slice none 0 0, .slice none 0 0, ptrAt r, ptrAt r', ptrAt d, ptrAt d', .slice none 0 0, .slice none 0 0]

def lab0 (B t p r d p' r' : Nat) (b : Nat) : Nat :=
  if b < B then 7 else if b = t then 0 else if b = p then 1 else if b = r then 3 else if b = d then 4 else if b = p' then 11 else if b = r' then 13 else 14
theorem St0.tbl {w : World} {B t : Nat} (h : St0 w t 2) (hB : B ≤ t) : Tbl w B t 0 := by
  obtain ⟨p, r, ra, rc, d, da, dc, s, p', r', ra', rc', d', da', dc', s', hd, hc⟩ := h
  obtain ⟨x1, x2, x3, x4, x5, x6, x7, x8, x9⟩ := s
  obtain ⟨y1, y2, y3, y4, y5, y6, y7, y8, y9⟩ := s'
  refine ⟨lab0 B t p r d p' r', fun i => if i = 0 then ⟨p, .slice none 0 0, [], .slice none 0 0, [], r, ra, rc, [], 0, 0, d, da, dc, [], 0, 0⟩ else ⟨p', .slice none 0 0, [], .slice none 0 0, [], r', ra', rc', [], 0, 0, d', da', dc', [], 0, 0⟩, .slice none 0 0, .slice none 0 0, [], [], ⟨?_, hB, ?_, hc.1, fun _ => hc, ?_, ?_, ?_, ?_, fun _ => ⟨SRow.nil _ _, nofun⟩, fun _ => ⟨SRow.nil _ _, nofun⟩, rfl, ?_, nofun⟩, Nat.zero_le _, ?_⟩
  · have := hc.1; omega
  · simp [lab0, show ¬ t < B by omega]
  · intro i hi _
    rcases two hi with rfl | rfl
    · refine ⟨⟨x1, Owns.nil _ _ _ _, nofun, by show B ≤ p; omega⟩, fun b hb => ?_⟩
      rcases hb with hb | hb
      · have hb : b = p := hb
        subst hb
        simp [lab0, show ¬ b < B by omega, show ¬ b = t by omega]
      · cases hb
    · refine ⟨⟨y1, Owns.nil _ _ _ _, nofun, by show B ≤ p'; omega⟩, fun b hb => ?_⟩
      rcases hb with hb | hb
      · have hb : b = p' := hb
        subst hb
        simp [lab0, show ¬ b < B by omega, show ¬ b = t by omega, show ¬ b = p by omega, show ¬ b = r by omega, show ¬ b = d by omega]
      · cases hb
  · intro i hi _
    rcases two hi with rfl | rfl
    · exact ⟨Owns.nil _ _ _ _, nofun⟩
    · exact ⟨Owns.nil _ _ _ _, nofun⟩
  · intro i hi _
    rcases two hi with rfl | rfl
    · exact ⟨x2, by show lab0 _ _ _ _ _ _ _ r = _; simp [lab0, show ¬ r < B by omega, show ¬ r = t by omega, show ¬ r = p by omega], by show B ≤ r; omega, fun q => (q rfl).elim⟩
    · exact ⟨y2, by show lab0 _ _ _ _ _ _ _ r' = _; simp [lab0, show ¬ r' < B by omega, show ¬ r' = t by omega, show ¬ r' = p by omega, show ¬ r' = r by omega, show ¬ r' = d by omega, show ¬ r' = p' by omega], by show B ≤ r'; omega, fun q => (q rfl).elim⟩
  · intro i hi _
    rcases two hi with rfl | rfl
    · exact ⟨x3, by show lab0 _ _ _ _ _ _ _ d = _; simp [lab0, show ¬ d < B by omega, show ¬ d = t by omega, show ¬ d = p by omega, show ¬ d = r by omega], by show B ≤ d; omega, fun q => (q rfl).elim⟩
    · exact ⟨y3, by show lab0 _ _ _ _ _ _ _ d' = _; simp [lab0, show ¬ d' < B by omega, show ¬ d' = t by omega, show ¬ d' = p by omega, show ¬ d' = r by omega, show ¬ d' = d by omega, show ¬ d' = p' by omega, show ¬ d' = r' by omega], by show B ≤ d'; omega, fun q => (q rfl).elim⟩
  · intro b hb
    simp [lab0, hb]
  · intro i hi
    rcases two hi with rfl | rfl
    · exact ⟨rfl, Nat.zero_le _, rfl, rfl, rfl, AllB.nil⟩
    · exact ⟨rfl, Nat.zero_le _, rfl, rfl, rfl, AllB.nil⟩

/-- A call of a script lies at block b from off on. -/
def OpAt (w : World) (b off : Nat) : Prop :=
  ∃ (k : Int) (wh : Bool) (n : Nat) (i at_ size : Int) (ab : Option Addr) (xb : List Nat) (cb : Nat) (ap : Option Addr) (lp cp : Nat),
    w.cell? ⟨b, off, none⟩ = some (.int .i64 k) ∧ w.cell? ⟨b, off + 1, none⟩ = some (.bool wh) ∧ w.cell? ⟨b, off + 2, none⟩ = some (.int .u64 (n : Int)) ∧ w.cell? ⟨b, off + 3, none⟩ = some (.int .i64 i) ∧
    w.cell? ⟨b, off + 4, none⟩ = some (.int .i64 at_) ∧ w.cell? ⟨b, off + 5, none⟩ = some (.int .i64 size) ∧ w.cell? ⟨b, off + 6, none⟩ = some (.slice ab xb.length cb) ∧ w.cell? ⟨b, off + 7, none⟩ = some (.slice ap lp cp) ∧
    n < 18446744073709551616 ∧ I64 i ∧ I64 at_ ∧ AllB xb ∧ xb.length ≤ cb ∧ cb ≤ maxLen ∧ (ab = none → cb = 0) ∧ lp ≤ maxLen ∧ Bytes w ab xb ∧ InP w ap lp
theorem OpAt.below {w w' : World} {b off : Nat} (h : OpAt w b off) (hlt : b < w.heap.size) (hb : Below w.heap.size w w') : OpAt w' b off := by
  obtain ⟨k, wh, n, i, at_, size, ab, xb, cb, ap, lp, cp, h0, h1, h2, h3, h4, h5, h6, h7, g1, g2, g3, g4, g5, g6, g7, g8, g9, g10⟩ := h
  exact ⟨k, wh, n, i, at_, size, ab, xb, cb, ap, lp, cp, (hb.cell (p := ⟨b, off, none⟩) hlt).trans h0, (hb.cell (p := ⟨b, off + 1, none⟩) hlt).trans h1, (hb.cell (p := ⟨b, off + 2, none⟩) hlt).trans h2, (hb.cell (p := ⟨b, off + 3, none⟩) hlt).trans h3, (hb.cell (p := ⟨b, off + 4, none⟩) hlt).trans h4, (hb.cell (p := ⟨b, off + 5, none⟩) hlt).trans h5, (hb.cell (p := ⟨b, off + 6, none⟩) hlt).trans h6, (hb.cell (p := ⟨b, off + 7, none⟩) hlt).trans h7, g1, g2, g3, g4, g5, g6, g7, g8, Seen.below g9 hb, g10.below hb⟩

set_option maxHeartbeats 2000000 in
set_option maxRecDepth 100000 in
theorem exact_walk (a : Option Addr) (n cap : Nat) (w : World) (hT : Tab w) (hnc : n ≤ maxLen) (hop : ∀ i, i < n → ∃ b off, a = some ⟨b, off, none⟩ ∧ b < w.heap.size ∧ OpAt w b (off + i * 8)) :
    Calls Tryd.prog 7 #[.slice a n cap] w fun e w' => e = .returned (.bool true) ∧ Below w.heap.size w w' := by
  unfold maxLen at hnc
  have HOP := hide hop
  have HT := hide hT
  clear hop hT
  go_enter Tryd.func7, Tryd.ntmps7
  go_wp2_with fail
  refine (awake_any _ HT.out).mono ?_
  rintro e w1 ⟨rfl, h1⟩
  go_wp2_with fail
  obtain ⟨t, ht⟩ : ∃ t, t = w1.heap.size := ⟨_, rfl⟩
  have hBt : w.heap.size ≤ t := by rw [ht]; exact h1.size
  rw [← ht]
  have S0 := hide (show St0 (w1.alloc (.cells #[.pointer none, .pointer none, .slice none 0 0, .slice none 0 0, .pointer none, .pointer none, .pointer none, .pointer none, .slice none 0 0, .slice none 0 0] 65)) t 0 by rw [ht]; exact Cells.new w1 _ 65)
  have BB := hide (h1.alloc h1.size (.cells #[.pointer none, .pointer none, .slice none 0 0, .slice none 0 0, .pointer none, .pointer none, .pointer none, .pointer none, .slice none 0 0, .slice none 0 0] 65))
  clear ht
  go_loopw [4] (fun i wr => ∃ k : Nat, k ≤ 2 ∧ i = .int .i64 (k : Int) ∧ St0 wr t k ∧ Below w.heap.size w wr) (fun i _ => 2 - (intOf i).toNat)
  case atStart => exact ⟨0, by omega, rfl, S0.out, BB.out⟩
  case round =>
    obtain ⟨k, hk, rfl, hst, hbel⟩ := hrel
    have HBEL := hide hbel
    clear hbel
    have hk3 : k = 0 ∨ k = 1 ∨ k = 2 := by omega
    rcases hk3 with rfl | rfl | rfl
    · have CT := hide (show Cells wr t _ from hst)
      have tlw := CT.out.1
      clear hst
      go_upto_region 7 with fail
      refine wp_region_held_drew (S := fun _ => True) (by kernel_rfl) trivial (fun _ => ?_)
      refine take_at 0 (some 15) (v := ?_) rfl rfl (by kernel_rfl) (by kernel_rfl) (by kernel_rfl) (fun _ _ _ h => h) ⟨by rfl, ?_⟩ trivial ?_
      rotate_left
      · intro wq _; go_simp; try rfl
      simp only [Act.put, List.setIfInBounds_toArray, List.set_cons_zero, List.set_cons_succ]
      refine take_at 1 (some 16) (v := ?_) rfl rfl (by kernel_rfl) (by kernel_rfl) (by kernel_rfl) (fun _ _ _ h => h) ⟨by rfl, ?_⟩ trivial ?_
      rotate_left
      · intro wq _; go_simp; try rfl
      simp only [Act.put, List.setIfInBounds_toArray, List.set_cons_zero, List.set_cons_succ]
      refine take_at 3 (some 18) (v := ?_) rfl rfl (by kernel_rfl) (by kernel_rfl) (by kernel_rfl) (fun _ _ _ h => h) ⟨by rfl, ?_⟩ trivial ?_
      rotate_left
      · intro wq _; go_simp; try rfl
      simp only [Act.put, List.setIfInBounds_toArray, List.set_cons_zero, List.set_cons_succ]
      refine take_at 4 (some 19) (v := ?_) rfl rfl (by kernel_rfl) (by kernel_rfl) (by kernel_rfl) (fun _ _ _ h => h) ⟨by rfl, ?_⟩ trivial ?_
      rotate_left
      · intro wq _; go_simp; try rfl
      simp only [Act.put, List.setIfInBounds_toArray, List.set_cons_zero, List.set_cons_succ]
      refine wpAnyH_ready (rs := [2]) (by kernel_rfl) (by simp) ?_
      refine AllReadyH.cons rfl (fun K hK => ?_) AllReadyH.nil
      go_simp
      go_wp2_with fail
      refine (newWriter_any _).mono ?_
      rintro e w2 ⟨rfl, hw2⟩
      have HW2 := hide hw2
      clear hw2
      go_wp2_with fail
      have b2 : Below wr.heap.size wr w2 := by rw [HW2.out]; exact (Below.refl _ _).drew.alloc (Nat.le_refl _) _
      have P2 : Cells w2 wr.heap.size [.slice none 0 0] := by rw [HW2.out]; exact Cells.new _ _ _
      have T2 := CT.out.below b2
      obtain ⟨k2, f2⟩ := T2.get 0 _ rfl
      have z2 := b2.size
      refine hK.out _ _ trivial (fun _ => ?_)
      clear hK K
      refine take_at 5 (some 20) (v := ?_) rfl rfl (by kernel_rfl) (by kernel_rfl) (by kernel_rfl) (fun _ _ _ h => h) ⟨by rfl, ?_⟩ trivial ?_
      rotate_left
      · intro wq _; go_simp; try rfl
      simp only [Act.put, List.setIfInBounds_toArray, List.set_cons_zero, List.set_cons_succ]
      refine wpAnyH_ready (rs := [6]) (by kernel_rfl) (by simp) ?_
      refine AllReadyH.cons rfl (fun K hK => ?_) AllReadyH.nil
      go_simp
      go_wp2_with fail
      refine hK.out _ _ trivial (fun _ => ?_)
      clear hK K
      refine wpAnyH_done (by kernel_rfl) ?_ _
      have T3 := hide (show Cells (w2.setCell ⟨t, 0, none⟩ (ptrAt wr.heap.size)) t [ptrAt wr.heap.size, .pointer none, .slice none 0 0, .slice none 0 0, .pointer none, .pointer none, .pointer none, .pointer none, .slice none 0 0, .slice none 0 0] from T2.stored (j := 0) (by simp) _)
      have K3 : Keep (fun b => b = t) wr (w2.setCell ⟨t, 0, none⟩ (ptrAt wr.heap.size)) := (Keep.of_below (S := fun b => b = t) b2).setCell (fun _ => rfl) _
      have Q3 := P2.keep ((Keep.refl (fun b => b = t) w2).setCell (j := 0) (fun _ => rfl) (ptrAt wr.heap.size)) (fun q => by omega)
      have z3 : wr.heap.size < (w2.setCell ⟨t, 0, none⟩ (ptrAt wr.heap.size)).heap.size := Q3.1
      unfold ptrAt at T3 K3 Q3 z3
      generalize w2.setCell ⟨t, 0, none⟩ (.pointer (some ⟨wr.heap.size, 0, none⟩)) = w3 at *
      clear T2 b2 P2 k2 f2 HW2 z2
      have tl3 := T3.out.1
      go_upto_region 8 with fail
      refine wp_region_held_drew (S := fun _ => True) (by kernel_rfl) trivial (fun _ => ?_)
      refine take_at 0 (some 21) (v := ?_) rfl rfl (by kernel_rfl) (by kernel_rfl) (by kernel_rfl) (fun _ _ _ h => h) ⟨by rfl, ?_⟩ trivial ?_
      rotate_left
      · intro wq _; go_simp; try rfl
      simp only [Act.put, List.setIfInBounds_toArray, List.set_cons_zero, List.set_cons_succ]
      refine take_at 1 (some 22) (v := ?_) rfl rfl (by kernel_rfl) (by kernel_rfl) (by kernel_rfl) (fun _ _ _ h => h) ⟨by rfl, ?_⟩ trivial ?_
      rotate_left
      · intro wq _; go_simp; try rfl
      simp only [Act.put, List.setIfInBounds_toArray, List.set_cons_zero, List.set_cons_succ]
      refine take_at 3 (some 24) (v := ?_) rfl rfl (by kernel_rfl) (by kernel_rfl) (by kernel_rfl) (fun _ _ _ h => h) ⟨by rfl, ?_⟩ trivial ?_
      rotate_left
      · intro wq _; go_simp; try rfl
      simp only [Act.put, List.setIfInBounds_toArray, List.set_cons_zero, List.set_cons_succ]
      refine take_at 4 (some 25) (v := ?_) rfl rfl (by kernel_rfl) (by kernel_rfl) (by kernel_rfl) (fun _ _ _ h => h) ⟨by rfl, ?_⟩ trivial ?_
      rotate_left
      · intro wq _; go_simp; try rfl
      simp only [Act.put, List.setIfInBounds_toArray, List.set_cons_zero, List.set_cons_succ]
      refine wpAnyH_ready (rs := [2]) (by kernel_rfl) (by simp) ?_
      refine AllReadyH.cons rfl (fun K hK => ?_) AllReadyH.nil
      go_simp
      go_wp2_with fail
      refine (newReader_any none [] 0 _ (.inl rfl) (by decide) (fun _ => rfl) (by decide) AllB.nil).mono ?_
      rintro e w4 ⟨rr, ra, rc, rfl, hr1, hr2, hr3, hr4⟩
      go_wp2_with fail
      have b4 : Below w3.heap.size w3 w4 := below_undrew hr4
      have T4 := T3.out.below b4
      obtain ⟨k4, f4⟩ := T4.get 4 _ rfl
      have z4 := b4.size
      have hr1' : w3.heap.size ≤ rr := hr1
      have zr := hr3.1.1
      refine hK.out _ _ trivial (fun _ => ?_)
      clear hK K
      refine take_at 5 (some 26) (v := ?_) rfl rfl (by kernel_rfl) (by kernel_rfl) (by kernel_rfl) (fun _ _ _ h => h) ⟨by rfl, ?_⟩ trivial ?_
      rotate_left
      · intro wq _; go_simp; try rfl
      simp only [Act.put, List.setIfInBounds_toArray, List.set_cons_zero, List.set_cons_succ]
      refine wpAnyH_ready (rs := [6]) (by kernel_rfl) (by simp) ?_
      refine AllReadyH.cons rfl (fun K hK => ?_) AllReadyH.nil
      go_simp
      go_wp2_with fail
      refine hK.out _ _ trivial (fun _ => ?_)
      clear hK K
      refine wpAnyH_done (by kernel_rfl) ?_ _
      have T5 := hide (T4.stored (j := 4) (by simp) (ptrAt rr))
      have KS := (Keep.refl (fun b => b = t) w4).setCell (g := t) (j := 4) (fun _ => rfl) (ptrAt rr)
      have K5 := (K3.then_below b4).trans KS (fun _ _ q => q)
      have Q5 := (Q3.below b4).keep KS (fun q => by omega)
      have R5 := hr3.keep KS (fun q => by omega) (fun ad had q => by have := hr2 ad had; have e : w3.drew.heap.size = w3.heap.size := rfl; omega)
      have z5 := KS.size
      unfold ptrAt at T5 K5 Q5 R5 z5
      generalize w4.setCell ⟨t, 4, none⟩ (.pointer (some ⟨rr, 0, none⟩)) = w5 at *
      clear T4 b4 k4 f4 hr3 hr4 K3 Q3 T3 KS
      have tl5 := T5.out.1
      go_upto_region 9 with fail
      refine wp_region_held_drew (S := fun _ => True) (by kernel_rfl) trivial (fun _ => ?_)
      refine take_at 0 (some 27) (v := ?_) rfl rfl (by kernel_rfl) (by kernel_rfl) (by kernel_rfl) (fun _ _ _ h => h) ⟨by rfl, ?_⟩ trivial ?_
      rotate_left
      · intro wq _; go_simp; try rfl
      simp only [Act.put, List.setIfInBounds_toArray, List.set_cons_zero, List.set_cons_succ]
      refine take_at 1 (some 28) (v := ?_) rfl rfl (by kernel_rfl) (by kernel_rfl) (by kernel_rfl) (fun _ _ _ h => h) ⟨by rfl, ?_⟩ trivial ?_
      rotate_left
      · intro wq _; go_simp; try rfl
      simp only [Act.put, List.setIfInBounds_toArray, List.set_cons_zero, List.set_cons_succ]
      refine take_at 3 (some 30) (v := ?_) rfl rfl (by kernel_rfl) (by kernel_rfl) (by kernel_rfl) (fun _ _ _ h => h) ⟨by rfl, ?_⟩ trivial ?_
      rotate_left
      · intro wq _; go_simp; try rfl
      simp only [Act.put, List.setIfInBounds_toArray, List.set_cons_zero, List.set_cons_succ]
      refine take_at 4 (some 31) (v := ?_) rfl rfl (by kernel_rfl) (by kernel_rfl) (by kernel_rfl) (fun _ _ _ h => h) ⟨by rfl, ?_⟩ trivial ?_
      rotate_left
      · intro wq _; go_simp; try rfl
      simp only [Act.put, List.setIfInBounds_toArray, List.set_cons_zero, List.set_cons_succ]
      refine wpAnyH_ready (rs := [2]) (by kernel_rfl) (by simp) ?_
      refine AllReadyH.cons rfl (fun K hK => ?_) AllReadyH.nil
      go_simp
      go_wp2_with fail
      refine (rNew_any none [] 0 _ (.inl rfl) (fun _ => rfl) (by decide) AllB.nil).mono ?_
      rintro e w6 ⟨dd, da, dc, rfl, hd1, hd2, hd3, hd4⟩
      go_wp2_with fail
      have b6 : Below w5.heap.size w5 w6 := below_undrew hd4
      have T6 := T5.out.below b6
      obtain ⟨k6, f6⟩ := T6.get 6 _ rfl
      have z6 := b6.size
      have hd1' : w5.heap.size ≤ dd := hd1
      have zd := hd3.1.1
      refine hK.out _ _ trivial (fun _ => ?_)
      clear hK K
      refine take_at 5 (some 32) (v := ?_) rfl rfl (by kernel_rfl) (by kernel_rfl) (by kernel_rfl) (fun _ _ _ h => h) ⟨by rfl, ?_⟩ trivial ?_
      rotate_left
      · intro wq _; go_simp; try rfl
      simp only [Act.put, List.setIfInBounds_toArray, List.set_cons_zero, List.set_cons_succ]
      refine wpAnyH_ready (rs := [6]) (by kernel_rfl) (by simp) ?_
      refine AllReadyH.cons rfl (fun K hK => ?_) AllReadyH.nil
      go_simp
      go_wp2_with fail
      refine hK.out _ _ trivial (fun _ => ?_)
      clear hK K
      refine wpAnyH_done (by kernel_rfl) ?_ _
      have T7 := hide (T6.stored (j := 6) (by simp) (ptrAt dd))
      have KS := (Keep.refl (fun b => b = t) w6).setCell (g := t) (j := 6) (fun _ => rfl) (ptrAt dd)
      have K7 := (K5.then_below b6).trans KS (fun _ _ q => q)
      have Q7 := (Q5.below b6).keep KS (fun q => by omega)
      have R7 := (R5.below b6).keep KS (fun q => by omega) (fun ad had q => by have := hr2 ad had; have e : w3.drew.heap.size = w3.heap.size := rfl; omega)
      have D7 := hd3.keep KS (fun q => by omega) (fun ad had q => by have := hd2 ad had; have e : w5.drew.heap.size = w5.heap.size := rfl; omega)
      have z7 := KS.size
      unfold ptrAt at T7 K7 Q7 R7 D7 z7
      generalize w6.setCell ⟨t, 6, none⟩ (.pointer (some ⟨dd, 0, none⟩)) = w7 at *
      clear T6 b6 k6 f6 hd3 hd4 K5 Q5 R5 T5 KS
      have SN := hide (show Side0 w7 t wr.heap.size rr ra rc dd da dc from ⟨Q7, R7, D7, by omega, by omega, by omega, by omega, fun ad had => by have := hr2 ad had; have e : w3.drew.heap.size = w3.heap.size := rfl; omega, fun ad had => by have := hd2 ad had; have e : w5.drew.heap.size = w5.heap.size := rfl; omega⟩)
      obtain ⟨m0, _⟩ := T7.out.get 0 _ rfl
      obtain ⟨m4, _⟩ := T7.out.get 4 _ rfl
      have tl7 := T7.out.1
      go_wp2_with fail
      go_roundw
      case rel => exact ⟨1, by omega, by go_num, ⟨_, _, _, _, _, _, _, SN.out, T7.out⟩, HBEL.out.trans (K7.below HBEL.out.size (fun j hj q => by omega))⟩
      case measure => simp [intOf]
    · obtain ⟨p0, r0, ra0, rc0, d0, da0, dc0, hs1, hst⟩ := hst
      have S1 := hide hs1
      clear hs1
      have CT := hide (show Cells wr t _ from hst)
      have tlw := CT.out.1
      clear hst
      go_upto_region 7 with fail
      refine wp_region_held_drew (S := fun _ => True) (by kernel_rfl) trivial (fun _ => ?_)
      refine take_at 0 (some 15) (v := ?_) rfl rfl (by kernel_rfl) (by kernel_rfl) (by kernel_rfl) (fun _ _ _ h => h) ⟨by rfl, ?_⟩ trivial ?_
      rotate_left
      · intro wq _; go_simp; try rfl
      simp only [Act.put, List.setIfInBounds_toArray, List.set_cons_zero, List.set_cons_succ]
      refine take_at 1 (some 16) (v := ?_) rfl rfl (by kernel_rfl) (by kernel_rfl) (by kernel_rfl) (fun _ _ _ h => h) ⟨by rfl, ?_⟩ trivial ?_
      rotate_left
      · intro wq _; go_simp; try rfl
      simp only [Act.put, List.setIfInBounds_toArray, List.set_cons_zero, List.set_cons_succ]
      refine take_at 3 (some 18) (v := ?_) rfl rfl (by kernel_rfl) (by kernel_rfl) (by kernel_rfl) (fun _ _ _ h => h) ⟨by rfl, ?_⟩ trivial ?_
      rotate_left
      · intro wq _; go_simp; try rfl
      simp only [Act.put, List.setIfInBounds_toArray, List.set_cons_zero, List.set_cons_succ]
      refine take_at 4 (some 19) (v := ?_) rfl rfl (by kernel_rfl) (by kernel_rfl) (by kernel_rfl) (fun _ _ _ h => h) ⟨by rfl, ?_⟩ trivial ?_
      rotate_left
      · intro wq _; go_simp; try rfl
      simp only [Act.put, List.setIfInBounds_toArray, List.set_cons_zero, List.set_cons_succ]
      refine wpAnyH_ready (rs := [2]) (by kernel_rfl) (by simp) ?_
      refine AllReadyH.cons rfl (fun K hK => ?_) AllReadyH.nil
      go_simp
      go_wp2_with fail
      refine (newWriter_any _).mono ?_
      rintro e w2 ⟨rfl, hw2⟩
      have HW2 := hide hw2
      clear hw2
      go_wp2_with fail
      have b2 : Below wr.heap.size wr w2 := by rw [HW2.out]; exact (Below.refl _ _).drew.alloc (Nat.le_refl _) _
      have P2 : Cells w2 wr.heap.size [.slice none 0 0] := by rw [HW2.out]; exact Cells.new _ _ _
      have T2 := CT.out.below b2
      obtain ⟨k2, f2⟩ := T2.get 1 _ rfl
      have z2 := b2.size
      refine hK.out _ _ trivial (fun _ => ?_)
      clear hK K
      refine take_at 5 (some 20) (v := ?_) rfl rfl (by kernel_rfl) (by kernel_rfl) (by kernel_rfl) (fun _ _ _ h => h) ⟨by rfl, ?_⟩ trivial ?_
      rotate_left
      · intro wq _; go_simp; try rfl
      simp only [Act.put, List.setIfInBounds_toArray, List.set_cons_zero, List.set_cons_succ]
      refine wpAnyH_ready (rs := [6]) (by kernel_rfl) (by simp) ?_
      refine AllReadyH.cons rfl (fun K hK => ?_) AllReadyH.nil
      go_simp
      go_wp2_with fail
      refine hK.out _ _ trivial (fun _ => ?_)
      clear hK K
      refine wpAnyH_done (by kernel_rfl) ?_ _
      have T3 := hide (show Cells (w2.setCell ⟨t, 1, none⟩ (ptrAt wr.heap.size)) t [ptrAt p0, ptrAt wr.heap.size, .slice none 0 0, .slice none 0 0, ptrAt r0, .pointer none, ptrAt d0, .pointer none, .slice none 0 0, .slice none 0 0] from T2.stored (j := 1) (by simp) _)
      have K3 : Keep (fun b => b = t) wr (w2.setCell ⟨t, 1, none⟩ (ptrAt wr.heap.size)) := (Keep.of_below (S := fun b => b = t) b2).setCell (fun _ => rfl) _
      have Q3 := P2.keep ((Keep.refl (fun b => b = t) w2).setCell (j := 1) (fun _ => rfl) (ptrAt wr.heap.size)) (fun q => by omega)
      have z3 : wr.heap.size < (w2.setCell ⟨t, 1, none⟩ (ptrAt wr.heap.size)).heap.size := Q3.1
      unfold ptrAt at T3 K3 Q3 z3
      generalize w2.setCell ⟨t, 1, none⟩ (.pointer (some ⟨wr.heap.size, 0, none⟩)) = w3 at *
      clear T2 b2 P2 k2 f2 HW2 z2
      have tl3 := T3.out.1
      go_upto_region 8 with fail
      refine wp_region_held_drew (S := fun _ => True) (by kernel_rfl) trivial (fun _ => ?_)
      refine take_at 0 (some 21) (v := ?_) rfl rfl (by kernel_rfl) (by kernel_rfl) (by kernel_rfl) (fun _ _ _ h => h) ⟨by rfl, ?_⟩ trivial ?_
      rotate_left
      · intro wq _; go_simp; try rfl
      simp only [Act.put, List.setIfInBounds_toArray, List.set_cons_zero, List.set_cons_succ]
      refine take_at 1 (some 22) (v := ?_) rfl rfl (by kernel_rfl) (by kernel_rfl) (by kernel_rfl) (fun _ _ _ h => h) ⟨by rfl, ?_⟩ trivial ?_
      rotate_left
      · intro wq _; go_simp; try rfl
      simp only [Act.put, List.setIfInBounds_toArray, List.set_cons_zero, List.set_cons_succ]
      refine take_at 3 (some 24) (v := ?_) rfl rfl (by kernel_rfl) (by kernel_rfl) (by kernel_rfl) (fun _ _ _ h => h) ⟨by rfl, ?_⟩ trivial ?_
      rotate_left
      · intro wq _; go_simp; try rfl
      simp only [Act.put, List.setIfInBounds_toArray, List.set_cons_zero, List.set_cons_succ]
      refine take_at 4 (some 25) (v := ?_) rfl rfl (by kernel_rfl) (by kernel_rfl) (by kernel_rfl) (fun _ _ _ h => h) ⟨by rfl, ?_⟩ trivial ?_
      rotate_left
      · intro wq _; go_simp; try rfl
      simp only [Act.put, List.setIfInBounds_toArray, List.set_cons_zero, List.set_cons_succ]
      refine wpAnyH_ready (rs := [2]) (by kernel_rfl) (by simp) ?_
      refine AllReadyH.cons rfl (fun K hK => ?_) AllReadyH.nil
      go_simp
      go_wp2_with fail
      refine (newReader_any none [] 0 _ (.inl rfl) (by decide) (fun _ => rfl) (by decide) AllB.nil).mono ?_
      rintro e w4 ⟨rr, ra, rc, rfl, hr1, hr2, hr3, hr4⟩
      go_wp2_with fail
      have b4 : Below w3.heap.size w3 w4 := below_undrew hr4
      have T4 := T3.out.below b4
      obtain ⟨k4, f4⟩ := T4.get 5 _ rfl
      have z4 := b4.size
      have hr1' : w3.heap.size ≤ rr := hr1
      have zr := hr3.1.1
      refine hK.out _ _ trivial (fun _ => ?_)
      clear hK K
      refine take_at 5 (some 26) (v := ?_) rfl rfl (by kernel_rfl) (by kernel_rfl) (by kernel_rfl) (fun _ _ _ h => h) ⟨by rfl, ?_⟩ trivial ?_
      rotate_left
      · intro wq _; go_simp; try rfl
      simp only [Act.put, List.setIfInBounds_toArray, List.set_cons_zero, List.set_cons_succ]
      refine wpAnyH_ready (rs := [6]) (by kernel_rfl) (by simp) ?_
      refine AllReadyH.cons rfl (fun K hK => ?_) AllReadyH.nil
      go_simp
      go_wp2_with fail
      refine hK.out _ _ trivial (fun _ => ?_)
      clear hK K
      refine wpAnyH_done (by kernel_rfl) ?_ _
      have T5 := hide (T4.stored (j := 5) (by simp) (ptrAt rr))
      have KS := (Keep.refl (fun b => b = t) w4).setCell (g := t) (j := 5) (fun _ => rfl) (ptrAt rr)
      have K5 := (K3.then_below b4).trans KS (fun _ _ q => q)
      have Q5 := (Q3.below b4).keep KS (fun q => by omega)
      have R5 := hr3.keep KS (fun q => by omega) (fun ad had q => by have := hr2 ad had; have e : w3.drew.heap.size = w3.heap.size := rfl; omega)
      have z5 := KS.size
      unfold ptrAt at T5 K5 Q5 R5 z5
      generalize w4.setCell ⟨t, 5, none⟩ (.pointer (some ⟨rr, 0, none⟩)) = w5 at *
      clear T4 b4 k4 f4 hr3 hr4 K3 Q3 T3 KS
      have tl5 := T5.out.1
      go_upto_region 9 with fail
      refine wp_region_held_drew (S := fun _ => True) (by kernel_rfl) trivial (fun _ => ?_)
      refine take_at 0 (some 27) (v := ?_) rfl rfl (by kernel_rfl) (by kernel_rfl) (by kernel_rfl) (fun _ _ _ h => h) ⟨by rfl, ?_⟩ trivial ?_
      rotate_left
      · intro wq _; go_simp; try rfl
      simp only [Act.put, List.setIfInBounds_toArray, List.set_cons_zero, List.set_cons_succ]
      refine take_at 1 (some 28) (v := ?_) rfl rfl (by kernel_rfl) (by kernel_rfl) (by kernel_rfl) (fun _ _ _ h => h) ⟨by rfl, ?_⟩ trivial ?_
      rotate_left
      · intro wq _; go_simp; try rfl
      simp only [Act.put, List.setIfInBounds_toArray, List.set_cons_zero, List.set_cons_succ]
      refine take_at 3 (some 30) (v := ?_) rfl rfl (by kernel_rfl) (by kernel_rfl) (by kernel_rfl) (fun _ _ _ h => h) ⟨by rfl, ?_⟩ trivial ?_
      rotate_left
      · intro wq _; go_simp; try rfl
      simp only [Act.put, List.setIfInBounds_toArray, List.set_cons_zero, List.set_cons_succ]
      refine take_at 4 (some 31) (v := ?_) rfl rfl (by kernel_rfl) (by kernel_rfl) (by kernel_rfl) (fun _ _ _ h => h) ⟨by rfl, ?_⟩ trivial ?_
      rotate_left
      · intro wq _; go_simp; try rfl
      simp only [Act.put, List.setIfInBounds_toArray, List.set_cons_zero, List.set_cons_succ]
      refine wpAnyH_ready (rs := [2]) (by kernel_rfl) (by simp) ?_
      refine AllReadyH.cons rfl (fun K hK => ?_) AllReadyH.nil
      go_simp
      go_wp2_with fail
      refine (rNew_any none [] 0 _ (.inl rfl) (fun _ => rfl) (by decide) AllB.nil).mono ?_
      rintro e w6 ⟨dd, da, dc, rfl, hd1, hd2, hd3, hd4⟩
      go_wp2_with fail
      have b6 : Below w5.heap.size w5 w6 := below_undrew hd4
      have T6 := T5.out.below b6
      obtain ⟨k6, f6⟩ := T6.get 7 _ rfl
      have z6 := b6.size
      have hd1' : w5.heap.size ≤ dd := hd1
      have zd := hd3.1.1
      refine hK.out _ _ trivial (fun _ => ?_)
      clear hK K
      refine take_at 5 (some 32) (v := ?_) rfl rfl (by kernel_rfl) (by kernel_rfl) (by kernel_rfl) (fun _ _ _ h => h) ⟨by rfl, ?_⟩ trivial ?_
      rotate_left
      · intro wq _; go_simp; try rfl
      simp only [Act.put, List.setIfInBounds_toArray, List.set_cons_zero, List.set_cons_succ]
      refine wpAnyH_ready (rs := [6]) (by kernel_rfl) (by simp) ?_
      refine AllReadyH.cons rfl (fun K hK => ?_) AllReadyH.nil
      go_simp
      go_wp2_with fail
      refine hK.out _ _ trivial (fun _ => ?_)
      clear hK K
      refine wpAnyH_done (by kernel_rfl) ?_ _
      have T7 := hide (T6.stored (j := 7) (by simp) (ptrAt dd))
      have KS := (Keep.refl (fun b => b = t) w6).setCell (g := t) (j := 7) (fun _ => rfl) (ptrAt dd)
      have K7 := (K5.then_below b6).trans KS (fun _ _ q => q)
      have Q7 := (Q5.below b6).keep KS (fun q => by omega)
      have R7 := (R5.below b6).keep KS (fun q => by omega) (fun ad had q => by have := hr2 ad had; have e : w3.drew.heap.size = w3.heap.size := rfl; omega)
      have D7 := hd3.keep KS (fun q => by omega) (fun ad had q => by have := hd2 ad had; have e : w5.drew.heap.size = w5.heap.size := rfl; omega)
      have z7 := KS.size
      unfold ptrAt at T7 K7 Q7 R7 D7 z7
      generalize w6.setCell ⟨t, 7, none⟩ (.pointer (some ⟨dd, 0, none⟩)) = w7 at *
      clear T6 b6 k6 f6 hd3 hd4 K5 Q5 R5 T5 KS
      have SN := hide (show Side0 w7 t wr.heap.size rr ra rc dd da dc from ⟨Q7, R7, D7, by omega, by omega, by omega, by omega, fun ad had => by have := hr2 ad had; have e : w3.drew.heap.size = w3.heap.size := rfl; omega, fun ad had => by have := hd2 ad had; have e : w5.drew.heap.size = w5.heap.size := rfl; omega⟩)
      obtain ⟨m0, _⟩ := T7.out.get 1 _ rfl
      obtain ⟨m4, _⟩ := T7.out.get 5 _ rfl
      have tl7 := T7.out.1
      go_wp2_with fail
      go_roundw
      case rel => exact ⟨2, by omega, by go_num, ⟨_, _, _, _, _, _, _, S1.out.keep K7, _, _, _, _, _, _, _, SN.out, S1.out.h4, T7.out⟩, HBEL.out.trans (K7.below HBEL.out.size (fun j hj q => by omega))⟩
      case measure => simp [intOf]
    · have TB := hide (St0.tbl hst hBt)
      clear hst
      go_wp2_with fail
      go_loopw [5] (fun i wr => ∃ k : Nat, k ≤ 200 ∧ k ≤ n ∧ i = .int .i64 (k : Int) ∧ Tbl wr w.heap.size t k ∧ Below w.heap.size w wr) (fun i _ => 200 - (intOf i).toNat)
      case atStart => exact ⟨0, by omega, by omega, rfl, TB.out, HBEL.out⟩
      case round =>
        obtain ⟨k, hk, hkn, rfl, htb, hb⟩ := hrel
        have HTB := hide htb
        clear htb
        by_cases hlt : k < n
        · have d1 : decide ((k : Int) < (n : Int)) = true := by simp; omega
          by_cases h2 : k < 200
          · have d2 : decide ((k : Int) < 200) = true := by simp; omega
            obtain ⟨b, off, rfl, hbl, hopk⟩ := HOP.out k hlt
            have hop' := hopk.below hbl hb
            obtain ⟨kk, wh, nn, ii, at_, size, ab, xb, cb, ap, lp, cp, q0, q1, q2, q3, q4, q5, q6, q7, g1, g2, g3, g4, g5, g6, g7, g8, g9, g10⟩ := hop'
            have OK := hide (show OpOk wr w.heap.size nn ii at_ ab xb cb ap lp k from ⟨by omega, g1, g2, g3, g9, g4, g5, g6, g7, (by
              obtain ⟨_, _, _, _, _, _, ab2, xb2, _, _, _, _, _, _, _, _, _, _, e6, _, _, _, _, _, _, _, _, _, z9, _⟩ := hopk
              have e := ((hb.cell (p := ⟨b, off + k * 8 + 6, none⟩) hbl).trans e6).symm.trans q6
              simp only [Option.some.injEq, Value.slice.injEq] at e
              intro hx ad had
              obtain ⟨ea, el, _⟩ := e
              subst ea
              exact ne_bytes z9 (fun h0 => hx (List.eq_nil_of_length_eq_zero (by rw [← el, h0]; rfl))) ad had), g10, g8, Tab.under HT.out hb HT.out.1⟩)
            clear hopk g9 g10
            go_wp2_with fail
            refine (plays_any kk wh nn ii at_ size ab xb cb ap lp cp wr w.heap.size t k HTB.out OK.out).mono ?_
            rintro e w3 ⟨rfl, T3, h3⟩
            have HT3 := hide T3
            have H3 := hide (hb.trans h3)
            clear T3 h3 q0 q1 q2 q3 q4 q5 q6 q7
            go_wp2_with fail
            obtain ⟨lab, sd, vL, vM, Ls, Ms, tb, hls, hsd⟩ := HT3.out
            obtain ⟨aL, cL, aM, cM, bk⟩ := tb.book
            refine (holds_any t 8 Ls.length aL cL aM cM w3 bk (by omega)).mono ?_
            rintro e w4 ⟨rfl, h4⟩
            clear bk tb hsd
            have TB4 := hide (HT3.out.below h4).1
            have H4 := hide (bnext H3.out h4 (Nat.le_refl _))
            clear h4
            go_wp2_with fail
            go_roundw
            case rel => first | exact ⟨k + 1, by omega, by omega, by go_num, TB4.out, H4.out⟩ | ((repeat apply Exists.intro); exact ⟨⟨k + 1, by omega, by omega, by go_num, TB4.out, H4.out⟩, rfl⟩)
            case measure => simp [intOf]; omega
          · obtain rfl : k = 200 := by omega
            go_wp2_with fail
            go_ret
            exact ⟨rfl, hb⟩
        · obtain rfl : k = n := by omega
          go_wp2_with fail
          go_ret
          exact ⟨rfl, hb⟩
end Go.Proofs.YtllpfojkbeloeaaDoor
