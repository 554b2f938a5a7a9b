import Derived.Test.YtehbpmibllpkhaaGreatDoorUdP
set_option linter.all false
namespace Go.Proofs.YtehbpmibllpkhaaGreatDoor
open Go.RowKit Go.QK Go.Maps Go.QM Go.QU
set_option maxRecDepth 100000
theorem size37 : (Tryz.prog.info? 37).map (·.size) = some 5 := by kernel_rfl
theorem lies_pre {w : World} {a : Option Addr} {xs ys : List Value} (h : Lies w a (xs ++ ys)) : Lies w a xs := by
  rcases h with q | ⟨b, off, e, hb, hc⟩
  · exact .inl (List.append_eq_nil_iff.1 q).1
  · exact .inr ⟨b, off, e, hb, fun i hi => by rw [hc i (by rw [List.length_append]; omega), List.getElem_append_left hi]⟩
theorem Inv.keepLow {w w' : World} {B : Nat} {lab : Nat → Nat} {I : Nat → Option It} {uG uW : Value} {vG vW : List Value} {R X : Nat → List RZ} {t g : Nat} (h : Inv w B lab I uG uW vG vW R X t) (k : Keep (fun z => z = g) w w') (hg : g < B) : Inv w' B lab I uG uW vG vW R X t :=
  { h with own := ⟨fun j it hj => ⟨GRow.keep (h.own.at_ j it hj).1 k (fun z hz e => by have := (World.ownsRow.lt (h.own.at_ j it hj).1 z hz).1; omega), (h.own.at_ j it hj).2⟩⟩ }
/-- How all stands while the lists are asked. -/
structure QS (w wz : World) (B g N cL : Nat) (u6 u7 : Value) (t : Nat) : Prop where
  ex : ∃ lab I vG vW R rl, Inv wz B lab I u6 u7 vG vW R R t ∧ (∀ k, (R k).length ≤ 60) ∧ GRow wz w.heap.size 53 17 (.slice (some ⟨g, 0, none⟩) (N + 1) cL) (N + 1) (rzs (rl ++ [mkZ])) ∧ rl.length = N ∧ (∀ r ∈ rl, I64 r.delta ∧ I64 r.id)
  bw : Below w.heap.size w wz
  up : B ≤ wz.heap.size
theorem QS.adds {w wz : World} {B g N cL : Nat} {u6 u7 : Value} {t i : Nat} (h : QS w wz B g N cL u6 u7 t) (hg : g < B) (hi : i < N) (z : Int) (iz : I64 z) : QS w (wz.setCell ⟨g, i * 17 + 8, none⟩ (.int .i64 z)) B g N cL u6 u7 t := by
  obtain ⟨lab, I, vG, vW, R, rl, inv, h6, row, hrl, hok⟩ := h.ex
  have k : Keep (fun y => y = g) wz (wz.setCell ⟨g, i * 17 + 8, none⟩ (.int .i64 z)) := (Keep.refl (fun y => y = g) wz).setCell (g := g) (j := i * 17 + 8) (fun _ => rfl) _
  have r1 := (World.ownsRow.stored row (i * 17 + 8) (.int .i64 z)).1
  have hi2 : i < rl.length := by omega
  have hi3 : i < (rl ++ [mkZ]).length := by simp; omega
  have eq := rowsC_set rzC 17 rzC_len (rl ++ [mkZ]) i 8 hi3 (by decide) (.int .i64 z) { (rl ++ [mkZ])[i] with delta := z } rfl
  rw [eq, List.set_append_left _ _ hi2, List.getElem_append_left hi2] at r1
  refine ⟨⟨lab, I, vG, vW, R, rl.set i { rl[i] with delta := z }, inv.keepLow k hg, h6, r1, by simp [hrl], fun r hr => ?_⟩, bkeep h.bw k (Nat.le_refl _) (fun y e => by rw [e]; exact (World.ownsRow.lt row g rfl).1), Nat.le_trans h.up k.size⟩
  rcases List.mem_or_eq_of_mem_set hr with q | q
  · exact hok r q
  · rw [q]; exact ⟨iz, (hok _ (List.getElem_mem hi2)).2⟩
/-- The cells of a record of the list that is asked. -/
theorem QS.cells {w wz : World} {B g N cL : Nat} {u6 u7 : Value} {t i : Nat} (h : QS w wz B g N cL u6 u7 t) (hi : i < N) : ∃ kd d, I64 d ∧ wz.cell? ⟨g, i * 17 + 1, none⟩ = some (.int .i64 kd) ∧ wz.cell? ⟨g, i * 17 + 8, none⟩ = some (.int .i64 d) ∧ wz.frozen? ⟨g, i * 17 + 8, none⟩ = false := by
  obtain ⟨lab, I, vG, vW, R, rl, inv, h6, row, hrl, hok⟩ := h.ex
  have hi2 : i < rl.length := by omega
  obtain ⟨_, _, e1, li, -⟩ := GRow.lies row
  cases e1
  obtain ⟨b, off, e2, hb, hc⟩ := rz_at (lies_pre (by rw [rzs_app] at li; exact li)) i hi2
  cases e2
  have c1 := hc 1 _ rfl
  have c8 := hc 8 _ rfl
  rw [Nat.zero_add] at c1 c8
  exact ⟨_, _, (hok _ (List.getElem_mem hi2)).1, c1, c8, World.ownsRow.frozenAt row _⟩
theorem half_i64 {z : Int} (h : I64 z) : wrap64 (Int.tdiv z 2) = Int.tdiv z 2 ∧ IntKind.i64.wrap (Int.tdiv z 2) = Int.tdiv z 2 := by
  unfold I64 at h
  have h1 : Int.tdiv z 2 ≤ 9223372036854775807 := by
    have := Int.tdiv_le_tdiv (c := 2) (by decide) h.2
    exact Int.le_trans this (by decide)
  have h2 : -9223372036854775808 ≤ Int.tdiv z 2 := by
    have := Int.tdiv_le_tdiv (c := 2) (by decide) h.1
    exact Int.le_trans (by decide) this
  exact ⟨wrapI ⟨h2, h1⟩, by rw [IntKind.wrap_i64]; omega⟩
set_option maxHeartbeats 32000000 in
theorem law_own (p l f : Int) (a a2 : Option Addr) (c n2 c2 : Nat) (ds : List Dd) (txs : List Int) (at_ : Option Addr) (ct : Nat) (w : World) (ip : I64 p) (il : I64 l) (if_ : I64 f) (h : Lies w a (rowsC dC ds)) (hi : ∀ d ∈ ds, I64 d.1 ∧ I64 d.2.1 ∧ I64 d.2.2.1 ∧ I64 d.2.2.2) (hl : ds.length ≤ 9223372036854775807) (ht : Lies w at_ (intsV txs)) (it : ∀ t ∈ txs, I64 t) :
    Calls Tryz.prog 4 #[.agg #[.int .i64 p, .int .i64 l, .int .i64 f, .slice a ds.length c, .slice a2 n2 c2], .slice at_ txs.length ct] w fun e w' => e = .returned (.bool true) ∧ Below w.heap.size w w' := by
  have FT := hide (fun w' => first_true w')
  have TD := hide (fun w2 (hb : Below w.heap.size w w2) P L F hp => told_any p l f a a2 c n2 c2 P L F ds w2 (h.below hb) hi hp hl)
  obtain ⟨nd, hnd⟩ : ∃ z, z = ds.length := ⟨_, rfl⟩
  rw [← hnd] at TD ⊢
  obtain ⟨nT, hnT⟩ : ∃ z, z = txs.length := ⟨_, rfl⟩
  rw [← hnT]
  have HT := hide ht
  have IT := hide it
  have NT := hide hnT
  clear h hi hl hnd ht it hnT
  obtain ⟨w1, hw1⟩ : ∃ z, z = w.alloc (.cells #[.int .i64 p, .int .i64 l, .int .i64 f, .slice a nd c, .slice a2 n2 c2] 37) := ⟨_, rfl⟩
  obtain ⟨X1, hX1⟩ : ∃ z, z = w.heap.size := ⟨_, rfl⟩
  have B1 := hide (show Below w.heap.size w w1 by rw [hw1]; exact alloc_below _ _)
  have R1 := hide (show RBox w1 X1 37 #[.int .i64 p, .int .i64 l, .int .i64 f, .slice a nd c, .slice a2 n2 c2] by rw [hw1, hX1]; exact RBox.new _ _ _)
  go_enter Tryz.func4, Tryz.ntmps4
  go_upto_region 1 with fail
  rw [← hw1, ← hX1]
  clear hw1 hX1
  go_wp2_with fail
  refine (FT.out _).mono ?_
  rintro e w2 ⟨rfl, b2⟩
  have B2 := hide (bnext B1.out b2 (Nat.le_refl _))
  have R2 := hide (RBox.below R1.out b2)
  clear b2 B1 R1 FT
  go_upto_region 3 with fail
  refine wp_region_held_drew (S := fun wq => RBox wq X1 37 #[.int .i64 p, .int .i64 l, .int .i64 f, .slice a nd c, .slice a2 n2 c2]) (by kernel_rfl) (RBox.below R2.out (Below.refl _ _).drew) (fun hS => ?_)
  have B3 := hide (B2.out.drew)
  clear R2 B2
  generalize w2.drew = we at *
  refine take_at 0 (some 26) (v := .agg #[.int .i64 p, .int .i64 l, .int .i64 f, .slice a nd c, .slice a2 n2 c2]) rfl rfl (by kernel_rfl) (by kernel_rfl) (by kernel_rfl) (fun _ _ _ h => h) ⟨by rfl, fun wq hSw => exec_loadG rfl Tryz.underlying37 rfl size37 rfl (fun j v hv => by rw [Nat.zero_add]; exact ((RBox.cells hSw).get j v hv).1)⟩ hS ?_
  (try simp only [Act.put, List.setIfInBounds_toArray, List.set_cons_zero, List.set_cons_succ])
  refine take_at 1 (some 27) (v := .agg #[.int .i64 p, .int .i64 l, .int .i64 f, .slice a nd c, .slice a2 n2 c2]) rfl rfl (by kernel_rfl) (by kernel_rfl) (by kernel_rfl) (fun _ _ _ h => h) ⟨by rfl, fun wq hSw => exec_loadG rfl Tryz.underlying37 rfl size37 rfl (fun j v hv => by rw [Nat.zero_add]; exact ((RBox.cells hSw).get j v hv).1)⟩ hS ?_
  (try simp only [Act.put, List.setIfInBounds_toArray, List.set_cons_zero, List.set_cons_succ])
  refine wpAnyH_ready (rs := [2]) (by kernel_rfl) (by simp) ?_
  refine AllReadyH.cons rfl (fun K hK => ?_) AllReadyH.nil
  go_simp
  go_wp2_with fail
  refine (wide_any p l f a a2 nd c n2 c2 _ ip il if_).mono ?_
  rintro e w3 ⟨P, L, F, rfl, hP, b3⟩
  have B4 := hide (bnext B3.out b3 (Nat.le_refl _))
  go_wp2_with fail
  refine hK.out _ _ (RBox.below hS b3) (fun hS => ?_)
  clear hK K
  (try simp only [Act.put, List.setIfInBounds_toArray, List.set_cons_zero, List.set_cons_succ])
  clear b3 B3
  refine wpAnyH_ready (rs := [3]) (by kernel_rfl) (by simp) ?_
  refine AllReadyH.cons rfl (fun K hK => ?_) AllReadyH.nil
  go_simp
  go_wp2_with fail
  refine (TD.out w3 B4.out P L F hP).mono ?_
  rintro e w4 ⟨v, rs, rfl, lr, b4⟩
  have B5 := hide (bnext B4.out b4 (Nat.le_refl _))
  have LRR := hide lr
  obtain ⟨ar, cr, rfl, lir, hnr⟩ := lr.ex
  go_wp2_with fail
  refine hK.out _ _ (RBox.below hS b4) (fun hS => ?_)
  clear hK K
  (try simp only [Act.put, List.setIfInBounds_toArray, List.set_cons_zero, List.set_cons_succ])
  clear b4 B4 TD lr
  refine wpAnyH_ready (rs := [4]) (by kernel_rfl) (by simp) ?_
  refine AllReadyH.cons rfl (fun K hK => ?_) AllReadyH.nil
  go_simp
  go_wp2_with fail
  refine (lent_any rs ar cr w4 lir hnr (by have := LRR.out.few; omega)).mono ?_
  rintro e w5 ⟨g, cL, rfl, hcL, gr, b5⟩
  have B6 := hide (bnext B5.out b5 (Nat.le_refl _))
  have GR := hide gr
  have HG := hide (show g < w5.heap.size from (World.ownsRow.lt gr g rfl).2)
  go_wp2_with fail
  refine hK.out _ _ (RBox.below hS b5) (fun hS => ?_)
  clear hK K
  (try simp only [Act.put, List.setIfInBounds_toArray, List.set_cons_zero, List.set_cons_succ])
  clear lir hnr gr b5
  refine take_at 5 (some 5) (v := ?_) rfl rfl (by kernel_rfl) (by kernel_rfl) (by kernel_rfl) (fun _ _ _ h => h) ⟨by rfl, ?_⟩ hS ?_
  rotate_left
  · intro wq hSw; go_simp; try rfl
  simp only [Act.put, List.setIfInBounds_toArray, List.set_cons_zero, List.set_cons_succ]
  refine wpAnyH_done (by kernel_rfl) ?_ _
  obtain ⟨N, hN⟩ : ∃ z, z = rs.length := ⟨_, rfl⟩
  obtain ⟨B, hB⟩ : ∃ z, z = w5.heap.size := ⟨_, rfl⟩
  have Q0 := hide (show QS w w5 B g N cL (.slice none 0 0) (.slice none 0 0) 0 from by
    obtain ⟨lab, I, inv⟩ := Inv.start w5 B (fun _ => [])
    exact ⟨⟨lab, I, [], [], fun _ => [], rs, inv, fun _ => Nat.zero_le _, by rw [hN]; exact GRow.mono GR.out (Nat.le_trans B5.out.size (Nat.le_refl _)), hN.symm, LRR.out.ok⟩, B6.out, by rw [hB]; exact Nat.le_refl _⟩)
  have HN60 := hide (show N ≤ 60 by rw [hN]; exact LRR.out.few)
  have HGB := hide (show g < B by rw [hB]; exact HG.out)
  rw [← hN]
  clear hN hB GR B5 B6 LRR HG hcL hP
  go_wp2_with fail
  go_loopw [6, 7, 8] (fun u6 u7 v wz => ∃ (T t : Nat), v = .int .i64 (T : Int) ∧ T ≤ 2 ∧ t ≤ 40 * T ∧ QS w wz B g N cL u6 u7 t) (fun _ _ v _ => 3 - (intOf v).toNat)
  case atStart => exact ⟨0, 0, rfl, Nat.zero_le _, Nat.zero_le _, Q0.out⟩
  case round =>
    obtain ⟨T, t, rfl, hT, ht, qs⟩ := hrel
    have Q1 := hide qs
    clear qs Q0
    by_cases hT2 : T < 2
    · have f1 : decide ((T : Int) < 2) = true := decG hT2
      go_wp2_with fail
      go_loopw [6, 7, 9] (fun u6 u7 v wz => ∃ (i t : Nat), v = .int .i64 (i : Int) ∧ i ≤ nT ∧ i ≤ 20 ∧ t ≤ 40 * T + 2 * i ∧ QS w wz B g N cL u6 u7 t) (fun _ _ v _ => 21 - (intOf v).toNat)
      case atStart => exact ⟨0, t, rfl, Nat.zero_le _, Nat.zero_le _, ht, Q1.out⟩
      case round =>
        obtain ⟨i, t2, rfl, hiT, hi20, ht2, qs⟩ := hrel
        have Q2 := hide qs
        clear qs Q1 f1
        by_cases hin : i < nT ∧ i < 20
        · have f1 : decide ((i : Int) < (nT : Int)) = true := decG hin.1
          have f2 : decide ((i : Int) < 20) = true := decG hin.2
          have f3 : (i : Int) < (nT : Int) := by omega
          obtain ⟨bt, ot, hat, lbt, hct⟩ := HT.out.cellAt i (.int .i64 (txs[i]'(by rw [← NT.out]; exact hin.1))) (by simp [← NT.out, hin.1])
          obtain ⟨tx, htx⟩ : ∃ z, z = txs[i]'(by rw [← NT.out]; exact hin.1) := ⟨_, rfl⟩
          rw [← htx] at hct
          have itx : I64 tx := by rw [htx]; exact IT.out _ (List.getElem_mem _)
          have CT := hide hct
          have LBT := hide lbt
          clear htx hct
          have HAT := hide hat
          go_wp2_with fail
          go_loopw [6, 7, 10] (fun u6 u7 v wz => ∃ (k t : Nat), v = .int .i64 (k : Int) ∧ k ≤ 2 ∧ t ≤ 40 * T + 2 * i + k ∧ QS w wz B g N cL u6 u7 t) (fun _ _ v _ => 3 - (intOf v).toNat)
          case atStart => exact ⟨0, t2, rfl, Nat.zero_le _, ht2, Q2.out⟩
          case round =>
            obtain ⟨k, t3, rfl, hk2, ht3, qs⟩ := hrel
            have Q3 := hide qs
            clear qs Q2 f1 f2
            by_cases hkk : k < 2
            · have f1 : decide ((k : Int) < 2) = true := decG hkk
              obtain ⟨lab, I, vG, vW, R, rl, inv, h6, row, hrl, hok⟩ := Q3.out.ex
              obtain ⟨a5, c5, e5, -⟩ := GRow.lies inv.rowG
              obtain ⟨a6, c6, e6, -⟩ := GRow.lies inv.rowW
              subst e5 e6
              skip
              have H6 := hide h6
              have ROW := hide row
              have HRL := hide hrl
              have HOK := hide hok
              have lix : Lies wr (some ⟨g, 0, none⟩) (rzs rl) := by
                obtain ⟨_, _, e1, li, -⟩ := GRow.lies row
                cases e1
                exact lies_pre (by rw [rzs_app] at li; exact li)
              have LIX := hide lix
              have hrl60 : rl.length ≤ 60 := by rw [hrl]; exact HN60.out
              obtain ⟨ys, hys⟩ : ∃ z, z = (leftL tx (rl.map urOf)).map (undZ tx) := ⟨_, rfl⟩
              obtain ⟨ee, hee⟩ : ∃ z : Nat, z = leftE tx (rl.map urOf) := ⟨_, rfl⟩
              have hyl : (leftL tx (rl.map urOf)).length = ys.length := by rw [hys, List.length_map]
              have LFT := hide (fun w2 a c (h : Lies w2 a (rzs rl)) => left_any rl a c tx w2 h itx hok (by omega))
              have LNT := hide (fun w2 (h : Lies w2 (some ⟨g, 0, none⟩) (rzs rl)) => lent_any rl (some ⟨g, 0, none⟩) cL w2 h nofun (by omega))
              have hy60 : ys.length ≤ 60 := by rw [← hyl]; have := leftL_len tx (rl.map urOf); rw [List.length_map] at this; omega
              rw [← hee, hyl, ← hys] at LFT
              have SAM := hide (fun w2 a b c d (h1 : Lies w2 a (rzs ys)) (h2 : Lies w2 b (rzs ys)) => same_true ys a b c d w2 h1 h2 (by omega))
              rw [hrl] at LFT LNT
              obtain ⟨M, hM⟩ : ∃ z, z = ys.length := ⟨_, rfl⟩
              rw [← hM] at LFT SAM hy60
              have HM := hide hM
              obtain ⟨R', hR'⟩ : ∃ z : Nat → List RZ, z = fun k => if k = t3 then ys else R k := ⟨_, rfl⟩
              have iv2 := inv.turn (R2 := R') (fun k hk => by rw [hR']; simp only; rw [if_neg (by omega)])
              have HRT := hide (show R' t3 = ys by rw [hR']; simp)
              have H62 := hide (show ∀ k, (R' k).length ≤ 60 by intro k; rw [hR']; simp only; by_cases q : k = t3; (rw [if_pos q, ← hM]; exact hy60); (rw [if_neg q]; exact H6.out k))
              have IV := hide iv2
              have BQ := hide Q3.out.bw
              have UP := hide Q3.out.up
              have ct1 := (Q3.out.bw.cell (p := ⟨bt, ot + i, none⟩) LBT.out).trans CT.out
              have ft3 : (i : Int) < (nT : Int) := f3
              have eat := HAT.out
              rw [HAT.out]
              clear inv h6 row hrl hok lix hys hee hyl hM hR' iv2 hrl60 Q3
              go_wp2_with fail
              refine (LFT.out _ _ _ LIX.out).mono ?_
              rintro e w2 ⟨v, rfl, g2, b2⟩
              obtain ⟨al, cl, rfl, l2, -, -, hnl, -⟩ := GRow.lies g2
              have G2 := hide g2
              have L2 := hide l2
              have B2 := hide b2
              have HNL := hide hnl
              have ct2 := (b2.cell (p := ⟨bt, ot + i, none⟩) (show bt < wr.heap.size by have := LBT.out; have := BQ.out.size; omega)).trans ct1
              have LIX2 := hide (LIX.out.below b2)
              clear g2 l2 b2 hnl
              go_upto_region 15 with fail
              refine wp_region_held_drew (S := fun wq => wq.cell? ⟨bt, ot + i, none⟩ = some (.int .i64 tx)) (by kernel_rfl) (by rw [← ct2]; rfl) (fun hS => ?_)
              have BD := hide (show Below w2.heap.size w2 w2.drew from (Below.refl _ _).drew)
              have HLT := hide (show bt < w2.drew.heap.size by have := LBT.out; have := BQ.out.size; have := B2.out.size; show bt < w2.heap.size; omega)
              clear ct1 ct2
              generalize w2.drew = we at *
              refine take_at 0 (some 59) (v := ?_) rfl rfl (by kernel_rfl) (by kernel_rfl) (by kernel_rfl) (fun _ _ _ h => h) ⟨by rfl, ?_⟩ hS ?_
              rotate_left
              · intro wq hSw; go_simp; try rfl
              simp only [Act.put, List.setIfInBounds_toArray, List.set_cons_zero, List.set_cons_succ]
              refine take_at 2 (some 61) (v := ?_) rfl rfl (by kernel_rfl) (by kernel_rfl) (by kernel_rfl) (fun _ _ _ h => h) ⟨by rfl, ?_⟩ hS ?_
              rotate_left
              · intro wq hSw; go_simp; try rfl
              simp only [Act.put, List.setIfInBounds_toArray, List.set_cons_zero, List.set_cons_succ]
              refine take_at 3 (some 62) (v := ?_) rfl rfl (by kernel_rfl) (by kernel_rfl) (by kernel_rfl) (fun _ _ _ h => h) ⟨by rfl, ?_⟩ hS ?_
              rotate_left
              · intro wq hSw; go_simp; try rfl
              simp only [Act.put, List.setIfInBounds_toArray, List.set_cons_zero, List.set_cons_succ]
              refine take_at 4 (some 63) (v := ?_) rfl rfl (by kernel_rfl) (by kernel_rfl) (by kernel_rfl) (fun _ _ _ h => h) ⟨by rfl, ?_⟩ hS ?_
              rotate_left
              · intro wq hSw; go_simp; try rfl
              simp only [Act.put, List.setIfInBounds_toArray, List.set_cons_zero, List.set_cons_succ]
              refine take_at 5 (some 64) (v := ?_) rfl rfl (by kernel_rfl) (by kernel_rfl) (by kernel_rfl) (fun _ _ _ h => h) ⟨by rfl, ?_⟩ hS ?_
              rotate_left
              · intro wq hSw; have s5 := hSw; go_simp; try rfl
              simp only [Act.put, List.setIfInBounds_toArray, List.set_cons_zero, List.set_cons_succ]
              refine wpAnyH_ready (rs := [1]) (by kernel_rfl) (by simp) ?_
              refine AllReadyH.cons rfl (fun K hK => ?_) AllReadyH.nil
              go_simp
              go_wp2_with fail
              refine (LNT.out we (LIX2.out.below BD.out)).mono ?_
              rintro e w3 ⟨g3, c3, rfl, hc3, gr3, b3⟩
              have BD3 := hide (bnext BD.out b3 (Nat.le_refl _))
              have LI3 := hide (show Lies w3 (some ⟨g3, 0, none⟩) (rzs rl) by
                obtain ⟨_, _, e1, li, -⟩ := GRow.lies gr3
                cases e1
                exact lies_pre (by rw [rzs_app] at li; exact li))
              go_wp2_with fail
              refine hK.out _ _ ((b3.cell (p := ⟨bt, ot + i, none⟩) HLT.out).trans hS) (fun hS => ?_)
              clear hK K
              (try simp only [Act.put, List.setIfInBounds_toArray, List.set_cons_zero, List.set_cons_succ])
              have HLT3 := hide (show bt < w3.heap.size from Nat.lt_of_lt_of_le HLT.out b3.size)
              clear gr3 b3 hc3 BD HLT
              refine wpAnyH_ready (rs := [6]) (by kernel_rfl) (by simp) ?_
              refine AllReadyH.cons rfl (fun K hK => ?_) AllReadyH.nil
              go_simp
              go_wp2_with fail
              refine (LFT.out w3 (some ⟨g3, 0, none⟩) c3 LI3.out).mono ?_
              rintro e w4 ⟨v4, rfl, g4, b4⟩
              obtain ⟨a4, c4, rfl, l4, -⟩ := GRow.lies g4
              have BD4 := hide (bnext BD3.out b4 (Nat.le_refl _))
              have L4 := hide l4
              go_wp2_with fail
              refine hK.out _ _ ((b4.cell (p := ⟨bt, ot + i, none⟩) HLT3.out).trans hS) (fun hS => ?_)
              clear hK K
              (try simp only [Act.put, List.setIfInBounds_toArray, List.set_cons_zero, List.set_cons_succ])
              clear g4 l4 b4 HLT3 BD3 LI3
              refine take_at 7 (some 58) (v := ?_) rfl rfl (by kernel_rfl) (by kernel_rfl) (by kernel_rfl) (fun _ _ _ h => h) ⟨by rfl, ?_⟩ hS ?_
              rotate_left
              · intro wq hSw; go_simp; try rfl
              simp only [Act.put, List.setIfInBounds_toArray, List.set_cons_zero, List.set_cons_succ]
              refine take_at 8 (some 66) (v := ?_) rfl rfl (by kernel_rfl) (by kernel_rfl) (by kernel_rfl) (fun _ _ _ h => h) ⟨by rfl, ?_⟩ hS ?_
              rotate_left
              · intro wq hSw; go_simp; try rfl
              simp only [Act.put, List.setIfInBounds_toArray, List.set_cons_zero, List.set_cons_succ]
              refine take_at 9 (some 67) (v := ?_) rfl rfl (by kernel_rfl) (by kernel_rfl) (by kernel_rfl) (fun _ _ _ h => h) ⟨by rfl, ?_⟩ hS ?_
              rotate_left
              · intro wq hSw; go_simp; try rfl
              simp only [Act.put, List.setIfInBounds_toArray, List.set_cons_zero, List.set_cons_succ]
              refine take_at 10 (some 13) (v := ?_) rfl rfl (by kernel_rfl) (by kernel_rfl) (by kernel_rfl) (fun _ _ _ h => h) ⟨by rfl, ?_⟩ hS ?_
              rotate_left
              · intro wq hSw; go_simp; try rfl
              simp only [Act.put, List.setIfInBounds_toArray, List.set_cons_zero, List.set_cons_succ]
              refine take_at 11 (some 14) (v := ?_) rfl rfl (by kernel_rfl) (by kernel_rfl) (by kernel_rfl) (fun _ _ _ h => h) ⟨by rfl, ?_⟩ hS ?_
              rotate_left
              · intro wq hSw; go_simp; try rfl
              simp only [Act.put, List.setIfInBounds_toArray, List.set_cons_zero, List.set_cons_succ]
              clear hS
              refine wpAnyH_done (by kernel_rfl) ?_ _
              go_wp2_with fail
              refine (SAM.out w4 al a4 cl c4 (L2.out.below BD4.out) L4.out).mono ?_
              rintro e wm ⟨rfl, b5⟩
              have QB := hide ((B2.out.trans (BD4.out.mono B2.out.size)).trans (b5.mono (Nat.le_trans B2.out.size BD4.out.size)))
              have RL := hide (show GRow wm wr.heap.size 53 17 (.slice al M cl) M (rzs ys) from GRow.below (GRow.below G2.out BD4.out) b5)
              clear b5 BD4 B2 G2 L2 L4 LIX LIX2 LFT LNT SAM
              have hsm : wr.heap.size ≤ wm.heap.size := QB.out.size
              have hup : B ≤ wr.heap.size := UP.out
              have HX := hide (show GRow (wm.alloc (.cells #[.slice al M cl] 22)) B 53 17 (.slice al M cl) (R' t3).length (rzs (R' t3)) by rw [HRT.out, ← HM.out]; exact GRow.mono (GRow.below RL.out (alloc_below _ _)) hup)
              have HV := hide (show ∀ q, (Value.slice al M cl).ownBlock = some q → wr.heap.size ≤ q from fun q hq => (World.ownsRow.lt RL.out q hq).1)
              have b2 := hide (QB.out.alloc hsm (.cells #[.slice al M cl] 22))
              go_upto_region 20 with (at_builtin; refine wpList_appR Tryz.underlying40 info22 info22z (by decide) (by decide) rfl (.tmp _) (.tmp _) rfl B (.slice a5 t3 c5) t3 vG rfl (GRow.below IV.out.rowG b2.out) (some ⟨wm.heap.size, 0, none⟩) 1 1 [.slice al M cl] rfl rfl (lies_one _ _ _) (by simp [Value.oneCell']) (by nofun) (by omega) (by have := b2.out.size; omega) ?_; intro v5 x3 q1 q2 q3)
              have K3 := hide (grown_keep q2)
              have G3 := hide q1
              have O3 := hide (show v5.ownBlock = (Value.slice a5 t3 c5).ownBlock ∨ ∃ z, v5.ownBlock = some z ∧ (wm.alloc (.cells #[.slice al M cl] 22)).heap.size ≤ z from q3.imp id (fun q => ⟨_, q, Nat.le_refl _⟩))
              have hs3 : wm.heap.size + 1 ≤ x3.heap.size := by have := q2.size; simp at this; omega
              have RL3 := hide (show GRow x3 B 53 17 (.slice al M cl) M (rzs ys) by have := GRow.keep HX.out K3.out (fun q hq s => by have h1 := HV.out q hq; have h2 := (World.ownsRow.lt IV.out.rowG q s).2; omega); rw [HRT.out, ← HM.out] at this; exact this)
              obtain ⟨a3, c3, e3, LI3, hle3, -, hn3, -⟩ := GRow.lies RL3.out
              cases e3
              have LI := hide LI3
              have W3 := hide (IV.out.wKeep b2.out K3.out)
              obtain ⟨a55, c55, e55, -⟩ := GRow.lies q1
              subst e55
              clear q1 q2 q3 LI3
              have HNIL := hide (show al = none → cl = 0 ∧ M = 0 from fun q => by have := hn3 q; omega)
              clear hn3 hle3
              go_upto_region 13 with (at_builtin; first | (refine wpList_appW Tryz.underlying22 info53 rfl (by decide) (by decide) rfl (.tmp 77) (.tmp 78) rfl x3.heap.size (.slice none 0 0) 0 [] rfl (World.ownsRow_nil _ _ _ _) al M cl (rzs ys) rfl (by rw [rzs_len, ← HM.out]) LI.out (rzs_one _) HNIL.out (by omega) (Nat.le_refl _) ?_; intro v6 x4 r1 r2 r3; rw [Nat.zero_add, List.nil_append] at r1; obtain ⟨aw, cw, ew, -⟩ := GRow.lies r1; subst ew; have CW := hide r1; have b4 := hide (((Below.refl x3.heap.size x3).grown r2 (Nat.le_refl _) (fun j hj => by cases hj)).alloc r2.size (.cells #[.slice aw M cw] 22)); clear r1 r2 r3) | (refine wpList_appR Tryz.underlying40 info22 info22z (by decide) (by decide) rfl (.tmp 76) (.tmp 80) rfl B (.slice a6 t3 c6) t3 vW rfl (GRow.below W3.out b4.out) (some ⟨x4.heap.size, 0, none⟩) 1 1 [.slice aw M cw] rfl rfl (lies_one _ _ _) (by simp [Value.oneCell']) (by nofun) (by omega) (by have := b4.out.size; have := b2.out.size; omega) ?_; intro v7 x5 s1 s2 s3; obtain ⟨a77, c77, e77, -⟩ := GRow.lies s1; subst e77))
              have C4 := hide (show GRow (x4.alloc (.cells #[.slice aw M cw] 22)) B 53 17 (.slice aw M cw) (R' t3).length (rzs (R' t3)) by rw [HRT.out, ← HM.out]; exact GRow.mono (GRow.below CW.out (alloc_below _ _)) (by omega))
              obtain ⟨lab2, I2, inv2⟩ := Inv.more IV.out HX.out HV.out b2.out G3.out K3.out O3.out C4.out b4.out (fun g hg => (World.ownsRow.lt CW.out g hg).1) s1 (grown_keep s2) (s3.imp id (fun q => ⟨_, q, Nat.le_refl _⟩))
              have IV2 := hide inv2
              have k5 := grown_keep s2
              have hbw : w.heap.size ≤ wr.heap.size := BQ.out.size
              have lowG : ∀ z, z < B → ¬ (Value.slice a5 t3 c5).ownBlock = some z := fun z hz q => by have := (World.ownsRow.lt IV.out.rowG z q).1; omega
              have lowW : ∀ z, z < B → ¬ (Value.slice a6 t3 c6).ownBlock = some z := fun z hz q => by have := (World.ownsRow.lt W3.out z q).1; omega
              have hgB := HGB.out
              have ROW5 := hide (GRow.keep (GRow.below (GRow.keep (GRow.below ROW.out b2.out) K3.out (fun z hz s => by cases hz; exact lowG _ hgB s)) b4.out) k5 (fun z hz s => by cases hz; exact lowW _ hgB s))
              have wB : w.heap.size ≤ B := by have := (World.ownsRow.lt ROW.out g rfl).1; omega
              have BF := hide (show Below w.heap.size w x5 from bkeep (bnext (bkeep (bnext BQ.out b2.out (Nat.le_refl _)) K3.out (Nat.le_refl _) (fun z q => Nat.le_of_not_lt (fun hz => lowG z (by omega) q))) b4.out (Nat.le_refl _)) k5 (Nat.le_refl _) (fun z q => Nat.le_of_not_lt (fun hz => lowW z (by omega) q)))
              have UPF := hide (show B ≤ x5.heap.size by have := k5.size; have := b4.out.size; omega)
              clear k5 lowG lowW s1 s2 s3 inv2
              go_wp2_with fail
              go_roundw
              case rel => exact ⟨k + 1, t3 + 1, by go_num, by omega, by omega, ⟨⟨lab2, I2, _, _, R', rl, IV2.out, H62.out, ROW5.out, HRL.out, HOK.out⟩, BF.out, UPF.out⟩⟩
              case measure => simp [intOf]; omega
            · obtain rfl : k = 2 := by omega
              have f1 : decide (((2 : Nat) : Int) < 2) = false := rfl
              go_wp2_with fail
              go_roundw
              case rel => first | exact ⟨i + 1, t3, by go_num, by omega, by omega, by omega, Q3.out⟩ | ((repeat apply Exists.intro); exact ⟨⟨i + 1, t3, by go_num, by omega, by omega, by omega, Q3.out⟩, rfl⟩)
              case measure => simp [intOf]; omega
        · by_cases q : i < nT
          · have f1 : decide ((i : Int) < (nT : Int)) = true := decG q
            have f2 : decide ((i : Int) < 20) = false := decL (fun r => hin ⟨q, r⟩)
            go_wp2_with fail
            go_loopw [16] (fun v wz => ∃ (j : Nat), v = .int .i64 (j : Int) ∧ j ≤ N ∧ QS w wz B g N cL _ _ t2) (fun v _ => N + 1 - (intOf v).toNat)
            case atStart => exact ⟨0, rfl, Nat.zero_le _, Q2.out⟩
            case round =>
              obtain ⟨j, rfl, hj, qs⟩ := hrel
              have Q4 := hide qs
              clear qs Q2
              by_cases hjN : j < N
              · have hN60 := HN60.out
                have g1 : decide ((j : Int) < (N : Int)) = true := decG hjN
                have g2 : (j : Int) < (N : Int) := by omega
                obtain ⟨kd, d, idd, y1, y8, f8⟩ := Q4.out.cells hjN
                have hw := half_i64 idd
                have hw1 := hw.1
                have hw2 := hw.2
                by_cases hkd : kd = 3
                · subst hkd
                  go_wp2_with fail
                  go_roundw
                  case rel => first | exact ⟨j + 1, by go_num, by omega, Q4.out.adds HGB.out hjN _ (wrap_i64 _)⟩ | ((repeat apply Exists.intro); exact ⟨⟨j + 1, by go_num, by omega, Q4.out.adds HGB.out hjN _ (wrap_i64 _)⟩, rfl⟩)
                  case measure => simp [intOf]; omega
                · have k1 : decide (kd = 3) = false := decide_eq_false hkd
                  have k2 : (kd == 3) = false := by simpa using hkd
                  go_wp2_with fail
                  go_roundw
                  case rel => first | exact ⟨j + 1, by go_num, by omega, Q4.out⟩ | ((repeat apply Exists.intro); exact ⟨⟨j + 1, by go_num, by omega, Q4.out⟩, rfl⟩)
                  case measure => simp [intOf]; omega
              · obtain rfl : N = j := by omega
                have g1 : decide ((N : Int) < (N : Int)) = false := decL (by omega)
                go_wp2_with fail
                go_roundw
                case rel => first | exact ⟨T + 1, t2, by go_num, by omega, by omega, Q4.out⟩ | ((repeat apply Exists.intro); exact ⟨⟨T + 1, t2, by go_num, by omega, by omega, Q4.out⟩, rfl⟩)
                case measure => simp [intOf]; omega
          · have f1 : decide ((i : Int) < (nT : Int)) = false := decL q
            go_wp2_with fail
            go_loopw [16] (fun v wz => ∃ (j : Nat), v = .int .i64 (j : Int) ∧ j ≤ N ∧ QS w wz B g N cL _ _ t2) (fun v _ => N + 1 - (intOf v).toNat)
            case atStart => exact ⟨0, rfl, Nat.zero_le _, Q2.out⟩
            case round =>
              obtain ⟨j, rfl, hj, qs⟩ := hrel
              have Q4 := hide qs
              clear qs Q2
              by_cases hjN : j < N
              · have hN60 := HN60.out
                have g1 : decide ((j : Int) < (N : Int)) = true := decG hjN
                have g2 : (j : Int) < (N : Int) := by omega
                obtain ⟨kd, d, idd, y1, y8, f8⟩ := Q4.out.cells hjN
                have hw := half_i64 idd
                have hw1 := hw.1
                have hw2 := hw.2
                by_cases hkd : kd = 3
                · subst hkd
                  go_wp2_with fail
                  go_roundw
                  case rel => first | exact ⟨j + 1, by go_num, by omega, Q4.out.adds HGB.out hjN _ (wrap_i64 _)⟩ | ((repeat apply Exists.intro); exact ⟨⟨j + 1, by go_num, by omega, Q4.out.adds HGB.out hjN _ (wrap_i64 _)⟩, rfl⟩)
                  case measure => simp [intOf]; omega
                · have k1 : decide (kd = 3) = false := decide_eq_false hkd
                  have k2 : (kd == 3) = false := by simpa using hkd
                  go_wp2_with fail
                  go_roundw
                  case rel => first | exact ⟨j + 1, by go_num, by omega, Q4.out⟩ | ((repeat apply Exists.intro); exact ⟨⟨j + 1, by go_num, by omega, Q4.out⟩, rfl⟩)
                  case measure => simp [intOf]; omega
              · obtain rfl : N = j := by omega
                have g1 : decide ((N : Int) < (N : Int)) = false := decL (by omega)
                go_wp2_with fail
                go_roundw
                case rel => first | exact ⟨T + 1, t2, by go_num, by omega, by omega, Q4.out⟩ | ((repeat apply Exists.intro); exact ⟨⟨T + 1, t2, by go_num, by omega, by omega, Q4.out⟩, rfl⟩)
                case measure => simp [intOf]; omega
    · obtain rfl : T = 2 := by omega
      have f1 : decide (((2 : Nat) : Int) < 2) = false := rfl
      obtain ⟨lab, I, vG, vW, R, rl, inv, h6, row, hrl, hok⟩ := Q1.out.ex
      obtain ⟨a5, c5, e5, -⟩ := GRow.lies inv.rowG
      obtain ⟨a6, c6, e6, -⟩ := GRow.lies inv.rowW
      subst e5 e6
      obtain ⟨wx, hwx⟩ : ∃ x, x = wr := ⟨_, rfl⟩
      subst hwx
      have IV := hide inv
      have HB := hide Q1.out.bw
      have UPX := hide Q1.out.up
      have ht80 : t ≤ 80 := by omega
      obtain ⟨n, hn⟩ : ∃ n : Nat → Nat, n = fun k => (R k).length := ⟨_, rfl⟩
      have hnk : ∀ k, (R k).length = n k := fun k => by rw [hn]
      have HNK := hide hnk
      have hn64 : ∀ k, n k ≤ 60 := fun k => by rw [← hnk]; exact h6 k
      have hlg := IV.out.lg
      have hlw := IV.out.lw
      obtain ⟨A, C, hAC⟩ := vals (vG := vG) (n := n) (fun k hk => by obtain ⟨a, c, e, -⟩ := GRow.lies (IV.out.itG hk); exact ⟨a, c, by rw [e, hnk]⟩)
      obtain ⟨A2, C2, hAC2⟩ := vals (vG := vW) (n := n) (fun k hk => by obtain ⟨a, c, e, -⟩ := GRow.lies (IV.out.itW hk); exact ⟨a, c, by rw [e, hnk]⟩)
      rw [hlg] at hAC
      rw [hlw] at hAC2
      have getG : ∀ k (hk : k < vG.length), vG[k] = .slice (A k) (n k) (C k) := fun k hk => by have := hAC k (by omega); rw [List.getElem?_eq_getElem hk] at this; exact Option.some.inj this
      have getW : ∀ k (hk : k < vW.length), vW[k] = .slice (A2 k) (n k) (C2 k) := fun k hk => by have := hAC2 k (by omega); rw [List.getElem?_eq_getElem hk] at this; exact Option.some.inj this
      have CELG := hide (show ∀ k, k < t → ∃ b5, a5 = some ⟨b5, 0, none⟩ ∧ b5 < wx.heap.size ∧ wx.cell? ⟨b5, k, none⟩ = some (.slice (A k) (n k) (C k)) from fun k hk => row_cell IV.out.rowG (hAC k hk))
      have CELW := hide (show ∀ k, k < t → ∃ b6, a6 = some ⟨b6, 0, none⟩ ∧ b6 < wx.heap.size ∧ wx.cell? ⟨b6, k, none⟩ = some (.slice (A2 k) (n k) (C2 k)) from fun k hk => row_cell IV.out.rowW (hAC2 k hk))
      have LIG := hide (show ∀ k, k < t → Lies wx (A k) (rzs (R k)) from fun k hk => by
        have h := IV.out.itG (k := k) (by omega)
        rw [getG k (by omega)] at h
        obtain ⟨a, c, e, li, -⟩ := GRow.lies h
        injection e with j1 j2 j3
        rw [j1]
        exact li)
      have LIW := hide (show ∀ k, k < t → Lies wx (A2 k) (rzs (R k)) from fun k hk => by
        have h := IV.out.itW (k := k) (by omega)
        rw [getW k (by omega)] at h
        obtain ⟨a, c, e, li, -⟩ := GRow.lies h
        injection e with j1 j2 j3
        rw [j1]
        exact li)
      have GG := hide (And.intro hAC getG)
      have HLG := hide hlg
      have HN64 := hide hn64
      have WB := hide (show w.heap.size ≤ B by have := (World.ownsRow.lt row g rfl).1; have := HGB.out; omega)
      clear hn hnk hn64 hlg hlw hAC hAC2 getG getW inv h6 row hrl hok Q1
      go_wp2_with fail
      go_loopw [17] (fun i ws => ∃ k : Nat, i = .int .i64 (k : Int) ∧ k ≤ t ∧ Below wx.heap.size wx ws) (fun i _ => t + 1 - (intOf i).toNat)
      case atStart => exact ⟨0, rfl, by omega, Below.refl _ _⟩
      case round =>
        obtain ⟨k, rfl, hk, hb⟩ := hrel
        have HBB := hide hb
        clear hb
        by_cases hkt : k < t
        · have f1 : decide ((k : Int) < (t : Int)) = true := decG hkt
          have f2 : (k : Int) < (t : Int) := by omega
          obtain ⟨b5, e5, L5, C5⟩ := CELG.out k hkt
          obtain ⟨b6, e6, L6, C6⟩ := CELW.out k hkt
          have C5r := (HBB.out.cell (p := ⟨b5, k, none⟩) L5).trans C5
          have C6r := (HBB.out.cell (p := ⟨b6, k, none⟩) L6).trans C6
          have E5 := hide e5
          have E6 := hide e6
          clear C5 C6 e5 e6
          rw [E5.out, E6.out]
          have SAM := hide (fun w2 (hb : Below wx.heap.size wx w2) => same_true (R k) (A k) (A2 k) (C k) (C2 k) w2 ((LIG.out k hkt).below hb) ((LIW.out k hkt).below hb) (by rw [HNK.out]; have := HN64.out k; omega))
          rw [HNK.out] at SAM
          go_upto_region 29 with fail
          have L5r : b5 < wr.heap.size := Nat.lt_of_lt_of_le L5 HBB.out.size
          have L6r : b6 < wr.heap.size := Nat.lt_of_lt_of_le L6 HBB.out.size
          refine wp_region_held_drew (S := fun wq => Below wr.heap.size wr wq) (by kernel_rfl) (Below.refl _ _).drew (fun hS => ?_)
          refine take_at 0 (some 111) (v := ?_) rfl rfl (by kernel_rfl) (by kernel_rfl) (by kernel_rfl) (fun _ _ _ h => h) ⟨by rfl, ?_⟩ hS ?_
          rotate_left
          · intro wq hSw; go_simp; try rfl
          simp only [Act.put, List.setIfInBounds_toArray, List.set_cons_zero, List.set_cons_succ]
          refine take_at 1 (some 112) (v := ?_) rfl rfl (by kernel_rfl) (by kernel_rfl) (by kernel_rfl) (fun _ _ _ h => h) ⟨by rfl, ?_⟩ hS ?_
          rotate_left
          · intro wq hSw; go_simp; try rfl
          simp only [Act.put, List.setIfInBounds_toArray, List.set_cons_zero, List.set_cons_succ]
          refine take_at 2 (some 113) (v := ?_) rfl rfl (by kernel_rfl) (by kernel_rfl) (by kernel_rfl) (fun _ _ _ h => h) ⟨by rfl, ?_⟩ hS ?_
          rotate_left
          · intro wq hSw; go_simp; try rfl
          simp only [Act.put, List.setIfInBounds_toArray, List.set_cons_zero, List.set_cons_succ]
          refine take_at 3 (some 114) (v := ?_) rfl rfl (by kernel_rfl) (by kernel_rfl) (by kernel_rfl) (fun _ _ _ h => h) ⟨by rfl, ?_⟩ hS ?_
          rotate_left
          · intro wq hSw; have q5 := (hSw.cell (p := ⟨b5, k, none⟩) L5r).trans C5r; go_simp; try rfl
          simp only [Act.put, List.setIfInBounds_toArray, List.set_cons_zero, List.set_cons_succ]
          refine take_at 4 (some 115) (v := ?_) rfl rfl (by kernel_rfl) (by kernel_rfl) (by kernel_rfl) (fun _ _ _ h => h) ⟨by rfl, ?_⟩ hS ?_
          rotate_left
          · intro wq hSw; go_simp; try rfl
          simp only [Act.put, List.setIfInBounds_toArray, List.set_cons_zero, List.set_cons_succ]
          refine take_at 5 (some 116) (v := ?_) rfl rfl (by kernel_rfl) (by kernel_rfl) (by kernel_rfl) (fun _ _ _ h => h) ⟨by rfl, ?_⟩ hS ?_
          rotate_left
          · intro wq hSw; go_simp; try rfl
          simp only [Act.put, List.setIfInBounds_toArray, List.set_cons_zero, List.set_cons_succ]
          refine take_at 6 (some 117) (v := ?_) rfl rfl (by kernel_rfl) (by kernel_rfl) (by kernel_rfl) (fun _ _ _ h => h) ⟨by rfl, ?_⟩ hS ?_
          rotate_left
          · intro wq hSw; go_simp; try rfl
          simp only [Act.put, List.setIfInBounds_toArray, List.set_cons_zero, List.set_cons_succ]
          refine take_at 7 (some 118) (v := ?_) rfl rfl (by kernel_rfl) (by kernel_rfl) (by kernel_rfl) (fun _ _ _ h => h) ⟨by rfl, ?_⟩ hS ?_
          rotate_left
          · intro wq hSw; have q6 := (hSw.cell (p := ⟨b6, k, none⟩) L6r).trans C6r; go_simp; try rfl
          simp only [Act.put, List.setIfInBounds_toArray, List.set_cons_zero, List.set_cons_succ]
          refine wpAnyH_ready (rs := [8]) (by kernel_rfl) (by simp) ?_
          refine AllReadyH.cons rfl (fun K hK => ?_) AllReadyH.nil
          go_simp
          go_wp2_with fail
          refine (SAM.out _ (bnext HBB.out hS (Nat.le_refl _))).mono ?_
          rintro e y1 ⟨rfl, hh⟩
          go_wp2_with fail
          refine hK.out _ _ (bnext hS hh (Nat.le_refl _)) (fun hS => ?_)
          clear hK K
          (try simp only [Act.put, List.setIfInBounds_toArray, List.set_cons_zero, List.set_cons_succ])
          clear hh
          refine take_at 9 (some 120) (v := ?_) rfl rfl (by kernel_rfl) (by kernel_rfl) (by kernel_rfl) (fun _ _ _ h => h) ⟨by rfl, ?_⟩ hS ?_
          rotate_left
          · intro wq hSw; go_simp; try rfl
          simp only [Act.put, List.setIfInBounds_toArray, List.set_cons_zero, List.set_cons_succ]
          have D9 := hide hS
          clear hS C5r C6r L5r L6r SAM
          refine wpAnyH_done (by kernel_rfl) ?_ _
          skip
          go_wp2_with fail
          go_roundw
          case rel => first | exact ⟨k + 1, by go_num, by omega, bnext HBB.out D9.out (Nat.le_refl _)⟩ | ((repeat apply Exists.intro); exact ⟨⟨k + 1, by go_num, by omega, bnext HBB.out D9.out (Nat.le_refl _)⟩, rfl⟩)
          case measure => simp [intOf]; omega
        · obtain rfl : t = k := by omega
          have f1 : decide ((t : Int) < (t : Int)) = false := decL (by omega)
          obtain ⟨wy, hwy⟩ : ∃ x, x = wr := ⟨_, rfl⟩
          subst hwy
          have IY := hide (IV.out.below HBB.out)
          have BY := hide (bnext HB.out HBB.out (Nat.le_refl _))
          have UPY := hide (Nat.le_trans UPX.out HBB.out.size)
          clear IV HBB HB CELG CELW LIG LIW
          go_wp2_with fail
          go_loopw [18] (fun i ws => ∃ (k : Nat) (lab : Nat → Nat) (I : Nat → Option It) (X : Nat → List RZ), i = .int .i64 (k : Int) ∧ k ≤ t ∧ Inv ws B lab I (.slice a5 t c5) (.slice a6 t c6) vG vW R X t ∧ (∀ j, j < k → X j = marks j (n j)) ∧ Below w.heap.size w ws ∧ B ≤ ws.heap.size) (fun i _ => t + 1 - (intOf i).toNat)
          case atStart => exact ⟨0, _, _, R, rfl, by omega, IY.out, fun j hj => (by omega), BY.out, UPY.out⟩
          case round =>
            obtain ⟨k, lab3, I3, X, rfl, hk6, hin, hX, hbl, hupz⟩ := hrel
            have IZ := hide hin
            have HX := hide hX
            have BZ := hide hbl
            have UPZ := hide hupz
            clear hin hX hbl hupz IY BY
            by_cases hkk : k < t
            · have f1 : decide ((k : Int) < (t : Int)) = true := decG hkk
              have f2 : (k : Int) < (t : Int) := by omega
              have hnn := HN64.out k
              go_wp2_with fail
              go_loopw [19] (fun i ws => ∃ (q : Nat) (lab : Nat → Nat) (I : Nat → Option It) (X : Nat → List RZ), i = .int .i64 (q : Int) ∧ q ≤ n k ∧ Inv ws B lab I (.slice a5 t c5) (.slice a6 t c6) vG vW R X t ∧ (∀ j, j < k → X j = marks j (n j)) ∧ (∀ z, z < q → (X k)[z]? = some (mrk k)) ∧ Below w.heap.size w ws ∧ B ≤ ws.heap.size) (fun i _ => n k + 1 - (intOf i).toNat)
              case atStart => exact ⟨0, _, _, X, rfl, Nat.zero_le _, IZ.out, HX.out, fun z hz => (by omega), BZ.out, UPZ.out⟩
              case round =>
                obtain ⟨q, lab4, I4, X4, rfl, hq, hin, hX4, hP, hbl, hupq⟩ := hrel
                have IQ := hide hin
                have HX4 := hide hX4
                have HP := hide hP
                have BQ := hide hbl
                have UPQ := hide hupq
                obtain ⟨b5, e5, -, C5⟩ := row_cell hin.rowG (GG.out.1 k hkk)
                have E5 := hide e5
                have hkl : k < vG.length := by rw [HLG.out]; exact hkk
                have hit := hin.itG hkl
                rw [GG.out.2 k hkl, HNK.out k] at hit
                have HIT := hide hit
                have ewk := wrapNeg (k := k) (by omega)
                have ewk1 := ewk.1
                have ewk2 := ewk.2
                rw [e5]
                clear hin hX4 hP hbl hupq hit IZ HX BZ UPZ ewk e5
                by_cases hqn : q < n k
                · have g1 : decide ((q : Int) < ((n k : Nat) : Int)) = true := decG hqn
                  have g2 : (q : Int) < ((n k : Nat) : Int) := by omega
                  obtain ⟨gk, cap, eg, hcap⟩ := grow_open HIT.out (by omega)
                  have eA : A k = some ⟨gk, 0, none⟩ := by injection eg
                  have hlx : (X4 k).length = n k := by rw [IQ.out.lx k hkk, HNK.out]
                  have hit2 := HIT.out
                  rw [eA] at hit2 C5
                  have TH := hide (there_at (there_of hit2) hqn)
                  have GB := hide (World.ownsRow.lt hit2 gk rfl).1
                  have EA := hide eA
                  have HLX := hide hlx
                  clear eg eA hlx hit2
                  go_wp2_with (first | refine wpList_stAt (cs := rzA (mrk k)) TH.out rfl rfl rfl rfl ?_ | fail)
                  go_roundw
                  case rel =>
                    obtain ⟨lab5, I5, in5⟩ := IQ.out.store (k := k) (i := q) (by rw [HLG.out]; exact hkk) (by rw [HNK.out]; exact hqn) (mrk k) (g := gk) (c := C k) (by rw [GG.out.2 k (by rw [HLG.out]; exact hkk), EA.out, HNK.out])
                    rw [E5.out] at in5
                    have kk := keep_setCells gk (rzA (mrk k)).toList (q * 17) wr
                    have F1 : ∀ j, j < k → (if j = k then (X4 k).set q (mrk k) else X4 j) = marks j (n j) := fun j hj => by rw [if_neg (by omega)]; exact HX4.out j hj
                    have F2 : ∀ z, z < q + 1 → (if k = k then (X4 k).set q (mrk k) else X4 k)[z]? = some (mrk k) := fun z hz => by
                      rw [if_pos rfl, List.getElem?_set]
                      by_cases r : q = z
                      · subst r
                        rw [if_pos rfl, if_pos (by rw [HLX.out]; exact hqn)]
                      · rw [if_neg r]; exact HP.out z (by omega)
                    have F3 := bkeep BQ.out kk (Nat.le_refl _) (fun z e => by rw [e]; have := GB.out; have := WB.out; omega)
                    first | exact ⟨q + 1, lab5, I5, _, by go_num, by omega, in5, F1, F2, F3, Nat.le_trans UPQ.out kk.size⟩ | ((repeat apply Exists.intro); exact ⟨⟨q + 1, lab5, I5, _, by go_num, by omega, in5, F1, F2, F3, Nat.le_trans UPQ.out kk.size⟩, rfl⟩)
                  case measure => simp [intOf]; omega
                · obtain rfl : q = n k := by omega
                  have g1 : decide (((n k : Nat) : Int) < ((n k : Nat) : Int)) = false := decL (by omega)
                  have HM := hide (show X4 k = marks k (n k) from marks_of (by rw [IQ.out.lx k hkk, HNK.out]) HP.out)
                  go_wp2_with fail
                  rw [← E5.out]
                  go_roundw
                  case rel =>
                    have F1 : ∀ j, j < k + 1 → X4 j = marks j (n j) := fun j hj => by
                      by_cases r : j = k
                      · rw [r]; exact HM.out
                      · exact HX4.out j (by omega)
                    first | exact ⟨k + 1, lab4, I4, X4, by go_num, by omega, IQ.out, F1, BQ.out, UPQ.out⟩ | ((repeat apply Exists.intro); exact ⟨⟨k + 1, lab4, I4, X4, by go_num, by omega, IQ.out, F1, BQ.out, UPQ.out⟩, rfl⟩)
                  case measure => simp [intOf]; omega
            · obtain rfl : t = k := by omega
              have f1 : decide ((t : Int) < (t : Int)) = false := decL (by omega)
              obtain ⟨lab5, I5, i5⟩ := Inv5.start IZ.out HX.out HNK.out GG.out.2
              have J5 := hide i5
              clear i5 IZ HX
              go_wp2_with fail
              go_loopw [20, 21] (fun u i ws => ∃ (k : Nat) (lab : Nat → Nat) (I : Nat → Option It) (vM : List Value), i = .int .i64 (k : Int) ∧ k ≤ t ∧ Inv5 ws B lab I (.slice a5 t c5) u vG vM A C n t k ∧ Below w.heap.size w ws ∧ B ≤ ws.heap.size) (fun _ i _ => t + 1 - (intOf i).toNat)
              case atStart => exact ⟨0, lab5, I5, [], rfl, by omega, J5.out, BZ.out, UPZ.out⟩
              case round =>
                obtain ⟨k, lab6, I6, vM, rfl, hk6, hin, hbl, hup⟩ := hrel
                obtain ⟨a7, c7, e7, -⟩ := GRow.lies hin.rowM
                subst e7
                have J6 := hide hin
                have B6 := hide hbl
                clear hin hbl J5 BZ
                by_cases hkk : k < t
                · have f1 : decide ((k : Int) < (t : Int)) = true := decG hkk
                  have f2 : (k : Int) < (t : Int) := by omega
                  have hnn := HN64.out k
                  obtain ⟨b5, e5, -, C5⟩ := row_cell J6.out.rowG (GG.out.1 k hkk)
                  have ewk := wrapNeg (k := k) (by omega)
                  have ewk1 := ewk.1
                  have ewk2 := ewk.2
                  have E5 := hide e5
                  rw [e5]
                  clear e5 ewk
                  have J8 := hide (J6.out.below (alloc_below wr (.cells (rzA (mrk k)) 53)))
                  have B8 := hide (B6.out.alloc B6.out.size (.cells (rzA (mrk k)) 53))
                  obtain ⟨v, x2, hrun, q1, q2, q3, q4⟩ := run_moreR Tryz.underlying22 info53 rfl (by decide) (by decide) (by decide) 22 (wr.alloc (.cells (rzA (mrk k)) 53)) B _ (n k) (rzs (marks k (n k))) (J8.out.cur hkk) ⟨wr.heap.size, 0, none⟩ 1 1 (rzs [mrk k]) rfl (lies_rz wr (mrk k)) (rzs_one _) (by omega) (Nat.le_trans hup (by simp))
                  have HRR := hide hrun
                  have V1 := hide (show GRow x2 B 53 17 v (n k + 1) (rzs (marks k (n k + 1))) by rw [marks_succ, rzs_app]; exact q1)
                  have K2 := hide (grown_keep q2)
                  have O2 := hide (show v.ownBlock = (Value.slice (A k) (n k) (C k)).ownBlock ∨ ∃ z, v.ownBlock = some z ∧ _ ≤ z from q3.imp id (fun q => ⟨_, q, Nat.le_refl _⟩))
                  have LT := hide (q4 (A k) (C k) rfl)
                  obtain ⟨gv, cpv, ev, -⟩ := grow_open V1.out (Nat.succ_pos _)
                  subst ev
                  have UP2 := hide (show B ≤ x2.heap.size from Nat.le_trans (Nat.le_trans hup (by simp)) K2.out.size)
                  have B9 := hide (bkeep B8.out K2.out (Nat.le_refl _) (fun z q => Nat.le_trans WB.out (World.ownsRow.lt (J8.out.cur hkk) z q).1))
                  have B10 := hide (B9.out.alloc B9.out.size (.cells #[.slice (some ⟨gv, 0, none⟩) (n k + 1) cpv] 22))
                  clear hrun q1 q2 q3 q4
                  obtain ⟨vm, x4, hrun, q1, q2, q3⟩ := run_pushR Tryz.underlying40 info22 info22z (by decide) (by decide) 40 (x2.alloc (.cells #[.slice (some ⟨gv, 0, none⟩) (n k + 1) cpv] 22)) B _ k vM (GRow.below (J8.out.mKeep hkk K2.out) (alloc_below x2 (.cells #[.slice (some ⟨gv, 0, none⟩) (n k + 1) cpv] 22))) ⟨x2.heap.size, 0, none⟩ 1 1 [.slice (some ⟨gv, 0, none⟩) (n k + 1) cpv] rfl (lies_one _ _ _) (by simp [Value.oneCell']) (by omega) (Nat.le_trans UP2.out (by simp))
                  have HRM := hide hrun
                  obtain ⟨lab8, I8, j8⟩ := J8.out.more hkk V1.out K2.out O2.out LT.out (alloc_below x2 (.cells #[.slice (some ⟨gv, 0, none⟩) (n k + 1) cpv] 22)) q1 (grown_keep q2) (q3.imp id (fun q => ⟨_, q, Nat.le_refl _⟩))
                  have J9 := hide j8
                  have B11 := hide (bkeep B10.out (grown_keep q2) (Nat.le_refl _) (fun z q => Nat.le_trans WB.out (World.ownsRow.lt J8.out.rowM z q).1))
                  have UP4 := hide (show B ≤ x4.heap.size from Nat.le_trans (Nat.le_trans UP2.out (by simp)) (grown_keep q2).size)
                  clear hrun q1 q2 q3 j8
                  go_wp2_with (first | refine wpList_b22 (r := mrk k) rfl ?_ | (at_builtin; first | refine wpList_run rfl (.tmp 155) (.tmp 159) rfl rfl rfl HRR.out ?_ | refine wpList_run rfl (.tmp 151) (.tmp 161) rfl rfl rfl HRM.out ?_))
                  go_roundw
                  case rel =>
                    have z := J9.out
                    rw [E5.out] at z
                    first | exact ⟨k + 1, lab8, I8, _, by go_num, by omega, z, B11.out, UP4.out⟩ | ((repeat apply Exists.intro); exact ⟨⟨k + 1, lab8, I8, _, by go_num, by omega, z, B11.out, UP4.out⟩, rfl⟩)
                  case measure => simp [intOf]; omega
                · obtain rfl : t = k := by omega
                  have f1 : decide ((t : Int) < (t : Int)) = false := decL (by omega)
                  obtain ⟨wz, hwz⟩ : ∃ x, x = wr := ⟨_, rfl⟩
                  subst hwz
                  have hlm := J6.out.lm
                  obtain ⟨AM, CM, hAM⟩ := vals (vG := vM) (n := fun k => n k + 1) (fun k hk => by obtain ⟨a, c, e, -⟩ := GRow.lies (J6.out.own.at_ _ _ (J6.out.done k hk)).1; exact ⟨a, c, e⟩)
                  rw [hlm] at hAM
                  have CELG := hide (show ∀ k, k < t → ∃ b5, a5 = some ⟨b5, 0, none⟩ ∧ b5 < wz.heap.size ∧ wz.cell? ⟨b5, k, none⟩ = some (.slice (A k) (n k) (C k)) from fun k hk => row_cell J6.out.rowG (GG.out.1 k hk))
                  have CELM := hide (show ∀ k, k < t → ∃ b7, a7 = some ⟨b7, 0, none⟩ ∧ b7 < wz.heap.size ∧ wz.cell? ⟨b7, k, none⟩ = some (.slice (AM k) (n k + 1) (CM k)) from fun k hk => row_cell J6.out.rowM (hAM k hk))
                  have LIM := hide (show ∀ k, k < t → Lies wz (AM k) (rzs (marks k (n k + 1))) from fun k hk => by
                    have hh := (J6.out.own.at_ _ _ (J6.out.done k (by omega))).1
                    have e1 := hAM k hk
                    rw [List.getElem?_eq_getElem (by omega)] at e1
                    simp only at hh
                    rw [Option.some.inj e1] at hh
                    obtain ⟨a, c, e, li, -⟩ := GRow.lies hh
                    cases e
                    exact li)
                  have LIG := hide (show ∀ k, k < t → Lies wz (A k) (rzs (marks k (n k))) from fun k hk => (J6.out.told k hk).li)
                  clear J6 hlm hAM
                  go_wp2_with fail
                  go_loopw [22] (fun i ws => ∃ k : Nat, i = .int .i64 (k : Int) ∧ k ≤ t ∧ Below wz.heap.size wz ws) (fun i _ => t + 1 - (intOf i).toNat)
                  case atStart => exact ⟨0, rfl, by omega, Below.refl _ _⟩
                  case round =>
                    obtain ⟨k, rfl, hk6, hbl⟩ := hrel
                    have BU := hide hbl
                    clear hbl
                    by_cases hkk : k < t
                    · have f1 : decide ((k : Int) < (t : Int)) = true := decG hkk
                      have f2 : (k : Int) < (t : Int) := by omega
                      have hnn := HN64.out k
                      go_wp2_with fail
                      go_loopw [23] (fun i ws => ∃ q : Nat, i = .int .i64 (q : Int) ∧ q ≤ n k + 1 ∧ Below wz.heap.size wz ws) (fun i _ => n k + 2 - (intOf i).toNat)
                      case atStart => exact ⟨0, rfl, by omega, BU.out⟩
                      case round =>
                        obtain ⟨q, rfl, hq, hbl⟩ := hrel
                        have BV := hide hbl
                        obtain ⟨b5, e5, L5, C5'⟩ := CELG.out k hkk
                        obtain ⟨b7, e7, L7, C7'⟩ := CELM.out k hkk
                        have C5 := (hbl.cell (p := ⟨b5, k, none⟩) L5).trans C5'
                        have C7 := (hbl.cell (p := ⟨b7, k, none⟩) L7).trans C7'
                        clear C5' C7' L5 L7
                        have ewk := wrapNeg (k := k) (by omega)
                        have ewk1 := ewk.1
                        have ewk2 := ewk.2
                        have E5 := hide e5
                        have E7 := hide e7
                        rw [e5, e7]
                        clear e5 e7 ewk
                        by_cases hqq : q < n k + 1
                        · have g1 : decide ((q : Int) < ((n k : Nat) : Int) + 1) = true := decide_eq_true (by omega)
                          have g1b : decide ((q : Int) < ((n k + 1 : Nat) : Int)) = true := decG hqq
                          have g2 : (q : Int) < ((n k : Nat) : Int) + 1 := by omega
                          obtain ⟨g7, o7, e7, -, m0⟩ := marks_at ((LIM.out k hkk).below hbl) hqq
                          rw [e7] at C7
                          by_cases hqn : q < n k
                          · obtain ⟨g5, o5, e5, -, p0⟩ := marks_at ((LIG.out k hkk).below hbl) hqn
                            rw [e5] at C5
                            have hlt : decide ((q : Int) < ((n k : Nat) : Int)) = true := decG hqn
                            have g3 : (q : Int) < ((n k : Nat) : Int) := by omega
                            clear e7 e5 hbl
                            go_wp2_with fail
                            go_roundw
                            case rel => first | exact ⟨q + 1, by go_num, by omega, BV.out⟩ | ((repeat apply Exists.intro); exact ⟨⟨q + 1, by go_num, by omega, BV.out⟩, rfl⟩)
                            case measure => simp [intOf]; omega
                          · have hlt : decide ((q : Int) < ((n k : Nat) : Int)) = false := decL hqn
                            clear e7 hbl
                            go_wp2_with fail
                            go_roundw
                            case rel => first | exact ⟨q + 1, by go_num, by omega, BV.out⟩ | ((repeat apply Exists.intro); exact ⟨⟨q + 1, by go_num, by omega, BV.out⟩, rfl⟩)
                            case measure => simp [intOf]; omega
                        · obtain rfl : q = n k + 1 := by omega
                          have g1 : decide (((n k : Nat) : Int) + 1 < ((n k : Nat) : Int) + 1) = false := decide_eq_false (by omega)
                          clear C5 hbl
                          go_wp2_with fail
                          rw [← E5.out, ← E7.out]
                          go_roundw
                          case rel => first | exact ⟨k + 1, by go_num, by omega, BV.out⟩ | ((repeat apply Exists.intro); exact ⟨⟨k + 1, by go_num, by omega, BV.out⟩, rfl⟩)
                          case measure => simp [intOf]; omega
                    · obtain rfl : t = k := by omega
                      have f1 : decide ((t : Int) < (t : Int)) = false := decL (by omega)
                      go_wp2_with fail
                      first | go_ret | go_ret2
                      exact ⟨rfl, bnext B6.out BU.out (Nat.le_refl _)⟩
end Go.Proofs.YtehbpmibllpkhaaGreatDoor
