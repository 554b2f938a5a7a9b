import Derived.Test.YtlloppalagddnaaSr20
import Derived.Great.BuildSlice
set_option linter.all false
namespace Go.Proofs.Ytlloppalagddnaa
open Go.RowKit Go.QK Quota Go.Maps Go.QM Go.QS
set_option maxRecDepth 100000
/-! first: the calls whose answers the document fixes. -/
theorem results_box71 {fn : Func} {p : Tmp} (h : fn.results = #[.cell p 71]) (tmps : Array Value) (w : World) {b : Nat} {cs : Array Value} (hp : tmps.getD p undef = .pointer (some ⟨b, 0, none⟩)) (hb : RBox w b 71 cs) (hs : cs.size = 17) :
    (results fn tmps).run Try.prog w = .ok (.agg cs) w :=
  results_cell_row h tmps w b 71 cs (0, 0) _ hp hb Try.underlying71 rfl (size71' hs)
abbrev addZ (t i d : Int) : RZ := ⟨0, 3, t, 0, 0, 0, 0, 0, d, i, 0, 0, 0, 0, none, 0, 0, none, 0, 0, 0⟩
set_option maxHeartbeats 4000000 in
theorem addc_any (t i d : Int) (w : World) : Calls Try.prog 27 #[.int .i64 t, .int .i64 i, .int .i64 d] w fun e w' => e = .returned (.agg (rzA (addZ t i d))) ∧ Below w.heap.size w w' := by
  go_enter Try.func27, Try.ntmps27
  go_wp2_with (first
    | (refine wpList_st (cs' := rzA (addZ t i d)) (RBox.new _ _ _) rfl rfl rfl rfl rfl ?_; intro w3 rb3 k3; have RB3 := hide rb3; have K3 := hide k3; clear rb3 k3)
    | fail)
  exact bodyPost_ret (results_box71 rfl _ _ rfl RB3.out rfl) rfl ⟨rfl, newBox K3.out⟩
theorem fill71_3 (r0 r1 r2 : RZ) : Instr.fill (fun i => some (i * 17, 17)) ((Array.range (3 * 17)).map ((Value.agg (rzA rz0)).cells[· % (Value.agg (rzA rz0)).cells.size]!)) [(0, .agg (rzA r0)), (1, .agg (rzA r1)), (2, .agg (rzA r2))] = some (rzs [r0, r1, r2]).toArray := by kernel_rfl
theorem box_hc {w : World} {b : Nat} {t : TypeId} {cs : Array Value} (h : RBox w b t cs) : ∀ j v, cs.toList[j]? = some v → w.cell? ⟨b, 0 + j, none⟩ = some v := fun j v hv => by
  rw [Nat.zero_add]
  exact (h.cells.get j v hv).1
abbrev m1Z : RZ := ⟨0, 2, 0, 0, 0, 0, 0, 0, 0, 7, 1, 0, 9, 1, none, 0, 0, none, 0, 0, 0⟩
abbrev c1Z : RZ := ⟨0, 5, 1, 0, 0, 0, 0, 0, 0, 0, 0, 0, 0, 0, none, 0, 0, none, 0, 0, 0⟩
abbrev l1Z : List RZ := [m1Z, addZ 1 7 5, c1Z]
theorem ofE1 : ofE st0 (ros l1Z) = 0 := by rfl
theorem ofV1 : ofV l1Z = [(1, [(7, 5)])] := by rfl
theorem stE1 : staE [] (crs l1Z) = 0 := by rfl
theorem sttL1 : sttL l1Z = [⟨7, 1, 0, 9, 1⟩] := by rfl
abbrev k1C : Cn := ⟨7, 1, 0, 9, 1⟩
theorem py1 : pyErr [k1C] [[(1, 7, 5)]] = 0 := by rfl
theorem pa1 : pyAt [k1C] [[(1, 7, 5)]] = 0 := by rfl
theorem pl1 : pyL [k1C] [[(1, 7, 5)]] = [⟨7, 1, 0, 9, 6⟩] := by rfl
theorem va1 : vaErr [k1C] [[(1, 7, 5)]] = 0 := by rfl
theorem vl1 : vaL [k1C] [[(1, 7, 5)]] = [⟨7, 1, 0, 9, 6⟩] := by rfl
theorem RunsAt.runsIn {w : World} {v : Value} {l : List Rn} (h : RunsAt w v l) (hf : ∀ rn ∈ l, ∀ p ∈ rn.2, I64 p.1 ∧ I64 p.2) : ∃ (a : Option Addr) (c : Nat) (ris : List RI), v = .slice a ris.length c ∧ ris.length ≤ c ∧ c ≤ maxLen ∧ RunsIn w a ris ∧ netsOf ris = l.map (fun rn => ofT rn.1 rn.2) ∧ ris.map RI.tx = l.map Prod.fst := by
  obtain ⟨a, c, rs, h1, h2, h3, h4, h5, h6, h7⟩ := h.out
  have e1 : rowsC riC (rs.map (fun r => (⟨r.tx, r.a, r.c, ofT r.tx r.l⟩ : RI))) = rowsC rvC rs := by
    unfold rowsC
    rw [List.flatMap_map]
    congr 1
    funext r
    unfold riC rvC
    simp only [ofT_len]
  refine ⟨a, c, rs.map (fun r => ⟨r.tx, r.a, r.c, ofT r.tx r.l⟩), by rw [List.length_map]; exact h1, by rw [List.length_map]; exact h2, h3, ⟨?_, fun r hr => ?_, fun r hr x hx => ?_⟩, ?_, ?_⟩
  · rw [e1]; exact h5
  · obtain ⟨q, hq, rfl⟩ := List.mem_map.1 hr
    exact h6 q hq
  · obtain ⟨q, hq, rfl⟩ := List.mem_map.1 hr
    obtain ⟨p, hp, rfl⟩ := List.mem_map.1 hx
    exact hf (q.tx, q.l) (by rw [← h7]; exact List.mem_map.2 ⟨q, hq, rfl⟩) p hp
  · rw [← h7]
    unfold netsOf RV.rn
    rw [List.map_map, List.map_map]
    rfl
  · rw [← h7]
    unfold RV.rn
    rw [List.map_map, List.map_map]
    rfl
set_option maxHeartbeats 16000000 in
theorem first_any (w : World) : Calls Try.prog 7 #[] w fun e w' => e = .returned (.bool true) ∧ Below w.heap.size w w' := by
  obtain ⟨i0, hi, h0, h2, h3⟩ := info_of info71
  go_enter Try.func7, Try.ntmps7
  go_upto_region 3 with (first
    | (refine wpList_st (cs' := rzA m1Z) (RBox.new _ _ _) rfl rfl rfl rfl rfl ?_; intro w1 rb1 k1; have RB1 := hide rb1; have K1 := hide (newBox k1); clear rb1 k1))
  refine wp_region_held_drew (S := fun wq => RBox wq w.heap.size 71 (rzA m1Z)) (by kernel_rfl) RB1.out (fun hS => ?_)
  have R2 := hide (RB1.out.below (Below.refl _ _).drew)
  have B2 := hide K1.out.drew
  have S2 := hide (show w.heap.size < w1.drew.heap.size from RB1.out.lt)
  clear RB1 K1
  generalize w1.drew = w2 at *
  refine take_at 0 (some 16) (v := .agg (rzA m1Z)) rfl rfl (by kernel_rfl) (by kernel_rfl) (by kernel_rfl) (fun _ _ _ h => h) ⟨by rfl, fun wq hSw => exec_load71 rfl rfl (box_hc hSw) rfl⟩ hS ?_
  simp only [Act.put, List.setIfInBounds_toArray, List.set_cons_zero, List.set_cons_succ]
  refine take_at 1 (some 17) (v := ?_) rfl rfl (by kernel_rfl) (by kernel_rfl) (by kernel_rfl) (fun _ _ _ h => h) ⟨by rfl, ?_⟩ hS ?_
  rotate_left
  · intro wq hSw; go_simp; try rfl
  simp only [Act.put, List.setIfInBounds_toArray, List.set_cons_zero, List.set_cons_succ]
  refine take_at 3 (some 19) (v := ?_) rfl rfl (by kernel_rfl) (by kernel_rfl) (by kernel_rfl) (fun _ _ _ h => h) ⟨by rfl, ?_⟩ hS ?_
  rotate_left
  · intro wq hSw; go_simp; try rfl
  simp only [Act.put, List.setIfInBounds_toArray, List.set_cons_zero, List.set_cons_succ]
  refine wpAnyH_ready (rs := [2]) (by kernel_rfl) (by simp) ?_
  refine AllReadyH.cons rfl (fun K hK => ?_) AllReadyH.nil
  go_simp
  go_wp2_with fail
  refine (addc_any 1 7 5 _).mono ?_
  rintro e w3 ⟨rfl, b3⟩
  have R3 := hide (R2.out.below b3)
  have B3 := hide (B2.out.trans (b3.mono B2.out.size))
  have S3 := hide (show w.heap.size < w3.heap.size from Nat.lt_of_lt_of_le S2.out b3.size)
  clear b3 R2 B2 S2
  go_wp2_with fail
  refine hK.out _ _ R3.out (fun hS => ?_)
  clear hK K
  (try simp only [Act.put, List.setIfInBounds_toArray, List.set_cons_zero, List.set_cons_succ])
  have ab := alloc_below w3 (.cells (rzs l1Z).toArray 71)
  have LZ := hide (show Lies (w3.alloc (.cells (rzs l1Z).toArray 71)) (some ⟨w3.heap.size, 0, none⟩) (rzs l1Z) from lies_lit w3 (rzs l1Z).toArray 71)
  have B4 := hide (B3.out.trans (ab.mono B3.out.size))
  have R4 := hide (R3.out.below ab)
  refine wpAnyH_ready (rs := [4]) (by kernel_rfl) (by simp) ?_
  refine AllReadyH.cons rfl (fun K hK => ?_) AllReadyH.nil
  rw [if_pos (by rfl)]
  refine wp_buildSlice 22 71 3 _ rfl (rzs l1Z).toArray i0 _ Try.underlying22 hi h0 (by rw [h2]; decide) (by rw [h2]; decide) (by rw [h2]; simp only [List.map_toArray, List.map_cons, List.map_nil]; exact fill71_3 m1Z (addZ 1 7 5) c1Z) ?_
  refine hK.out _ _ R4.out (fun hS => ?_)
  clear hK K
  (try simp only [Act.put, List.setIfInBounds_toArray, List.set_cons_zero, List.set_cons_succ])
  refine take_at 5 (some 3) (v := ?_) rfl rfl (by kernel_rfl) (by kernel_rfl) (by kernel_rfl) (fun _ _ _ h => h) ⟨by rfl, ?_⟩ hS ?_
  rotate_left
  · intro wq hSw; go_simp; try rfl
  simp only [Act.put, List.setIfInBounds_toArray, List.set_cons_zero, List.set_cons_succ]
  refine wpAnyH_done (by kernel_rfl) ?_ _
  clear hS R4 R3 ab S3
  generalize w3.alloc (.cells (rzs l1Z).toArray 71) = w4 at *
  have hdl : ∀ r ∈ l1Z, I64 r.delta := by intro r hr; simp [l1Z] at hr; rcases hr with rfl | rfl | rfl <;> simp [I64]
  have hcn : ∀ r ∈ l1Z, (cnOf r).Ok := by intro r hr; simp [l1Z] at hr; rcases hr with rfl | rfl | rfl <;> simp [cnOf, Cn.Ok, I64]
  have KO := of_any (some ⟨w3.heap.size, 0, none⟩) 3 l1Z w4 LZ.out hdl (by decide)
  rw [ofE1, ofV1] at KO
  simp only [List.length_cons, List.length_nil, Nat.zero_add, Nat.reduceAdd] at KO
  go_wp2_with fail
  refine KO.mono ?_
  rintro e w5 ⟨⟨v, rfl, hv⟩, b5⟩
  obtain ⟨ra, rc, ris, rfl, hrc, hrm, hri, hrn, hrt⟩ := hv.runsIn (by intro rn h1 p h2; simp at h1; subst h1; simp at h2; subst h2; simp [I64])
  have B5 := hide (B4.out.trans (b5.mono B4.out.size))
  have L5 := hide (LZ.out.below b5)
  obtain ⟨r, rfl⟩ : ∃ r, ris = [r] := List.length_eq_one_iff.1 (by have := congrArg List.length hrt; simpa using this)
  obtain ⟨rt, raa, rcc, rl⟩ := r
  simp only [netsOf, List.map_cons, List.map_nil, List.cons.injEq, and_true] at hrn hrt
  have hrn : rl = [(1, 7, 5)] := hrn
  subst hrn
  subst hrt
  have RI5 := hide hri
  have KS := start_any (some ⟨w3.heap.size, 0, none⟩) 3 l1Z w5 L5.out hcn (by decide)
  rw [stE1, sttL1] at KS
  simp only [List.length_cons, List.length_nil, Nat.zero_add, Nat.reduceAdd] at KS
  clear KO hv hri hdl b5 L5 LZ hcn
  simp only [List.length_cons, List.length_nil, Nat.zero_add, Nat.reduceAdd]
  go_wp2_with fail
  refine KS.mono ?_
  rintro e w6 ⟨⟨v2, rfl, hc6⟩, b6⟩
  obtain ⟨ca, cc, hve, hcl, hcle, hcm, hcn, _⟩ := GRow.lies hc6
  simp only [List.length_cons, List.length_nil, Nat.zero_add, Nat.reduceAdd] at hve hcle
  subst hve
  have RI6 := hide (RI5.out.below b6)
  have CL6 := hide hcl
  have B6 := hide (B5.out.trans (b6.mono B5.out.size))
  clear KS b6 RI5 hc6 hcl
  obtain ⟨eb, eo, e1, hel, d0, d1⟩ := ri_at RI6.out.row 0 (by simp)
  subst e1
  obtain ⟨hne, hnb⟩ := RI6.out.nets _ (List.mem_singleton.2 rfl)
  obtain ⟨nb, no, e2, hnl, n0, n1, n2⟩ := hn_at hne 0 (by simp)
  simp only at e2
  subst e2
  simp only [Nat.zero_mul, Nat.add_zero, List.getElem_cons_zero, List.length_cons, List.length_nil, Nat.zero_add] at d0 d1 n0 n1 n2
  clear hne hnb
  have hk1 : ∀ x ∈ [k1C], x.Ok := by intro x hx; simp at hx; subst hx; simp [Cn.Ok, I64]
  have en : netsOf [(⟨1, some ⟨nb, no, none⟩, rcc, [(1, 7, 5)]⟩ : RI)] = [[(1, 7, 5)]] := rfl
  have KP := py_any ca cc [k1C] (some ⟨eb, eo, none⟩) rc [⟨1, some ⟨nb, no, none⟩, rcc, [(1, 7, 5)]⟩] w6 CL6.out hk1 (by simp) RI6.out (by simp) (by intro r hr; simp at hr; subst hr; simp)
  rw [en, py1, pa1, pl1] at KP
  simp only [List.length_cons, List.length_nil, Nat.zero_add] at KP
  go_wp2_with fail
  refine KP.mono ?_
  rintro e w7 ⟨⟨v3, rfl, hc7⟩, b7⟩
  obtain ⟨xa, xc, hve, hxl, _, _, _, _⟩ := GRow.lies hc7
  simp only [List.length_cons, List.length_nil, Nat.zero_add] at hve
  subst hve
  have RI7 := hide (RI6.out.below b7)
  have CL7 := hide (CL6.out.below b7)
  have B7 := hide (B6.out.trans (b7.mono B6.out.size))
  have XL7 := hide hxl
  have KV := va_any ca cc [k1C] (some ⟨eb, eo, none⟩) rc [⟨1, some ⟨nb, no, none⟩, rcc, [(1, 7, 5)]⟩] w7 CL7.out hk1 (by simp) RI7.out (by simp) (by rw [en]; simp)
  rw [en, va1, vl1] at KV
  simp only [List.length_cons, List.length_nil, Nat.zero_add] at KV
  clear KP hc7 b7 hxl d0 d1 n0 n1 n2 hel hnl en
  go_wp2_with fail
  refine KV.mono ?_
  rintro e w8 ⟨⟨v4, rfl, hc8⟩, b8⟩
  obtain ⟨ya, yc, hve, hyl, _, _, _, _⟩ := GRow.lies hc8
  simp only [List.length_cons, List.length_nil, Nat.zero_add] at hve
  subst hve
  have XL8 := XL7.out.below b8
  have B8 := hide (B7.out.trans (b8.mono B7.out.size))
  obtain ⟨xb, xo, ex, hxb, _, _, _, _, x4⟩ := cn_at XL8 0 (by simp)
  obtain ⟨yb, yo, ey, hyb, _, _, _, _, y4⟩ := cn_at hyl 0 (by simp)
  simp only [Nat.zero_mul, Nat.add_zero, List.getElem_cons_zero] at x4 y4
  subst ex
  subst ey
  clear KV hc8 b8 hyl XL8
  go_wp2_with fail
  go_ret
  exact ⟨rfl, B8.out⟩
end Go.Proofs.Ytlloppalagddnaa
