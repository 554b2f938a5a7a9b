import Derived.Test.YtlloppalagddnaaSr11
set_option linter.all false
namespace Go.Proofs.Ytlloppalagddnaa
open Go.RowKit Go.QK Quota Go.Maps Go.QM Go.QS
set_option maxRecDepth 100000
/-- The deltas of one counter. -/
def dl (l : List Hn) (key : Int) : List Int := (l.filter (fun x => x.2.1 == key)).map (fun x => x.2.2)
theorem dl_app (a b : List Hn) (key : Int) : dl (a ++ b) key = dl a key ++ dl b key := by simp [dl]
theorem dl_one (x : Hn) (key : Int) : dl [x] key = if key = x.2.1 then [x.2.2] else [] := by
  unfold dl
  by_cases h : x.2.1 = key
  · simp [h]
  · have : ¬ key = x.2.1 := fun q => h q.symm
    simp [h, this]
theorem dl_len (l : List Hn) (key : Int) : (dl l key).length ≤ l.length := by
  unfold dl
  rw [List.length_map]
  exact List.length_filter_le _ _
def thereB (C : Cs) (l : List Hn) : Bool := l.all (fun x => (getM C x.2.1).isSome)
def gatE (C : Cs) (l : List Hn) : Int := if thereB C l then 0 else 120
abbrev mapC (C : Cs) : Prs Value := C.map (fun p => (p.1, cnV p.2))
theorem hn_at {w : World} {a : Option Addr} {l : List Hn} (h : Lies w a (hns l)) (k : Nat) (hk : k < l.length) : ∃ b off, a = some ⟨b, off, none⟩ ∧ b < w.heap.size ∧ w.cell? ⟨b, off + k * 3, none⟩ = some (.int .i64 l[k].1) ∧ w.cell? ⟨b, off + k * 3 + 1, none⟩ = some (.int .i64 l[k].2.1) ∧ w.cell? ⟨b, off + k * 3 + 2, none⟩ = some (.int .i64 l[k].2.2) := by
  obtain ⟨b, off, e, hb, hc⟩ := Lies.rowAt hnC 3 (fun _ => rfl) h k hk (by omega)
  exact ⟨b, off, e, hb, by have := hc 0 _ rfl; rwa [Nat.add_zero] at this, hc 1 _ rfl, hc 2 _ rfl⟩
theorem getC (C : Cs) (c : Int) : getM (mapC C) c = (getM C c).map (fun x => cnV x) := getM_map (fun (x : Cn) => cnV x) C c
/-- Keys that are counters' numbers. -/
structure Gd (C : Cs) (D : Hd) : Prop where
  there : ∀ p ∈ D, (getM C p.1).isSome = true
  fit : ∀ key, All (idsD D key)
theorem Gd.len {C : Cs} {D : Hd} (h : Gd C D) (hC : CsOk C) (hu : Up D) : D.length ≤ 1048576 := by
  have := up_len hu (a := 1) (b := 1048576) (fun p hp => by
    have h1 := h.there p hp
    cases q : getM C p.1 with
    | none => rw [q] at h1; cases h1
    | some x => have := (hC.ids _ (getM_mem q)).2; exact this)
  omega
theorem Gd.put {C : Cs} {D : Hd} (h : Gd C D) (hu : Up D) {c d : Int} {u : Value} (hc : (getM C c).isSome = true) (hd : I64 d) : Gd C (putM c (u, idsD D c ++ [d]) D) := by
  refine ⟨fun p hp => ?_, fun key => ?_⟩
  · rcases mem_putM hp with rfl | q
    · exact hc
    · exact h.there p q
  · rw [(hld_put hu c key u _).2]
    split
    · intro x hx
      rcases List.mem_append.1 hx with r | r
      · exact h.fit c x r
      · simp at r; rw [r]; exact hd
    · exact h.fit key
theorem keepB {B : Nat} {w w' : World} (h : Below B w w') : Keep (fun z => B ≤ z) w w' := ⟨h.os, h.tape, h.output, h.size, fun j hj hn => h.block j (by omega)⟩
theorem gat_take {C : Cs} {l : List Hn} (k : Nat) (hk : k < l.length) : thereB C (l.take (k + 1)) = (thereB C (l.take k) && (getM C l[k].2.1).isSome) := by
  unfold thereB
  rw [List.take_succ_eq_append_getElem hk, List.all_append]
  simp only [List.all_cons, List.all_nil, Bool.and_true]
theorem gat_stop {C : Cs} {l : List Hn} (k : Nat) (h : thereB C (l.take k) = false) : thereB C l = false := by
  have e : l = l.take k ++ l.drop k := (List.take_append_drop k l).symm
  rw [e]
  unfold thereB at *
  rw [List.all_append, h]
  rfl
set_option maxHeartbeats 8000000 in
theorem gather_any (lab : Nat → Nat) (B : Nat) (w : World) (m mc : Nat) (D : Hd) (C : Cs) (tx : Int) (a : Option Addr) (cap : Nat) (l : List Hn) (h : RM lab B w m D) (hC : CsOk C) (hm : AnyAt Try.prog 3 w mc (mapC C)) (hmc : mc < B) (hG : Gd C D) (hB : B ≤ w.heap.size)
    (hl : Lies w a (hns l)) (hla : ∀ ad, a = some ad → ad.block < B) (hi : ∀ x ∈ l, I64 x.2.1 ∧ I64 x.2.2) (T : Nat) (hT : ∀ key, (idsD D key).length ≤ T) (hTl : (T + l.length + 1) * 8 ≤ 140737488355328) :
    Calls Try.prog 31 #[.map (some m), .map (some mc), .agg #[.int .i64 tx, .slice a l.length cap]] w fun e w' => e = .returned (.int .i64 (gatE C l)) ∧ Below B w w' ∧
      (gatE C l = 0 → ∃ lab' D', RM lab' B w' m D' ∧ Gd C D' ∧ ∀ key, idsD D' key = idsD D key ++ dl l key) := by
  have bb := alloc_below w (.cells #[.int .i64 tx, .slice a l.length cap] 32)
  have P1 := h.below bb
  have M1 := anyAt_below hm bb
  have HL := hide (hl.below bb)
  have HB1 := hide (bb.mono hB)
  have sz := hide (show B ≤ (w.alloc (.cells #[.int .i64 tx, .slice a l.length cap] 32)).heap.size from Nat.le_trans hB bb.size)
  have HM := hide M1
  have HHI := hide hi
  have HHT := hide hT
  clear h hm hl hi hT M1 bb
  generalize hx0 : w.alloc (.cells #[.int .i64 tx, .slice a l.length cap] 32) = x0 at *
  have HX := hide hx0
  clear hx0
  go_enter Try.func31, Try.ntmps31
  go_wp2_with fail
  go_loopw [14] (fun i wr => ∃ k : Nat, k ≤ l.length ∧ i = .int .i64 k ∧ thereB C (l.take k) = true ∧ Below B x0 wr ∧ ∃ lab' D', RM lab' B wr m D' ∧ Gd C D' ∧ ∀ key, idsD D' key = idsD D key ++ dl (l.take k) key) (fun i _ => l.length - (intOf i).toNat)
  case atStart =>
    rw [show w.alloc (.cells #[.int .i64 tx, .slice a l.length cap] 32) = x0 from HX.out]
    exact ⟨0, Nat.zero_le _, rfl, rfl, Below.refl _ _, lab, D, P1, hG, fun key => by simp [dl]⟩
  case round =>
    obtain ⟨k, hk, rfl, hth, hb, lab', D', rm, hG', hD'⟩ := hrel
    by_cases hlt : k < l.length
    · obtain ⟨i1, i2⟩ := HHI.out _ (List.getElem_mem hlt)
      have swr : B ≤ wr.heap.size := Nat.le_trans sz.out hb.size
      have mc1 : AnyAt Try.prog 3 wr mc (mapC C) := anyAt_keep HM.out (keepB hb) (by omega)
      have lw : Lies wr a (hns l) := HL.out.keep (keepB hb) (fun ad e => by have := hla ad e; omega)
      have HTK := hide (gat_take (C := C) k hlt)
      have HDL := hide (fun key => show dl (l.take (k + 1)) key = dl (l.take k) key ++ dl [l[k]] key from by rw [List.take_succ_eq_append_getElem hlt, dl_app])
      obtain ⟨ab, ao, e2, hbl, c0, c1, c2⟩ := hn_at lw k hlt
      have hkl : k + 1 ≤ l.length := hlt
      subst e2
      generalize l[k] = x at *
      obtain ⟨xt, xc, xd⟩ := x
      simp only at i1 i2 c0 c1 c2 HTK
      have HR := hide rm
      have HRlt := hide (show ∀ z, (hldV D' xc).ownBlock = some z → z < wr.heap.size from fun z hz => (rm.heldL hz).2.2)
      have HRm := hide rm.lt
      have HG2 := hide hG'
      have HD2 := hide hD'
      have HBB := hide hb
      have HTH := hide hth
      have HMC := hide mc1
      clear rm hG' hD' hb hth mc1 lw
      go_upto_region 4 with fail
      refine named (P := Code.wp _ _ _ _) ?_
      intro x1 hx1
      have b1 : Below wr.heap.size wr x1 := by rw [hx1]; exact alloc_below _ _
      have C1 : Cells x1 wr.heap.size [.int .i64 xt, .int .i64 xc, .int .i64 xd] := by rw [hx1]; exact Cells.new wr _ 74
      have R1 := hide (HR.out.below b1)
      have M1 := hide (anyAt_below HMC.out b1)
      have hlk := any_run_ok lawK Try.underlying83 zeroC5 M1.out (keyI i1)
      rw [getC] at hlk
      obtain ⟨q1, q1f⟩ := C1.get 1 _ rfl
      obtain ⟨q2, q2f⟩ := C1.get 2 _ rfl
      have B1 := hide (HBB.out.trans (b1.mono swr))
      have s1 : wr.heap.size + 1 ≤ x1.heap.size := by have := C1.1; omega
      generalize hGN : wr.heap.size = G at *
      have HGN := hide hGN
      have CC := hide C1
      clear hx1 b1 HR HMC c0 c1 c2 hGN C1 q1f q2 q2f
      cases hgm : getM C xc with
      | none =>
        rw [hgm] at hlk
        simp only [Option.map_none, Option.getD_none, Option.isSome_none] at hlk
        have HE := hide (show thereB C l = false from gat_stop (k + 1) (by rw [HTK.out, hgm]; simp))
        go_wp2_with fail
        go_ret
        have e0 : gatE C l = 120 := by unfold gatE; rw [HE.out]; rfl
        refine ⟨by rw [e0]; rfl, ?_, fun q => by rw [e0] at q; cases q⟩
        exact (HB1.out.trans B1.out).trans ((alloc_below _ _).mono (by have := sz.out; omega))
      | some y =>
        rw [hgm] at hlk
        simp only [Option.map_some, Option.getD_some, Option.isSome_some] at hlk
        have hy := (hC.ids _ (getM_mem hgm))
        simp only at hy
        have HGM := hide hgm
        clear hgm
        go_upto_region 7 with fail
        refine named (P := Code.wp _ _ _ _) ?_
        intro x2 hx2
        have b2 : Below x1.heap.size x1 x2 := by rw [hx2]; exact alloc_below _ _
        have R2 := R1.out.below b2
        have C2 := CC.out.below b2
        have B2 := B1.out.trans (b2.mono (by omega))
        have s2 : G + 1 ≤ x2.heap.size := by have := b2.size; omega
        have LBG := hide (show ∀ z, (hldV D' xc).ownBlock = some z → z ≠ G from fun z hz => by have := (HRlt.out z hz); omega)
        have LBM := hide (show ¬ G = m from by have := HRm.out; omega)
        clear hx2 b2 R1 M1 CC q1 hlk
        refine wp_region_held_drew (S := fun wq => wq.cell? ⟨G, 1, none⟩ = some (.int .i64 xc) ∧ wq.cell? ⟨G, 2, none⟩ = some (.int .i64 xd)) (by kernel_rfl) ⟨(C2.get 1 _ rfl).1, (C2.get 2 _ rfl).1⟩ (fun hS => ?_)
        have R3 := hide (R2.below (Below.refl _ _).drew)
        have C3 := hide (C2.below (Below.refl _ _).drew)
        have B3 := hide B2.drew
        have s3 : G + 1 ≤ x2.drew.heap.size := s2
        clear R2 C2 B2 s2
        generalize x2.drew = x3 at *
        refine take_at 0 (some 27) (v := ?_) rfl rfl (by kernel_rfl) (by kernel_rfl) (by kernel_rfl) (fun _ _ _ h => h) ⟨by rfl, ?_⟩ hS ?_
        rotate_left
        · intro wq hSw; go_simp; try rfl
        simp only [Act.put, List.setIfInBounds_toArray, List.set_cons_zero, List.set_cons_succ]
        refine take_at 1 (some 28) (v := ?_) rfl rfl (by kernel_rfl) (by kernel_rfl) (by kernel_rfl) (fun _ _ _ h => h) ⟨by rfl, ?_⟩ hS ?_
        rotate_left
        · intro wq hSw; go_simp; try rfl
        simp only [Act.put, List.setIfInBounds_toArray, List.set_cons_zero, List.set_cons_succ]
        refine take_at 2 (some 29) (v := ?_) rfl rfl (by kernel_rfl) (by kernel_rfl) (by kernel_rfl) (fun _ _ _ h => h) ⟨by rfl, ?_⟩ hS ?_
        rotate_left
        · intro wq hSw; have q := hSw.1; go_simp; try rfl
        simp only [Act.put, List.setIfInBounds_toArray, List.set_cons_zero, List.set_cons_succ]
        refine take_at 3 (some 30) (v := ?_) rfl rfl (by kernel_rfl) (by kernel_rfl) (by kernel_rfl) (fun _ _ _ h => h) ⟨by rfl, ?_⟩ hS ?_
        rotate_left
        · intro wq hSw; go_simp; try rfl
        simp only [Act.put, List.setIfInBounds_toArray, List.set_cons_zero, List.set_cons_succ]
        refine take_at 4 (some 31) (v := ?_) rfl rfl (by kernel_rfl) (by kernel_rfl) (by kernel_rfl) (fun _ _ _ h => h) ⟨by rfl, ?_⟩ hS ?_
        rotate_left
        · intro wq hSw; go_simp; try rfl
        simp only [Act.put, List.setIfInBounds_toArray, List.set_cons_zero, List.set_cons_succ]
        refine take_at 5 (some 32) (v := ?_) rfl rfl (by kernel_rfl) (by kernel_rfl) (by kernel_rfl) (fun _ _ _ h => h) ⟨by rfl, ?_⟩ hS ?_
        rotate_left
        · intro wq hSw; have q := hSw.1; go_simp; try rfl
        simp only [Act.put, List.setIfInBounds_toArray, List.set_cons_zero, List.set_cons_succ]
        refine take_at 7 (some 34) (v := ?_) rfl rfl (by kernel_rfl) (by kernel_rfl) (by kernel_rfl) (fun _ _ _ h => h) ⟨by rfl, ?_⟩ hS ?_
        rotate_left
        · intro wq hSw; go_simp; try rfl
        simp only [Act.put, List.setIfInBounds_toArray, List.set_cons_zero, List.set_cons_succ]
        refine take_at 8 (some 35) (v := ?_) rfl rfl (by kernel_rfl) (by kernel_rfl) (by kernel_rfl) (fun _ _ _ h => h) ⟨by rfl, ?_⟩ hS ?_
        rotate_left
        · intro wq hSw; have q := hSw.2; go_simp; try rfl
        simp only [Act.put, List.setIfInBounds_toArray, List.set_cons_zero, List.set_cons_succ]
        have hlen := HD2.out xc
        have hle : (idsD D' xc).length ≤ T + k := by rw [hlen, List.length_append]; have := HHT.out xc; have := dl_len (l.take k) xc; rw [List.length_take] at this; omega
        obtain ⟨u, x4, x5, h1, h2, h3, h4, rm5, k4, k5⟩ := R3.out.app (d := xd) Try.underlying87 hy.2.1 i1 (by omega) (by have := HG2.out.len hC R3.out.up; omega) (by omega)
        have hB3 : B ≤ x3.heap.size := by omega
        have nl : ∀ z, (hldV D' xc).ownBlock = some z → B ≤ z ∧ lab' z = 10 + xc.toNat := fun z hz => ⟨(R3.out.heldL hz).2.1, (R3.out.heldL hz).1⟩
        have H1 := hide h1
        have H2 := hide h2
        have H3 := hide h3
        have H4 := hide h4
        have RM5 := hide rm5
        have K4 := hide k4
        have K5 := hide k5
        have gG : ∀ z, (hldV D' xc).ownBlock = some z → z ≠ G := fun z hz q => LBG.out z hz q
        have ab := alloc_below x3 (.cells #[.int .i64 xd] 2)
        have f1 : x3.cell? ⟨G, 1, none⟩ = some (.int .i64 xc) ∧ x3.cell? ⟨G, 2, none⟩ = some (.int .i64 xd) := ⟨(C3.out.get 1 _ rfl).1, (C3.out.get 2 _ rfl).1⟩
        have cA := C3.out.below ab
        have cB := C3.out.keep k4 (fun q => gG _ q rfl)
        have cD := C3.out.keep k5 (by rintro (q | q); exact LBM.out q; exact gG _ q rfl)
        have fA := hide (show (x3.alloc (.cells #[.int .i64 xd] 2)).cell? ⟨G, 1, none⟩ = some (.int .i64 xc) ∧ (x3.alloc (.cells #[.int .i64 xd] 2)).cell? ⟨G, 2, none⟩ = some (.int .i64 xd) from ⟨(cA.get 1 _ rfl).1, (cA.get 2 _ rfl).1⟩)
        have fB := hide (show x4.cell? ⟨G, 1, none⟩ = some (.int .i64 xc) ∧ x4.cell? ⟨G, 2, none⟩ = some (.int .i64 xd) from ⟨(cB.get 1 _ rfl).1, (cB.get 2 _ rfl).1⟩)
        have fD := hide (show x5.cell? ⟨G, 1, none⟩ = some (.int .i64 xc) ∧ x5.cell? ⟨G, 2, none⟩ = some (.int .i64 xd) from ⟨(cD.get 1 _ rfl).1, (cD.get 2 _ rfl).1⟩)
        have F1 := hide f1
        clear h1 h2 h3 h4 rm5 k4 k5 cA cB cD f1 ab
        refine wpAnyH_ready (rs := [6, 9]) (by kernel_rfl) (by simp) ?_
        refine AllReadyH.cons rfl (fun K hK => ?_) (AllReadyH.cons rfl (fun K hK => ?_) AllReadyH.nil)
        · refine wp_look 33 (.tmp 30) (.tmp 32) rfl rfl rfl rfl rfl H1.out ?_
          refine hK.out _ _ F1.out (fun hS => ?_)
          clear hK K
          (try simp only [Act.put, List.setIfInBounds_toArray, List.set_cons_zero, List.set_cons_succ])
          refine wpAnyH_ready (rs := [9]) (by kernel_rfl) (by simp) ?_
          refine AllReadyH.cons rfl (fun K hK => ?_) AllReadyH.nil
          go_simp
          go_wp2_with fail
          refine hK.out _ _ fA.out (fun hS => ?_)
          clear hK K
          (try simp only [Act.put, List.setIfInBounds_toArray, List.set_cons_zero, List.set_cons_succ])
          refine wpAnyH_ready (rs := [10]) (by kernel_rfl) (by simp) ?_
          refine AllReadyH.cons rfl (fun K hK => ?_) AllReadyH.nil
          refine wp_run 37 (.tmp 33) (.tmp 36) rfl rfl rfl rfl rfl H3.out ?_
          refine hK.out _ _ fB.out (fun hS => ?_)
          clear hK K
          (try simp only [Act.put, List.setIfInBounds_toArray, List.set_cons_zero, List.set_cons_succ])
          refine wpAnyH_ready (rs := [11]) (by kernel_rfl) (by simp) ?_
          refine AllReadyH.cons rfl (fun K hK => ?_) AllReadyH.nil
          refine wp_upd (.tmp 27) (.tmp 29) (.tmp 37) rfl rfl rfl rfl rfl H4.out ?_
          refine hK.out _ _ fD.out (fun hS => ?_)
          clear hK K hS
          (try simp only [Act.put, List.setIfInBounds_toArray, List.set_cons_zero, List.set_cons_succ])
          refine wpAnyH_done (by kernel_rfl) ?_ _
          clear H1 H2 H3 H4 fA fB fD F1 C3
          go_wp2_with fail
          go_roundw
          case rel =>
            refine ⟨k + 1, hkl, by go_num, by rw [HTK.out, HTH.out, HGM.out]; rfl, ?_, _, _, RM5.out, HG2.out.put R3.out.up (by rw [HGM.out]; rfl) i2, fun key => ?_⟩
            · exact B3.out.trans (K5.out.below (by omega) (fun z hz q => by rcases q with q | q; have := R3.out.low; omega; have := (nl z q).1; omega))
            · rw [(hld_put R3.out.up xc key u _).2, HDL.out, dl_one]
              split
              · rename_i q; rw [q, HD2.out, List.append_assoc]
              · rw [HD2.out, List.append_nil]
          case measure => simp [intOf]; omega
        · go_simp
          go_wp2_with fail
          refine hK.out _ _ fA.out (fun hS => ?_)
          clear hK K
          (try simp only [Act.put, List.setIfInBounds_toArray, List.set_cons_zero, List.set_cons_succ])
          refine wpAnyH_ready (rs := [6]) (by kernel_rfl) (by simp) ?_
          refine AllReadyH.cons rfl (fun K hK => ?_) AllReadyH.nil
          refine wp_look 33 (.tmp 30) (.tmp 32) rfl rfl rfl rfl rfl H2.out ?_
          refine hK.out _ _ fA.out (fun hS => ?_)
          clear hK K
          (try simp only [Act.put, List.setIfInBounds_toArray, List.set_cons_zero, List.set_cons_succ])
          refine wpAnyH_ready (rs := [10]) (by kernel_rfl) (by simp) ?_
          refine AllReadyH.cons rfl (fun K hK => ?_) AllReadyH.nil
          refine wp_run 37 (.tmp 33) (.tmp 36) rfl rfl rfl rfl rfl H3.out ?_
          refine hK.out _ _ fB.out (fun hS => ?_)
          clear hK K
          (try simp only [Act.put, List.setIfInBounds_toArray, List.set_cons_zero, List.set_cons_succ])
          refine wpAnyH_ready (rs := [11]) (by kernel_rfl) (by simp) ?_
          refine AllReadyH.cons rfl (fun K hK => ?_) AllReadyH.nil
          refine wp_upd (.tmp 27) (.tmp 29) (.tmp 37) rfl rfl rfl rfl rfl H4.out ?_
          refine hK.out _ _ fD.out (fun hS => ?_)
          clear hK K hS
          (try simp only [Act.put, List.setIfInBounds_toArray, List.set_cons_zero, List.set_cons_succ])
          refine wpAnyH_done (by kernel_rfl) ?_ _
          clear H1 H2 H3 H4 fA fB fD F1 C3
          go_wp2_with fail
          go_roundw
          case rel =>
            refine ⟨k + 1, hkl, by go_num, by rw [HTK.out, HTH.out, HGM.out]; rfl, ?_, _, _, RM5.out, HG2.out.put R3.out.up (by rw [HGM.out]; rfl) i2, fun key => ?_⟩
            · exact B3.out.trans (K5.out.below (by omega) (fun z hz q => by rcases q with q | q; have := R3.out.low; omega; have := (nl z q).1; omega))
            · rw [(hld_put R3.out.up xc key u _).2, HDL.out, dl_one]
              split
              · rename_i q; rw [q, HD2.out, List.append_assoc]
              · rw [HD2.out, List.append_nil]
          case measure => simp [intOf]; omega
    · have hek : k = l.length := by omega
      subst hek
      rw [List.take_length] at hth
      simp only [List.take_length] at hD'
      have e0 : gatE C l = 0 := by unfold gatE; rw [hth]; rfl
      have E0 := hide e0
      have RR := hide rm
      have GG := hide hG'
      have DD := hide hD'
      have BB := hide hb
      clear e0 rm hG' hD' hb hth
      go_wp2_with fail
      go_ret
      exact ⟨by rw [E0.out]; rfl, HB1.out.trans BB.out, fun _ => ⟨_, _, RR.out, GG.out, DD.out⟩⟩
end Go.Proofs.Ytlloppalagddnaa
