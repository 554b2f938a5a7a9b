import Derived.Test.YtgpmghdoofcpaaaGreatDev9
namespace Go.Proofs.YtgpmghdoofcpaaaGreat.Dv
open Go.RowKit Go.QK

/-- 'append(v, p)' of a pending write. -/
theorem wp_pushP {o : Oper} {a : Act} {x : World} {K : Act → World → Prop} {Q : Exit → Act → World → Prop} {cond : Bool} (d : Nat) (s t : Operand) (hc : cond = true) (hd : o.dst = some d)
    (ho : o.op = .call { callee := .builtin .append, args := #[s, t], argTypes := #[78, 78] })
    (B : Nat) (v : Value) (ps : List PE) (hs : a.eval s = v) (ad : Addr) (p : PE) (hx : a.eval t = .slice (some ad) 1 1) (hown : PRow x B v ps) (hc0 : x.cell? ad = some (.int .i64 (p.s : Int))) (hc1 : x.cell? (ad.add 1) = some p.v)
    (h63 : ps.length ≤ 2000000) (hB : B ≤ x.heap.size)
    (h : ∀ v' x', PRow x' B v' (ps ++ [p]) → x.grownBy x' v.ownBlock → (v'.ownBlock = v.ownBlock ∨ v'.ownBlock = some x.heap.size) → K (a.put (some d) v') x') : if cond = true then Oper.wp Tryz.prog o a x K Q else K (a.put o.dst undef) x := by
  rw [if_pos hc]
  obtain ⟨i0, hi, hz⟩ : ∃ i0, Tryz.prog.info? 124 = some i0 ∧ i0.zero = some (.agg #[.int .i64 0, .slice none 0 0]) ∧ i0.size = 2 ∧ i0.bytes = 32 := by
    have this : (Tryz.prog.info? 124).map (fun i => (i.zero, i.size, i.bytes)) = some (some (.agg #[.int .i64 0, .slice none 0 0]), 2, 32) := by kernel_rfl
    cases hq : Tryz.prog.info? 124 with
    | none => rw [hq] at this; cases this
    | some i0 =>
      rw [hq] at this
      simp only [Option.map_some, Option.some.injEq, Prod.mk.injEq] at this
      exact ⟨i0, rfl, this⟩
  obtain ⟨v', w', hr, h2, h3, h4, h5⟩ := run_append_own_at (P := Tryz.prog) x B 78 o.type 124 i0 (.agg #[.int .i64 0, .slice none 0 0]) 2 32 Tryz.underlying78 hi hz.1 hz.2.1 hz.2.2 rfl (by decide) v ps.length _ hown ad 1 1 [.int .i64 (p.s : Int), p.v] rfl
    (by
      intro j u hj
      match j, hj with
      | 0, hj =>
        simp at hj
        subst hj
        simpa [Addr.add] using hc0
      | 1, hj =>
        simp at hj
        subst hj
        exact hc1)
    (by
      intro u hu
      simp at hu
      rcases hu with rfl | rfl <;> rfl) (by unfold maxLen; omega) (by omega) hB
  have ho2 : PRow w' B v' (ps ++ [p]) := by
    unfold PRow
    rw [rowOf_append, List.length_append]
    exact h2
  have hrun : (execOp a.eval o).run Tryz.prog x = .ok (.value v') w' := by
    unfold execOp
    simp only [ho, resolve, invoke, builtin, Sem.run_bind, Sem.run_pure, Result.andThen_ok, List.map_toArray, List.map_cons, List.map_nil, hs, hx, hr]
  unfold Oper.wp
  rw [hrun]
  show K (a.put o.dst v') w'
  rw [hd]
  exact h v' w' ho2 h3 h5

/-- What an append to the row of pending writes touches. -/
theorem pushed_keep {w1 w2 : World} {o : Obj} {S : Nat → Prop} {d : Nat} {v : Value} (_hlt : ∀ b, S b → b < w1.heap.size) (_hn : ∀ b, v.ownBlock = some b → b ≠ d) (_hd : S d) (hg : (w1.alloc o).grownBy w2 v.ownBlock) : Keep (fun b => v.ownBlock = some b) w1 w2 :=
  ((Keep.refl (fun b => v.ownBlock = some b) w1).alloc o).grown hg (fun _ q _ => q)

theorem _root_.Go.QK.Body.push {w1 w2 : World} {S : Nat → Prop} {d : Nat} {img : List Nat} {loss : Option Loss} {ib ic : Nat} {pv v2 : Value} {ps : List PE} {p : PE} {kv : Value} {tn off : Int} (h : Body w1 S d img loss ib ic pv ps kv tn off) (hk : Keep (fun b => pv.ownBlock = some b) w1 w2)
    (r : PRow w2 0 v2 (ps ++ [p])) (m : v2.ownBlock = pv.ownBlock ∨ ∃ nb, v2.ownBlock = some nb ∧ w1.heap.size ≤ nb) (hp : Bytes w1 (some ⟨p.k, 0, none⟩) p.b) (hc : p.b.length ≤ p.c) (hm : p.c ≤ maxLen) (hpk : ¬ S p.k) (hlt : p.k < w1.heap.size) :
    Body w2 (fun b => S b ∨ b = p.k ∨ v2.ownBlock = some b) d img loss ib ic v2 (ps ++ [p]) kv tn off := by
  have hv : ∀ b, v2.ownBlock = some b → b < w1.heap.size → pv.ownBlock = some b := fun b hb hl => by
    rcases m with q | ⟨nb, q, hq⟩
    · rw [← q]; exact hb
    · rw [q] at hb; cases hb; omega
  have ap : ∀ b, S b → pv.ownBlock ≠ some b → v2.ownBlock ≠ some b := fun b hs hn q => hn (hv b q (h.lt b hs))
  have hpv : pv.ownBlock ≠ some p.k := fun q => hpk (h.rS _ q).1
  refine ⟨.inl h.dS, Owns.keep h.img hk (fun g hg => ?_), ⟨.inl h.iS.1, h.iS.2⟩, r, fun b hb => ⟨.inr (.inr hb), ?_, ?_⟩, fun q hq => ?_, fun l hl => ?_, fun b hb => ?_⟩
  · have e : ib = g := Option.some.inj hg
    subst e
    exact fun q => (h.rS _ q).2.2 rfl
  · rintro rfl
    exact (h.rS _ (hv _ hb (h.lt _ h.dS))).2.1 rfl
  · rintro rfl
    exact (h.rS _ (hv _ hb (h.lt _ h.iS.1))).2.2 rfl
  · rcases List.mem_append.1 hq with q1 | q1
    · obtain ⟨h1, h2, h2', h3, h4, h5, h6⟩ := h.en q q1
      exact ⟨Seen.keep h1 hk (fun ad had => by cases had; exact h6), h2, h2', .inl h3, h4, h5, ap _ h3 h6⟩
    · simp at q1
      subst q1
      exact ⟨Seen.keep hp hk (fun ad had => by cases had; exact hpv), hc, hm, .inr (.inl rfl), fun e => hpk (e ▸ h.dS), fun e => hpk (e ▸ h.iS.1), fun e => hpv (hv _ e hlt)⟩
  · obtain ⟨h1, h2, a, c, h3, h4, h5, h6⟩ := h.loss l hl
    exact ⟨h1, h2, a, c, h3, Seen.keep h4 hk (fun ad had => (h6 ad had).2.2.2), h5, fun ad had => ⟨.inl (h6 ad had).1, (h6 ad had).2.1, (h6 ad had).2.2.1, ap _ (h6 ad had).1 (h6 ad had).2.2.2⟩⟩
  · rcases hb with q | rfl | q
    · exact Nat.lt_of_lt_of_le (h.lt b q) hk.size
    · exact Nat.lt_of_lt_of_le hlt hk.size
    · exact (r.lt b q).2

theorem pushed_fin {w w1 w2 : World} {S : Nat → Prop} {d : Nat} {g : Dev} {i : Int} {b : List Nat} {ib ic kb cb : Nat} {pv v2 : Value} {ps : List PE} {kv : Value} {tn off : Int} {cs : List Value} (_hc : Cells w d cs) (b1 : Below w.heap.size w w1) (kw : Keep (fun b => pv.ownBlock = some b) w1 w2)
    (rS : ∀ b, pv.ownBlock = some b → S b ∧ b ≠ d ∧ b ≠ ib)
    (c2 : Cells w2 d (pcs (.slice (some ⟨ib, 0, none⟩) g.img.length ic) pv g kv tn off)) (bp : Body w2 (fun b => S b ∨ b = kb ∨ v2.ownBlock = some b) d g.img g.loss ib ic v2 (ps ++ [⟨i.toNat, kb, cb, b⟩]) kv tn off) (hp : g.pend = ps.map PE.out) (ok : g.Ok)
    (hi : 512 * i.toNat + 512 ≤ g.img.length) (hbl : b.length = 512) (hab : AllB b) (hkb : w.heap.size ≤ kb) {n : Nat} (m : v2.ownBlock = pv.ownBlock ∨ v2.ownBlock = some n) (hn : w.heap.size ≤ n) (hd : S d) :
    ∃ S', PDev (w2.setCell ⟨d, 1, none⟩ v2) S' d (g.push i.toNat b) ∧ Step w S (w2.setCell ⟨d, 1, none⟩ v2) S' := by
  refine ⟨_, ⟨ib, ic, v2, _, kv, tn, off, c2.stored (j := 1) (by simp [pcs]) _, bp.set 1 _, ?_, ok.push ⟨hi, hbl, hab⟩⟩, ?_, ?_⟩
  · show g.pend ++ [(i.toNat, b)] = _
    rw [hp]
    simp [PE.out]
  · exact ((Keep.of_below b1).trans kw (fun j _ q => (rS j q).1)).setCell (fun _ => hd) _
  · rintro j (q | rfl | q)
    · exact .inl q
    · exact .inr hkb
    · rcases m with e | e
      · exact .inl (rS j (by rw [← e]; exact q)).1
      · rw [e] at q; cases q; exact .inr hn

set_option maxHeartbeats 1000000 in
set_option maxRecDepth 100000 in
theorem write_any {w : World} {S : Nat → Prop} {d : Nat} {g : Dev} (h : PDev w S d g) (i : Int) (a : Option Addr) (b : List Nat) (c : Nat) (hs : Bytes w a b) (hbc : b.length ≤ c) (ha : a = none → c = 0) (hab : AllB b) (_hblen : b.length ≤ 1000000) (hpl : g.pend.length ≤ 999999) (hcl : g.calls ≤ 1000000) :
    Calls Tryz.prog 42 #[.pointer (some ⟨d, 0, none⟩), .int .i64 i, .slice a b.length c] w fun e w' => ∃ S', e = .returned (.int .i64 ((g.writeE i b.length : Nat) : Int)) ∧ PDev w' S' d (g.write i b) ∧ Step w S w' S' := by
  have RE := hide (reach_any i h)
  have HD := hide h
  unfold Dev.writeE
  by_cases hr : g.reach i = 0
  · rw [if_neg (by omega)]
    by_cases hbl : b.length = 512
    · rw [if_neg (by omega)]
      have RO := hide (Dev.reach_ok h.ok hr)
      rw [hr] at RE
      have EW := hide (show g.write i b = if g.left = 1 then ((g.push i.toNat b).strike).crashes else (g.push i.toNat b).strike by unfold Dev.write; rw [if_neg (by omega)])
      obtain ⟨ib, ic, pv, ps, kv, tn, off, hc, hb, hp, ok⟩ := h
      obtain ⟨pa, pc, hpv, hpn, hple, hpm, hrow⟩ := hb.row.form
      subst hpv
      obtain ⟨c01, f01⟩ := hc.get 1 _ rfl
      have hdl := hc.1
      have hps : ps.length ≤ 2000000 := by rw [hp] at hpl; simp at hpl; omega
      have CL := hide (clone_any a b c w.drew hs hbc ha (by omega))
      rw [hbl] at CL
      have HC := hide hc
      have HB := hide hb
      have hi0 := RO.out.2.1
      have hi1 := RO.out.2.2.2
      clear hc hb hrow hs
      rw [hbl]
      go_enter Tryz.func42, Tryz.ntmps42
      go_wp2_with fail
      refine RE.out.mono ?_
      rintro e w' ⟨rfl, hw⟩
      obtain rfl : w = w' := hw.symm
      go_upto_region 6 with fail
      go_cut [27] (fun _ w' => ∃ S', PDev w' S' d (g.push i.toNat b) ∧ Step w S w' S')
      case rest =>
        obtain ⟨S1, hD1, hst1⟩ := hcut
        obtain ⟨ib1, ic1, pv1, ps1, kv1, tn1, off1, hc1, hb1, hp1, ok1⟩ := hD1
        have hps1 : ps1.length ≤ 1000000 := by
          have e := congrArg List.length hp1
          simp [Dev.push] at e
          omega
        have ST := hide (strikes_at hc1 (show (g.push i.toNat b).calls ≤ 1000000 from hcl) ok1.left)
        have HB1 := hide hb1
        have HST1 := hide hst1
        have HP1 := hide hp1
        have OK1 := hide ok1
        clear hc1 hb1 hst1 hp1 ok1 HC HB CL RE c01 f01
        by_cases hl : g.left = 1
        · obtain ⟨l, hgl⟩ := OK1.out.arm (by show g.left ≠ 0; omega)
          obtain ⟨rfl, rfl, a', c', rfl, hseen, hnil, hap⟩ := HB1.out.loss l hgl
          have hD : decide ((g.push i.toNat b).left = 1) = true := by simp [Dev.push, hl]
          rw [hD] at ST
          go_wp2_with fail
          refine ST.out.mono ?_
          rintro e w2 ⟨rfl, hc2, hk2⟩
          have hb2 := HB1.out.keep hk2 (fun _ q _ => q)
          have hs2 := Seen.keep hseen hk2 (fun ad had => (hap ad had).2.1)
          have G := hide (giveUp_at hc2 hb2 (pend_fits HP1.out OK1.out) OK1.out.bytes (img_le' OK1.out) hps1 l a' c' hs2 (fun _ ad had => ⟨(hap ad had).2.1, (hap ad had).2.2.1⟩) (OK1.out.loss l hgl))
          obtain ⟨u5, _⟩ := hc2.get 5 _ rfl
          obtain ⟨u6, _⟩ := hc2.get 6 _ rfl
          obtain ⟨u7, _⟩ := hc2.get 7 _ rfl
          have HK2 := hide hk2
          clear hc2 hk2 hb2 hs2 hseen ST
          go_wp2_with fail
          refine G.out.mono ?_
          rintro e w3 ⟨⟨v, rfl⟩, c3, b3, k3⟩
          have C3 := hide c3
          have K3 := hide k3
          have B3 := hide b3
          clear c3 k3 b3 G u5 u6 u7
          go_wp2_with fail
          go_ret
          have e0 : g.write i b = (g.push i.toNat b).strike.fall l := by rw [EW.out, if_pos hl]; unfold Dev.crashes; rw [show (g.push i.toNat b).strike.loss = some l from hgl]
          rw [e0]
          have KA : Keep S1 wc w3 := (HK2.out.mono (fun j _ q => by subst q; exact HB1.out.dS)).trans K3.out (fun j _ q => by rcases q with rfl | rfl; exact HB1.out.dS; exact HB1.out.iS.1)
          refine ⟨rfl, S1, ⟨ib1, ic1, .slice none 0 0, [], .slice none 0 0, 0, 0, ?_, ?_, rfl, OK1.out.strike.fall l⟩, HST1.out.trans (Step.of_keep KA)⟩
          · have e : ((g.push i.toNat b).strike.fall l).img.length = (g.push i.toNat b).img.length := (fallFrom_ok l (g.push i.toNat b).pend 0 (g.push i.toNat b).img OK1.out.pend rfl OK1.out.bytes).1
            rw [e]
            exact C3.out
          · show Body w3 S1 d (fallFrom l 0 (g.push i.toNat b).pend (g.push i.toNat b).img) _ _ _ _ _ _ _ _
            rw [HP1.out]
            exact B3.out
        · have hD : decide ((g.push i.toNat b).left = 1) = false := by simp [Dev.push, hl]
          rw [hD] at ST
          go_wp2_with fail
          refine ST.out.mono ?_
          rintro e w2 ⟨rfl, hc2, hk2⟩
          have C2 := hide hc2
          have K2 := hide hk2
          clear hc2 hk2 ST
          go_wp2_with fail
          go_ret
          rw [EW.out, if_neg hl]
          exact ⟨rfl, S1, ⟨ib1, ic1, pv1, ps1, kv1, tn1, off1, C2.out, HB1.out.keep K2.out (fun _ q _ => q), HP1.out, OK1.out.strike⟩, HST1.out.trans (Step.of_keep (K2.out.mono (fun j _ q => by subst q; exact HB1.out.dS)))⟩
      case first =>
        refine wp_region_held_drew (S := fun _ => True) (by kernel_rfl) trivial (fun _ => ?_)
        refine take_at 0 (some 17) (v := ?_) rfl rfl (by kernel_rfl) (by kernel_rfl) (by kernel_rfl) (fun _ _ _ h => h) ⟨by rfl, ?_⟩ trivial ?_
        rotate_left
        · intro wq _; go_simp; try rfl
        simp only [Act.put, List.setIfInBounds_toArray, List.set_cons_zero, List.set_cons_succ]
        refine take_at 1 (some 18) (v := ?_) rfl rfl (by kernel_rfl) (by kernel_rfl) (by kernel_rfl) (fun _ _ _ h => h) ⟨by rfl, ?_⟩ trivial ?_
        rotate_left
        · intro wq _; go_simp; try rfl
        simp only [Act.put, List.setIfInBounds_toArray, List.set_cons_zero, List.set_cons_succ]
        refine take_at 2 (some 19) (v := ?_) rfl rfl (by kernel_rfl) (by kernel_rfl) (by kernel_rfl) (fun _ _ _ h => h) ⟨by rfl, ?_⟩ trivial ?_
        rotate_left
        · intro wq _; go_simp; try rfl
        simp only [Act.put, List.setIfInBounds_toArray, List.set_cons_zero, List.set_cons_succ]
        refine take_at 3 (some 20) (v := ?_) rfl rfl (by kernel_rfl) (by kernel_rfl) (by kernel_rfl) (fun _ _ _ h => h) ⟨by rfl, ?_⟩ trivial ?_
        rotate_left
        · intro wq _; go_simp; try rfl
        simp only [Act.put, List.setIfInBounds_toArray, List.set_cons_zero, List.set_cons_succ]
        refine take_at 5 (some 22) (v := ?_) rfl rfl (by kernel_rfl) (by kernel_rfl) (by kernel_rfl) (fun _ _ _ h => h) ⟨by rfl, ?_⟩ trivial ?_
        rotate_left
        · intro wq _; go_simp; try rfl
        simp only [Act.put, List.setIfInBounds_toArray, List.set_cons_zero, List.set_cons_succ]
        refine take_at 6 (some 23) (v := ?_) rfl rfl (by kernel_rfl) (by kernel_rfl) (by kernel_rfl) (fun _ _ _ h => h) ⟨by rfl, ?_⟩ trivial ?_
        rotate_left
        · intro wq _; go_simp; try rfl
        simp only [Act.put, List.setIfInBounds_toArray, List.set_cons_zero, List.set_cons_succ]
        refine wpAnyH_ready (rs := [4, 7]) (by kernel_rfl) (by simp) ?_
        refine AllReadyH.cons rfl (fun K hK => ?_) (AllReadyH.cons rfl (fun K hK => ?_) AllReadyH.nil)
        · go_simp
          go_wp2_with fail
          refine hK.out _ _ trivial (fun _ => ?_)
          clear hK K
          (try simp only [Act.put, List.setIfInBounds_toArray, List.set_cons_zero, List.set_cons_succ])
          refine wpAnyH_ready (rs := [7]) (by kernel_rfl) (by simp) ?_
          refine AllReadyH.cons rfl (fun K hK => ?_) AllReadyH.nil
          go_simp
          go_wp2_with fail
          refine CL.out.mono ?_
          rintro e w1 ⟨v1, rfl, o1, b1⟩
          obtain ⟨kb, cb, hv1, hcb, hB1, hkb⟩ := o1.form (by simp; omega)
          rw [ints_length, hbl] at hv1
          subst hv1
          obtain ⟨a1, cp1, hv1, _, _, _, hcm⟩ := o1.seen
          rw [ints_length, hbl] at hv1
          cases hv1
          have C1 := hide (HC.out.below (below_undrew b1))
          have BD1 := hide (HB.out.below (below_undrew b1))
          have O1 := hide (Owns.seen_at o1)
          have BL1 := hide (below_undrew b1)
          have sz1 : w.heap.size ≤ w1.heap.size := b1.size
          have hB2 : w.heap.size ≤ kb := hB1
          obtain ⟨c1, f1⟩ := C1.out.get 1 _ rfl
          clear o1 b1 CL
          go_wp2_with fail
          refine hK.out _ _ trivial (fun _ => ?_)
          clear hK K c01
          (try simp only [Act.put, List.setIfInBounds_toArray, List.set_cons_zero, List.set_cons_succ])
          refine take_at 8 (some 25) (v := ?_) rfl rfl (by kernel_rfl) (by kernel_rfl) (by kernel_rfl) (fun _ _ _ h => h) ⟨by rfl, ?_⟩ trivial ?_
          rotate_left
          · intro wq _; go_simp; try rfl
          simp only [Act.put, List.setIfInBounds_toArray, List.set_cons_zero, List.set_cons_succ]
          refine wpAnyH_ready (rs := [9]) (by kernel_rfl) (by simp) ?_
          refine AllReadyH.cons rfl (fun K hK => ?_) AllReadyH.nil
          go_simp
          go_wp2_with fail
          refine hK.out _ _ trivial (fun _ => ?_)
          clear hK K
          have c2 := ((alloc_below w1 (.cells #[.int .i64 i, .slice (some ⟨kb, 0, none⟩) 512 cb] 124)).cell (p := ⟨d, 1, none⟩) (by show d < _; omega)).trans c1
          clear c1
          (try simp only [Act.put, List.setIfInBounds_toArray, List.set_cons_zero, List.set_cons_succ])
          refine wpAnyH_ready (rs := [10]) (by kernel_rfl) (by simp) ?_
          refine AllReadyH.cons rfl (fun K hK => ?_) AllReadyH.nil
          refine wp_pushP 27 (.tmp 21) (.tmp 26) rfl rfl rfl 0 (.slice pa ps.length pc) ps rfl ⟨w1.heap.size, 0, none⟩ ⟨i.toNat, kb, cb, b⟩ rfl (BD1.out.row.keep (S := fun _ => False) (Keep.of_below (alloc_below _ _)) (fun _ _ q => q)) (by rw [World.cell?_alloc_new]; show some (Value.int .i64 i) = some (Value.int .i64 ((i.toNat : Nat) : Int)); rw [Int.toNat_of_nonneg hi0]) (by show World.cell? _ ⟨_, 1, none⟩ = _; rw [World.cell?_alloc_new]; simp [PE.v, hbl]) hps (Nat.zero_le _) ?_
          intro v2 w2 r2 g2 m2
          obtain ⟨pa2, pc2, hv2, pn2, ple2, pm2, _⟩ := r2.form
          rw [show (ps ++ [(⟨i.toNat, kb, cb, b⟩ : PE)]).length = ps.length + 1 by simp] at hv2
          have sz2 := g2.size
          rw [World.size_alloc] at sz2
          have R2 := hide r2
          have G2 := hide g2
          have M2 := hide m2
          have KW := hide (pushed_keep (BD1.out.lt) (fun b hb => (BD1.out.rS b hb).2.1) BD1.out.dS G2.out)
          have C2 := hide (C1.out.keep KW.out (fun q => (BD1.out.rS d q).2.1 rfl))
          obtain ⟨c2, f2⟩ := C2.out.get 1 _ rfl
          subst hv2
          clear r2 g2 m2
          refine hK.out _ _ trivial (fun _ => ?_)
          clear hK K
          (try simp only [Act.put, List.setIfInBounds_toArray, List.set_cons_zero, List.set_cons_succ])
          refine take_at 11 (some 28) (v := ?_) rfl rfl (by kernel_rfl) (by kernel_rfl) (by kernel_rfl) (fun _ _ _ h => h) ⟨by rfl, ?_⟩ trivial ?_
          rotate_left
          · intro wq _; go_simp; try rfl
          simp only [Act.put, List.setIfInBounds_toArray, List.set_cons_zero, List.set_cons_succ]
          refine take_at 12 (some 29) (v := ?_) rfl rfl (by kernel_rfl) (by kernel_rfl) (by kernel_rfl) (fun _ _ _ h => h) ⟨by rfl, ?_⟩ trivial ?_
          rotate_left
          · intro wq _; go_simp; try rfl
          simp only [Act.put, List.setIfInBounds_toArray, List.set_cons_zero, List.set_cons_succ]
          refine wpAnyH_ready (rs := [13]) (by kernel_rfl) (by simp) ?_
          refine AllReadyH.cons rfl (fun K hK => ?_) AllReadyH.nil
          go_simp
          go_wp2_with fail
          refine hK.out _ _ trivial (fun _ => ?_)
          clear hK K
          refine wpAnyH_done (by kernel_rfl) ?_ _
          go_wp2_with fail
          go_meet
          have hkS : ¬ S kb := fun q => by have := HB.out.lt _ q; omega
          have BP := hide (Body.push (p := ⟨i.toNat, kb, cb, b⟩) BD1.out KW.out R2.out (M2.out.imp id (fun e => ⟨_, e, by simp⟩)) O1.out (by show b.length ≤ _; simpa using hcb) hcm hkS hkb)
          exact pushed_fin HC.out BL1.out KW.out (fun q hq => HB.out.rS q hq) C2.out BP.out hp ok RO.out.2.2.1 hbl hab hB2 M2.out (by rw [World.size_alloc]; omega) HB.out.dS
        · go_simp
          go_wp2_with fail
          refine CL.out.mono ?_
          rintro e w1 ⟨v1, rfl, o1, b1⟩
          obtain ⟨kb, cb, hv1, hcb, hB1, hkb⟩ := o1.form (by simp; omega)
          rw [ints_length, hbl] at hv1
          subst hv1
          obtain ⟨a1, cp1, hv1, _, _, _, hcm⟩ := o1.seen
          rw [ints_length, hbl] at hv1
          cases hv1
          have C1 := hide (HC.out.below (below_undrew b1))
          have BD1 := hide (HB.out.below (below_undrew b1))
          have O1 := hide (Owns.seen_at o1)
          have BL1 := hide (below_undrew b1)
          have sz1 : w.heap.size ≤ w1.heap.size := b1.size
          have hB2 : w.heap.size ≤ kb := hB1
          obtain ⟨c1, f1⟩ := C1.out.get 1 _ rfl
          clear o1 b1 CL
          go_wp2_with fail
          refine hK.out _ _ trivial (fun _ => ?_)
          clear hK K c01
          (try simp only [Act.put, List.setIfInBounds_toArray, List.set_cons_zero, List.set_cons_succ])
          refine take_at 8 (some 25) (v := ?_) rfl rfl (by kernel_rfl) (by kernel_rfl) (by kernel_rfl) (fun _ _ _ h => h) ⟨by rfl, ?_⟩ trivial ?_
          rotate_left
          · intro wq _; go_simp; try rfl
          simp only [Act.put, List.setIfInBounds_toArray, List.set_cons_zero, List.set_cons_succ]
          refine wpAnyH_ready (rs := [4, 9]) (by kernel_rfl) (by simp) ?_
          refine AllReadyH.cons rfl (fun K hK => ?_) (AllReadyH.cons rfl (fun K hK => ?_) AllReadyH.nil)
          · go_simp
            go_wp2_with fail
            refine hK.out _ _ trivial (fun _ => ?_)
            clear hK K
            (try simp only [Act.put, List.setIfInBounds_toArray, List.set_cons_zero, List.set_cons_succ])
            refine wpAnyH_ready (rs := [9]) (by kernel_rfl) (by simp) ?_
            refine AllReadyH.cons rfl (fun K hK => ?_) AllReadyH.nil
            go_simp
            go_wp2_with fail
            refine hK.out _ _ trivial (fun _ => ?_)
            clear hK K
            have c2 := ((alloc_below w1 (.cells #[.int .i64 i, .slice (some ⟨kb, 0, none⟩) 512 cb] 124)).cell (p := ⟨d, 1, none⟩) (by show d < _; omega)).trans c1
            clear c1
            (try simp only [Act.put, List.setIfInBounds_toArray, List.set_cons_zero, List.set_cons_succ])
            refine wpAnyH_ready (rs := [10]) (by kernel_rfl) (by simp) ?_
            refine AllReadyH.cons rfl (fun K hK => ?_) AllReadyH.nil
            refine wp_pushP 27 (.tmp 21) (.tmp 26) rfl rfl rfl 0 (.slice pa ps.length pc) ps rfl ⟨w1.heap.size, 0, none⟩ ⟨i.toNat, kb, cb, b⟩ rfl (BD1.out.row.keep (S := fun _ => False) (Keep.of_below (alloc_below _ _)) (fun _ _ q => q)) (by rw [World.cell?_alloc_new]; show some (Value.int .i64 i) = some (Value.int .i64 ((i.toNat : Nat) : Int)); rw [Int.toNat_of_nonneg hi0]) (by show World.cell? _ ⟨_, 1, none⟩ = _; rw [World.cell?_alloc_new]; simp [PE.v, hbl]) hps (Nat.zero_le _) ?_
            intro v2 w2 r2 g2 m2
            obtain ⟨pa2, pc2, hv2, pn2, ple2, pm2, _⟩ := r2.form
            rw [show (ps ++ [(⟨i.toNat, kb, cb, b⟩ : PE)]).length = ps.length + 1 by simp] at hv2
            have sz2 := g2.size
            rw [World.size_alloc] at sz2
            have R2 := hide r2
            have G2 := hide g2
            have M2 := hide m2
            have KW := hide (pushed_keep (BD1.out.lt) (fun b hb => (BD1.out.rS b hb).2.1) BD1.out.dS G2.out)
            have C2 := hide (C1.out.keep KW.out (fun q => (BD1.out.rS d q).2.1 rfl))
            obtain ⟨c2, f2⟩ := C2.out.get 1 _ rfl
            subst hv2
            clear r2 g2 m2
            refine hK.out _ _ trivial (fun _ => ?_)
            clear hK K
            (try simp only [Act.put, List.setIfInBounds_toArray, List.set_cons_zero, List.set_cons_succ])
            refine take_at 11 (some 28) (v := ?_) rfl rfl (by kernel_rfl) (by kernel_rfl) (by kernel_rfl) (fun _ _ _ h => h) ⟨by rfl, ?_⟩ trivial ?_
            rotate_left
            · intro wq _; go_simp; try rfl
            simp only [Act.put, List.setIfInBounds_toArray, List.set_cons_zero, List.set_cons_succ]
            refine take_at 12 (some 29) (v := ?_) rfl rfl (by kernel_rfl) (by kernel_rfl) (by kernel_rfl) (fun _ _ _ h => h) ⟨by rfl, ?_⟩ trivial ?_
            rotate_left
            · intro wq _; go_simp; try rfl
            simp only [Act.put, List.setIfInBounds_toArray, List.set_cons_zero, List.set_cons_succ]
            refine wpAnyH_ready (rs := [13]) (by kernel_rfl) (by simp) ?_
            refine AllReadyH.cons rfl (fun K hK => ?_) AllReadyH.nil
            go_simp
            go_wp2_with fail
            refine hK.out _ _ trivial (fun _ => ?_)
            clear hK K
            refine wpAnyH_done (by kernel_rfl) ?_ _
            go_wp2_with fail
            go_meet
            have hkS : ¬ S kb := fun q => by have := HB.out.lt _ q; omega
            have BP := hide (Body.push (p := ⟨i.toNat, kb, cb, b⟩) BD1.out KW.out R2.out (M2.out.imp id (fun e => ⟨_, e, by simp⟩)) O1.out (by show b.length ≤ _; simpa using hcb) hcm hkS hkb)
            exact pushed_fin HC.out BL1.out KW.out (fun q hq => HB.out.rS q hq) C2.out BP.out hp ok RO.out.2.2.1 hbl hab hB2 M2.out (by rw [World.size_alloc]; omega) HB.out.dS
          · go_simp
            go_wp2_with fail
            refine hK.out _ _ trivial (fun _ => ?_)
            clear hK K
            have c2 := ((alloc_below w1 (.cells #[.int .i64 i, .slice (some ⟨kb, 0, none⟩) 512 cb] 124)).cell (p := ⟨d, 1, none⟩) (by show d < _; omega)).trans c1
            clear c1
            (try simp only [Act.put, List.setIfInBounds_toArray, List.set_cons_zero, List.set_cons_succ])
            refine wpAnyH_ready (rs := [4]) (by kernel_rfl) (by simp) ?_
            refine AllReadyH.cons rfl (fun K hK => ?_) AllReadyH.nil
            go_simp
            go_wp2_with fail
            refine hK.out _ _ trivial (fun _ => ?_)
            clear hK K
            (try simp only [Act.put, List.setIfInBounds_toArray, List.set_cons_zero, List.set_cons_succ])
            refine wpAnyH_ready (rs := [10]) (by kernel_rfl) (by simp) ?_
            refine AllReadyH.cons rfl (fun K hK => ?_) AllReadyH.nil
            refine wp_pushP 27 (.tmp 21) (.tmp 26) rfl rfl rfl 0 (.slice pa ps.length pc) ps rfl ⟨w1.heap.size, 0, none⟩ ⟨i.toNat, kb, cb, b⟩ rfl (BD1.out.row.keep (S := fun _ => False) (Keep.of_below (alloc_below _ _)) (fun _ _ q => q)) (by rw [World.cell?_alloc_new]; show some (Value.int .i64 i) = some (Value.int .i64 ((i.toNat : Nat) : Int)); rw [Int.toNat_of_nonneg hi0]) (by show World.cell? _ ⟨_, 1, none⟩ = _; rw [World.cell?_alloc_new]; simp [PE.v, hbl]) hps (Nat.zero_le _) ?_
            intro v2 w2 r2 g2 m2
            obtain ⟨pa2, pc2, hv2, pn2, ple2, pm2, _⟩ := r2.form
            rw [show (ps ++ [(⟨i.toNat, kb, cb, b⟩ : PE)]).length = ps.length + 1 by simp] at hv2
            have sz2 := g2.size
            rw [World.size_alloc] at sz2
            have R2 := hide r2
            have G2 := hide g2
            have M2 := hide m2
            have KW := hide (pushed_keep (BD1.out.lt) (fun b hb => (BD1.out.rS b hb).2.1) BD1.out.dS G2.out)
            have C2 := hide (C1.out.keep KW.out (fun q => (BD1.out.rS d q).2.1 rfl))
            obtain ⟨c2, f2⟩ := C2.out.get 1 _ rfl
            subst hv2
            clear r2 g2 m2
            refine hK.out _ _ trivial (fun _ => ?_)
            clear hK K
            (try simp only [Act.put, List.setIfInBounds_toArray, List.set_cons_zero, List.set_cons_succ])
            refine take_at 11 (some 28) (v := ?_) rfl rfl (by kernel_rfl) (by kernel_rfl) (by kernel_rfl) (fun _ _ _ h => h) ⟨by rfl, ?_⟩ trivial ?_
            rotate_left
            · intro wq _; go_simp; try rfl
            simp only [Act.put, List.setIfInBounds_toArray, List.set_cons_zero, List.set_cons_succ]
            refine take_at 12 (some 29) (v := ?_) rfl rfl (by kernel_rfl) (by kernel_rfl) (by kernel_rfl) (fun _ _ _ h => h) ⟨by rfl, ?_⟩ trivial ?_
            rotate_left
            · intro wq _; go_simp; try rfl
            simp only [Act.put, List.setIfInBounds_toArray, List.set_cons_zero, List.set_cons_succ]
            refine wpAnyH_ready (rs := [13]) (by kernel_rfl) (by simp) ?_
            refine AllReadyH.cons rfl (fun K hK => ?_) AllReadyH.nil
            go_simp
            go_wp2_with fail
            refine hK.out _ _ trivial (fun _ => ?_)
            clear hK K
            refine wpAnyH_done (by kernel_rfl) ?_ _
            go_wp2_with fail
            go_meet
            have hkS : ¬ S kb := fun q => by have := HB.out.lt _ q; omega
            have BP := hide (Body.push (p := ⟨i.toNat, kb, cb, b⟩) BD1.out KW.out R2.out (M2.out.imp id (fun e => ⟨_, e, by simp⟩)) O1.out (by show b.length ≤ _; simpa using hcb) hcm hkS hkb)
            exact pushed_fin HC.out BL1.out KW.out (fun q hq => HB.out.rS q hq) C2.out BP.out hp ok RO.out.2.2.1 hbl hab hB2 M2.out (by rw [World.size_alloc]; omega) HB.out.dS
    · rw [if_pos hbl]
      have e0 : g.write i b = g := by unfold Dev.write; rw [if_pos (Or.inr hbl)]
      rw [e0]
      rw [hr] at RE
      have hb' : ((b.length : Int) != 512) = true := by simp; omega
      clear hs h
      go_enter Tryz.func42, Tryz.ntmps42
      go_wp2_with fail
      refine RE.out.mono ?_
      rintro e w' ⟨rfl, hw⟩
      obtain rfl : w = w' := hw.symm
      go_wp2_with fail
      go_ret
      exact ⟨S, rfl, HD.out, Step.refl _ _⟩
  · rw [if_pos hr]
    have e0 : g.write i b = g := by unfold Dev.write; rw [if_pos (Or.inl hr)]
    rw [e0]
    have hr' : (((g.reach i : Nat) : Int) != 0) = true := by simp; omega
    generalize g.reach i = r at *
    clear hs h
    go_enter Tryz.func42, Tryz.ntmps42
    go_wp2_with fail
    refine RE.out.mono ?_
    rintro e w' ⟨rfl, hw⟩
    obtain rfl : w = w' := hw.symm
    go_wp2_with fail
    go_ret
    exact ⟨S, rfl, HD.out, Step.refl _ _⟩
end Go.Proofs.YtgpmghdoofcpaaaGreat.Dv
