import Derived.Test.YtlloppalagddnaaSr5
set_option linter.all false
namespace Go.Proofs.Ytlloppalagddnaa
open Go.RowKit Go.QK Go.Maps Go.QM Go.QS Quota
set_option maxRecDepth 100000
theorem wpList_del {o : Oper} {a : Act} {x x' : World} {ops : Array Oper} {rest : List Oper} {Q : Exit → Act → World → Prop} {t k : TypeId} {v u : Value} (hgd : o.guard = none) (s r : Operand)
    (ho : o.op = .call { callee := .builtin .delete, args := #[s, r], argTypes := #[t, k] }) (hs : a.eval s = v) (hr : a.eval r = u) (hrun : (Builtin.delete_ #[t, k] o.type #[v, u]).run Try.prog x = .ok (.tuple #[]) x')
    (h : wpList Try.prog ops Q rest (a.put o.dst (.tuple #[])) x') : wpList Try.prog ops Q (o :: rest) a x := by
  refine wpList_plain hgd fun K hK => ?_
  have hrun : (execOp a.eval o).run Try.prog x = .ok (.value (.tuple #[])) x' := by
    unfold execOp
    simp only [ho, resolve, invoke, builtin, Sem.run_bind, Sem.run_pure, Result.andThen_ok, List.map_toArray, List.map_cons, List.map_nil, hs, hr, hrun]
  unfold Oper.wp
  rw [hrun]
  exact hK _ _ h
theorem any_del {w : World} {m : Nat} {L : Prs Value} (h : AnyAt Try.prog 3 w m L) {x : Int} (hx : I64 x) :
    ∃ w', (∀ ty, (Builtin.delete_ #[79, 3] ty #[.map (some m), .int .i64 x]).run Try.prog w = .ok (.tuple #[]) w') ∧ AnyAt Try.prog 3 w' m (delM L x) ∧ w.grownBy w' (some m) := by
  obtain ⟨w', hr, h5, h6⟩ := World.ownsMap.drop h lawK Try.underlying79 (keyI hx) 0
  refine ⟨w', fun ty => ?_, AnyAt.del h5, h6.grown⟩
  exact hr
theorem ofT_app (t : Int) (X Y : Prs Int) : ofT t (X ++ Y) = ofT t X ++ ofT t Y := by simp [ofT]
theorem ofT_len (t : Int) (X : Prs Int) : (ofT t X).length = X.length := by simp [ofT]
theorem NM.del_run {w : World} {m n : Nat} {S : St} {t : Int} {M : Prs Int} (h : NM w m (netV (setS S t M)) n) {c : Int} (ht : I64 t) (hc : I64 c) :
    ∃ w', (∀ ty, (Builtin.delete_ #[78, 110] ty #[.map (some m), kV t c]).run Try.prog w = .ok (.tuple #[]) w') ∧ NM w' m (netV (setS S t (delM M c))) n ∧ w.grownBy w' (some m) := by
  obtain ⟨w', hr, h1, h2⟩ := h.del ht hc 0
  exact ⟨w', fun ty => hr, h1.congr (fun x y _ _ => net_gone S t c M x y), h2⟩
/-- One more holding. -/
theorem run_hn (x : World) (B : Nat) (v : Value) (t : Int) (X : Prs Int) (hown : HRow x B v (ofT t X)) (c d : Int) (hl : (X.length + 1) * 24 ≤ 140737488355328) (hB : B ≤ x.heap.size) :
    ∃ v' x', (Builtin.append_ #[30, 30] 30 #[v, .slice (some ⟨x.heap.size, 0, none⟩) 1 1]).run Try.prog (x.alloc (.cells #[.int .i64 t, .int .i64 c, .int .i64 d] 74)) = .ok v' x' ∧ HRow x' B v' (ofT t (X ++ [(c, d)])) ∧ Keep (fun z => v.ownBlock = some z) x x' := by
  obtain ⟨v', x', h1, h2, h3, h4⟩ := run_pushW Try.underlying30 info74 rfl (by decide) 30 (x.alloc (.cells #[.int .i64 t, .int .i64 c, .int .i64 d] 74)) B v (ofT t X).length (hns (ofT t X)) (GRow.below hown (alloc_below _ _)) ⟨x.heap.size, 0, none⟩ 1 1 (hns [(t, c, d)]) rfl (lies_one hnC x (t, c, d) #[.int .i64 t, .int .i64 c, .int .i64 d] 74 rfl) (rowsC_one hnC (fun _ => rfl) _) (by rw [ofT_len]; exact hl) (by decide) (by simp; omega)
  refine ⟨v', x', h1, ?_, ((Keep.refl (fun z => v.ownBlock = some z) x).alloc _).grown h3 (fun g hg _ => hg)⟩
  have e : ofT t (X ++ [(c, d)]) = ofT t X ++ [(t, c, d)] := ofT_app t X [(c, d)]
  show GRow x' B 74 3 v' (ofT t (X ++ [(c, d)])).length (rowsC hnC (ofT t (X ++ [(c, d)])))
  rw [e, List.length_append, rowsC_app]
  exact h2
set_option maxHeartbeats 16000000 in
theorem taken_any (lab : Nat → Nat) (B : Nat) (w : World) (hb mn mh : Nat) (rv : Value) (rs : List RV) (D : Hd) (S : St) (n : Nat) (h : PH lab B w hb mn mh rv rs D S n) (t : Int) (ht : 1 ≤ t ∧ t ≤ 2147483647) (hn : (n + 1) * 8 ≤ 140737488355328) :
    Calls Try.prog 53 #[ptr hb, .int .i64 t] w fun e w' => ∃ v, e = .returned v ∧ Tk lab B w w' hb mn mh rv rs D S n t v := by
  have ht64 : I64 t := by unfold I64; omega
  obtain ⟨L1, L2, L3, L4, L5⟩ := h.lt
  have q1 := h.l1
  have q2 := h.l2
  have q3 := h.l3
  have dn : ∀ {a b : Nat}, lab a ≠ lab b → a ≠ b := fun q r => q (by rw [r])
  have d1 : hb ≠ mn := dn (by omega)
  have d2 : hb ≠ mh := dn (by omega)
  have d3 : mn ≠ mh := dn (by omega)
  clear dn q1 q2 q3
  obtain ⟨ha, hcap, hve, hli, hle, _, hnone, _⟩ := GRow.lies (h.heldO t)
  try rw [List.length_map] at hve
  have dv : ∀ ad, ha = some ad → ad.block < w.heap.size ∧ ad.block ≠ mn ∧ ad.block ≠ mh := fun ad e => by
    have e1 : (hldV D t).ownBlock = some ad.block := by rw [hve, e]; rfl
    have a0 := h.heldL e1
    have a1 := (World.ownsRow.lt (h.heldO t) _ e1).2
    have a2 := h.l2
    have a3 := h.l3
    exact ⟨a1, fun q => by rw [q] at a0; omega, fun q => by rw [q] at a0; omega⟩
  have hidr := h.idsL t
  have hcov := h.cov t
  have hup := h.ok.up t
  have hid := h.ok.ids t
  obtain ⟨k0, _⟩ := h.box.get 2 _ rfl
  have hlk := any_run lawK Try.underlying79 zeroS3 h.hm (keyI ht64)
  rw [h.heldD t, hve] at hlk
  have hGF : ∀ k, Gt (S t) ((idsD D t).take k) (gF ((idsD D t).take k) (S t, [])) := fun k => by
    have := (Gt.start hup).fold ((idsD D t).take k)
    simpa using this
  generalize hids : idsD D t = ids at *
  have HP := hide h
  have LI := hide hli
  have HVE := hide hve
  clear h hli hve
  go_enter Try.func53, Try.ntmps53
  go_wp2_with fail
  go_loopw [18, 5] (fun i u5 wr => ∃ k : Nat, k ≤ ids.length ∧ i = .int .i64 k ∧ HRow wr w.heap.size u5 (ofT t (gF (ids.take k) (S t, [])).2) ∧ NM wr mn (netV (setS S t (gF (ids.take k) (S t, [])).1)) n ∧ Keep (fun z => z = mn) w wr) (fun i _ _ => ids.length - (intOf i).toNat)
  case atStart =>
    refine ⟨0, Nat.zero_le _, rfl, World.ownsRow_nil _ _ _ _, ?_, Keep.refl _ _⟩
    have e : setS S t (gF (ids.take 0) (S t, [])).1 = S := set_self S t
    rw [e]
    exact HP.out.nm
  case round =>
    obtain ⟨k, hk, rfl, hrow, hnm, hkeep⟩ := hrel
    have bx := HP.out.box.keep hkeep d1
    obtain ⟨b2, b2f⟩ := bx.get 2 _ rfl
    have swr : w.heap.size ≤ wr.heap.size := hkeep.size
    by_cases hlt : k < ids.length
    · have hc : 1 ≤ ids[k] ∧ ids[k] ≤ 1048576 := hidr.2 _ (List.getElem_mem hlt)
      have hGk := hGF k
      have GT := hide (gF_take (S t, []) k hlt)
      have lik := LI.out.keep hkeep (fun ad e q => (dv ad e).2.1 q)
      obtain ⟨ab, ao, e, hbl, hcell⟩ := lik.cellAt k (.int .i64 ids[k]) (by simp [hlt])
      subst e
      generalize ids[k] = c at *
      generalize hst : gF (ids.take k) (S t, []) = st at *
      obtain ⟨M, X⟩ := st
      simp only at hrow hnm GT
      have HST := hide hst
      have hXl : X.length ≤ 1048576 := by
        have e1 := hGk.perm.length_eq
        have e2 := up_len' hup (a := 1) (b := 1048576) hid
        simp only [List.length_append] at e1
        omega
      have hc64 : I64 c := by unfold I64; omega
      clear hst
      have HR := hide hrow
      have HNM := hide hnm
      have HK := hide hkeep
      have BX := hide bx
      clear hrow hnm hkeep bx lik hGk b2 b2f
      cases hgm : getM M c with
      | none =>
        have HG := hide hgm
        go_upto_region 6 with fail
        refine named (P := Code.wp _ _ _ _) ?_
        intro x1 hx1
        have bb : Below wr.heap.size wr x1 := by rw [hx1]; exact alloc_below _ _
        have C1 : Cells x1 wr.heap.size [.int .i64 t, .int .i64 c] := by rw [hx1]; exact Cells.new wr #[.int .i64 t, .int .i64 c] 110
        have BX1 := BX.out.below bb
        have NM1 := HNM.out.below bb
        have R1 := HR.out.below bb
        have sz1 : wr.heap.size + 1 ≤ x1.heap.size := by have := C1.1; omega
        generalize hN : wr.heap.size = N at *
        have HN := hide hN
        clear hN
        clear hx1
        refine wp_region_held_drew (S := fun wq => Cells wq hb [rv, .map (some mn), .map (some mh)] ∧ Cells wq N [.int .i64 t, .int .i64 c] ∧ NM wq mn (netV (setS S t M)) n) (by kernel_rfl) ⟨BX1, C1, NM1⟩ (fun hS => ?_)
        have BX2 := hide (BX1.below (Below.refl _ _).drew)
        have C2 := hide (C1.below (Below.refl _ _).drew)
        have NM2 := hide (NM1.below (Below.refl _ _).drew)
        have R2 := hide (R1.below (Below.refl _ _).drew)
        have b2 := hide bb.drew
        have sz2 : N + 1 ≤ x1.drew.heap.size := sz1
        clear BX1 C1 NM1 R1 bb sz1
        generalize x1.drew = x2 at *
        refine take_at 0 (some 26) (v := ?_) rfl rfl (by kernel_rfl) (by kernel_rfl) (by kernel_rfl) (fun _ _ _ h => h) ⟨by rfl, ?_⟩ hS ?_
        rotate_left
        · intro wq hSw; go_simp; try rfl
        simp only [Act.put, List.setIfInBounds_toArray, List.set_cons_zero, List.set_cons_succ]
        refine take_at 1 (some 27) (v := ?_) rfl rfl (by kernel_rfl) (by kernel_rfl) (by kernel_rfl) (fun _ _ _ h => h) ⟨by rfl, ?_⟩ hS ?_
        rotate_left
        · intro wq hSw; go_simp; try rfl
        simp only [Act.put, List.setIfInBounds_toArray, List.set_cons_zero, List.set_cons_succ]
        refine take_at 2 (some 28) (v := ?_) rfl rfl (by kernel_rfl) (by kernel_rfl) (by kernel_rfl) (fun _ _ _ h => h) ⟨by rfl, ?_⟩ hS ?_
        rotate_left
        · intro wq hSw; go_simp; try rfl
        simp only [Act.put, List.setIfInBounds_toArray, List.set_cons_zero, List.set_cons_succ]
        refine take_at 3 (some 29) (v := ?_) rfl rfl (by kernel_rfl) (by kernel_rfl) (by kernel_rfl) (fun _ _ _ h => h) ⟨by rfl, ?_⟩ hS ?_
        rotate_left
        · intro wq hSw; have q := (hSw.1.get 1 _ rfl).1; go_simp; try rfl
        simp only [Act.put, List.setIfInBounds_toArray, List.set_cons_zero, List.set_cons_succ]
        refine take_at 4 (some 30) (v := ?_) rfl rfl (by kernel_rfl) (by kernel_rfl) (by kernel_rfl) (fun _ _ _ h => h) ⟨by rfl, ?_⟩ hS ?_
        rotate_left
        · intro wq hSw; have q := loadKV hSw.2.1; have q1 := (hSw.2.1.get 0 _ rfl).1; have q2 := (hSw.2.1.get 1 _ rfl).1; go_simp; try rfl
        simp only [Act.put, List.setIfInBounds_toArray, List.set_cons_zero, List.set_cons_succ]
        refine take_at 5 (some 31) (v := ?_) rfl rfl (by kernel_rfl) (by kernel_rfl) (by kernel_rfl) (fun _ _ _ h => h) ⟨by rfl, ?_⟩ hS ?_
        rotate_left
        · intro wq hSw; have hr := hSw.2.2.look ht64 hc64; rw [netV_set, if_pos rfl, HG.out] at hr; simp only [Option.map_none, Option.map_some, Option.getD_none, Option.getD_some, Option.isSome_none, Option.isSome_some] at hr; go_simp; try rfl
        simp only [Act.put, List.setIfInBounds_toArray, List.set_cons_zero, List.set_cons_succ]
        refine take_at 6 (some 25) (v := ?_) rfl rfl (by kernel_rfl) (by kernel_rfl) (by kernel_rfl) (fun _ _ _ h => h) ⟨by rfl, ?_⟩ hS ?_
        rotate_left
        · intro wq hSw; go_simp; try rfl
        simp only [Act.put, List.setIfInBounds_toArray, List.set_cons_zero, List.set_cons_succ]
        refine take_at 7 (some 32) (v := ?_) rfl rfl (by kernel_rfl) (by kernel_rfl) (by kernel_rfl) (fun _ _ _ h => h) ⟨by rfl, ?_⟩ hS ?_
        rotate_left
        · intro wq hSw; go_simp; try rfl
        simp only [Act.put, List.setIfInBounds_toArray, List.set_cons_zero, List.set_cons_succ]
        refine take_at 8 (some 33) (v := ?_) rfl rfl (by kernel_rfl) (by kernel_rfl) (by kernel_rfl) (fun _ _ _ h => h) ⟨by rfl, ?_⟩ hS ?_
        rotate_left
        · intro wq hSw; go_simp; try rfl
        simp only [Act.put, List.setIfInBounds_toArray, List.set_cons_zero, List.set_cons_succ]
        refine take_at 9 (some 9) (v := ?_) rfl rfl (by kernel_rfl) (by kernel_rfl) (by kernel_rfl) (fun _ _ _ h => h) ⟨by rfl, ?_⟩ hS ?_
        rotate_left
        · intro wq hSw; go_simp; try rfl
        simp only [Act.put, List.setIfInBounds_toArray, List.set_cons_zero, List.set_cons_succ]
        refine take_at 10 (some 10) (v := ?_) rfl rfl (by kernel_rfl) (by kernel_rfl) (by kernel_rfl) (fun _ _ _ h => h) ⟨by rfl, ?_⟩ hS ?_
        rotate_left
        · intro wq hSw; go_simp; try rfl
        simp only [Act.put, List.setIfInBounds_toArray, List.set_cons_zero, List.set_cons_succ]
        refine wpAnyH_done (by kernel_rfl) ?_ _
        clear hS
        go_wp2_with fail
        go_roundw
        case rel =>
          refine ⟨k + 1, by omega, by go_num, ?_, ?_, ?_⟩
          · rw [GT.out]; unfold gS; rw [hgm]; exact R2.out
          · rw [GT.out]; unfold gS; rw [hgm]; exact NM2.out
          · exact HK.out.trans (Keep.of_below (S := fun _ => False) (by rw [HN.out]; exact b2.out)) (fun _ _ q => q.elim)
        case measure => simp [intOf]; omega
      | some d =>
        have HG := hide hgm
        go_upto_region 6 with fail
        refine named (P := Code.wp _ _ _ _) ?_
        intro x1 hx1
        have bb : Below wr.heap.size wr x1 := by rw [hx1]; exact alloc_below _ _
        have C1 : Cells x1 wr.heap.size [.int .i64 t, .int .i64 c] := by rw [hx1]; exact Cells.new wr #[.int .i64 t, .int .i64 c] 110
        have BX1 := BX.out.below bb
        have NM1 := HNM.out.below bb
        have R1 := HR.out.below bb
        have sz1 : wr.heap.size + 1 ≤ x1.heap.size := by have := C1.1; omega
        generalize hN : wr.heap.size = N at *
        have HN := hide hN
        clear hN
        clear hx1
        refine wp_region_held_drew (S := fun wq => Cells wq hb [rv, .map (some mn), .map (some mh)] ∧ Cells wq N [.int .i64 t, .int .i64 c] ∧ NM wq mn (netV (setS S t M)) n) (by kernel_rfl) ⟨BX1, C1, NM1⟩ (fun hS => ?_)
        have BX2 := hide (BX1.below (Below.refl _ _).drew)
        have C2 := hide (C1.below (Below.refl _ _).drew)
        have NM2 := hide (NM1.below (Below.refl _ _).drew)
        have R2 := hide (R1.below (Below.refl _ _).drew)
        have b2 := hide bb.drew
        have sz2 : N + 1 ≤ x1.drew.heap.size := sz1
        clear BX1 C1 NM1 R1 bb sz1
        generalize x1.drew = x2 at *
        refine take_at 0 (some 26) (v := ?_) rfl rfl (by kernel_rfl) (by kernel_rfl) (by kernel_rfl) (fun _ _ _ h => h) ⟨by rfl, ?_⟩ hS ?_
        rotate_left
        · intro wq hSw; go_simp; try rfl
        simp only [Act.put, List.setIfInBounds_toArray, List.set_cons_zero, List.set_cons_succ]
        refine take_at 1 (some 27) (v := ?_) rfl rfl (by kernel_rfl) (by kernel_rfl) (by kernel_rfl) (fun _ _ _ h => h) ⟨by rfl, ?_⟩ hS ?_
        rotate_left
        · intro wq hSw; go_simp; try rfl
        simp only [Act.put, List.setIfInBounds_toArray, List.set_cons_zero, List.set_cons_succ]
        refine take_at 2 (some 28) (v := ?_) rfl rfl (by kernel_rfl) (by kernel_rfl) (by kernel_rfl) (fun _ _ _ h => h) ⟨by rfl, ?_⟩ hS ?_
        rotate_left
        · intro wq hSw; go_simp; try rfl
        simp only [Act.put, List.setIfInBounds_toArray, List.set_cons_zero, List.set_cons_succ]
        refine take_at 3 (some 29) (v := ?_) rfl rfl (by kernel_rfl) (by kernel_rfl) (by kernel_rfl) (fun _ _ _ h => h) ⟨by rfl, ?_⟩ hS ?_
        rotate_left
        · intro wq hSw; have q := (hSw.1.get 1 _ rfl).1; go_simp; try rfl
        simp only [Act.put, List.setIfInBounds_toArray, List.set_cons_zero, List.set_cons_succ]
        refine take_at 4 (some 30) (v := ?_) rfl rfl (by kernel_rfl) (by kernel_rfl) (by kernel_rfl) (fun _ _ _ h => h) ⟨by rfl, ?_⟩ hS ?_
        rotate_left
        · intro wq hSw; have q := loadKV hSw.2.1; have q1 := (hSw.2.1.get 0 _ rfl).1; have q2 := (hSw.2.1.get 1 _ rfl).1; go_simp; try rfl
        simp only [Act.put, List.setIfInBounds_toArray, List.set_cons_zero, List.set_cons_succ]
        refine take_at 5 (some 31) (v := ?_) rfl rfl (by kernel_rfl) (by kernel_rfl) (by kernel_rfl) (fun _ _ _ h => h) ⟨by rfl, ?_⟩ hS ?_
        rotate_left
        · intro wq hSw; have hr := hSw.2.2.look ht64 hc64; rw [netV_set, if_pos rfl, HG.out] at hr; simp only [Option.map_none, Option.map_some, Option.getD_none, Option.getD_some, Option.isSome_none, Option.isSome_some] at hr; go_simp; try rfl
        simp only [Act.put, List.setIfInBounds_toArray, List.set_cons_zero, List.set_cons_succ]
        refine take_at 6 (some 25) (v := ?_) rfl rfl (by kernel_rfl) (by kernel_rfl) (by kernel_rfl) (fun _ _ _ h => h) ⟨by rfl, ?_⟩ hS ?_
        rotate_left
        · intro wq hSw; go_simp; try rfl
        simp only [Act.put, List.setIfInBounds_toArray, List.set_cons_zero, List.set_cons_succ]
        refine take_at 7 (some 32) (v := ?_) rfl rfl (by kernel_rfl) (by kernel_rfl) (by kernel_rfl) (fun _ _ _ h => h) ⟨by rfl, ?_⟩ hS ?_
        rotate_left
        · intro wq hSw; go_simp; try rfl
        simp only [Act.put, List.setIfInBounds_toArray, List.set_cons_zero, List.set_cons_succ]
        refine take_at 8 (some 33) (v := ?_) rfl rfl (by kernel_rfl) (by kernel_rfl) (by kernel_rfl) (fun _ _ _ h => h) ⟨by rfl, ?_⟩ hS ?_
        rotate_left
        · intro wq hSw; go_simp; try rfl
        simp only [Act.put, List.setIfInBounds_toArray, List.set_cons_zero, List.set_cons_succ]
        refine take_at 9 (some 9) (v := ?_) rfl rfl (by kernel_rfl) (by kernel_rfl) (by kernel_rfl) (fun _ _ _ h => h) ⟨by rfl, ?_⟩ hS ?_
        rotate_left
        · intro wq hSw; go_simp; try rfl
        simp only [Act.put, List.setIfInBounds_toArray, List.set_cons_zero, List.set_cons_succ]
        refine take_at 10 (some 10) (v := ?_) rfl rfl (by kernel_rfl) (by kernel_rfl) (by kernel_rfl) (fun _ _ _ h => h) ⟨by rfl, ?_⟩ hS ?_
        rotate_left
        · intro wq hSw; go_simp; try rfl
        simp only [Act.put, List.setIfInBounds_toArray, List.set_cons_zero, List.set_cons_succ]
        refine wpAnyH_done (by kernel_rfl) ?_ _
        clear hS
        obtain ⟨lv2, x3, hap, hr3, hk3⟩ := run_hn x2 w.heap.size u5 t X R2.out c d (by omega) (by omega)
        have HAP := hide hap
        have HR3 := hide hr3
        have lvN : ∀ z, u5.ownBlock = some z → w.heap.size ≤ z ∧ z < N := fun z hz => by have := World.ownsRow.lt HR.out z hz; have := HN.out; omega
        have hbN : hb < w.heap.size := L1
        have mnN : mn < w.heap.size := L2
        have BX3 := hide (BX2.out.keep hk3 (fun q => by have := (lvN _ q).1; omega))
        have C3 := hide (C2.out.keep hk3 (fun q => by have := (lvN _ q).2; omega))
        have NM3 := hide (NM2.out.keep hk3 (fun q => by have := (lvN _ q).1; omega))
        have HK3 := hide hk3
        have sz3 : N + 1 ≤ x3.heap.size := by have := hk3.size; omega
        clear hap hr3 hk3
        go_upto_region 9 with (refine wpList_run rfl _ _ rfl rfl rfl HAP.out ?_)
        refine wp_region_held_drew (S := fun wq => Cells wq hb [rv, .map (some mn), .map (some mh)] ∧ Cells wq N [.int .i64 t, .int .i64 c]) (by kernel_rfl) ⟨BX3.out, C3.out⟩ (fun hS => ?_)
        have BX4 := hide (BX3.out.below (Below.refl _ _).drew)
        have C4 := hide (C3.out.below (Below.refl _ _).drew)
        have NM4 := hide (NM3.out.below (Below.refl _ _).drew)
        have R4 := hide (GRow.below HR3.out (Below.refl _ _).drew)
        have K4 := hide HK3.out.drew
        have sz4 : N + 1 ≤ x3.drew.heap.size := sz3
        clear BX3 C3 NM3 HR3 HK3 sz3 HAP
        generalize x3.drew = x4 at *
        refine take_at 0 (some 42) (v := ?_) rfl rfl (by kernel_rfl) (by kernel_rfl) (by kernel_rfl) (fun _ _ _ h => h) ⟨by rfl, ?_⟩ hS ?_
        rotate_left
        · intro wq hSw; go_simp; try rfl
        simp only [Act.put, List.setIfInBounds_toArray, List.set_cons_zero, List.set_cons_succ]
        refine take_at 1 (some 43) (v := ?_) rfl rfl (by kernel_rfl) (by kernel_rfl) (by kernel_rfl) (fun _ _ _ h => h) ⟨by rfl, ?_⟩ hS ?_
        rotate_left
        · intro wq hSw; go_simp; try rfl
        simp only [Act.put, List.setIfInBounds_toArray, List.set_cons_zero, List.set_cons_succ]
        refine take_at 2 (some 44) (v := ?_) rfl rfl (by kernel_rfl) (by kernel_rfl) (by kernel_rfl) (fun _ _ _ h => h) ⟨by rfl, ?_⟩ hS ?_
        rotate_left
        · intro wq hSw; go_simp; try rfl
        simp only [Act.put, List.setIfInBounds_toArray, List.set_cons_zero, List.set_cons_succ]
        refine take_at 3 (some 45) (v := ?_) rfl rfl (by kernel_rfl) (by kernel_rfl) (by kernel_rfl) (fun _ _ _ h => h) ⟨by rfl, ?_⟩ hS ?_
        rotate_left
        · intro wq hSw; have q := (hSw.1.get 1 _ rfl).1; go_simp; try rfl
        simp only [Act.put, List.setIfInBounds_toArray, List.set_cons_zero, List.set_cons_succ]
        refine take_at 4 (some 46) (v := ?_) rfl rfl (by kernel_rfl) (by kernel_rfl) (by kernel_rfl) (fun _ _ _ h => h) ⟨by rfl, ?_⟩ hS ?_
        rotate_left
        · intro wq hSw; have q := loadKV hSw.2; have q1 := (hSw.2.get 0 _ rfl).1; have q2 := (hSw.2.get 1 _ rfl).1; go_simp; try rfl
        simp only [Act.put, List.setIfInBounds_toArray, List.set_cons_zero, List.set_cons_succ]
        obtain ⟨x5, hd5, nm5, hg5⟩ := NM4.out.del_run ht64 hc64
        have k45 := grown_m hg5
        have HD5 := hide hd5
        have KK := hide k45
        have s7 : Cells x5 hb [rv, .map (some mn), .map (some mh)] := BX4.out.keep k45 d1
        have s8 : Cells x5 N [.int .i64 t, .int .i64 c] := C4.out.keep k45 (by omega)
        have R5 : HRow x5 w.heap.size lv2 _ := GRow.keep R4.out k45 (fun g hg q => by have := (World.ownsRow.lt R4.out g hg).1; omega)
        clear k45 hd5 hg5
        refine wpAnyH_ready (rs := [5]) (by kernel_rfl) (by simp) ?_
        refine AllReadyH.cons rfl (fun K hK => ?_) AllReadyH.nil
        refine wp_del (.tmp 45) (.tmp 46) rfl rfl rfl rfl (HD5.out _) rfl ?_
        refine hK.out _ _ ⟨s7, s8⟩ (fun hS => ?_)
        clear hK K hS s7 s8 HD5
        (try simp only [Act.put, List.setIfInBounds_toArray, List.set_cons_zero, List.set_cons_succ])
        refine wpAnyH_done (by kernel_rfl) ?_ _
        go_wp2_with fail
        go_roundw
        case rel =>
          refine ⟨k + 1, by omega, by go_num, ?_, ?_, ?_⟩
          · rw [GT.out]; unfold gS; rw [hgm]; exact R5
          · rw [GT.out]; unfold gS; rw [hgm]; exact nm5
          · have e1 := HK.out.trans (Keep.of_below (S := fun _ => False) (by rw [HN.out]; exact b2.out)) (fun _ _ q => q.elim)
            have e2 := e1.trans K4.out (fun j hj q => by have := (lvN _ q).1; omega)
            exact e2.trans KK.out (fun _ _ q => q)
        case measure => simp [intOf]; omega
    · have hek : k = ids.length := by omega
      subst hek
      rw [List.take_length] at hrow hnm
      have hG := hGF ids.length
      rw [List.take_length] at hG
      obtain ⟨g1, g2⟩ := hG.done (fun p hp => by
        have := hcov p.1 (by have := getM_of_mem hup hp; rw [this]; rfl)
        exact this)
      rw [g1] at hnm
      generalize (gF ids (S t, [])).2 = X at *
      have hm1 := anyAt_keep HP.out.hm hkeep (fun q => d3 q.symm)
      obtain ⟨w3, hdel, hm3, hg3⟩ := any_del hm1 ht64
      have k3 := grown_m hg3
      have kk : Keep (fun z => z = mn ∨ z = mh) w w3 := (hkeep.mono (T := fun z => z = mn ∨ z = mh) (fun _ _ q => .inl q)).trans k3 (fun _ _ q => .inr q)
      have hrow3 : HRow w3 w.heap.size u5 (ofT t X) := GRow.keep hrow k3 (fun g hg q => by have := (World.ownsRow.lt hrow g hg).1; omega)
      have hnm3 := hnm.keep k3 d3
      have HD := hide hdel
      have HR := hide hrow3
      have HM3 := hide hm3
      have HN3 := hide hnm3
      have HK := hide kk
      have hs3 : w.heap.size ≤ w3.heap.size := kk.size
      clear hdel hrow3 hm3 hnm3 kk k3 hg3 hm1 hkeep hnm bx hrow
      go_wp2_with (refine wpList_del rfl _ _ rfl rfl rfl (HD.out _) ?_)
      refine (sortH_any w.heap.size u5 t X (S t) w3 HR.out hup g2 hid hs3).mono ?_
      rintro e w4 ⟨rfl, r4, k4⟩
      have k34 : Keep (fun z => z = mn ∨ z = mh) w w4 := HK.out.trans k4 (fun j hj q => by have := (World.ownsRow.lt HR.out j q).1; omega)
      have nm4 := HN3.out.keep k4 (fun q => by have := (World.ownsRow.lt HR.out _ q).1; omega)
      have hm4 := anyAt_keep HM3.out k4 (fun q => by have := (World.ownsRow.lt HR.out _ q).1; omega)
      go_wp2_with fail
      go_ret
      exact ⟨u5, rfl, r4, HP.out.taken k34 nm4 hm4, k34⟩
end Go.Proofs.Ytlloppalagddnaa
