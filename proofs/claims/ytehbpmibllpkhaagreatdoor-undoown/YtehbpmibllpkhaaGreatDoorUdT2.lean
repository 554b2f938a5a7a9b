import Derived.Test.YtehbpmibllpkhaaGreatDoorUdT1
import Derived.Test.YtehbpmibllpkhaaGreatDoorUd14
set_option linter.all false
namespace Go.Proofs.YtehbpmibllpkhaaGreatDoor
open Go.RowKit Go.QK Go.Maps Go.QM Go.QU
set_option maxRecDepth 100000
section
variable {ops : Array Oper} {rest : List Oper} {a : Act} {w : World} {Q : Exit → Act → World → Prop} {d : Option Tmp} {ty t : TypeId} {ps : String} {af : Array Edge} {x y : Operand} {b : Nat} {cs cs' : Array Value} {ds : TypeDesc}
theorem wpList_ldG {off : Nat} (hu : Tryz.prog.underlying t = some ds) (hd : (match ds with | .struct _ | .array _ _ => true | _ => false) = true) (hi : (Tryz.prog.info? t).map (·.size) = some cs.size) (hc : ∀ j v, cs.toList[j]? = some v → w.cell? ⟨b, off + j, none⟩ = some v) (hx : a.eval x = .pointer (some ⟨b, off, none⟩)) (h : wpList Tryz.prog ops Q rest (a.put d (.agg cs)) w) :
    wpList Tryz.prog ops Q ({ dst := d, op := .load t x, type := ty, pos := ps, after := af, guard := none } :: rest) a w := by
  have hrun := run_loadAt w b off t cs _ hc hu hd hi
  refine wpList_plain rfl fun K hK => ?_
  unfold Oper.wp execOp
  simp only [hx, Instr.loadAt, Instr.sureAddr, Sem.run_bind, Sem.run_pure, Result.andThen_ok, hrun]
  exact hK _ _ h
theorem wpList_stG (hi : (Tryz.prog.info? t).map (·.size) = some cs'.size) (hb : RBox w b t cs) (hs : cs.size = cs'.size) (h1 : cs'.toList.all (·.oneCell') = true) (hx : a.eval x = .pointer (some ⟨b, 0, none⟩)) (hy : a.eval y = .agg cs')
    (h : ∀ w', RBox w' b t cs' → Keep (fun k => k = b) w w' → wpList Tryz.prog ops Q rest (a.put d undef) w') :
    wpList Tryz.prog ops Q ({ dst := d, op := .store t x y, type := ty, pos := ps, after := af, guard := none } :: rest) a w := by
  have hrun := run_storeVar_row (P := Tryz.prog) w b t t cs cs' hb hi hs (by rw [← Array.all_toList]; exact h1)
  refine wpList_plain rfl fun K hK => ?_
  unfold Oper.wp execOp
  simp only [hx, hy, Instr.storeAt, Instr.sureAddr, Sem.run_bind, Sem.run_pure, Result.andThen_ok, hrun]
  exact hK _ _ (h _ (RBox.setRow hb cs') (keep_setRow _ _ _))
end
theorem size133 : (Tryz.prog.info? 133).map (·.size) = some 5 := by kernel_rfl
theorem size171 : (Tryz.prog.info? 171).map (·.size) = some 9 := by kernel_rfl
abbrev opA (x : OpM) : Array Value := #[.int .i64 x.tx, .int .i64 x.last, .bool x.com, x.nv, x.hv]
abbrev plA (x : PL) : Array Value := #[.int .i64 x.id, .int .i64 x.grp, .int .i64 x.lo, .int .i64 x.hi, .int .i64 x.val, .int .i64 x.wp, .int .i64 x.wi, .int .i64 x.sp, .int .i64 x.si]
section
variable {w w' : World} {B sb : Nat} {s : SV}
/-- One that lives, cell by cell. -/
theorem Sty.openAt (h : Sty w B sb s) {t : Nat} (ht : t < s.V.length) : ∃ g c, s.vV = .slice (some ⟨g, 0, none⟩) s.V.length c ∧ (∀ wq, Below w.heap.size w wq → ∀ j v, (opA s.V[t]).toList[j]? = some v → wq.cell? ⟨g, t * 5 + j, none⟩ = some v) := by
  obtain ⟨g, c, e, -⟩ := grow_open h.v (by omega)
  have hv := h.v
  rw [e] at hv
  obtain ⟨_, _, e1, li, -⟩ := GRow.lies hv
  cases e1
  obtain ⟨b, off, e2, hb, hc⟩ := Lies.rowAt opC 5 opC_len li t ht (by decide)
  cases e2
  refine ⟨g, c, e, fun wq hq j v hj => ?_⟩
  have q := hc j v hj
  rw [Nat.zero_add] at q
  exact (hq.cell (p := ⟨g, t * 5 + j, none⟩) hb).trans q
theorem Sty.placeAt (h : Sty w B sb s) {k : Nat} (hk : k < s.P.length) : ∃ g c, s.vL = .slice (some ⟨g, 0, none⟩) s.P.length c ∧ (∀ wq, Below w.heap.size w wq → ∀ j v, (plA s.P[k]).toList[j]? = some v → wq.cell? ⟨g, k * 9 + j, none⟩ = some v) := by
  obtain ⟨g, c, e, -⟩ := grow_open h.l (by omega)
  have hv := h.l
  rw [e] at hv
  obtain ⟨_, _, e1, li, -⟩ := GRow.lies hv
  cases e1
  obtain ⟨b, off, e2, hb, hc⟩ := Lies.rowAt plC 9 plC_len li k hk (by decide)
  cases e2
  refine ⟨g, c, e, fun wq hq j v hj => ?_⟩
  have q := hc j v hj
  rw [Nat.zero_add] at q
  exact (hq.cell (p := ⟨g, k * 9 + j, none⟩) hb).trans q
end
theorem box_ne {w : World} {b b' : Nat} {t t' : TypeId} {cs cs' : Array Value} (h : RBox w b t cs) (h' : RBox w b' t' cs') (n : t ≠ t') : b ≠ b' := by
  intro e
  subst e
  have h1 : w.heap[b]? = some (.cells cs t) := h
  have h2 : w.heap[b]? = some (.cells cs' t') := h'
  rw [h1] at h2
  cases h2
  exact n rfl
theorem box_row {w : World} {b : Nat} {t : TypeId} {cs : Array Value} {B e size n : Nat} {v : Value} {xs : List Value} (h : RBox w b t cs) (h' : GRow w B e size v n xs) (ne : t ≠ e) : v.ownBlock ≠ some b := by
  intro q
  obtain ⟨cur, e1⟩ := grow_ty h' q
  rw [show w.heap[b]? = some (.cells cs t) from h] at e1
  cases e1
  exact ne rfl
theorem nets_open {w : World} {B : Nat} {vS : Value} {o : OpM} (h : OpOk w B vS o) : ∃ a c a2 c2, o.nv = .slice a 200 c ∧ o.hv = .slice a2 200 c2 := by
  obtain ⟨xs, _, h1⟩ := h.n
  obtain ⟨bs, _, h2⟩ := h.h
  obtain ⟨a, c, e1, -⟩ := GRow.lies h1
  obtain ⟨a2, c2, e2, -⟩ := GRow.lies h2
  exact ⟨a, c, a2, c2, e1, e2⟩
set_option maxHeartbeats 8000000 in
theorem change_any {w : World} {B sb : Nat} {s : SV} (h : Sty w B sb s) (kd d : Int) (t k : Nat) (ht : t < s.V.length) (hk : k < s.P.length) (hd : I64 d) (hl : s.R.length ≤ 1000) (hB : B ≤ w.heap.size) (hV : s.V.length ≤ 1000) (hP : s.P.length ≤ 1000) :
    Calls Tryz.prog 56 #[ptr sb, .int .i64 kd, .int .i64 (t : Int), .int .i64 (k : Int), .int .i64 d] w fun e w' => e = .returned (.tuple #[]) ∧ ∃ (s' : SV), Sty w' B sb s' ∧ s'.R.length = s.R.length + 1 ∧ s'.V.length = s.V.length ∧ s'.P = s.P ∧ s'.G = s.G ∧ s'.I = s.I ∧ s'.S = s.S ∧ s'.vS = s.vS ∧ (∀ i (h1 : i < s.V.length) (h2 : i < s'.V.length), s'.V[i].nv = s.V[i].nv ∧ s'.V[i].hv = s.V[i].hv ∧ s'.V[i].com = s.V[i].com ∧ s'.V[i].tx = s.V[i].tx) ∧ s'.vV = s.vV ∧ Keep (fun j => j = sb ∨ s.vR.ownBlock = some j ∨ s.vV.ownBlock = some j) w w' ∧ Below B w w' := by
  obtain ⟨gV, cV, eV, hOP⟩ := h.openAt ht
  obtain ⟨gL, cL, eL, hPL⟩ := h.placeAt hk
  have H := hide h
  have OPC := hide hOP
  have PLC := hide hPL
  have hpid := h.pok _ (List.getElem_mem hk)
  obtain ⟨op, hop⟩ : ∃ z, z = s.V[t] := ⟨_, rfl⟩
  obtain ⟨pl, hpl⟩ : ∃ z, z = s.P[k] := ⟨_, rfl⟩
  rw [← hop] at OPC
  rw [← hpl] at PLC hpid
  have HOP := hide hop
  obtain ⟨nV, hnV⟩ : ∃ z, z = s.V.length := ⟨_, rfl⟩
  obtain ⟨nL, hnL⟩ : ∃ z, z = s.P.length := ⟨_, rfl⟩
  rw [← hnV] at eV ht hV
  rw [← hnL] at eL hk hP
  have NV := hide hnV
  have NL := hide hnL
  have EV := hide eV
  have EL := hide eL
  have ft : (t : Int) < (nV : Int) := by omega
  have fk : (k : Int) < (nL : Int) := by omega
  have q5 := ((RBox.cells H.out.box).get 5 _ rfl).1
  have q2 := ((RBox.cells H.out.box).get 2 _ rfl).1
  rw [eV] at q5
  rw [eL] at q2
  obtain ⟨AO, hAO⟩ : ∃ z, z = opA op := ⟨_, rfl⟩
  obtain ⟨AP, hAP⟩ : ∃ z, z = plA pl := ⟨_, rfl⟩
  rw [← hAO] at OPC
  rw [← hAP] at PLC
  have SO := hide (show AO.size = 5 by rw [hAO]; rfl)
  have SP := hide (show AP.size = 9 by rw [hAP]; rfl)
  have c0 : AO.toList[0]? = some (.int .i64 op.tx) := by rw [hAO]; rfl
  have c1 : AO.toList[1]? = some (.int .i64 op.last) := by rw [hAO]; rfl
  have p0 : AP.toList[0]? = some (.int .i64 pl.id) := by rw [hAP]; rfl
  have p5 : AP.toList[5]? = some (.int .i64 pl.wp) := by rw [hAP]; rfl
  have p6 : AP.toList[6]? = some (.int .i64 pl.wi) := by rw [hAP]; rfl
  have p7 : AP.toList[7]? = some (.int .i64 pl.sp) := by rw [hAP]; rfl
  have p8 : AP.toList[8]? = some (.int .i64 pl.si) := by rw [hAP]; rfl
  obtain ⟨na, nc, ha, hc, env, ehv⟩ := nets_open (h.op _ (List.getElem_mem (by rw [← hnV]; exact ht)))
  rw [← hop] at env ehv
  have ONE := hide (show AO.toList.all (·.oneCell') = true by rw [hAO]; simp [env, ehv, Value.oneCell'])
  have ONP := hide (show AP.toList.all (·.oneCell') = true by rw [hAP]; rfl)
  have GL := hide (show gV < w.heap.size from (World.ownsRow.lt (by have := H.out.v; rw [EV.out] at this; exact this) gV rfl).2)
  have HD2 := hide hpid
  have hsb := H.out.box.lt
  have HSB := hide hsb
  clear hAO hAP h hOP hPL hpid hop hpl hnV hnL eV eL env ehv hsb
  go_enter Tryz.func56, Tryz.ntmps56
  go_upto_region 1 with (first
    | refine wpList_ldG Tryz.underlying133 rfl (by rw [SO.out]; exact size133) (OPC.out _ (Below.refl _ _)) rfl ?_
    | (refine wpList_stG (cs' := AO) (by rw [SO.out]; exact size133) (RBox.new _ _ _) (by rw [SO.out]; rfl) ONE.out rfl rfl ?_; intro w1 rb1 k1; have RB1 := hide rb1; have B1 := hide (newBox k1); clear rb1 k1)
    | fail)
  have H1 := hide (H.out.below B1.out)
  have q2 := ((RBox.cells H1.out.box).get 2 _ rfl).1
  rw [EL.out] at q2
  obtain ⟨X0, hX0⟩ : ∃ z, z = w.heap.size := ⟨_, rfl⟩
  rw [← hX0] at RB1 ⊢
  have HX0 := hide hX0
  clear hX0
  go_upto_region 2 with (first
    | refine wpList_ldG Tryz.underlying171 rfl (by rw [SP.out]; exact size171) (PLC.out _ B1.out) rfl ?_
    | (refine wpList_stG (cs' := AP) (by rw [SP.out]; exact size171) (RBox.new _ _ _) (by rw [SP.out]; rfl) ONP.out rfl rfl ?_; intro w2 rb2 k2; have RB2 := hide rb2; have B2 := hide (newBox k2); clear rb2 k2)
    | fail)
  obtain ⟨X1, hX1⟩ : ∃ z, z = w1.heap.size := ⟨_, rfl⟩
  rw [← hX1] at RB2 ⊢
  have HX1 := hide hX1
  clear hX1 q2
  have H2 := hide ((H1.out.below B2.out).below (Below.refl _ _).drew)
  have RB3 := hide (RBox.below (RBox.below RB1.out B2.out) (Below.refl _ _).drew)
  have RB4 := hide (RBox.below RB2.out (Below.refl w2.heap.size w2).drew)
  have BW := hide ((B1.out.trans (B2.out.mono B1.out.size)).drew)
  clear H1 RB1 RB2 B1 B2
  have q5 := ((RBox.cells H2.out.box).get 5 _ rfl).1
  rw [EV.out] at q5
  refine wp_region_held_drew (S := fun wq => wq.cell? ⟨sb, 5, none⟩ = some (.slice (some ⟨gV, 0, none⟩) nV cV) ∧ RBox wq X0 133 AO ∧ RBox wq X1 171 AP) (by kernel_rfl) ⟨q5, RB3.out, RB4.out⟩ (fun hS => ?_)
  clear q5
  generalize w2.drew = we at *
  refine take_at 0 (some 26) (v := ?_) rfl rfl (by kernel_rfl) (by kernel_rfl) (by kernel_rfl) (fun _ _ _ h => h) ⟨by rfl, ?_⟩ hS ?_
  rotate_left
  · intro wq hSw; go_simp; try rfl
  simp only [Act.put, List.setIfInBounds_toArray, List.set_cons_zero, List.set_cons_succ]
  refine take_at 1 (some 27) (v := ?_) rfl rfl (by kernel_rfl) (by kernel_rfl) (by kernel_rfl) (fun _ _ _ h => h) ⟨by rfl, ?_⟩ hS ?_
  rotate_left
  · intro wq hSw; go_simp; try rfl
  simp only [Act.put, List.setIfInBounds_toArray, List.set_cons_zero, List.set_cons_succ]
  refine take_at 2 (some 28) (v := ?_) rfl rfl (by kernel_rfl) (by kernel_rfl) (by kernel_rfl) (fun _ _ _ h => h) ⟨by rfl, ?_⟩ hS ?_
  rotate_left
  · intro wq hSw; go_simp; try rfl
  simp only [Act.put, List.setIfInBounds_toArray, List.set_cons_zero, List.set_cons_succ]
  refine take_at 3 (some 29) (v := ?_) rfl rfl (by kernel_rfl) (by kernel_rfl) (by kernel_rfl) (fun _ _ _ h => h) ⟨by rfl, ?_⟩ hS ?_
  rotate_left
  · intro wq hSw; have s5 := hSw.1; go_simp; try rfl
  simp only [Act.put, List.setIfInBounds_toArray, List.set_cons_zero, List.set_cons_succ]
  refine take_at 4 (some 30) (v := ?_) rfl rfl (by kernel_rfl) (by kernel_rfl) (by kernel_rfl) (fun _ _ _ h => h) ⟨by rfl, ?_⟩ hS ?_
  rotate_left
  · intro wq hSw; go_simp; try rfl
  simp only [Act.put, List.setIfInBounds_toArray, List.set_cons_zero, List.set_cons_succ]
  refine take_at 5 (some 31) (v := ?_) rfl rfl (by kernel_rfl) (by kernel_rfl) (by kernel_rfl) (fun _ _ _ h => h) ⟨by rfl, ?_⟩ hS ?_
  rotate_left
  · intro wq hSw; go_simp; try rfl
  simp only [Act.put, List.setIfInBounds_toArray, List.set_cons_zero, List.set_cons_succ]
  refine take_at 6 (some 32) (v := ?_) rfl rfl (by kernel_rfl) (by kernel_rfl) (by kernel_rfl) (fun _ _ _ h => h) ⟨by rfl, ?_⟩ hS ?_
  rotate_left
  · intro wq hSw; go_simp; try rfl
  simp only [Act.put, List.setIfInBounds_toArray, List.set_cons_zero, List.set_cons_succ]
  refine take_at 7 (some 33) (v := ?_) rfl rfl (by kernel_rfl) (by kernel_rfl) (by kernel_rfl) (fun _ _ _ h => h) ⟨by rfl, ?_⟩ hS ?_
  rotate_left
  · intro wq hSw; go_simp; try rfl
  simp only [Act.put, List.setIfInBounds_toArray, List.set_cons_zero, List.set_cons_succ]
  refine take_at 8 (some 34) (v := ?_) rfl rfl (by kernel_rfl) (by kernel_rfl) (by kernel_rfl) (fun _ _ _ h => h) ⟨by rfl, ?_⟩ hS ?_
  rotate_left
  · intro wq hSw; have o0 := ((RBox.cells hSw.2.1).get 0 _ c0).1; go_simp; try rfl
  simp only [Act.put, List.setIfInBounds_toArray, List.set_cons_zero, List.set_cons_succ]
  refine take_at 9 (some 35) (v := ?_) rfl rfl (by kernel_rfl) (by kernel_rfl) (by kernel_rfl) (fun _ _ _ h => h) ⟨by rfl, ?_⟩ hS ?_
  rotate_left
  · intro wq hSw; go_simp; try rfl
  simp only [Act.put, List.setIfInBounds_toArray, List.set_cons_zero, List.set_cons_succ]
  refine take_at 10 (some 36) (v := ?_) rfl rfl (by kernel_rfl) (by kernel_rfl) (by kernel_rfl) (fun _ _ _ h => h) ⟨by rfl, ?_⟩ hS ?_
  rotate_left
  · intro wq hSw; have o1 := ((RBox.cells hSw.2.1).get 1 _ c1).1; go_simp; try rfl
  simp only [Act.put, List.setIfInBounds_toArray, List.set_cons_zero, List.set_cons_succ]
  refine take_at 11 (some 37) (v := ?_) rfl rfl (by kernel_rfl) (by kernel_rfl) (by kernel_rfl) (fun _ _ _ h => h) ⟨by rfl, ?_⟩ hS ?_
  rotate_left
  · intro wq hSw; go_simp; try rfl
  simp only [Act.put, List.setIfInBounds_toArray, List.set_cons_zero, List.set_cons_succ]
  refine take_at 12 (some 38) (v := ?_) rfl rfl (by kernel_rfl) (by kernel_rfl) (by kernel_rfl) (fun _ _ _ h => h) ⟨by rfl, ?_⟩ hS ?_
  rotate_left
  · intro wq hSw; have u5 := ((RBox.cells hSw.2.2).get 5 _ p5).1; have u6 := ((RBox.cells hSw.2.2).get 6 _ p6).1; go_simp; try rfl
  simp only [Act.put, List.setIfInBounds_toArray, List.set_cons_zero, List.set_cons_succ]
  refine take_at 13 (some 39) (v := ?_) rfl rfl (by kernel_rfl) (by kernel_rfl) (by kernel_rfl) (fun _ _ _ h => h) ⟨by rfl, ?_⟩ hS ?_
  rotate_left
  · intro wq hSw; go_simp; try rfl
  simp only [Act.put, List.setIfInBounds_toArray, List.set_cons_zero, List.set_cons_succ]
  refine take_at 14 (some 40) (v := ?_) rfl rfl (by kernel_rfl) (by kernel_rfl) (by kernel_rfl) (fun _ _ _ h => h) ⟨by rfl, ?_⟩ hS ?_
  rotate_left
  · intro wq hSw; have u7 := ((RBox.cells hSw.2.2).get 7 _ p7).1; have u8 := ((RBox.cells hSw.2.2).get 8 _ p8).1; go_simp; try rfl
  simp only [Act.put, List.setIfInBounds_toArray, List.set_cons_zero, List.set_cons_succ]
  refine take_at 15 (some 41) (v := ?_) rfl rfl (by kernel_rfl) (by kernel_rfl) (by kernel_rfl) (fun _ _ _ h => h) ⟨by rfl, ?_⟩ hS ?_
  rotate_left
  · intro wq hSw; go_simp; try rfl
  simp only [Act.put, List.setIfInBounds_toArray, List.set_cons_zero, List.set_cons_succ]
  refine take_at 16 (some 42) (v := ?_) rfl rfl (by kernel_rfl) (by kernel_rfl) (by kernel_rfl) (fun _ _ _ h => h) ⟨by rfl, ?_⟩ hS ?_
  rotate_left
  · intro wq hSw; go_simp; try rfl
  simp only [Act.put, List.setIfInBounds_toArray, List.set_cons_zero, List.set_cons_succ]
  refine take_at 17 (some 43) (v := ?_) rfl rfl (by kernel_rfl) (by kernel_rfl) (by kernel_rfl) (fun _ _ _ h => h) ⟨by rfl, ?_⟩ hS ?_
  rotate_left
  · intro wq hSw; go_simp; try rfl
  simp only [Act.put, List.setIfInBounds_toArray, List.set_cons_zero, List.set_cons_succ]
  refine take_at 18 (some 44) (v := ?_) rfl rfl (by kernel_rfl) (by kernel_rfl) (by kernel_rfl) (fun _ _ _ h => h) ⟨by rfl, ?_⟩ hS ?_
  rotate_left
  · intro wq hSw; have u0 := ((RBox.cells hSw.2.2).get 0 _ p0).1; go_simp; try rfl
  simp only [Act.put, List.setIfInBounds_toArray, List.set_cons_zero, List.set_cons_succ]
  refine take_at 19 (some 45) (v := ?_) rfl rfl (by kernel_rfl) (by kernel_rfl) (by kernel_rfl) (fun _ _ _ h => h) ⟨by rfl, ?_⟩ hS ?_
  rotate_left
  · intro wq hSw; go_simp; try rfl
  simp only [Act.put, List.setIfInBounds_toArray, List.set_cons_zero, List.set_cons_succ]
  refine take_at 20 (some 46) (v := ?_) rfl rfl (by kernel_rfl) (by kernel_rfl) (by kernel_rfl) (fun _ _ _ h => h) ⟨by rfl, ?_⟩ hS ?_
  rotate_left
  · intro wq hSw; go_simp; try rfl
  simp only [Act.put, List.setIfInBounds_toArray, List.set_cons_zero, List.set_cons_succ]
  refine wpAnyH_ready (rs := [21]) (by kernel_rfl) (by simp) ?_
  refine AllReadyH.cons rfl (fun K hK => ?_) AllReadyH.nil
  go_simp
  go_wp2_with fail
  refine (writes_any H2.out ⟨0, kd, op.tx, op.last, pl.wp, pl.wi, pl.sp, pl.si, d, pl.id, 0, 0, 0, 0, none, 0, 0, none, 0, 0, 0⟩ ⟨hd, HD2.out⟩ hl (Nat.le_trans hB BW.out.size)).mono ?_
  rintro e w3 ⟨z, v', rfl, h3, k3⟩
  have H3 := hide h3
  have n1 := box_ne RB3.out H2.out.box (by decide)
  have n2 := box_row RB3.out H2.out.r (by decide)
  have n3 := box_ne RB4.out H2.out.box (by decide)
  have n4 := box_row RB4.out H2.out.r (by decide)
  have RB5 := hide (RB3.out.keep k3 (fun q => q.elim n1 n2))
  have RB6 := hide (RB4.out.keep k3 (fun q => q.elim n3 n4))
  have q5 := ((RBox.cells H3.out.box).get 5 _ rfl).1
  have e5 := EV.out
  simp only at q5
  rw [e5] at q5
  have B3 := hide (show Below B w w3 from bkeep (BW.out.mono hB) k3 hB (fun j hj => by
    rcases hj with q | q
    · rw [q]; exact H2.out.hb
    · exact (World.ownsRow.lt H2.out.r j q).1))
  have KK3 := hide (show Keep (fun j => j = sb ∨ s.vR.ownBlock = some j ∨ s.vV.ownBlock = some j) w w3 from (Keep.of_below BW.out).trans k3 (fun _ _ q => q.elim .inl (fun z => .inr (.inl z))))
  clear h3 k3 n1 n2 n3 n4 H2 RB3 RB4 BW
  go_wp2_with fail
  refine hK.out _ _ ⟨q5, RB5.out, RB6.out⟩ (fun hS => ?_)
  clear hK K
  (try simp only [Act.put, List.setIfInBounds_toArray, List.set_cons_zero, List.set_cons_succ])
  clear q5
  refine take_at 22 (some 48) (v := ?_) rfl rfl (by kernel_rfl) (by kernel_rfl) (by kernel_rfl) (fun _ _ _ h => h) ⟨by rfl, ?_⟩ hS ?_
  rotate_left
  · intro wq hSw; go_simp; try rfl
  simp only [Act.put, List.setIfInBounds_toArray, List.set_cons_zero, List.set_cons_succ]
  refine take_at 23 (some 49) (v := ?_) rfl rfl (by kernel_rfl) (by kernel_rfl) (by kernel_rfl) (fun _ _ _ h => h) ⟨by rfl, ?_⟩ hS ?_
  rotate_left
  · intro wq hSw; go_simp; try rfl
  simp only [Act.put, List.setIfInBounds_toArray, List.set_cons_zero, List.set_cons_succ]
  have hv3 := H3.out.v
  simp only at hv3
  rw [EV.out, ← NV.out] at hv3
  have y1 : w3.cell? ⟨gV, t * 5 + 1, none⟩ = some (.int .i64 op.last) := by
    obtain ⟨g2, c2, e2, q⟩ := H3.out.openAt (t := t) (by show t < s.V.length; rw [← NV.out]; exact ht)
    have e3 : s.vV = _ := e2
    rw [EV.out] at e3
    injection e3 with i1 i2 i3
    cases i1
    refine q _ (Below.refl _ _) 1 _ ?_
    show (opA s.V[t]).toList[1]? = _
    rw [← HOP.out]; rfl
  have f1 := World.ownsRow.frozenAt hv3 (t * 5 + 1)
  skip
  refine wpAnyH_ready (rs := [24]) (by kernel_rfl) (by simp) ?_
  refine AllReadyH.cons rfl (fun K hK => ?_) AllReadyH.nil
  go_simp
  (try go_wp2_with fail)
  have tv := ofty_row hv3
  have kk := ((Keep.refl (fun z => z = gV) w3).setCell (g := gV) (j := t * 5 + 1) (fun _ => rfl) (.int .i64 z))
  have tg : OfTy w3 133 (fun z => z = gV) := fun y hy e => by subst e; exact grow_ty hv3 rfl
  have bx := RBox.keepT H3.out.box kk tg (by decide)
  have q5 := ((RBox.cells bx).get 5 _ rfl).1
  simp only at q5
  rw [EV.out] at q5
  refine hK.out _ _ ⟨q5, RB5.out.keep kk (fun q => by have := GL.out; have := HX0.out; omega), RBox.keepT RB6.out kk tg (by decide)⟩ (fun hS => ?_)
  clear hK K
  (try simp only [Act.put, List.setIfInBounds_toArray, List.set_cons_zero, List.set_cons_succ])
  clear hS q5 bx tv y1 f1
  refine wpAnyH_done (by kernel_rfl) ?_ _
  have H4 := H3.out.setOpen (g := gV) (c := cV) (t := t) (by show t < s.V.length; rw [← NV.out]; exact ht) (by show s.vV = .slice _ s.V.length _; rw [EV.out, NV.out]) (j := 1) (u := .int .i64 z) (o' := { op with last := z }) (by show (opC s.V[t]).set 1 _ = _; rw [← HOP.out]; rfl) (by decide) (by show op.nv = s.V[t].nv; rw [HOP.out]) (by show op.hv = s.V[t].hv; rw [HOP.out])
  have B4 := bkeep B3.out kk hB (fun j hj => by rw [hj]; exact (World.ownsRow.lt hv3 gV rfl).1)
  have H5 := hide H4
  have B5 := hide B4
  have K5 := hide (KK3.out.trans kk (fun _ _ q => by rw [q, EV.out]; exact .inr (.inr rfl)))
  clear H4 B4 kk tg hv3
  go_wp2_with fail
  go_end0
  refine ⟨rfl, _, H5.out, by simp, by simp, rfl, rfl, rfl, rfl, rfl, ?_, by show s.vV = _; exact EV.out, by have := K5.out; rw [EV.out] at this; exact this, B5.out⟩
  intro i h1 h2
  show (s.V.set t _)[i].nv = _ ∧ (s.V.set t _)[i].hv = _ ∧ (s.V.set t _)[i].com = _ ∧ (s.V.set t _)[i].tx = _
  rw [List.getElem_set]
  split
  · rename_i e
    subst e
    rw [HOP.out]
    exact ⟨rfl, rfl, rfl, rfl⟩
  · exact ⟨rfl, rfl, rfl, rfl⟩
end Go.Proofs.YtehbpmibllpkhaaGreatDoor
