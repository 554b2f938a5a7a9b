import Derived.Test.YtllpfojkbeloeaaDoorBook
import Derived.Test.YtllpfojkbeloeaaDoorParts
namespace Go.Proofs.YtllpfojkbeloeaaDoor
open Go.RowKit Go.QK

/-- 'append(rows, x)' of a list, as one operation of a region. -/
theorem wp_push {o : Oper} {a : Act} {x : World} {K : Act → World → Prop} {Q : Exit → Act → World → Prop} {cond : Bool} (d : Nat) (s t : Operand) (hc : cond = true) (hd : o.dst = some d)
    (ho : o.op = .call { callee := .builtin .append, args := #[s, t], argTypes := #[61, 61] })
    (B : Nat) (v : Value) (vs : List Value) (hs : a.eval s = v) (ad : Addr) (y : Value) (hx : a.eval t = .slice (some ad) 1 1) (hown : SRow x B v vs) (hcell : x.cell? ad = some y) (hy : y.oneCell' = true)
    (h63 : vs.length + 1 ≤ 2000000) (hB : B ≤ x.heap.size)
    (h : ∀ v' x', SRow x' B v' (vs ++ [y]) → x.grownBy x' v.ownBlock → (v'.ownBlock = v.ownBlock ∨ v'.ownBlock = some x.heap.size) → K (a.put (some d) v') x') : if cond = true then Oper.wp Tryd.prog o a x K Q else K (a.put o.dst undef) x := by
  rw [if_pos hc]
  obtain ⟨i0, hi, hz⟩ : ∃ i0, Tryd.prog.info? 29 = some i0 ∧ i0.zero = some (.slice none 0 0) ∧ i0.size = 1 ∧ i0.bytes = 24 := by
    have := info29
    cases hq : Tryd.prog.info? 29 with
    | none => rw [hq] at this; cases this
    | some i0 =>
      rw [hq] at this
      simp only [Option.map_some, Option.some.injEq, Prod.mk.injEq] at this
      exact ⟨i0, rfl, this⟩
  obtain ⟨v', w', hr, h2, h3, h4, h5⟩ := run_append_own_at (P := Tryd.prog) x B 61 o.type 29 i0 (.slice none 0 0) 1 24 und61 hi hz.1 hz.2.1 hz.2.2 rfl (by decide) v vs.length _ hown ad 1 1 [y] rfl
    (by
      intro j u hj
      match j, hj with
      | 0, hj =>
        simp at hj
        subst hj
        simpa [Addr.add] using hcell)
    (by
      intro u hu
      simp at hu
      subst hu
      exact hy) (by unfold maxLen; omega) (by omega) hB
  have hrun : (execOp a.eval o).run Tryd.prog x = .ok (.value v') w' := by
    unfold execOp
    simp only [ho, resolve, invoke, builtin, Sem.run_bind, Sem.run_pure, Result.andThen_ok, List.map_toArray, List.map_cons, List.map_nil, hs, hx, hr]
  unfold Oper.wp
  rw [hrun]
  show K (a.put o.dst v') w'
  rw [hd]
  exact h v' w' (by unfold SRow; simpa using h2) h3 h5

/-- 'append(l, x)' of a byte leaves l's own bytes, whether there was room or not. -/
theorem more_kept {x w' : World} {B c y ty : Nat} {a : Option Addr} {l : List Nat} {v' : Value} {ad : Addr} (hown : OwnB x B (.slice a l.length c) l) (hc : x.cell? ad = some (.int .u8 (y : Int))) (hl : l.length ≤ 1000000)
    (hr : (Builtin.append_ #[29, 29] ty #[.slice a l.length c, .slice (some ad) 1 1]).run Tryd.prog x = .ok v' w') (ho : OwnB w' B v' (l ++ [y])) : Bytes w' a l := by
  obtain ⟨i0, hi, hz0, hz1, hz2⟩ := info_parts info5
  have hnews : ∀ j u, [Value.int .u8 (y : Int)][j]? = some u → x.cell? (ad.add j) = some u := by
    intro j u hj
    match j, hj with
    | 0, hj =>
      simp at hj
      subst hj
      simpa [Addr.add] using hc
  have hlen : (ints l).length = l.length := ints_length l
  rcases hown.2 with ⟨_, hn⟩ | ⟨g, cap, cur, q, hbg, hg, hnc, hcm, hcs, htake⟩
  · rw [hlen] at hn
    have : l = [] := List.eq_nil_of_length_eq_zero hn
    subst this
    exact .inl rfl
  · rw [hlen] at q hnc htake
    simp only [Value.slice.injEq, true_and] at q
    obtain ⟨rfl, rfl⟩ := q
    by_cases hroom : l.length + 1 ≤ c
    · have := run_append_room (P := Tryd.prog) x 29 ty 5 i0 Tryd.underlying29 hi g l.length c cur hg ad 1 1 [.int .u8 (y : Int)] (by rw [hz1]; rfl) hnews (by intro u hu; simp at hu; subst hu; rfl) hroom (by rw [hz1]; simp; omega)
      rw [hr] at this
      simp only [Result.ok.injEq] at this
      rw [this.1] at ho
      have := Bytes.take (Owns.seen_at ho) l.length
      rw [List.take_left] at this
      exact this
    · have := run_append_grow (P := Tryd.prog) x 29 ty 5 i0 (.int .u8 0) Tryd.underlying29 hi hz0 ⟨g, 0, none⟩ l.length c ((ints l).map (Value.int .u8)) (by rw [hz1]; simp) (World.ownsRow.cells hown (g := g) rfl) ad 1 1 [.int .u8 (y : Int)] (by rw [hz1]; rfl) hnews (by omega) (by omega) (growslice_fits (by omega) (by rw [hz2]; omega))
      rw [hr] at this
      simp only [Result.ok.injEq] at this
      rw [this.2]
      exact Seen.below (Owns.seen_at hown) ((Below.refl _ x).drew.alloc (Nat.le_refl _) _)

/-- 'append(l, x)' of one byte, as one operation of a region: where the new list lies, and that l is as it was. -/
theorem wp_more {o : Oper} {a : Act} {x : World} {K : Act → World → Prop} {Q : Exit → Act → World → Prop} {cond : Bool} (d : Nat) (s t : Operand) (hc : cond = true) (hd : o.dst = some d)
    (ho : o.op = .call { callee := .builtin .append, args := #[s, t], argTypes := #[29, 29] })
    (B : Nat) (av : Option Addr) (c : Nat) (l : List Nat) (hs : a.eval s = .slice av l.length c) (hown : OwnB x B (.slice av l.length c) l) (ad : Addr) (y : Nat) (hx : a.eval t = .slice (some ad) 1 1) (hcell : x.cell? ad = some (.int .u8 (y : Int))) (hl : l.length ≤ 1000000) (hB : B ≤ x.heap.size)
    (h : ∀ v' x', OwnB x' B v' (l ++ [y]) → x.grownBy x' (Value.slice av l.length c).ownBlock → (v'.ownBlock = (Value.slice av l.length c).ownBlock ∨ v'.ownBlock = some x.heap.size) → Bytes x' av l → K (a.put (some d) v') x') : if cond = true then Oper.wp Tryd.prog o a x K Q else K (a.put o.dst undef) x := by
  rw [if_pos hc]
  obtain ⟨i0, hi, hz0, hz1, hz2⟩ := info_parts info5
  have hown' : x.ownsRow B 5 1 (.slice av l.length c) l.length ((ints l).map (Value.int .u8)) := by
    have h : x.ownsRow B 5 1 (.slice av l.length c) (ints l).length ((ints l).map (Value.int .u8)) := hown
    rw [ints_length] at h
    exact h
  obtain ⟨v', w', hr, h2, h3, h4, h5⟩ := run_append_own_at (P := Tryd.prog) x B 29 o.type 5 i0 (.int .u8 0) 1 1 Tryd.underlying29 hi hz0 hz1 hz2 rfl (by decide) (.slice av l.length c) l.length _ hown' ad 1 1 [.int .u8 (y : Int)] rfl
    (by
      intro j u hj
      match j, hj with
      | 0, hj =>
        simp at hj
        subst hj
        simpa [Addr.add] using hcell)
    (by
      intro u hu
      simp at hu
      subst hu
      rfl) (by unfold maxLen; omega) (by omega) hB
  have ho2 : OwnB w' B v' (l ++ [y]) := by
    unfold OwnB Owns
    rw [ints_append]
    simpa [ints] using h2
  have hrun : (execOp a.eval o).run Tryd.prog x = .ok (.value v') w' := by
    unfold execOp
    simp only [ho, resolve, invoke, builtin, Sem.run_bind, Sem.run_pure, Result.andThen_ok, List.map_toArray, List.map_cons, List.map_nil, hs, hx, hr]
  unfold Oper.wp
  rw [hrun]
  show K (a.put o.dst v') w'
  rw [hd]
  exact h v' w' ho2 h3 h5 (more_kept hown hcell hl hr ho2)

theorem wp_more' {o : Oper} {a : Act} {x : World} {K : Act → World → Prop} {Q : Exit → Act → World → Prop} {cond : Bool} (d : Nat) (s t : Operand) (hc : cond = true) (hd : o.dst = some d)
    (ho : o.op = .call { callee := .builtin .append, args := #[s, t], argTypes := #[29, 29] })
    (B : Nat) (av : Option Addr) (n c : Nat) (l : List Nat) (hn : l.length = n) (hs : a.eval s = .slice av n c) (hown : OwnB x B (.slice av n c) l) (ad : Addr) (y : Nat) (hx : a.eval t = .slice (some ad) 1 1) (hcell : x.cell? ad = some (.int .u8 (y : Int))) (hl : n ≤ 1000000) (hB : B ≤ x.heap.size)
    (h : ∀ v' x', OwnB x' B v' (l ++ [y]) → x.grownBy x' (Value.slice av n c).ownBlock → (v'.ownBlock = (Value.slice av n c).ownBlock ∨ v'.ownBlock = some x.heap.size) → Bytes x' av l → K (a.put (some d) v') x') : if cond = true then Oper.wp Tryd.prog o a x K Q else K (a.put o.dst undef) x := by
  subst hn
  exact wp_more d s t hc hd ho B av c l hs hown ad y hx hcell hl hB h
theorem marks_step (l : List Nat) (m q : Nat) (h : q < l.length) : (List.replicate q m ++ l.drop q).set q m = List.replicate (q + 1) m ++ l.drop (q + 1) := by
  rw [List.set_append_right _ _ (by simp), List.length_replicate, Nat.sub_self, List.drop_eq_getElem_cons h, List.set_cons_zero, List.replicate_succ']
  simp

set_option maxHeartbeats 1000000 in
set_option maxRecDepth 100000 in
theorem keeps_any (t o B : Nat) (cs : List Value) (aL : Option Addr) (cL : Nat) (aM : Option Addr) (cM : Nat) (Ls Ms : List Value) (a : Option Addr) (c : Nat) (l : List Nat) (w : World) (lab : Nat → Nat)
    (hB : B ≤ w.heap.size) (ht : Cells w t cs) (hcL : cs[o]? = some (.slice aL Ls.length cL)) (hcM : cs[o + 1]? = some (.slice aM Ms.length cM)) (hL : SRow w B (.slice aL Ls.length cL) Ls) (hM : SRow w B (.slice aM Ms.length cM) Ms) (hlen : Ms.length = Ls.length) (hn : Ls.length ≤ 100000)
    (hv : OwnB w B (.slice a l.length c) l) (hl : l.length ≤ 1000000) (lt : lab t = 0) (lL : ∀ b, (Value.slice aL Ls.length cL).ownBlock = some b → lab b = 5) (lM : ∀ b, (Value.slice aM Ms.length cM).ownBlock = some b → lab b = 6) (lv : ∀ b, (Value.slice a l.length c).ownBlock = some b → lab b = 100 + Ls.length) :
    Calls Tryd.prog 45 #[.pointer (some ⟨t, o, none⟩), .slice a l.length c] w fun e w' => e = .returned (.tuple #[]) ∧ ∃ (lab' : Nat → Nat) (vL vM u : Value), (∀ b, b < w.heap.size → lab' b = lab b) ∧ Cells w' t ((cs.set o vL).set (o + 1) vM) ∧ SRow w' B vL (Ls ++ [.slice a l.length c]) ∧ SRow w' B vM (Ms ++ [u]) ∧
      BEnt w' (.slice a l.length c) u (mk Ls.length) ∧ (∀ b, vL.ownBlock = some b → lab' b = 5) ∧ (∀ b, vM.ownBlock = some b → lab' b = 6) ∧ (∀ b, u.ownBlock = some b → lab' b = 100 + Ls.length) ∧ Keep (fun b => lab b = 0 ∨ lab b = 5 ∨ lab b = 6 ∨ lab b = 100 + Ls.length) w w' := by
  have HKM : Hid (∀ w, Calls Tryd.prog 40 #[.int .i64 (Ls.length : Int)] w fun e w' => e = .returned (.int .u8 ((mk Ls.length : Nat) : Int)) ∧ w' = w) := fun w => mark_any Ls.length w (by omega)
  obtain ⟨k0, f0⟩ := ht.get o _ hcL
  have HT := hide ht
  have HL := hide hL
  have HM := hide hM
  have HV := hide hv
  have HcL := hide hcL
  have HcM := hide hcM
  clear ht hL hM hv hcL hcM
  go_enter Tryd.func45, Tryd.ntmps45
  go_wp2_with (go_at_call 40; refine (HKM.out _).mono ?_; rintro e w' ⟨rfl, rfl⟩)
  obtain ⟨w0, hw0⟩ : ∃ w0 : World, w0 = w' := ⟨_, rfl⟩
  subst hw0
  have HLM := hide hlen
  have HMlt : ∀ b, (Value.slice aM Ms.length cM).ownBlock = some b → b < w0.heap.size := fun b hb => (HM.out.lt b hb).2
  have HVlt : ∀ b, (Value.slice a l.length c).ownBlock = some b → b < w0.heap.size := fun b hb => (World.ownsRow.lt HV.out b hb).2
  clear hlen HKM k0 f0
  obtain ⟨m, hm⟩ : ∃ m, m = mk Ls.length := ⟨_, rfl⟩
  rw [← hm]
  have HMk := hide hm
  clear hm
  go_loopw [5] (fun i wr => ∃ q : Nat, i = .int .i64 (q : Int) ∧ q ≤ l.length ∧ OwnB wr B (.slice a l.length c) (List.replicate q m ++ l.drop q) ∧ Keep (fun b => (Value.slice a l.length c).ownBlock = some b) w0 wr) (fun i _ => l.length - (intOf i).toNat)
  case atStart => exact ⟨0, rfl, by omega, by simpa using HV.out, Keep.refl _ _⟩
  case round =>
    obtain ⟨q, rfl, hq, ho, hk⟩ := hrel
    have HO := hide ho
    clear ho
    by_cases hlt : q < l.length
    · have d1 : decide ((q : Int) < (l.length : Int)) = true := decide_eq_true (by omega)
      have d2 : (q : Int) < (l.length : Int) := by omega
      have ew : IntKind.i64.wrap ((q : Int) + 1) = (q : Int) + 1 := by rw [IntKind.wrap_i64]; omega
      obtain ⟨g, c1, e1, _⟩ := Owns.form HO.out (by rw [ints_length]; simp; omega)
      simp only [Value.slice.injEq] at e1
      obtain ⟨rfl, -, rfl⟩ := e1
      have fz := Owns.frozen HO.out q
      obtain ⟨b1, off1, e2, _, hcell⟩ := Bytes.at (Owns.seen_at HO.out) (i := q) (by simp; omega)
      cases e2
      rw [Nat.zero_add] at hcell
      obtain ⟨y0, hy0⟩ : ∃ y0, y0 = (List.replicate q m ++ l.drop q).getD q 0 := ⟨_, rfl⟩
      rw [← hy0] at hcell
      clear hy0
      have st := Owns.stored HO.out q (m : Int)
      rw [← ints_set, marks_step l m q hlt] at st
      have HST := hide st
      have kk := hk.setCell (g := g) (j := q) (fun _ => rfl) (.int .u8 (m : Int))
      have HKK := hide kk
      clear st kk HO hk
      go_wp2_with fail
      go_roundw
      case rel => exact ⟨q + 1, by go_num, by omega, HST.out, HKK.out⟩
      case measure => simp [intOf]; omega
    · have d1 : decide ((q : Int) < (l.length : Int)) = false := decide_eq_false (by omega)
      have hql : q = l.length := by omega
      have ho := HO.out
      rw [hql, List.drop_length, List.append_nil] at ho
      have HO2 := hide ho
      clear ho HO
      have nlv : ∀ b, (Value.slice a l.length c).ownBlock = some b → lab b ≠ 0 ∧ lab b ≠ 5 ∧ lab b ≠ 6 := fun b hb => by rw [lv b hb]; omega
      have hT1 := HT.out.keep hk (fun q => (nlv t q).1 lt)
      have hL1 := HL.out.keep hk (fun b hb q => (nlv b q).2.1 (lL b hb))
      have hM1 := HM.out.keep hk (fun b hb q => (nlv b q).2.2 (lM b hb))
      obtain ⟨k0, f0⟩ := hT1.get o _ HcL.out
      have hB1 : B ≤ wr.heap.size := Nat.le_trans hB hk.size
      have hos1 : Ls.length + 1 ≤ 2000000 := by omega
      have hc1 : (wr.alloc (.cells #[.slice a l.length c] 29)).cell? ⟨wr.heap.size, 0, none⟩ = some (.slice a l.length c) := by go_simp
      have HR2 := hide (hL1.below ((Below.refl _ _).alloc (Nat.le_refl _) (.cells #[.slice a l.length c] 29)))
      have HT1 := hide hT1
      have HL1 := hide hL1
      have HM1 := hide hM1
      clear hT1 hL1 hM1 HT HL HM HV hql
      go_wp2_with (at_builtin; refine pushS rfl (.tmp 26) (.tmp 28) rfl B _ _ rfl ⟨wr.heap.size, 0, none⟩ (.slice a l.length c) rfl HR2.out hc1 rfl hos1 (by simp; omega) ?_)
      intro vL w2 r2 g2 hv2
      have hvL := r2.lt
      obtain ⟨aL', cL', eL, _, _, _, _⟩ := r2.form
      simp only [List.length_append, List.length_cons, List.length_nil, Nat.zero_add] at eL
      subst eL
      have k2 : Keep (fun b => (Value.slice aL Ls.length cL).ownBlock = some b) wr w2 := ((Keep.refl _ wr).alloc _).grown g2 (fun b hb _ => hb)
      have nlL : ∀ b, (Value.slice aL Ls.length cL).ownBlock = some b → lab b ≠ 0 ∧ lab b ≠ 6 ∧ lab b ≠ 100 + Ls.length := fun b hb => by rw [lL b hb]; omega
      have tw : t < wr.heap.size := HT1.out.1
      have k0' := (k2.cell (p := ⟨t, o, none⟩) tw (fun q => (nlL t q).1 lt)).trans k0
      have f0' := (k2.frozen (p := ⟨t, o, none⟩) tw (fun q => (nlL t q).1 lt)).trans f0
      have hT2 := HT1.out.keep k2 (fun q => (nlL t q).1 lt)
      have hM2 := HM1.out.keep k2 (fun b hb q => (nlL b q).2.1 (lM b hb))
      have hO2 := Owns.keep HO2.out k2 (fun b hb q => (nlL b q).2.2 (lv b hb))
      have ol : o < cs.length := (List.getElem?_eq_some_iff.1 HcL.out).1
      have hT3 := hT2.stored ol (.slice aL' (Ls.length + 1) cL')
      have k3 : Keep (fun b => b = t) w2 (w2.setCell ⟨t, o, none⟩ (.slice aL' (Ls.length + 1) cL')) := (Keep.refl (fun b => b = t) w2).setCell (fun _ => rfl) _
      have tlt := lt
      have ntL : ∀ b, (Value.slice aL' (Ls.length + 1) cL').ownBlock = some b → ¬ b = t := by
        intro b hb q
        subst q
        rcases hv2 with e | e
        · rw [e] at hb
          exact (nlL b hb).1 lt
        · rw [e] at hb
          have := Option.some.inj hb
          omega
      have ntM : ∀ b, (Value.slice aM Ms.length cM).ownBlock = some b → ¬ b = t := fun b hb q => by subst q; have := lM b hb; omega
      have ntv : ∀ b, (Value.slice a l.length c).ownBlock = some b → ¬ b = t := fun b hb q => by subst q; have := lv b hb; omega
      have hL3 := r2.keep k3 ntL
      have hM3 := hM2.keep k3 ntM
      have hO3 := Owns.keep hO2 k3 ntv
      have K3 : Keep (fun b => lab b = 0 ∨ lab b = 5 ∨ lab b = 6 ∨ lab b = 100 + Ls.length) w0 (w2.setCell ⟨t, o, none⟩ (.slice aL' (Ls.length + 1) cL')) := by
        refine ((hk.mono (T := fun b => lab b = 0 ∨ lab b = 5 ∨ lab b = 6 ∨ lab b = 100 + Ls.length) (fun b _ q => by have := lv b q; omega)).trans k2 (fun b _ q => by have := lL b q; omega)).trans k3 (fun b _ q => by subst q; omega)
      have sz3 : wr.heap.size < (w2.setCell ⟨t, o, none⟩ (.slice aL' (Ls.length + 1) cL')).heap.size := by
        have := g2.size
        simp at this ⊢
        omega
      have szL : ∀ b, (Value.slice aL' (Ls.length + 1) cL').ownBlock = some b → b < (w2.setCell ⟨t, o, none⟩ (.slice aL' (Ls.length + 1) cL')).heap.size := fun b hb => (hL3.lt b hb).2
      have oL : ∀ b, (Value.slice aL' (Ls.length + 1) cL').ownBlock = some b → b < w0.heap.size → lab b = 5 := by
        intro b hb hlt
        rcases hv2 with e | e
        · rw [e] at hb
          exact lL b hb
        · rw [e] at hb
          have := Option.some.inj hb
          have := hk.size
          omega
      have HT3 := hide hT3
      have HL3 := hide hL3
      have HM3 := hide hM3
      have HO3 := hide hO3
      have HK3 := hide K3
      clear hT2 hT3 hL3 hM2 hM3 hO2 hO3 K3 r2 g2 HR2 HT1 HL1 HM1 HO2 k3 k2 hc1 k0 f0 hv2 hvL
      go_upto_region 6 with fail
      obtain ⟨w3, hw3⟩ : ∃ w3, w3 = w2.setCell ⟨t, o, none⟩ (.slice aL' (Ls.length + 1) cL') := ⟨_, rfl⟩
      rw [← hw3] at HT3 HL3 HM3 HO3 HK3 sz3 szL ⊢
      clear hw3 k0' f0'
      have hcM2 : (cs.set o (.slice aL' (Ls.length + 1) cL'))[o + 1]? = some (.slice aM Ms.length cM) := by rw [List.getElem?_set_ne (by omega)]; exact HcM.out
      obtain ⟨k1, f1⟩ := HT3.out.get (o + 1) _ hcM2
      have HC2 := hide hcM2
      clear hcM2
      refine wp_region_held_drew (S := fun _ => True) (by kernel_rfl) trivial (fun _ => ?_)
      refine take_at 0 (some 32) (v := ?_) rfl rfl (by kernel_rfl) (by kernel_rfl) (by kernel_rfl) (fun _ _ _ h => h) ⟨by rfl, ?_⟩ trivial ?_
      rotate_left
      · intro wq _; go_simp; try rfl
      simp only [Act.put, List.setIfInBounds_toArray, List.set_cons_zero, List.set_cons_succ]
      refine take_at 1 (some 33) (v := ?_) rfl rfl (by kernel_rfl) (by kernel_rfl) (by kernel_rfl) (fun _ _ _ h => h) ⟨by rfl, ?_⟩ trivial ?_
      rotate_left
      · intro wq _; go_simp; try rfl
      simp only [Act.put, List.setIfInBounds_toArray, List.set_cons_zero, List.set_cons_succ]
      refine take_at 2 (some 34) (v := ?_) rfl rfl (by kernel_rfl) (by kernel_rfl) (by kernel_rfl) (fun _ _ _ h => h) ⟨by rfl, ?_⟩ trivial ?_
      rotate_left
      · intro wq _; go_simp; try rfl
      simp only [Act.put, List.setIfInBounds_toArray, List.set_cons_zero, List.set_cons_succ]
      refine take_at 3 (some 35) (v := ?_) rfl rfl (by kernel_rfl) (by kernel_rfl) (by kernel_rfl) (fun _ _ _ h => h) ⟨by rfl, ?_⟩ trivial ?_
      rotate_left
      · intro wq _; go_simp; try rfl
      simp only [Act.put, List.setIfInBounds_toArray, List.set_cons_zero, List.set_cons_succ]
      refine take_at 5 (some 37) (v := ?_) rfl rfl (by kernel_rfl) (by kernel_rfl) (by kernel_rfl) (fun _ _ _ h => h) ⟨by rfl, ?_⟩ trivial ?_
      rotate_left
      · intro wq _; go_simp; try rfl
      simp only [Act.put, List.setIfInBounds_toArray, List.set_cons_zero, List.set_cons_succ]
      refine take_at 6 (some 38) (v := ?_) rfl rfl (by kernel_rfl) (by kernel_rfl) (by kernel_rfl) (fun _ _ _ h => h) ⟨by rfl, ?_⟩ trivial ?_
      rotate_left
      · intro wq _; go_simp; try rfl
      simp only [Act.put, List.setIfInBounds_toArray, List.set_cons_zero, List.set_cons_succ]
      refine wpAnyH_ready (rs := [4, 7]) (by kernel_rfl) (by simp) ?_
      refine AllReadyH.cons rfl (fun K hK => ?_) (AllReadyH.cons rfl (fun K hK => ?_) AllReadyH.nil)
      · go_simp
        go_wp2_with fail
        refine hK.out _ _ trivial (fun _ => ?_)
        clear hK K
        (try simp only [Act.put, List.setIfInBounds_toArray, List.set_cons_zero, List.set_cons_succ])
        refine wpAnyH_ready (rs := [7]) (by kernel_rfl) (by simp) ?_
        refine AllReadyH.cons rfl (fun K hK => ?_) AllReadyH.nil
        go_simp
        go_wp2_with fail
        have KQ4 : Keep (fun _ => False) w3 (w3.alloc (.cells #[.int .u8 (m : Int)] 5)).drew := ((Keep.refl _ w3).alloc _).drew
        have c4 : (w3.alloc (.cells #[.int .u8 (m : Int)] 5)).drew.cell? ⟨w3.heap.size, 0, none⟩ = some (.int .u8 (m : Int)) := by go_simp
        have hT4 := HT3.out.keep KQ4 id
        have hL4 := HL3.out.keep KQ4 (fun _ _ => id)
        have hM4 := HM3.out.keep KQ4 (fun _ _ => id)
        have hO4 := Owns.keep HO3.out KQ4 (fun _ _ => id)
        have K4 := HK3.out.trans KQ4 (fun _ _ q => q.elim)
        have t3 : t < w3.heap.size := HT3.out.1
        have S4 := (KQ4.cell (p := ⟨t, o + 1, none⟩) t3 id).trans k1
        have B3 : B ≤ w3.heap.size := Nat.le_trans hB HK3.out.size
        have z4 : (w3.alloc (.cells #[.int .u8 (m : Int)] 5)).drew.heap.size = w3.heap.size + 1 := by simp
        generalize (w3.alloc (.cells #[.int .u8 (m : Int)] 5)).drew = w4 at *
        refine hK.out _ _ trivial (fun _ => ?_)
        clear hK K HT3 HL3 HM3 HO3 HK3 KQ4 k1 f1
        (try simp only [Act.put, List.setIfInBounds_toArray, List.set_cons_zero, List.set_cons_succ])
        refine wpAnyH_ready (rs := [8]) (by kernel_rfl) (by simp) ?_
        refine AllReadyH.cons rfl (fun K hK => ?_) AllReadyH.nil
        refine wp_more' 40 (.tmp 37) (.tmp 39) rfl rfl rfl B a l.length c (List.replicate l.length m) (by simp) rfl hO4 ⟨w3.heap.size, 0, none⟩ m rfl c4 hl (by omega) ?_
        intro u w5 o5 g5 hu5 s5
        rw [← List.replicate_succ'] at o5
        have k5 : Keep (fun b => (Value.slice a l.length c).ownBlock = some b) w4 w5 := (Keep.refl _ w4).grown g5 (fun b hb _ => hb)
        have t4 : t < w4.heap.size := hT4.1
        have hT5 := hT4.keep k5 (fun q => (nlv t q).1 lt)
        have nL5 : ∀ b, (Value.slice aL' (Ls.length + 1) cL').ownBlock = some b → ¬ (Value.slice a l.length c).ownBlock = some b := by
          intro b hb q
          by_cases hlt : b < w0.heap.size
          · exact (nlv b q).2.1 (oL b hb hlt)
          · have := (World.ownsRow.lt hO4 b q).2
            have := HVlt b q
            omega
        have hL5 := hL4.keep k5 nL5
        have hM5 := hM4.keep k5 (fun b hb q => (nlv b q).2.2 (lM b hb))
        have K5 := K4.trans k5 (fun b _ q => by have := lv b q; omega)
        have S5 := (k5.cell (p := ⟨t, o + 1, none⟩) t4 (fun q => (nlv t q).1 lt)).trans S4
        have hu5lt := World.ownsRow.lt o5
        refine hK.out _ _ trivial (fun _ => ?_)
        clear hK K hT4 hL4 hM4 hO4 K4 S4 c4
        simp only [Act.put, List.setIfInBounds_toArray, List.set_cons_zero, List.set_cons_succ]
        obtain ⟨a', c', eu, s6, _⟩ := Owns.seen o5
        rw [ints_length, List.length_replicate] at eu
        subst eu
        have z5 := g5.size
        refine wpAnyH_ready (rs := [9]) (by kernel_rfl) (by simp) ?_
        refine AllReadyH.cons rfl (fun K hK => ?_) AllReadyH.nil
        go_simp
        go_wp2_with fail
        have KQ6 : Keep (fun _ => False) w5 (w5.alloc (.cells #[.slice a' (l.length + 1) c'] 29)) := (Keep.refl _ w5).alloc _
        have c6 : (w5.alloc (.cells #[.slice a' (l.length + 1) c'] 29)).cell? ⟨w5.heap.size, 0, none⟩ = some (.slice a' (l.length + 1) c') := by go_simp
        have t5 : t < w5.heap.size := hT5.1
        have hT6 := hT5.keep KQ6 id
        have hL6 := hL5.keep KQ6 (fun _ _ => id)
        have hM6 := hM5.keep KQ6 (fun _ _ => id)
        have sv6 := Seen.keep s5 KQ6 (fun _ _ => id)
        have su6 := Seen.keep s6 KQ6 (fun _ _ => id)
        have K6 := K5.trans KQ6 (fun _ _ q => q.elim)
        have S6 := (KQ6.cell (p := ⟨t, o + 1, none⟩) t5 id).trans S5
        have z6 : (w5.alloc (.cells #[.slice a' (l.length + 1) c'] 29)).heap.size = w5.heap.size + 1 := by simp
        generalize w5.alloc (.cells #[.slice a' (l.length + 1) c'] 29) = w6 at *
        refine hK.out _ _ trivial (fun _ => ?_)
        clear hK K hT5 hL5 hM5 K5 S5 KQ6 s5 s6 o5
        (try simp only [Act.put, List.setIfInBounds_toArray, List.set_cons_zero, List.set_cons_succ])
        have hms : Ms.length + 1 ≤ 2000000 := by have := HLM.out; omega
        refine wpAnyH_ready (rs := [10]) (by kernel_rfl) (by simp) ?_
        refine AllReadyH.cons rfl (fun K hK => ?_) AllReadyH.nil
        refine wp_push 42 (.tmp 36) (.tmp 41) rfl rfl rfl B (.slice aM Ms.length cM) Ms rfl ⟨w5.heap.size, 0, none⟩ (.slice a' (l.length + 1) c') rfl hM6 c6 rfl hms (by omega) ?_
        intro vM w7 r7 g7 hv7
        have k7 : Keep (fun b => (Value.slice aM Ms.length cM).ownBlock = some b) w6 w7 := (Keep.refl _ w6).grown g7 (fun b hb _ => hb)
        have t6 : t < w6.heap.size := hT6.1
        have nM : ∀ b, (Value.slice aM Ms.length cM).ownBlock = some b → lab b ≠ 0 ∧ lab b ≠ 5 ∧ lab b ≠ 100 + Ls.length := fun b hb => by rw [lM b hb]; omega
        have hT7 := hT6.keep k7 (fun q => (nM t q).1 lt)
        have nL7 : ∀ b, (Value.slice aL' (Ls.length + 1) cL').ownBlock = some b → ¬ (Value.slice aM Ms.length cM).ownBlock = some b := fun b hb q => (nM b q).2.1 (oL b hb (HMlt b q))
        have hL7 := hL6.keep k7 nL7
        have hua : ∀ ad, a' = some ad → (Value.slice a' (l.length + 1) c').ownBlock = some ad.block := fun ad h => by rw [h]; rfl
        have hva : ∀ ad, a = some ad → (Value.slice a l.length c).ownBlock = some ad.block := fun ad h => by rw [h]; rfl
        have nu7 : ∀ b, (Value.slice a' (l.length + 1) c').ownBlock = some b → (lab b = 100 + Ls.length ∧ b < w0.heap.size) ∨ (b = w4.heap.size) := by
          intro b hb
          rcases hu5 with e | e
          · rw [e] at hb
            exact .inl ⟨lv b hb, HVlt b hb⟩
          · rw [e] at hb
            exact .inr (Option.some.inj hb).symm
        have w04 : w0.heap.size ≤ w3.heap.size := Nat.le_trans hk.size (Nat.le_of_lt sz3)
        have sv7 := Seen.keep sv6 k7 (fun ad h q => (nM _ q).2.2 (lv _ (hva ad h)))
        have su7 := Seen.keep su6 k7 (fun ad h q => by
          rcases nu7 _ (hua ad h) with e | e
          · exact (nM _ q).2.2 e.1
          · have := HMlt _ q
            omega)
        have K7 := K6.trans k7 (fun b _ q => by have := lM b q; omega)
        have S7 := (k7.cell (p := ⟨t, o + 1, none⟩) t6 (fun q => (nM t q).1 lt)).trans S6
        obtain ⟨aM', cM', eM, _, _, _, _⟩ := r7.form
        simp only [List.length_append, List.length_cons, List.length_nil, Nat.zero_add] at eM
        subst eM
        refine hK.out _ _ trivial (fun _ => ?_)
        clear hK K hT6 hL6 hM6 K6 S6 c6
        simp only [Act.put, List.setIfInBounds_toArray, List.set_cons_zero, List.set_cons_succ]
        refine take_at 11 (some 43) (v := ?_) rfl rfl (by kernel_rfl) (by kernel_rfl) (by kernel_rfl) (fun _ _ _ h => h) ⟨by rfl, ?_⟩ trivial ?_
        rotate_left
        · intro wq _; go_simp; try rfl
        simp only [Act.put, List.setIfInBounds_toArray, List.set_cons_zero, List.set_cons_succ]
        refine take_at 12 (some 44) (v := ?_) rfl rfl (by kernel_rfl) (by kernel_rfl) (by kernel_rfl) (fun _ _ _ h => h) ⟨by rfl, ?_⟩ trivial ?_
        rotate_left
        · intro wq _; go_simp; try rfl
        simp only [Act.put, List.setIfInBounds_toArray, List.set_cons_zero, List.set_cons_succ]
        have ol1 : o + 1 < (cs.set o (.slice aL' (Ls.length + 1) cL')).length := (List.getElem?_eq_some_iff.1 HC2.out).1
        have f7 := (hT7.get (o + 1) _ HC2.out).2
        have hT8 := hT7.stored ol1 (.slice aM' (Ms.length + 1) cM')
        have k8 : Keep (fun b => b = t) w7 (w7.setCell ⟨t, o + 1, none⟩ (.slice aM' (Ms.length + 1) cM')) := (Keep.refl (fun b => b = t) w7).setCell (fun _ => rfl) _
        have z7 := g7.size
        have ltM : ∀ b, (Value.slice aM' (Ms.length + 1) cM').ownBlock = some b → ((Value.slice aM Ms.length cM).ownBlock = some b) ∨ b = w6.heap.size := by
          intro b hb
          rcases hv7 with e | e
          · rw [e] at hb; exact .inl hb
          · rw [e] at hb; exact .inr (Option.some.inj hb).symm
        have hL8 := hL7.keep k8 ntL
        have hM8 := r7.keep k8 (fun b hb q => by
          rcases ltM b hb with e | e
          · exact ntM b e q
          · omega)
        have sv8 := Seen.keep sv7 k8 (fun ad h q => ntv _ (hva ad h) q)
        have su8 := Seen.keep su7 k8 (fun ad h q => by
          rcases nu7 _ (hua ad h) with e | e
          · rw [q] at e; omega
          · omega)
        have K8 := K7.trans k8 (fun b _ q => by subst q; omega)
        have S8 : (w7.setCell ⟨t, o + 1, none⟩ (.slice aM' (Ms.length + 1) cM')).heap.size = w7.heap.size := by simp
        have HT8 := hide hT8
        have HL8 := hide hL8
        have HM8 := hide hM8
        have HV8 := hide sv8
        have HU8 := hide su8
        have HK8 := hide K8
        clear hT8 hL8 hM8 sv8 su8 K8 k8 sv7 su7 K7 k7 hT7 hL7
        refine wpAnyH_ready (rs := [13]) (by kernel_rfl) (by simp) ?_
        refine AllReadyH.cons rfl (fun K hK => ?_) AllReadyH.nil
        go_simp
        go_wp2_with fail
        refine hK.out _ _ trivial (fun _ => ?_)
        clear hK K
        refine wpAnyH_done (by kernel_rfl) ?_ _
        go_wp2_with fail
        go_end0
        refine ⟨rfl, fun b => if b < w0.heap.size then lab b else if (Value.slice aL' (Ls.length + 1) cL').ownBlock = some b then 5 else if (Value.slice aM' (Ms.length + 1) cM').ownBlock = some b then 6 else 100 + Ls.length, .slice aL' (Ls.length + 1) cL', .slice aM' (Ms.length + 1) cM', .slice a' (l.length + 1) c', ?_, HT8.out, HL8.out, HM8.out, ?_, ?_, ?_, ?_, HK8.out⟩
        · intro b hb; simp only [hb, if_true]
        · rw [← HMk.out]; exact ⟨a, l.length, c, a', c', rfl, rfl, HV8.out, HU8.out, hl⟩
        · intro b hb
          by_cases hlt : b < w0.heap.size
          · simp only [hlt, if_true]; exact oL b hb hlt
          · simp only [hlt, hb, if_false, if_true]
        · intro b hb
          rcases ltM b hb with e | e
          · simp only [HMlt b e, if_true]; exact lM b e
          · have n1 : ¬ b < w0.heap.size := by omega
            have n2 : (Value.slice aL' (Ls.length + 1) cL').ownBlock ≠ some b := fun q => by have := szL b q; omega
            simp only [n1, n2, hb, if_false, if_true]
        · intro b hb
          rcases nu7 b hb with e | e
          · simp only [e.2, if_true]; exact e.1
          · have n1 : ¬ b < w0.heap.size := by omega
            have n2 : (Value.slice aL' (Ls.length + 1) cL').ownBlock ≠ some b := fun q => by have := szL b q; omega
            have n3 : (Value.slice aM' (Ms.length + 1) cM').ownBlock ≠ some b := fun q => by
              rcases ltM b q with e' | e'
              · have := HMlt b e'; omega
              · have := (hu5lt b hb).2; omega
            simp only [n1, n2, n3, if_false]
      · go_simp
        go_wp2_with fail
        have KQ4 : Keep (fun _ => False) w3 (w3.alloc (.cells #[.int .u8 (m : Int)] 5)).drew := ((Keep.refl _ w3).alloc _).drew
        have c4 : (w3.alloc (.cells #[.int .u8 (m : Int)] 5)).drew.cell? ⟨w3.heap.size, 0, none⟩ = some (.int .u8 (m : Int)) := by go_simp
        have hT4 := HT3.out.keep KQ4 id
        have hL4 := HL3.out.keep KQ4 (fun _ _ => id)
        have hM4 := HM3.out.keep KQ4 (fun _ _ => id)
        have hO4 := Owns.keep HO3.out KQ4 (fun _ _ => id)
        have K4 := HK3.out.trans KQ4 (fun _ _ q => q.elim)
        have t3 : t < w3.heap.size := HT3.out.1
        have S4 := (KQ4.cell (p := ⟨t, o + 1, none⟩) t3 id).trans k1
        have B3 : B ≤ w3.heap.size := Nat.le_trans hB HK3.out.size
        have z4 : (w3.alloc (.cells #[.int .u8 (m : Int)] 5)).drew.heap.size = w3.heap.size + 1 := by simp
        generalize (w3.alloc (.cells #[.int .u8 (m : Int)] 5)).drew = w4 at *
        refine hK.out _ _ trivial (fun _ => ?_)
        clear hK K HT3 HL3 HM3 HO3 HK3 KQ4 k1 f1
        (try simp only [Act.put, List.setIfInBounds_toArray, List.set_cons_zero, List.set_cons_succ])
        refine wpAnyH_ready (rs := [4, 8]) (by kernel_rfl) (by simp) ?_
        refine AllReadyH.cons rfl (fun K hK => ?_) (AllReadyH.cons rfl (fun K hK => ?_) AllReadyH.nil)
        · go_simp
          go_wp2_with fail
          refine hK.out _ _ trivial (fun _ => ?_)
          clear hK K
          (try simp only [Act.put, List.setIfInBounds_toArray, List.set_cons_zero, List.set_cons_succ])
          refine wpAnyH_ready (rs := [8]) (by kernel_rfl) (by simp) ?_
          refine AllReadyH.cons rfl (fun K hK => ?_) AllReadyH.nil
          refine wp_more' 40 (.tmp 37) (.tmp 39) rfl rfl rfl B a l.length c (List.replicate l.length m) (by simp) rfl hO4 ⟨w3.heap.size, 0, none⟩ m rfl c4 hl (by omega) ?_
          intro u w5 o5 g5 hu5 s5
          rw [← List.replicate_succ'] at o5
          have k5 : Keep (fun b => (Value.slice a l.length c).ownBlock = some b) w4 w5 := (Keep.refl _ w4).grown g5 (fun b hb _ => hb)
          have t4 : t < w4.heap.size := hT4.1
          have hT5 := hT4.keep k5 (fun q => (nlv t q).1 lt)
          have nL5 : ∀ b, (Value.slice aL' (Ls.length + 1) cL').ownBlock = some b → ¬ (Value.slice a l.length c).ownBlock = some b := by
            intro b hb q
            by_cases hlt : b < w0.heap.size
            · exact (nlv b q).2.1 (oL b hb hlt)
            · have := (World.ownsRow.lt hO4 b q).2
              have := HVlt b q
              omega
          have hL5 := hL4.keep k5 nL5
          have hM5 := hM4.keep k5 (fun b hb q => (nlv b q).2.2 (lM b hb))
          have K5 := K4.trans k5 (fun b _ q => by have := lv b q; omega)
          have S5 := (k5.cell (p := ⟨t, o + 1, none⟩) t4 (fun q => (nlv t q).1 lt)).trans S4
          have hu5lt := World.ownsRow.lt o5
          refine hK.out _ _ trivial (fun _ => ?_)
          clear hK K hT4 hL4 hM4 hO4 K4 S4 c4
          simp only [Act.put, List.setIfInBounds_toArray, List.set_cons_zero, List.set_cons_succ]
          obtain ⟨a', c', eu, s6, _⟩ := Owns.seen o5
          rw [ints_length, List.length_replicate] at eu
          subst eu
          have z5 := g5.size
          refine wpAnyH_ready (rs := [9]) (by kernel_rfl) (by simp) ?_
          refine AllReadyH.cons rfl (fun K hK => ?_) AllReadyH.nil
          go_simp
          go_wp2_with fail
          have KQ6 : Keep (fun _ => False) w5 (w5.alloc (.cells #[.slice a' (l.length + 1) c'] 29)) := (Keep.refl _ w5).alloc _
          have c6 : (w5.alloc (.cells #[.slice a' (l.length + 1) c'] 29)).cell? ⟨w5.heap.size, 0, none⟩ = some (.slice a' (l.length + 1) c') := by go_simp
          have t5 : t < w5.heap.size := hT5.1
          have hT6 := hT5.keep KQ6 id
          have hL6 := hL5.keep KQ6 (fun _ _ => id)
          have hM6 := hM5.keep KQ6 (fun _ _ => id)
          have sv6 := Seen.keep s5 KQ6 (fun _ _ => id)
          have su6 := Seen.keep s6 KQ6 (fun _ _ => id)
          have K6 := K5.trans KQ6 (fun _ _ q => q.elim)
          have S6 := (KQ6.cell (p := ⟨t, o + 1, none⟩) t5 id).trans S5
          have z6 : (w5.alloc (.cells #[.slice a' (l.length + 1) c'] 29)).heap.size = w5.heap.size + 1 := by simp
          generalize w5.alloc (.cells #[.slice a' (l.length + 1) c'] 29) = w6 at *
          refine hK.out _ _ trivial (fun _ => ?_)
          clear hK K hT5 hL5 hM5 K5 S5 KQ6 s5 s6 o5
          (try simp only [Act.put, List.setIfInBounds_toArray, List.set_cons_zero, List.set_cons_succ])
          have hms : Ms.length + 1 ≤ 2000000 := by have := HLM.out; omega
          refine wpAnyH_ready (rs := [10]) (by kernel_rfl) (by simp) ?_
          refine AllReadyH.cons rfl (fun K hK => ?_) AllReadyH.nil
          refine wp_push 42 (.tmp 36) (.tmp 41) rfl rfl rfl B (.slice aM Ms.length cM) Ms rfl ⟨w5.heap.size, 0, none⟩ (.slice a' (l.length + 1) c') rfl hM6 c6 rfl hms (by omega) ?_
          intro vM w7 r7 g7 hv7
          have k7 : Keep (fun b => (Value.slice aM Ms.length cM).ownBlock = some b) w6 w7 := (Keep.refl _ w6).grown g7 (fun b hb _ => hb)
          have t6 : t < w6.heap.size := hT6.1
          have nM : ∀ b, (Value.slice aM Ms.length cM).ownBlock = some b → lab b ≠ 0 ∧ lab b ≠ 5 ∧ lab b ≠ 100 + Ls.length := fun b hb => by rw [lM b hb]; omega
          have hT7 := hT6.keep k7 (fun q => (nM t q).1 lt)
          have nL7 : ∀ b, (Value.slice aL' (Ls.length + 1) cL').ownBlock = some b → ¬ (Value.slice aM Ms.length cM).ownBlock = some b := fun b hb q => (nM b q).2.1 (oL b hb (HMlt b q))
          have hL7 := hL6.keep k7 nL7
          have hua : ∀ ad, a' = some ad → (Value.slice a' (l.length + 1) c').ownBlock = some ad.block := fun ad h => by rw [h]; rfl
          have hva : ∀ ad, a = some ad → (Value.slice a l.length c).ownBlock = some ad.block := fun ad h => by rw [h]; rfl
          have nu7 : ∀ b, (Value.slice a' (l.length + 1) c').ownBlock = some b → (lab b = 100 + Ls.length ∧ b < w0.heap.size) ∨ (b = w4.heap.size) := by
            intro b hb
            rcases hu5 with e | e
            · rw [e] at hb
              exact .inl ⟨lv b hb, HVlt b hb⟩
            · rw [e] at hb
              exact .inr (Option.some.inj hb).symm
          have w04 : w0.heap.size ≤ w3.heap.size := Nat.le_trans hk.size (Nat.le_of_lt sz3)
          have sv7 := Seen.keep sv6 k7 (fun ad h q => (nM _ q).2.2 (lv _ (hva ad h)))
          have su7 := Seen.keep su6 k7 (fun ad h q => by
            rcases nu7 _ (hua ad h) with e | e
            · exact (nM _ q).2.2 e.1
            · have := HMlt _ q
              omega)
          have K7 := K6.trans k7 (fun b _ q => by have := lM b q; omega)
          have S7 := (k7.cell (p := ⟨t, o + 1, none⟩) t6 (fun q => (nM t q).1 lt)).trans S6
          obtain ⟨aM', cM', eM, _, _, _, _⟩ := r7.form
          simp only [List.length_append, List.length_cons, List.length_nil, Nat.zero_add] at eM
          subst eM
          refine hK.out _ _ trivial (fun _ => ?_)
          clear hK K hT6 hL6 hM6 K6 S6 c6
          simp only [Act.put, List.setIfInBounds_toArray, List.set_cons_zero, List.set_cons_succ]
          refine take_at 11 (some 43) (v := ?_) rfl rfl (by kernel_rfl) (by kernel_rfl) (by kernel_rfl) (fun _ _ _ h => h) ⟨by rfl, ?_⟩ trivial ?_
          rotate_left
          · intro wq _; go_simp; try rfl
          simp only [Act.put, List.setIfInBounds_toArray, List.set_cons_zero, List.set_cons_succ]
          refine take_at 12 (some 44) (v := ?_) rfl rfl (by kernel_rfl) (by kernel_rfl) (by kernel_rfl) (fun _ _ _ h => h) ⟨by rfl, ?_⟩ trivial ?_
          rotate_left
          · intro wq _; go_simp; try rfl
          simp only [Act.put, List.setIfInBounds_toArray, List.set_cons_zero, List.set_cons_succ]
          have ol1 : o + 1 < (cs.set o (.slice aL' (Ls.length + 1) cL')).length := (List.getElem?_eq_some_iff.1 HC2.out).1
          have f7 := (hT7.get (o + 1) _ HC2.out).2
          have hT8 := hT7.stored ol1 (.slice aM' (Ms.length + 1) cM')
          have k8 : Keep (fun b => b = t) w7 (w7.setCell ⟨t, o + 1, none⟩ (.slice aM' (Ms.length + 1) cM')) := (Keep.refl (fun b => b = t) w7).setCell (fun _ => rfl) _
          have z7 := g7.size
          have ltM : ∀ b, (Value.slice aM' (Ms.length + 1) cM').ownBlock = some b → ((Value.slice aM Ms.length cM).ownBlock = some b) ∨ b = w6.heap.size := by
            intro b hb
            rcases hv7 with e | e
            · rw [e] at hb; exact .inl hb
            · rw [e] at hb; exact .inr (Option.some.inj hb).symm
          have hL8 := hL7.keep k8 ntL
          have hM8 := r7.keep k8 (fun b hb q => by
            rcases ltM b hb with e | e
            · exact ntM b e q
            · omega)
          have sv8 := Seen.keep sv7 k8 (fun ad h q => ntv _ (hva ad h) q)
          have su8 := Seen.keep su7 k8 (fun ad h q => by
            rcases nu7 _ (hua ad h) with e | e
            · rw [q] at e; omega
            · omega)
          have K8 := K7.trans k8 (fun b _ q => by subst q; omega)
          have S8 : (w7.setCell ⟨t, o + 1, none⟩ (.slice aM' (Ms.length + 1) cM')).heap.size = w7.heap.size := by simp
          have HT8 := hide hT8
          have HL8 := hide hL8
          have HM8 := hide hM8
          have HV8 := hide sv8
          have HU8 := hide su8
          have HK8 := hide K8
          clear hT8 hL8 hM8 sv8 su8 K8 k8 sv7 su7 K7 k7 hT7 hL7
          refine wpAnyH_ready (rs := [13]) (by kernel_rfl) (by simp) ?_
          refine AllReadyH.cons rfl (fun K hK => ?_) AllReadyH.nil
          go_simp
          go_wp2_with fail
          refine hK.out _ _ trivial (fun _ => ?_)
          clear hK K
          refine wpAnyH_done (by kernel_rfl) ?_ _
          go_wp2_with fail
          go_end0
          refine ⟨rfl, fun b => if b < w0.heap.size then lab b else if (Value.slice aL' (Ls.length + 1) cL').ownBlock = some b then 5 else if (Value.slice aM' (Ms.length + 1) cM').ownBlock = some b then 6 else 100 + Ls.length, .slice aL' (Ls.length + 1) cL', .slice aM' (Ms.length + 1) cM', .slice a' (l.length + 1) c', ?_, HT8.out, HL8.out, HM8.out, ?_, ?_, ?_, ?_, HK8.out⟩
          · intro b hb; simp only [hb, if_true]
          · rw [← HMk.out]; exact ⟨a, l.length, c, a', c', rfl, rfl, HV8.out, HU8.out, hl⟩
          · intro b hb
            by_cases hlt : b < w0.heap.size
            · simp only [hlt, if_true]; exact oL b hb hlt
            · simp only [hlt, hb, if_false, if_true]
          · intro b hb
            rcases ltM b hb with e | e
            · simp only [HMlt b e, if_true]; exact lM b e
            · have n1 : ¬ b < w0.heap.size := by omega
              have n2 : (Value.slice aL' (Ls.length + 1) cL').ownBlock ≠ some b := fun q => by have := szL b q; omega
              simp only [n1, n2, hb, if_false, if_true]
          · intro b hb
            rcases nu7 b hb with e | e
            · simp only [e.2, if_true]; exact e.1
            · have n1 : ¬ b < w0.heap.size := by omega
              have n2 : (Value.slice aL' (Ls.length + 1) cL').ownBlock ≠ some b := fun q => by have := szL b q; omega
              have n3 : (Value.slice aM' (Ms.length + 1) cM').ownBlock ≠ some b := fun q => by
                rcases ltM b q with e' | e'
                · have := HMlt b e'; omega
                · have := (hu5lt b hb).2; omega
              simp only [n1, n2, n3, if_false]
        · refine wp_more' 40 (.tmp 37) (.tmp 39) rfl rfl rfl B a l.length c (List.replicate l.length m) (by simp) rfl hO4 ⟨w3.heap.size, 0, none⟩ m rfl c4 hl (by omega) ?_
          intro u w5 o5 g5 hu5 s5
          rw [← List.replicate_succ'] at o5
          have k5 : Keep (fun b => (Value.slice a l.length c).ownBlock = some b) w4 w5 := (Keep.refl _ w4).grown g5 (fun b hb _ => hb)
          have t4 : t < w4.heap.size := hT4.1
          have hT5 := hT4.keep k5 (fun q => (nlv t q).1 lt)
          have nL5 : ∀ b, (Value.slice aL' (Ls.length + 1) cL').ownBlock = some b → ¬ (Value.slice a l.length c).ownBlock = some b := by
            intro b hb q
            by_cases hlt : b < w0.heap.size
            · exact (nlv b q).2.1 (oL b hb hlt)
            · have := (World.ownsRow.lt hO4 b q).2
              have := HVlt b q
              omega
          have hL5 := hL4.keep k5 nL5
          have hM5 := hM4.keep k5 (fun b hb q => (nlv b q).2.2 (lM b hb))
          have K5 := K4.trans k5 (fun b _ q => by have := lv b q; omega)
          have S5 := (k5.cell (p := ⟨t, o + 1, none⟩) t4 (fun q => (nlv t q).1 lt)).trans S4
          have hu5lt := World.ownsRow.lt o5
          refine hK.out _ _ trivial (fun _ => ?_)
          clear hK K hT4 hL4 hM4 hO4 K4 S4 c4
          simp only [Act.put, List.setIfInBounds_toArray, List.set_cons_zero, List.set_cons_succ]
          obtain ⟨a', c', eu, s6, _⟩ := Owns.seen o5
          rw [ints_length, List.length_replicate] at eu
          subst eu
          have z5 := g5.size
          refine wpAnyH_ready (rs := [4, 9]) (by kernel_rfl) (by simp) ?_
          refine AllReadyH.cons rfl (fun K hK => ?_) (AllReadyH.cons rfl (fun K hK => ?_) AllReadyH.nil)
          · go_simp
            go_wp2_with fail
            refine hK.out _ _ trivial (fun _ => ?_)
            clear hK K
            (try simp only [Act.put, List.setIfInBounds_toArray, List.set_cons_zero, List.set_cons_succ])
            refine wpAnyH_ready (rs := [9]) (by kernel_rfl) (by simp) ?_
            refine AllReadyH.cons rfl (fun K hK => ?_) AllReadyH.nil
            go_simp
            go_wp2_with fail
            have KQ6 : Keep (fun _ => False) w5 (w5.alloc (.cells #[.slice a' (l.length + 1) c'] 29)) := (Keep.refl _ w5).alloc _
            have c6 : (w5.alloc (.cells #[.slice a' (l.length + 1) c'] 29)).cell? ⟨w5.heap.size, 0, none⟩ = some (.slice a' (l.length + 1) c') := by go_simp
            have t5 : t < w5.heap.size := hT5.1
            have hT6 := hT5.keep KQ6 id
            have hL6 := hL5.keep KQ6 (fun _ _ => id)
            have hM6 := hM5.keep KQ6 (fun _ _ => id)
            have sv6 := Seen.keep s5 KQ6 (fun _ _ => id)
            have su6 := Seen.keep s6 KQ6 (fun _ _ => id)
            have K6 := K5.trans KQ6 (fun _ _ q => q.elim)
            have S6 := (KQ6.cell (p := ⟨t, o + 1, none⟩) t5 id).trans S5
            have z6 : (w5.alloc (.cells #[.slice a' (l.length + 1) c'] 29)).heap.size = w5.heap.size + 1 := by simp
            generalize w5.alloc (.cells #[.slice a' (l.length + 1) c'] 29) = w6 at *
            refine hK.out _ _ trivial (fun _ => ?_)
            clear hK K hT5 hL5 hM5 K5 S5 KQ6 s5 s6 o5
            (try simp only [Act.put, List.setIfInBounds_toArray, List.set_cons_zero, List.set_cons_succ])
            have hms : Ms.length + 1 ≤ 2000000 := by have := HLM.out; omega
            refine wpAnyH_ready (rs := [10]) (by kernel_rfl) (by simp) ?_
            refine AllReadyH.cons rfl (fun K hK => ?_) AllReadyH.nil
            refine wp_push 42 (.tmp 36) (.tmp 41) rfl rfl rfl B (.slice aM Ms.length cM) Ms rfl ⟨w5.heap.size, 0, none⟩ (.slice a' (l.length + 1) c') rfl hM6 c6 rfl hms (by omega) ?_
            intro vM w7 r7 g7 hv7
            have k7 : Keep (fun b => (Value.slice aM Ms.length cM).ownBlock = some b) w6 w7 := (Keep.refl _ w6).grown g7 (fun b hb _ => hb)
            have t6 : t < w6.heap.size := hT6.1
            have nM : ∀ b, (Value.slice aM Ms.length cM).ownBlock = some b → lab b ≠ 0 ∧ lab b ≠ 5 ∧ lab b ≠ 100 + Ls.length := fun b hb => by rw [lM b hb]; omega
            have hT7 := hT6.keep k7 (fun q => (nM t q).1 lt)
            have nL7 : ∀ b, (Value.slice aL' (Ls.length + 1) cL').ownBlock = some b → ¬ (Value.slice aM Ms.length cM).ownBlock = some b := fun b hb q => (nM b q).2.1 (oL b hb (HMlt b q))
            have hL7 := hL6.keep k7 nL7
            have hua : ∀ ad, a' = some ad → (Value.slice a' (l.length + 1) c').ownBlock = some ad.block := fun ad h => by rw [h]; rfl
            have hva : ∀ ad, a = some ad → (Value.slice a l.length c).ownBlock = some ad.block := fun ad h => by rw [h]; rfl
            have nu7 : ∀ b, (Value.slice a' (l.length + 1) c').ownBlock = some b → (lab b = 100 + Ls.length ∧ b < w0.heap.size) ∨ (b = w4.heap.size) := by
              intro b hb
              rcases hu5 with e | e
              · rw [e] at hb
                exact .inl ⟨lv b hb, HVlt b hb⟩
              · rw [e] at hb
                exact .inr (Option.some.inj hb).symm
            have w04 : w0.heap.size ≤ w3.heap.size := Nat.le_trans hk.size (Nat.le_of_lt sz3)
            have sv7 := Seen.keep sv6 k7 (fun ad h q => (nM _ q).2.2 (lv _ (hva ad h)))
            have su7 := Seen.keep su6 k7 (fun ad h q => by
              rcases nu7 _ (hua ad h) with e | e
              · exact (nM _ q).2.2 e.1
              · have := HMlt _ q
                omega)
            have K7 := K6.trans k7 (fun b _ q => by have := lM b q; omega)
            have S7 := (k7.cell (p := ⟨t, o + 1, none⟩) t6 (fun q => (nM t q).1 lt)).trans S6
            obtain ⟨aM', cM', eM, _, _, _, _⟩ := r7.form
            simp only [List.length_append, List.length_cons, List.length_nil, Nat.zero_add] at eM
            subst eM
            refine hK.out _ _ trivial (fun _ => ?_)
            clear hK K hT6 hL6 hM6 K6 S6 c6
            simp only [Act.put, List.setIfInBounds_toArray, List.set_cons_zero, List.set_cons_succ]
            refine take_at 11 (some 43) (v := ?_) rfl rfl (by kernel_rfl) (by kernel_rfl) (by kernel_rfl) (fun _ _ _ h => h) ⟨by rfl, ?_⟩ trivial ?_
            rotate_left
            · intro wq _; go_simp; try rfl
            simp only [Act.put, List.setIfInBounds_toArray, List.set_cons_zero, List.set_cons_succ]
            refine take_at 12 (some 44) (v := ?_) rfl rfl (by kernel_rfl) (by kernel_rfl) (by kernel_rfl) (fun _ _ _ h => h) ⟨by rfl, ?_⟩ trivial ?_
            rotate_left
            · intro wq _; go_simp; try rfl
            simp only [Act.put, List.setIfInBounds_toArray, List.set_cons_zero, List.set_cons_succ]
            have ol1 : o + 1 < (cs.set o (.slice aL' (Ls.length + 1) cL')).length := (List.getElem?_eq_some_iff.1 HC2.out).1
            have f7 := (hT7.get (o + 1) _ HC2.out).2
            have hT8 := hT7.stored ol1 (.slice aM' (Ms.length + 1) cM')
            have k8 : Keep (fun b => b = t) w7 (w7.setCell ⟨t, o + 1, none⟩ (.slice aM' (Ms.length + 1) cM')) := (Keep.refl (fun b => b = t) w7).setCell (fun _ => rfl) _
            have z7 := g7.size
            have ltM : ∀ b, (Value.slice aM' (Ms.length + 1) cM').ownBlock = some b → ((Value.slice aM Ms.length cM).ownBlock = some b) ∨ b = w6.heap.size := by
              intro b hb
              rcases hv7 with e | e
              · rw [e] at hb; exact .inl hb
              · rw [e] at hb; exact .inr (Option.some.inj hb).symm
            have hL8 := hL7.keep k8 ntL
            have hM8 := r7.keep k8 (fun b hb q => by
              rcases ltM b hb with e | e
              · exact ntM b e q
              · omega)
            have sv8 := Seen.keep sv7 k8 (fun ad h q => ntv _ (hva ad h) q)
            have su8 := Seen.keep su7 k8 (fun ad h q => by
              rcases nu7 _ (hua ad h) with e | e
              · rw [q] at e; omega
              · omega)
            have K8 := K7.trans k8 (fun b _ q => by subst q; omega)
            have S8 : (w7.setCell ⟨t, o + 1, none⟩ (.slice aM' (Ms.length + 1) cM')).heap.size = w7.heap.size := by simp
            have HT8 := hide hT8
            have HL8 := hide hL8
            have HM8 := hide hM8
            have HV8 := hide sv8
            have HU8 := hide su8
            have HK8 := hide K8
            clear hT8 hL8 hM8 sv8 su8 K8 k8 sv7 su7 K7 k7 hT7 hL7
            refine wpAnyH_ready (rs := [13]) (by kernel_rfl) (by simp) ?_
            refine AllReadyH.cons rfl (fun K hK => ?_) AllReadyH.nil
            go_simp
            go_wp2_with fail
            refine hK.out _ _ trivial (fun _ => ?_)
            clear hK K
            refine wpAnyH_done (by kernel_rfl) ?_ _
            go_wp2_with fail
            go_end0
            refine ⟨rfl, fun b => if b < w0.heap.size then lab b else if (Value.slice aL' (Ls.length + 1) cL').ownBlock = some b then 5 else if (Value.slice aM' (Ms.length + 1) cM').ownBlock = some b then 6 else 100 + Ls.length, .slice aL' (Ls.length + 1) cL', .slice aM' (Ms.length + 1) cM', .slice a' (l.length + 1) c', ?_, HT8.out, HL8.out, HM8.out, ?_, ?_, ?_, ?_, HK8.out⟩
            · intro b hb; simp only [hb, if_true]
            · rw [← HMk.out]; exact ⟨a, l.length, c, a', c', rfl, rfl, HV8.out, HU8.out, hl⟩
            · intro b hb
              by_cases hlt : b < w0.heap.size
              · simp only [hlt, if_true]; exact oL b hb hlt
              · simp only [hlt, hb, if_false, if_true]
            · intro b hb
              rcases ltM b hb with e | e
              · simp only [HMlt b e, if_true]; exact lM b e
              · have n1 : ¬ b < w0.heap.size := by omega
                have n2 : (Value.slice aL' (Ls.length + 1) cL').ownBlock ≠ some b := fun q => by have := szL b q; omega
                simp only [n1, n2, hb, if_false, if_true]
            · intro b hb
              rcases nu7 b hb with e | e
              · simp only [e.2, if_true]; exact e.1
              · have n1 : ¬ b < w0.heap.size := by omega
                have n2 : (Value.slice aL' (Ls.length + 1) cL').ownBlock ≠ some b := fun q => by have := szL b q; omega
                have n3 : (Value.slice aM' (Ms.length + 1) cM').ownBlock ≠ some b := fun q => by
                  rcases ltM b q with e' | e'
                  · have := HMlt b e'; omega
                  · have := (hu5lt b hb).2; omega
                simp only [n1, n2, n3, if_false]
          · go_simp
            go_wp2_with fail
            have KQ6 : Keep (fun _ => False) w5 (w5.alloc (.cells #[.slice a' (l.length + 1) c'] 29)) := (Keep.refl _ w5).alloc _
            have c6 : (w5.alloc (.cells #[.slice a' (l.length + 1) c'] 29)).cell? ⟨w5.heap.size, 0, none⟩ = some (.slice a' (l.length + 1) c') := by go_simp
            have t5 : t < w5.heap.size := hT5.1
            have hT6 := hT5.keep KQ6 id
            have hL6 := hL5.keep KQ6 (fun _ _ => id)
            have hM6 := hM5.keep KQ6 (fun _ _ => id)
            have sv6 := Seen.keep s5 KQ6 (fun _ _ => id)
            have su6 := Seen.keep s6 KQ6 (fun _ _ => id)
            have K6 := K5.trans KQ6 (fun _ _ q => q.elim)
            have S6 := (KQ6.cell (p := ⟨t, o + 1, none⟩) t5 id).trans S5
            have z6 : (w5.alloc (.cells #[.slice a' (l.length + 1) c'] 29)).heap.size = w5.heap.size + 1 := by simp
            generalize w5.alloc (.cells #[.slice a' (l.length + 1) c'] 29) = w6 at *
            refine hK.out _ _ trivial (fun _ => ?_)
            clear hK K hT5 hL5 hM5 K5 S5 KQ6 s5 s6 o5
            (try simp only [Act.put, List.setIfInBounds_toArray, List.set_cons_zero, List.set_cons_succ])
            refine wpAnyH_ready (rs := [4]) (by kernel_rfl) (by simp) ?_
            refine AllReadyH.cons rfl (fun K hK => ?_) AllReadyH.nil
            go_simp
            go_wp2_with fail
            refine hK.out _ _ trivial (fun _ => ?_)
            clear hK K
            (try simp only [Act.put, List.setIfInBounds_toArray, List.set_cons_zero, List.set_cons_succ])
            have hms : Ms.length + 1 ≤ 2000000 := by have := HLM.out; omega
            refine wpAnyH_ready (rs := [10]) (by kernel_rfl) (by simp) ?_
            refine AllReadyH.cons rfl (fun K hK => ?_) AllReadyH.nil
            refine wp_push 42 (.tmp 36) (.tmp 41) rfl rfl rfl B (.slice aM Ms.length cM) Ms rfl ⟨w5.heap.size, 0, none⟩ (.slice a' (l.length + 1) c') rfl hM6 c6 rfl hms (by omega) ?_
            intro vM w7 r7 g7 hv7
            have k7 : Keep (fun b => (Value.slice aM Ms.length cM).ownBlock = some b) w6 w7 := (Keep.refl _ w6).grown g7 (fun b hb _ => hb)
            have t6 : t < w6.heap.size := hT6.1
            have nM : ∀ b, (Value.slice aM Ms.length cM).ownBlock = some b → lab b ≠ 0 ∧ lab b ≠ 5 ∧ lab b ≠ 100 + Ls.length := fun b hb => by rw [lM b hb]; omega
            have hT7 := hT6.keep k7 (fun q => (nM t q).1 lt)
            have nL7 : ∀ b, (Value.slice aL' (Ls.length + 1) cL').ownBlock = some b → ¬ (Value.slice aM Ms.length cM).ownBlock = some b := fun b hb q => (nM b q).2.1 (oL b hb (HMlt b q))
            have hL7 := hL6.keep k7 nL7
            have hua : ∀ ad, a' = some ad → (Value.slice a' (l.length + 1) c').ownBlock = some ad.block := fun ad h => by rw [h]; rfl
            have hva : ∀ ad, a = some ad → (Value.slice a l.length c).ownBlock = some ad.block := fun ad h => by rw [h]; rfl
            have nu7 : ∀ b, (Value.slice a' (l.length + 1) c').ownBlock = some b → (lab b = 100 + Ls.length ∧ b < w0.heap.size) ∨ (b = w4.heap.size) := by
              intro b hb
              rcases hu5 with e | e
              · rw [e] at hb
                exact .inl ⟨lv b hb, HVlt b hb⟩
              · rw [e] at hb
                exact .inr (Option.some.inj hb).symm
            have w04 : w0.heap.size ≤ w3.heap.size := Nat.le_trans hk.size (Nat.le_of_lt sz3)
            have sv7 := Seen.keep sv6 k7 (fun ad h q => (nM _ q).2.2 (lv _ (hva ad h)))
            have su7 := Seen.keep su6 k7 (fun ad h q => by
              rcases nu7 _ (hua ad h) with e | e
              · exact (nM _ q).2.2 e.1
              · have := HMlt _ q
                omega)
            have K7 := K6.trans k7 (fun b _ q => by have := lM b q; omega)
            have S7 := (k7.cell (p := ⟨t, o + 1, none⟩) t6 (fun q => (nM t q).1 lt)).trans S6
            obtain ⟨aM', cM', eM, _, _, _, _⟩ := r7.form
            simp only [List.length_append, List.length_cons, List.length_nil, Nat.zero_add] at eM
            subst eM
            refine hK.out _ _ trivial (fun _ => ?_)
            clear hK K hT6 hL6 hM6 K6 S6 c6
            simp only [Act.put, List.setIfInBounds_toArray, List.set_cons_zero, List.set_cons_succ]
            refine take_at 11 (some 43) (v := ?_) rfl rfl (by kernel_rfl) (by kernel_rfl) (by kernel_rfl) (fun _ _ _ h => h) ⟨by rfl, ?_⟩ trivial ?_
            rotate_left
            · intro wq _; go_simp; try rfl
            simp only [Act.put, List.setIfInBounds_toArray, List.set_cons_zero, List.set_cons_succ]
            refine take_at 12 (some 44) (v := ?_) rfl rfl (by kernel_rfl) (by kernel_rfl) (by kernel_rfl) (fun _ _ _ h => h) ⟨by rfl, ?_⟩ trivial ?_
            rotate_left
            · intro wq _; go_simp; try rfl
            simp only [Act.put, List.setIfInBounds_toArray, List.set_cons_zero, List.set_cons_succ]
            have ol1 : o + 1 < (cs.set o (.slice aL' (Ls.length + 1) cL')).length := (List.getElem?_eq_some_iff.1 HC2.out).1
            have f7 := (hT7.get (o + 1) _ HC2.out).2
            have hT8 := hT7.stored ol1 (.slice aM' (Ms.length + 1) cM')
            have k8 : Keep (fun b => b = t) w7 (w7.setCell ⟨t, o + 1, none⟩ (.slice aM' (Ms.length + 1) cM')) := (Keep.refl (fun b => b = t) w7).setCell (fun _ => rfl) _
            have z7 := g7.size
            have ltM : ∀ b, (Value.slice aM' (Ms.length + 1) cM').ownBlock = some b → ((Value.slice aM Ms.length cM).ownBlock = some b) ∨ b = w6.heap.size := by
              intro b hb
              rcases hv7 with e | e
              · rw [e] at hb; exact .inl hb
              · rw [e] at hb; exact .inr (Option.some.inj hb).symm
            have hL8 := hL7.keep k8 ntL
            have hM8 := r7.keep k8 (fun b hb q => by
              rcases ltM b hb with e | e
              · exact ntM b e q
              · omega)
            have sv8 := Seen.keep sv7 k8 (fun ad h q => ntv _ (hva ad h) q)
            have su8 := Seen.keep su7 k8 (fun ad h q => by
              rcases nu7 _ (hua ad h) with e | e
              · rw [q] at e; omega
              · omega)
            have K8 := K7.trans k8 (fun b _ q => by subst q; omega)
            have S8 : (w7.setCell ⟨t, o + 1, none⟩ (.slice aM' (Ms.length + 1) cM')).heap.size = w7.heap.size := by simp
            have HT8 := hide hT8
            have HL8 := hide hL8
            have HM8 := hide hM8
            have HV8 := hide sv8
            have HU8 := hide su8
            have HK8 := hide K8
            clear hT8 hL8 hM8 sv8 su8 K8 k8 sv7 su7 K7 k7 hT7 hL7
            refine wpAnyH_ready (rs := [13]) (by kernel_rfl) (by simp) ?_
            refine AllReadyH.cons rfl (fun K hK => ?_) AllReadyH.nil
            go_simp
            go_wp2_with fail
            refine hK.out _ _ trivial (fun _ => ?_)
            clear hK K
            refine wpAnyH_done (by kernel_rfl) ?_ _
            go_wp2_with fail
            go_end0
            refine ⟨rfl, fun b => if b < w0.heap.size then lab b else if (Value.slice aL' (Ls.length + 1) cL').ownBlock = some b then 5 else if (Value.slice aM' (Ms.length + 1) cM').ownBlock = some b then 6 else 100 + Ls.length, .slice aL' (Ls.length + 1) cL', .slice aM' (Ms.length + 1) cM', .slice a' (l.length + 1) c', ?_, HT8.out, HL8.out, HM8.out, ?_, ?_, ?_, ?_, HK8.out⟩
            · intro b hb; simp only [hb, if_true]
            · rw [← HMk.out]; exact ⟨a, l.length, c, a', c', rfl, rfl, HV8.out, HU8.out, hl⟩
            · intro b hb
              by_cases hlt : b < w0.heap.size
              · simp only [hlt, if_true]; exact oL b hb hlt
              · simp only [hlt, hb, if_false, if_true]
            · intro b hb
              rcases ltM b hb with e | e
              · simp only [HMlt b e, if_true]; exact lM b e
              · have n1 : ¬ b < w0.heap.size := by omega
                have n2 : (Value.slice aL' (Ls.length + 1) cL').ownBlock ≠ some b := fun q => by have := szL b q; omega
                simp only [n1, n2, hb, if_false, if_true]
            · intro b hb
              rcases nu7 b hb with e | e
              · simp only [e.2, if_true]; exact e.1
              · have n1 : ¬ b < w0.heap.size := by omega
                have n2 : (Value.slice aL' (Ls.length + 1) cL').ownBlock ≠ some b := fun q => by have := szL b q; omega
                have n3 : (Value.slice aM' (Ms.length + 1) cM').ownBlock ≠ some b := fun q => by
                  rcases ltM b q with e' | e'
                  · have := HMlt b e'; omega
                  · have := (hu5lt b hb).2; omega
                simp only [n1, n2, n3, if_false]
end Go.Proofs.YtllpfojkbeloeaaDoor
