import Derived.Test.YtllpfojkbeloeaaDoorRef5
import Derived.Test.YtllpfojkbeloeaaDoorOne
import Derived.Test.YtllpfojkbeloeaaDoorTake
namespace Go.Proofs.YtllpfojkbeloeaaDoor
open Go.RowKit Go.QK

/-- 'append(v, x...)' of bytes, as one operation of a region. -/
theorem exec_app (o : Oper) (ev : Operand → Value) (s x : Operand) (ho : o.op = .call { callee := .builtin .append, args := #[s, x], argTypes := #[29, 29] }) (w : World)
    (B : Nat) (v : Value) (l : List Nat) (hs : ev s = v) (hown : OwnB w B v l) (ax : Option Addr) (n c : Nat) (m : List Nat) (hm : m.length = n) (hx : ev x = .slice ax n c) (hseen : Bytes w ax m) (hnil : ax = none → c = 0) (hl : l.length + m.length ≤ 2000000) (hB : B ≤ w.heap.size) :
    ∃ v' w', (execOp ev o).run Tryd.prog w = .ok (.value v') w' ∧ OwnB w' B v' (l ++ m) ∧ w.grownBy w' v.ownBlock ∧ (v'.ownBlock = v.ownBlock ∨ v'.ownBlock = some w.heap.size) := by
  obtain ⟨i0, hi, hz0, hz1, hz2⟩ := info_parts info5
  have hown' : w.ownsRow B 5 1 v l.length ((ints l).map (Value.int .u8)) := by
    have h : w.ownsRow B 5 1 v (ints l).length ((ints l).map (Value.int .u8)) := hown
    rw [ints_length] at h
    exact h
  cases ax with
  | none =>
    have hc := hnil rfl
    subst hc
    have hm0 : m = [] := by
      rcases hseen with q | ⟨_, _, q, _⟩
      · cases m with
        | nil => rfl
        | cons y m => simp [ints] at q
      · cases q
    subst hm0
    simp at hm
    subst hm
    have hrun := run_append_owned_none (P := Tryd.prog) (w := w) B 29 o.type 5 i0 1 Tryd.underlying29 hi v l.length _ hown'
    refine ⟨v, w, ?_, by rw [List.append_nil]; exact hown, World.grownBy.refl _ _, .inl rfl⟩
    unfold execOp
    simp only [ho, resolve, invoke, builtin, Sem.run_bind, Sem.run_pure, Result.andThen_ok, List.map_toArray, List.map_cons, List.map_nil, hs, hx, hrun]
  | some ad =>
    obtain ⟨v', w', hr, h2, h3, h4, h5⟩ := run_append_own_at (P := Tryd.prog) w B 29 o.type 5 i0 (.int .u8 0) 1 1 Tryd.underlying29 hi hz0 hz1 hz2 rfl (by decide) v l.length _ hown' ad n c ((ints m).map (Value.int .u8)) (by simp; exact hm)
      (by
        intro j u hj
        rcases hseen with q | ⟨b, off, q, _, hc⟩
        · rw [q] at hj; simp at hj
        · cases q
          simp only [List.getElem?_map, Option.map_eq_some_iff] at hj
          obtain ⟨q, hq, rfl⟩ := hj
          obtain ⟨hjl, hq'⟩ := List.getElem?_eq_some_iff.1 hq
          rw [addr_add, hc j hjl, hq'])
      (by
        intro u hu
        simp at hu
        obtain ⟨q, _, rfl⟩ := hu
        rfl) (by unfold maxLen; omega) (by omega) hB
    refine ⟨v', w', ?_, ?_, h3, h5⟩
    · unfold execOp
      simp only [ho, resolve, invoke, builtin, Sem.run_bind, Sem.run_pure, Result.andThen_ok, List.map_toArray, List.map_cons, List.map_nil, hs, hx, hr]
    · unfold OwnB Owns
      rw [ints_append]
      subst hm
      simpa using h2
theorem wp_app {o : Oper} {a : Act} {x : World} {K : Act → World → Prop} {Q : Exit → Act → World → Prop} {cond : Bool} (d : Nat) (s t : Operand) (hc : cond = true) (hd : o.dst = some d)
    (ho : o.op = .call { callee := .builtin .append, args := #[s, t], argTypes := #[29, 29] })
    (B : Nat) (v : Value) (l : List Nat) (hs : a.eval s = v) (hown : OwnB x B v l) (ax : Option Addr) (n c : Nat) (m : List Nat) (hm : m.length = n) (hx : a.eval t = .slice ax n c) (hseen : Bytes x ax m) (hnil : ax = none → c = 0) (hl : l.length + m.length ≤ 2000000) (hB : B ≤ x.heap.size)
    (h : ∀ v' x', OwnB x' B v' (l ++ m) → x.grownBy x' v.ownBlock → K (a.put (some d) v') x') : if cond = true then Oper.wp Tryd.prog o a x K Q else K (a.put o.dst undef) x := by
  rw [if_pos hc]
  obtain ⟨v', x', hrun, h1, h2, _⟩ := exec_app o a.eval s t ho x B v l hs hown ax n c m hm hx hseen hnil hl hB
  unfold Oper.wp
  rw [hrun]
  show K (a.put o.dst v') x'
  rw [hd]
  exact h v' x' h1 h2
theorem wp_same {o : Oper} {a : Act} {x : World} {K : Act → World → Prop} {Q : Exit → Act → World → Prop} {cond : Bool} (d : Nat) {s t : Operand} {u v : Value} (hc : cond = true) (hd : o.dst = some d)
    (ho : o.op = .call { callee := .value (.func 25), args := #[s, t], argTypes := #[29, 29] }) (hs : a.eval s = u) (ht : a.eval t = v)
    (h : Calls Tryd.prog 25 #[u, v] x fun e x' => match e with | .returned r => K (a.put (some d) r) x' | .panicked ch => Q (.panic ch) a x' | .outgrown => LetsOut Q) : if cond = true then Oper.wp Tryd.prog o a x K Q else K (a.put o.dst undef) x := by
  rw [if_pos hc]
  have hf : a.eval (.func 25) = .func (.func 25) #[] #[] := rfl
  have hrun : (execOp a.eval o).run Tryd.prog x = .ok (.enter 25 #[u, v]) x := by
    generalize a.eval = ev at *
    obtain ⟨d, op, ty, ps, af, gd⟩ := o
    subst ho
    go_simp
  unfold Oper.wp
  rw [hrun]
  refine Calls.mono h (fun e x' he => ?_)
  cases e with
  | returned r =>
    show K (a.put o.dst r) x'
    rw [hd]
    exact he
  | panicked ch => exact he
  | outgrown => exact he

set_option maxHeartbeats 2000000 in
set_option maxRecDepth 100000 in
theorem kept_any (g n c : Nat) (P l : List Nat) (ab : Option Addr) (cb : Nat) (w : World) (hP : Bytes w (some ⟨g, 0, none⟩) P) (hPl : P.length = l.length + 3) (hPc : l.length + 3 ≤ c) (hb : Bytes w ab l) (hnb : ab = none → cb = 0) (hl : l.length ≤ 1000000) (bP : AllB P) (bl : AllB l) :
    Calls Tryd.prog 46 #[.slice (some ⟨g, 0, none⟩) n c, .slice ab l.length cb] w fun e w' => e = .returned (.bool (decide (P = l ++ marks))) ∧ Below w.heap.size w w' := by
  have HP : Hid (Bytes w (some ⟨g, 0, none⟩) P) := hP
  have HB : Hid (Bytes w ab l) := hb
  have hl0 : ([] : List Nat).length + l.length ≤ 2000000 := by simp; omega
  have hl3 : l.length + marks.length ≤ 2000000 := by simp [marks]; omega
  have hcc : l.length + 3 ≤ c := hPc
  have ew : IntKind.i64.wrap ((l.length : Int) + 3) = (l.length : Int) + 3 := by rw [IntKind.wrap_i64]; omega
  have gq : 0 ≤ (l.length : Int) + 3 ∧ (l.length : Int) + 3 ≤ (c : Int) := by omega
  have gt : ((l.length : Int) + 3).toNat = l.length + 3 := by omega
  clear hP hb
  have hP := hPl
  go_enter Tryd.func46, Tryd.ntmps46
  go_upto_region 1 with fail
  refine wp_region_held_drew (S := fun _ => True) (by kernel_rfl) trivial (fun hS => ?_)
  refine take_at 0 (some 5) (v := ?_) rfl rfl (by kernel_rfl) (by kernel_rfl) (by kernel_rfl) (fun _ _ _ h => h) ⟨by rfl, ?_⟩ hS ?_
  rotate_left
  · intro wq hSw; (try dsimp only at hSw); go_simp; try rfl
  simp only [Act.put, List.setIfInBounds_toArray, List.set_cons_zero, List.set_cons_succ]
  refine take_at 1 (some 6) (v := ?_) rfl rfl (by kernel_rfl) (by kernel_rfl) (by kernel_rfl) (fun _ _ _ h => h) ⟨by rfl, ?_⟩ hS ?_
  rotate_left
  · intro wq hSw; (try dsimp only at hSw); go_simp; try rfl
  simp only [Act.put, List.setIfInBounds_toArray, List.set_cons_zero, List.set_cons_succ]
  refine take_at 2 (some 7) (v := ?_) rfl rfl (by kernel_rfl) (by kernel_rfl) (by kernel_rfl) (fun _ _ _ h => h) ⟨by rfl, ?_⟩ hS ?_
  rotate_left
  · intro wq hSw; (try dsimp only at hSw); go_simp; try rfl
  simp only [Act.put, List.setIfInBounds_toArray, List.set_cons_zero, List.set_cons_succ]
  refine take_at 3 (some 8) (v := ?_) rfl rfl (by kernel_rfl) (by kernel_rfl) (by kernel_rfl) (fun _ _ _ h => h) ⟨by rfl, ?_⟩ hS ?_
  rotate_left
  · intro wq hSw; (try dsimp only at hSw); go_simp; try rfl
  simp only [Act.put, List.setIfInBounds_toArray, List.set_cons_zero, List.set_cons_succ]
  refine take_at 4 (some 9) (v := ?_) rfl rfl (by kernel_rfl) (by kernel_rfl) (by kernel_rfl) (fun _ _ _ h => h) ⟨by rfl, ?_⟩ hS ?_
  rotate_left
  · intro wq hSw; (try dsimp only at hSw); go_simp; try rfl
  simp only [Act.put, List.setIfInBounds_toArray, List.set_cons_zero, List.set_cons_succ]
  refine take_at 5 (some 10) (v := ?_) rfl rfl (by kernel_rfl) (by kernel_rfl) (by kernel_rfl) (fun _ _ _ h => h) ⟨by rfl, ?_⟩ hS ?_
  rotate_left
  · intro wq hSw; (try dsimp only at hSw); go_simp; try rfl
  simp only [Act.put, List.setIfInBounds_toArray, List.set_cons_zero, List.set_cons_succ]
  have B0 : Below w.heap.size w w.drew := (Below.refl _ _).drew
  refine wpAnyH_ready (rs := [6, 7]) (by kernel_rfl) (by simp) ?_
  refine AllReadyH.cons rfl (fun K hK => ?_) (AllReadyH.cons rfl (fun K hK => ?_) AllReadyH.nil)
  · refine wp_app 11 (.const (.slice none 0 0)) (.tmp 10) rfl rfl rfl w.heap.size (.slice none 0 0) [] rfl (Owns.nil _ _ _ _) ab l.length cb l rfl rfl (Seen.below HB.out B0) hnb hl0 (Nat.le_refl _) ?_
    intro v6 w6 o6 g6
    have BW6 : Below w.heap.size w w6 := B0.grown g6 (Nat.le_refl _) (by nofun)
    have HO6 : Hid (OwnB w6 w.heap.size v6 l) := o6
    refine hK.out _ _ trivial (fun hT => ?_)
    clear hK K hT o6 g6
    simp only [Act.put, List.setIfInBounds_toArray, List.set_cons_zero, List.set_cons_succ]
    refine wpAnyH_ready (rs := [7]) (by kernel_rfl) (by simp) ?_
    refine AllReadyH.cons rfl (fun K hK => ?_) AllReadyH.nil
    go_simp
    go_wp2_with fail
    obtain ⟨gm, hgm⟩ : ∃ gm, gm = w6.heap.size := ⟨_, rfl⟩
    have L1 : OwnB (w6.alloc (.cells #[.int .u8 90, .int .u8 165, .int .u8 51] 5)) w6.heap.size (.slice (some ⟨w6.heap.size, 0, none⟩) 3 3) marks := lit_own w6 marks (by decide)
    have HM7 : Hid (Bytes (w6.alloc (.cells #[.int .u8 90, .int .u8 165, .int .u8 51] 5)) (some ⟨gm, 0, none⟩) marks) := by rw [hgm]; exact Owns.seen_at L1
    have HO7 : Hid (OwnB (w6.alloc (.cells #[.int .u8 90, .int .u8 165, .int .u8 51] 5)) w.heap.size v6 l) := HO6.out.alloc _
    have BW7 : Below w.heap.size w (w6.alloc (.cells #[.int .u8 90, .int .u8 165, .int .u8 51] 5)) := BW6.alloc BW6.size _
    rw [← hgm]
    clear L1 HO6 BW6 hgm
    generalize w6.alloc (.cells #[.int .u8 90, .int .u8 165, .int .u8 51] 5) = w7 at *
    refine hK.out _ _ trivial (fun hT => ?_)
    clear hK K hT
    refine wpAnyH_ready (rs := [8]) (by kernel_rfl) (by simp) ?_
    refine AllReadyH.cons rfl (fun K hK => ?_) AllReadyH.nil
    refine wp_app 13 (.tmp 11) (.tmp 12) rfl rfl rfl w.heap.size v6 l rfl HO7.out (some ⟨gm, 0, none⟩) 3 3 marks rfl rfl HM7.out nofun hl3 BW7.size ?_
    intro v8 w8 o8 g8
    refine hK.out _ _ trivial (fun hT => ?_)
    clear hK K hT
    have BW8 : Below w.heap.size w w8 := BW7.grown g8 BW7.size (fun j hj => (World.ownsRow.lt HO7.out j hj).1)
    obtain ⟨a8, c8, rfl, s8, _⟩ := o8.seen
    have hlen8 : (ints (l ++ marks)).length = (l ++ marks).length := ints_length _
    rw [hlen8]
    have HS8 : Hid (Bytes w8 a8 (l ++ marks)) := s8
    clear o8 g8 s8 HO7 HM7 hlen8
    simp only [Act.put, List.setIfInBounds_toArray, List.set_cons_zero, List.set_cons_succ]
    refine wpAnyH_ready (rs := [9]) (by kernel_rfl) (by simp) ?_
    refine AllReadyH.cons rfl (fun K hK => ?_) AllReadyH.nil
    refine wp_same 14 rfl rfl rfl rfl rfl ?_
    have K1 := same_any (some ⟨g, 0, none⟩) a8 P (l ++ marks) c c8 w8 (Seen.below HP.out BW8) HS8.out bP (bl.append marks_b)
    rw [hP] at K1
    refine K1.mono ?_
    rintro e w9 ⟨rfl, rfl⟩
    refine hK.out _ _ trivial (fun hT => ?_)
    clear hK K hT K1
    simp only [Act.put, List.setIfInBounds_toArray, List.set_cons_zero, List.set_cons_succ]
    refine take_at 10 (some 4) (v := ?_) rfl rfl (by kernel_rfl) (by kernel_rfl) (by kernel_rfl) (fun _ _ _ h => h) ⟨by rfl, ?_⟩ hS ?_
    rotate_left
    · intro wq hSw; (try dsimp only at hSw); go_simp; try rfl
    simp only [Act.put, List.setIfInBounds_toArray, List.set_cons_zero, List.set_cons_succ]
    refine wpAnyH_done (by kernel_rfl) ?_ _
    go_wp2_with fail
    go_ret
    exact ⟨rfl, BW8⟩
  · go_simp
    go_wp2_with fail
    obtain ⟨gm, hgm⟩ : ∃ gm, gm = w.heap.size := ⟨_, rfl⟩
    have L1 : OwnB (w.drew.alloc (.cells #[.int .u8 90, .int .u8 165, .int .u8 51] 5)) w.drew.heap.size (.slice (some ⟨w.drew.heap.size, 0, none⟩) 3 3) marks := lit_own w.drew marks (by decide)
    have HM6 : Hid (Bytes (w.alloc (.cells #[.int .u8 90, .int .u8 165, .int .u8 51] 5)).drew (some ⟨gm, 0, none⟩) marks) := by rw [hgm]; exact Owns.seen_at L1
    have BW6 : Below w.heap.size w (w.alloc (.cells #[.int .u8 90, .int .u8 165, .int .u8 51] 5)).drew := ((Below.refl _ _).alloc (Nat.le_refl _) _).drew
    rw [← hgm]
    clear L1 hgm
    generalize (w.alloc (.cells #[.int .u8 90, .int .u8 165, .int .u8 51] 5)).drew = w6 at *
    refine hK.out _ _ trivial (fun hT => ?_)
    clear hK K hT
    refine wpAnyH_ready (rs := [6]) (by kernel_rfl) (by simp) ?_
    refine AllReadyH.cons rfl (fun K hK => ?_) AllReadyH.nil
    refine wp_app 11 (.const (.slice none 0 0)) (.tmp 10) rfl rfl rfl w.heap.size (.slice none 0 0) [] rfl (Owns.nil _ _ _ _) ab l.length cb l rfl rfl (Seen.below HB.out BW6) hnb hl0 BW6.size ?_
    intro v6 w7 o6 g6
    have HO7 : Hid (OwnB w7 w.heap.size v6 l) := o6
    have HM7 : Hid (Bytes w7 (some ⟨gm, 0, none⟩) marks) := Seen.keep HM6.out ((Keep.refl (fun _ => False) w6).grown g6 (by nofun)) (fun _ _ => id)
    have BW7 : Below w.heap.size w w7 := BW6.grown g6 BW6.size (by nofun)
    refine hK.out _ _ trivial (fun hT => ?_)
    clear hK K hT o6 g6 HM6 BW6
    simp only [Act.put, List.setIfInBounds_toArray, List.set_cons_zero, List.set_cons_succ]
    refine wpAnyH_ready (rs := [8]) (by kernel_rfl) (by simp) ?_
    refine AllReadyH.cons rfl (fun K hK => ?_) AllReadyH.nil
    refine wp_app 13 (.tmp 11) (.tmp 12) rfl rfl rfl w.heap.size v6 l rfl HO7.out (some ⟨gm, 0, none⟩) 3 3 marks rfl rfl HM7.out nofun hl3 BW7.size ?_
    intro v8 w8 o8 g8
    refine hK.out _ _ trivial (fun hT => ?_)
    clear hK K hT
    have BW8 : Below w.heap.size w w8 := BW7.grown g8 BW7.size (fun j hj => (World.ownsRow.lt HO7.out j hj).1)
    obtain ⟨a8, c8, rfl, s8, _⟩ := o8.seen
    have hlen8 : (ints (l ++ marks)).length = (l ++ marks).length := ints_length _
    rw [hlen8]
    have HS8 : Hid (Bytes w8 a8 (l ++ marks)) := s8
    clear o8 g8 s8 HO7 HM7 hlen8
    simp only [Act.put, List.setIfInBounds_toArray, List.set_cons_zero, List.set_cons_succ]
    refine wpAnyH_ready (rs := [9]) (by kernel_rfl) (by simp) ?_
    refine AllReadyH.cons rfl (fun K hK => ?_) AllReadyH.nil
    refine wp_same 14 rfl rfl rfl rfl rfl ?_
    have K1 := same_any (some ⟨g, 0, none⟩) a8 P (l ++ marks) c c8 w8 (Seen.below HP.out BW8) HS8.out bP (bl.append marks_b)
    rw [hP] at K1
    refine K1.mono ?_
    rintro e w9 ⟨rfl, rfl⟩
    refine hK.out _ _ trivial (fun hT => ?_)
    clear hK K hT K1
    simp only [Act.put, List.setIfInBounds_toArray, List.set_cons_zero, List.set_cons_succ]
    refine take_at 10 (some 4) (v := ?_) rfl rfl (by kernel_rfl) (by kernel_rfl) (by kernel_rfl) (fun _ _ _ h => h) ⟨by rfl, ?_⟩ hS ?_
    rotate_left
    · intro wq hSw; (try dsimp only at hSw); go_simp; try rfl
    simp only [Act.put, List.setIfInBounds_toArray, List.set_cons_zero, List.set_cons_succ]
    refine wpAnyH_done (by kernel_rfl) ?_ _
    go_wp2_with fail
    go_ret
    exact ⟨rfl, BW8⟩
end Go.Proofs.YtllpfojkbeloeaaDoor
