import Derived.Test.YtapjbgkmcplpbaaGreatG21
namespace Go.Proofs.YtapjbgkmcplpbaaGreat
open Go.RowKit Go.QK

theorem run_equalIn_iface_int' {P : Program} (w : World) (d : Nat) {ti tn : TypeId} {ms : Array (String × TypeId)} {i : TypeInfo} {k : IntKind} (a b : Int)
    (hi : P.underlying ti = some (.interface ms)) (hn : P.underlying tn = some (.int k)) (hinfo : P.info? tn = some i) (hcomp : i.comparable = true) :
    (Op.equalIn (d + 2) ti (.iface tn (.int k a)) (.iface tn (.int k b))).run P w = .ok (a == b) w := by
  simp [Op.equalIn, run_underlying hi, run_underlying hn, typeInfo, hinfo, hcomp]
theorem eql_errno (a b : Int) (w : World) : (binOp .eql 47 (.iface 38 (.int .i64 a)) (.iface 38 (.int .i64 b))).run Tryz.prog w = .ok (.bool (a == b)) w := by
  have hc : (Tryz.prog.info? 38).map (fun i => i.comparable) = some true := by kernel_rfl
  cases hq : Tryz.prog.info? 38 with
  | none => simp [hq] at hc
  | some i =>
    simp [hq] at hc
    have e := run_equalIn_iface_int' (P := Tryz.prog) w 9998 a b Tryz.underlying47 Tryz.underlying38 hq hc
    simp only [binOp]
    simp [Op.equal, Op.maxDepth, e]

theorem assert_nil (w : World) : (Instr.typeAssert .nilIface 47 85 true).run Tryz.prog w = .ok (.tuple #[.pointer none, .bool false]) w := by
  have hz : (Tryz.prog.info? 85).map (fun i => i.zero) = some (some (.pointer none)) := by kernel_rfl
  have z : (zeroValue 85).run Tryz.prog w = .ok (.pointer none) w := by
    cases hq : Tryz.prog.info? 85 with
    | none => simp [hq] at hz
    | some i =>
      simp [hq] at hz
      simp [zeroValue, typeInfo, hq, hz]
  unfold Instr.typeAssert
  simp [run_underlying Tryz.underlying85, z]
theorem assert_fault (v : Value) (w : World) : (Instr.typeAssert (.iface 85 v) 47 85 true).run Tryz.prog w = .ok (.tuple #[v, .bool true]) w := by
  unfold Instr.typeAssert
  simp [run_underlying Tryz.underlying85]

abbrev formatS : ByteArray := ⟨#[70, 111, 114, 109, 97, 116]⟩
abbrev openS : ByteArray := ⟨#[79, 112, 101, 110]⟩
abbrev pointS : ByteArray := ⟨#[80, 111, 105, 110, 116]⟩

set_option maxHeartbeats 1000000 in
set_option maxRecDepth 100000 in
theorem Format_any {w : World} {S : Nat → Prop} {d : Nat} {g : Dev} (h : PDev w S d g) (p l f : Int) (hpl : g.pend.length ≤ 999990) (hcl : g.calls ≤ 999990) :
    Calls Tryz.prog 14 #[.pointer (some ⟨d, 0, none⟩), .agg (shC p l f)] w fun x w' => ∃ S' v, x = .returned v ∧ ErrAt w' v formatS (g.formatE p l f) ∧ PDev w' S' d (g.formatD p l f) ∧ Step w S w' S' := by
  obtain ⟨w1, hw1⟩ : ∃ w1, w1 = w.alloc (.cells #[.int .i64 p, .int .i64 l, .int .i64 f] 23) := ⟨_, rfl⟩
  have b1 : Below w.heap.size w w1 := by rw [hw1]; exact alloc_below _ _
  have K := format_any (h.below b1) p l f hpl hcl
  generalize g.formatE p l f = ee at *
  generalize g.formatD p l f = gg at *
  unfold shC at K ⊢
  have K := hide K
  have HW := hide hw1
  have B1 := hide b1
  clear h hw1 b1
  go_enter Tryz.func14, Tryz.ntmps14
  go_wp2_with fail
  rw [← HW.out]
  clear HW
  refine K.out.mono ?_
  rintro e w2 ⟨S2, rfl, P2, st2⟩
  have KF := hide (fault_any formatS ee w2)
  have P2 := hide P2
  have ST := hide ((Step.of_below B1.out).trans st2)
  clear K st2 B1
  go_wp2_with fail
  refine KF.out.mono ?_
  rintro e w3 ⟨v, rfl, h3, b3⟩
  go_wp2_with fail
  go_ret
  exact ⟨S2, v, rfl, h3, P2.out.below b3, ST.out.trans (Step.of_below b3)⟩

set_option maxHeartbeats 1000000 in
set_option maxRecDepth 100000 in
theorem Format_nil (p l f : Int) (w : World) : Calls Tryz.prog 14 #[.pointer none, .agg (shC p l f)] w fun x w' => ∃ v, x = .returned v ∧ ErrAt w' v formatS 3 ∧ Below w.heap.size w w' := by
  have K := format_nil p l f (w.alloc (.cells #[.int .i64 p, .int .i64 l, .int .i64 f] 23))
  have b1 := alloc_below w (.cells #[.int .i64 p, .int .i64 l, .int .i64 f] 23)
  unfold shC at K ⊢
  have K := hide K
  have B1 := hide b1
  clear b1
  go_enter Tryz.func14, Tryz.ntmps14
  go_wp2_with fail
  refine K.out.mono ?_
  rintro e w2 ⟨rfl, b2⟩
  have KF := hide (fault_any formatS 3 w2)
  have B2 := hide (bnext B1.out b2 (Nat.le_refl _))
  clear K b2
  go_wp2_with fail
  refine KF.out.mono ?_
  rintro e w3 ⟨v, rfl, h3, b3⟩
  go_wp2_with fail
  go_ret
  exact ⟨v, rfl, h3, bnext B2.out b3 (Nat.le_refl _)⟩

set_option maxHeartbeats 1000000 in
set_option maxRecDepth 100000 in
theorem Point_any {w : World} {S : Nat → Prop} {d : Nat} {g : Dev} (h : PDev w S d g) (lsn : Int) (hpl : g.pend.length ≤ 999990) (hcl : g.calls ≤ 999990) :
    Calls Tryz.prog 15 #[.pointer (some ⟨d, 0, none⟩), .int .i64 lsn] w fun x w' => ∃ S' v, x = .returned v ∧ ErrAt w' v pointS (g.pointE lsn) ∧ PDev w' S' d (g.pointD lsn) ∧ Step w S w' S' := by
  have K := point_any h lsn hpl hcl
  generalize g.pointE lsn = ee at *
  generalize g.pointD lsn = gg at *
  have K := hide K
  clear h
  go_enter Tryz.func15, Tryz.ntmps15
  go_wp2_with fail
  refine K.out.mono ?_
  rintro e w2 ⟨S2, rfl, P2, st2⟩
  have KF := hide (fault_any pointS ee w2)
  have P2 := hide P2
  have ST := hide st2
  clear K st2
  go_wp2_with fail
  refine KF.out.mono ?_
  rintro e w3 ⟨v, rfl, h3, b3⟩
  go_wp2_with fail
  go_ret
  exact ⟨S2, v, rfl, h3, P2.out.below b3, ST.out.trans (Step.of_below b3)⟩

set_option maxHeartbeats 1000000 in
set_option maxRecDepth 100000 in
theorem Point_nil (lsn : Int) (w : World) : Calls Tryz.prog 15 #[.pointer none, .int .i64 lsn] w fun x w' => ∃ v, x = .returned v ∧ ErrAt w' v pointS 3 ∧ Below w.heap.size w w' := by
  have K := hide (point_nil lsn w)
  have KF := hide (fault_any pointS 3 w)
  go_enter Tryz.func15, Tryz.ntmps15
  go_wp2_with fail
  refine K.out.mono ?_
  rintro e w' ⟨rfl, hw⟩
  obtain rfl : w = w' := hw.symm
  go_wp2_with fail
  refine KF.out.mono ?_
  rintro e w3 ⟨v, rfl, h3, b3⟩
  go_wp2_with fail
  go_ret
  exact ⟨v, rfl, h3, b3⟩

set_option maxHeartbeats 2000000 in
set_option maxRecDepth 100000 in
theorem Open_of (x : Value) (m : Slot) (e : Nat) (w : World) (KY : ∀ w', Below w.heap.size w w' → Calls Tryz.prog 48 #[x] w' fun r w'' => r = .returned (.tuple #[.agg (slotC m), .int .i64 (e : Int)]) ∧ Below w'.heap.size w' w'') :
    Calls Tryz.prog 16 #[x] w fun r w' => ∃ v, r = .returned (.tuple #[.agg (shC m.pages m.log m.frames), .int .i64 (m.point : Int), v]) ∧ ErrAt w' v openS e ∧ Below w.heap.size w w' := by
  obtain ⟨w1, hw1⟩ : ∃ w1, w1 = w.alloc (.cells #[.int .i64 0, .int .i64 0, .int .i64 0] 23) := ⟨_, rfl⟩
  have b1 : Below w.heap.size w w1 := by rw [hw1]; exact alloc_below _ _
  have C1 : cell3 w1 w.heap.size 0 0 0 := by rw [hw1]; exact cell3.new w 0 0 0
  have z1 : w1.heap.size = w.heap.size + 1 := by rw [hw1]; simp
  have K := KY w1 b1
  unfold slotC at K
  unfold shC
  have K := hide K
  have HW := hide hw1
  have B1 := hide b1
  have C1 := hide C1
  have Z1 := hide z1
  clear hw1 b1 KY z1
  go_enter Tryz.func16, Tryz.ntmps16
  go_wp2_with fail
  rw [← HW.out]
  clear HW
  refine K.out.mono ?_
  rintro r w2 ⟨rfl, b2⟩
  obtain ⟨w3, hw3⟩ : ∃ w3, w3 = w2.alloc (.cells (slotC m) 82) := ⟨_, rfl⟩
  have S3 : SlotAt w3 w2.heap.size m := by rw [hw3]; exact SlotAt.new w2 m
  have b3 : Below w2.heap.size w2 w3 := by rw [hw3]; exact alloc_below _ _
  have bb := bnext b2 b3 (Nat.le_refl _)
  have C3 := hide (C1.out.below bb)
  have B3 := hide (bnext B1.out bb (Nat.le_refl _))
  have F3 := S3.five
  have S3 := hide S3
  have z2 : w.heap.size < w2.heap.size := by have := Z1.out; have := b2.size; omega
  have z3 := b3.size
  have HW3 := hide hw3
  unfold slotC at HW3
  have KF := hide (fault_any openS e w3.drew)
  have D3 : Below w3.heap.size w3 w3.drew := (Below.refl _ _).drew
  clear hw3 b2 b3 bb K B1 C1
  go_upto_region 2 with fail
  rw [← HW3.out]
  clear HW3
  refine wp_region_held_drew (S := Five w2.heap.size m) (by kernel_rfl) F3 (fun hS => ?_)
  refine take_at 0 (some 12) (v := ?_) rfl rfl (by kernel_rfl) (by kernel_rfl) (by kernel_rfl) (fun _ _ _ h => h) ⟨by rfl, ?_⟩ hS ?_
  rotate_left
  · intro wq hSw; go_simp; try rfl
  simp only [Act.put, List.setIfInBounds_toArray, List.set_cons_zero, List.set_cons_succ]
  refine take_at 1 (some 13) (v := ?_) rfl rfl (by kernel_rfl) (by kernel_rfl) (by kernel_rfl) (fun _ _ _ h => h) ⟨by rfl, ?_⟩ hS ?_
  rotate_left
  · intro wq hSw; obtain ⟨x0, x1, x2, x3, x4⟩ := hSw; go_simp; try rfl
  simp only [Act.put, List.setIfInBounds_toArray, List.set_cons_zero, List.set_cons_succ]
  refine take_at 2 (some 14) (v := ?_) rfl rfl (by kernel_rfl) (by kernel_rfl) (by kernel_rfl) (fun _ _ _ h => h) ⟨by rfl, ?_⟩ hS ?_
  rotate_left
  · intro wq hSw; go_simp; try rfl
  simp only [Act.put, List.setIfInBounds_toArray, List.set_cons_zero, List.set_cons_succ]
  refine take_at 3 (some 15) (v := ?_) rfl rfl (by kernel_rfl) (by kernel_rfl) (by kernel_rfl) (fun _ _ _ h => h) ⟨by rfl, ?_⟩ hS ?_
  rotate_left
  · intro wq hSw; obtain ⟨x0, x1, x2, x3, x4⟩ := hSw; go_simp; try rfl
  simp only [Act.put, List.setIfInBounds_toArray, List.set_cons_zero, List.set_cons_succ]
  refine take_at 4 (some 16) (v := ?_) rfl rfl (by kernel_rfl) (by kernel_rfl) (by kernel_rfl) (fun _ _ _ h => h) ⟨by rfl, ?_⟩ hS ?_
  rotate_left
  · intro wq hSw; go_simp; try rfl
  simp only [Act.put, List.setIfInBounds_toArray, List.set_cons_zero, List.set_cons_succ]
  refine wpAnyH_ready (rs := [5]) (by kernel_rfl) (by simp) ?_
  refine AllReadyH.cons rfl (fun K hK => ?_) AllReadyH.nil
  go_simp
  go_wp2_with fail
  refine KF.out.mono ?_
  rintro r w4 ⟨v, rfl, h4, b4⟩
  have S4 := hide (S3.out.drew.below b4)
  have C4 := hide ((C3.out.below D3).below b4)
  have B4 := hide (bnext B3.out (below_undrew b4) (Nat.le_refl _))
  have z4 : w3.heap.size ≤ w4.heap.size := b4.size
  have q0 := C4.out.c0
  have q1 := C4.out.c1
  have q2 := C4.out.c2
  have f0 := C4.out.fr 0 (by omega)
  have f1 := C4.out.fr 1 (by omega)
  have f2 := C4.out.fr 2 (by omega)
  obtain ⟨w5, hw5⟩ : ∃ w5, w5 = ((w4.setCell ⟨w.heap.size, 0, none⟩ (.int .i64 (m.pages : Int))).setCell ⟨w.heap.size, 1, none⟩ (.int .i64 (m.log : Int))).setCell ⟨w.heap.size, 2, none⟩ (.int .i64 (m.frames : Int)) := ⟨_, rfl⟩
  have k5 : Keep (fun b => b = w.heap.size) w4 w5 := by rw [hw5]; exact (((Keep.refl (fun k => k = w.heap.size) w4).setCell (fun _ => rfl) _).setCell (fun _ => rfl) _).setCell (fun _ => rfl) _
  have C5 : cell3 w5 w.heap.size m.pages m.log m.frames := by rw [hw5]; exact ((Cells.stored C4.out (j := 0) (by simp) _).stored (j := 1) (by simp) _).stored (j := 2) (by simp) _
  have S5 := hide (S4.out.keep k5 (by omega))
  have h5 : ErrAt w5 v openS e := by
    rcases h4 with q | ⟨q, b, hv, hc⟩
    · exact .inl q
    · refine .inr ⟨q, b, hv, Cells.keep hc k5 (fun e => ?_)⟩
      subst e
      have a := (hc.2 0 (by simp)).1
      rw [q0] at a
      simp at a
  have B5 := hide (B4.out.trans (k5.below (by omega) (fun k hk => by omega)))
  have HW5 := hide hw5
  have C5 := hide C5
  have H5 := hide h5
  clear b4 S3 C3 B3 D3 KF hw5 h5 k5 h4 C4 B4
  go_wp2_with fail
  refine hK.out _ _ S4.out.five (fun hS => ?_)
  clear hK K
  (try simp only [Act.put, List.setIfInBounds_toArray, List.set_cons_zero, List.set_cons_succ])
  refine wpAnyH_ready (rs := [6]) (by kernel_rfl) (by simp) ?_
  refine AllReadyH.cons rfl (fun K hK => ?_) AllReadyH.nil
  go_simp
  go_wp2_with fail
  rw [← HW5.out]
  refine hK.out _ _ S5.out.five (fun hS => ?_)
  clear hK K
  (try simp only [Act.put, List.setIfInBounds_toArray, List.set_cons_zero, List.set_cons_succ])
  refine take_at 7 (some 3) (v := ?_) rfl rfl (by kernel_rfl) (by kernel_rfl) (by kernel_rfl) (fun _ _ _ h => h) ⟨by rfl, ?_⟩ hS ?_
  rotate_left
  · intro wq hSw; go_simp; try rfl
  simp only [Act.put, List.setIfInBounds_toArray, List.set_cons_zero, List.set_cons_succ]
  refine take_at 8 (some 4) (v := ?_) rfl rfl (by kernel_rfl) (by kernel_rfl) (by kernel_rfl) (fun _ _ _ h => h) ⟨by rfl, ?_⟩ hS ?_
  rotate_left
  · intro wq hSw; go_simp; try rfl
  simp only [Act.put, List.setIfInBounds_toArray, List.set_cons_zero, List.set_cons_succ]
  refine wpAnyH_done (by kernel_rfl) ?_ _
  go_wp2_with fail
  have y0 := C5.out.c0
  have y1 := C5.out.c1
  have y2 := C5.out.c2
  exact bodyPost_ret (v := .tuple #[.agg #[.int .i64 (m.pages : Int), .int .i64 (m.log : Int), .int .i64 (m.frames : Int)], .int .i64 (m.point : Int), v]) (by simp [results, Tryz.results16, go_sem, y0, y1, y2]) rfl ⟨v, rfl, H5.out, B5.out⟩

theorem Open_any {w : World} {S : Nat → Prop} {d : Nat} {g : Dev} (h : PDev w S d g) (hpl : g.pend.length ≤ 1000000) :
    Calls Tryz.prog 16 #[.pointer (some ⟨d, 0, none⟩)] w fun r w' => ∃ v, r = .returned (.tuple #[.agg (shC g.openS.pages g.openS.log g.openS.frames), .int .i64 (g.openS.point : Int), v]) ∧ ErrAt w' v openS g.openE ∧ Below w.heap.size w w' :=
  Open_of _ g.openS g.openE w (fun _ hb => young_any (h.below hb) hpl)
theorem Open_nil (w : World) : Calls Tryz.prog 16 #[.pointer none] w fun r w' => ∃ v, r = .returned (.tuple #[.agg (shC 0 0 0), .int .i64 0, v]) ∧ ErrAt w' v openS 3 ∧ Below w.heap.size w w' :=
  Open_of _ Slot.none 3 w (fun w' _ => young_nil w')

set_option maxHeartbeats 2000000 in
set_option maxRecDepth 100000 in
theorem told_any (v : Value) (call : ByteArray) (e : Nat) (want : Int) (w : World) (h : ErrAt w v call e) :
    Calls Tryz.prog 17 #[v, .string call, .int .i64 want] w fun r w' => r = .returned (.bool (decide ((e : Int) = want))) ∧ w' = w := by
  obtain ⟨bb, hbb⟩ : ∃ bb, bb = decide ((e : Int) = want) := ⟨_, rfl⟩
  rw [← hbb]
  have HB := hide hbb
  clear hbb
  have EQ := fun a b w => eql_errno a b w
  have A1 := assert_nil
  have A2 := assert_fault
  rcases h with ⟨rfl, rfl⟩ | ⟨hne, b, rfl, hc⟩
  · by_cases hw : want = 0
    · subst hw
      obtain rfl : true = bb := by rw [HB.out]; rfl
      go_enter Tryz.func17, Tryz.ntmps17
      go_wp2_with fail
      go_ret
      exact ⟨rfl, rfl⟩
    · have hw' : (want == 0) = false := by simpa using hw
      obtain rfl : false = bb := by rw [HB.out]; symm; apply decide_eq_false; omega
      clear hw HB
      go_enter Tryz.func17, Tryz.ntmps17
      go_wp2_with fail
      go_ret
      exact ⟨rfl, rfl⟩
  · obtain ⟨c0, _⟩ := hc.get 0 _ rfl
    obtain ⟨c1, _⟩ := hc.get 1 _ rfl
    obtain ⟨c2, _⟩ := hc.get 2 _ rfl
    by_cases hw : want = 0
    · subst hw
      obtain rfl : false = bb := by rw [HB.out]; symm; apply decide_eq_false; omega
      clear HB hne
      go_enter Tryz.func17, Tryz.ntmps17
      go_wp2_with fail
      go_ret
      exact ⟨rfl, rfl⟩
    · have hw' : (want == 0) = false := by simpa using hw
      have hd : ((e : Int) == want) = bb := by rw [HB.out]; rfl
      clear hw HB hne
      go_enter Tryz.func17, Tryz.ntmps17
      go_wp2_with fail
      go_ret
      exact ⟨rfl, rfl⟩
end Go.Proofs.YtapjbgkmcplpbaaGreat
