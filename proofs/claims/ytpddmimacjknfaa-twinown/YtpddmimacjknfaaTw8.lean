import Derived.Test.YtpddmimacjknfaaTw7
namespace Go.Proofs.Ytpddmimacjknfaa
open Go.RowKit Go.QK
set_option maxRecDepth 100000

/-! A region that draws its order in a function that defers. -/
theorem leaves_tmps {P : Program} {fn : Func} {t t' : Array Value} {R : Ending → World → Prop} (h : results fn t = results fn t') : (ds : List Deferred) → (u : FrameMode) → (w : World) → Leaves P fn t R ds u w → Leaves P fn t' R ds u w
  | [], .returning, w, k => by
    obtain ⟨v, h1, h2⟩ := k
    exact ⟨v, by rw [← h]; exact h1, h2⟩
  | [], .panicking _, _, k => k
  | [], .run, _, k => k
  | d :: ds, u, w, k => by
    obtain ⟨h1, fv, cap, f, args, h2, h3, h4⟩ := k
    refine ⟨h1, fv, cap, f, args, h2, h3, h4.mono fun e u' w' q => ?_⟩
    cases e with
    | returned v => exact leaves_tmps h ds _ _ q
    | panicked c => exact leaves_tmps h ds _ _ q
    | outgrown => exact q
theorem res16 (t : Array Value) (d : Nat) (v : Value) (h4 : d ≠ 4) (h5 : d ≠ 5) : results Try.f16 (t.setIfInBounds d v) = results Try.f16 t := by
  have e4 : (t.setIfInBounds d v).getD 4 undef = t.getD 4 undef := by
    simp only [Array.getD_eq_getD_getElem?]
    rw [Array.getElem?_setIfInBounds_ne h4]
  have e5 : (t.setIfInBounds d v).getD 5 undef = t.getD 5 undef := by
    simp only [Array.getD_eq_getD_getElem?]
    rw [Array.getElem?_setIfInBounds_ne h5]
  unfold results
  simp only [Try.results16]
  simp
  simp only [Array.getD_eq_getD_getElem?] at e4 e5
  rw [e4, e5]
theorem fn_put {R : Ending → World → Prop} {c : List PanicEntry} {a : Act} {w : World} {d : Nat} {v : Value} (h4 : d ≠ 4) (h5 : d ≠ 5) (h : bodyPostD Try.prog Try.f16 R (.panic c) (a.put (some d) v) w) : bodyPostD Try.prog Try.f16 R (.panic c) a w :=
  leaves_tmps (res16 a.tmps d v h4 h5) _ _ _ h
section
variable {P : Program} {ops : Array Oper} {Q : Exit → Act → World → Prop} {md : Region.Mode} {Sw : World → Prop}
theorem take_atD (i : Nat) (d : Option Nat) {oi : Oper} {v : Value} {fuel : Nat} {listed : Array Bool} {t : Array Value} {ds : List Deferred} {w : World} (hi : ops[i]? = some oi) (hd : oi.dst = d)
    (hs : Region.noSelect ops = true) (hf : Region.free md ops listed i = true) (hr : (Region.ready md ops listed).contains i = true)
    (hQ : ∀ c a w, Q (.panic c) (a.put d v) w → Q (.panic c) a w)
    (hy : Region.wanted oi (yielded ops t) = true ∧ ∀ w, Sw w → (execOp (Act.eval { tmps := t, defers := ds }) oi).run P w = .ok (.value v) w) (hS : Sw w)
    (h : wpAnyH P md ops Q Sw fuel (listed.setIfInBounds i true) (Act.put { tmps := t, defers := ds } d v) w) : wpAnyH P md ops Q Sw (fuel + 1) listed { tmps := t, defers := ds } w := by
  subst hd
  exact wpAnyH_take hi hs hf hr hQ (Or.inl hy) hS h
theorem pass_atD (i : Nat) (d : Option Nat) {oi : Oper} {fuel : Nat} {listed : Array Bool} {t : Array Value} {ds : List Deferred} {w : World} (hi : ops[i]? = some oi) (hd : oi.dst = d)
    (hs : Region.noSelect ops = true) (hf : Region.free md ops listed i = true) (hr : (Region.ready md ops listed).contains i = true)
    (hQ : ∀ c a w, Q (.panic c) (a.put d undef) w → Q (.panic c) a w)
    (hy : Region.wanted oi (yielded ops t) = false) (hS : Sw w)
    (h : wpAnyH P md ops Q Sw fuel (listed.setIfInBounds i true) (Act.put { tmps := t, defers := ds } d undef) w) : wpAnyH P md ops Q Sw (fuel + 1) listed { tmps := t, defers := ds } w := by
  subst hd
  exact wpAnyH_take hi hs hf hr hQ (Or.inr ⟨hy, rfl⟩) hS h
end
theorem exec_load_arr {op : Oper} {ev : Operand → Value} {w : World} {g : Nat} {L : List Nat} (x : Operand) (ho : op.op = .load 76 x) (hx : ev x = .pointer (some ⟨g, 0, none⟩)) (h : Arr w 76 g L) (hl : L.length = 512) : (execOp ev op).run Try.prog w = .ok (.value (.agg (bytesV L))) w := by
  unfold execOp
  simp only [ho, hx, Sem.run_bind, load_arr h hl, Result.andThen]
  rfl
def FnPost (w : World) (S : Nat → Prop) (d : Nat) (E : Nat) (D : Dev) (F : Bool) (e : Ending) (w' : World) : Prop :=
  ∃ S' v, e = .returned (.tuple #[.bool F, v]) ∧ Told w' w.heap.size v finishS E ∧ PDev w' S' d D ∧ Step w S w' S'

set_option maxHeartbeats 8000000 in
theorem finish_twin {w : World} {S : Nat → Prop} {d : Nat} {g : Dev} (h : PDev w S d g) (at_ : Int) (hpl : g.pend.length ≤ 900000) (hcl : g.calls ≤ 900000) :
    Calls Try.prog 16 #[.pointer (some ⟨d, 0, none⟩), .int .i64 at_] w (FnPost w S d (g.fnE at_) (g.fnD at_) (g.fnB at_)) := by
  obtain ⟨w1, hw1, b1, z1, c4, c5⟩ := two_new w (.bool false) .nilIface 4 32
  have P1 := h.below b1
  have M1 : Mid w w1 w1 S S d 2 g := ⟨b1, z1, P1, h.lt, Step.refl _ _⟩
  obtain ⟨E, hE⟩ : ∃ E, E = g.fnE at_ := ⟨_, rfl⟩
  obtain ⟨D, hD⟩ : ∃ D, D = g.fnD at_ := ⟨_, rfl⟩
  obtain ⟨F, hF⟩ : ∃ F, F = g.fnB at_ := ⟨_, rfl⟩
  rw [← hE, ← hD, ← hF]
  unfold Dev.fnB at hF
  rw [← hE] at hF
  have GU := hide (fun e w => giveUp_any e w)
  have HW := hide hw1
  have HM1 := hide M1
  have C4 := hide c4
  have C5 := hide c5
  have DOOR : Hid (∀ (t : Array Value) (wi : World) (Si : Nat → Prop) (e : Nat) (g' : Dev), t.getD 4 undef = .pointer (some ⟨w.heap.size, 0, none⟩) → t.getD 5 undef = .pointer (some ⟨w.heap.size + 1, 0, none⟩) → Mid w w1 wi S Si d 2 g' → E = e → e ≠ 0 → D = g' → bodyPostD Try.prog Try.f16 (FnPost w S d E D F) (Exit.panic (pan e)) { tmps := t, defers := df_fn w.heap.size (w.heap.size + 1) } wi) := by
    intro t wi Si e g' h4 h5 hM he h0 hDg
    refine fn_door t wi _ _ e _ _ h4 h5 (hM.cells c4 (Nat.le_refl _) (by omega)) (hM.cells c5 (by omega) (by omega)) (by omega) ?_
    intro v w' hv hk
    obtain ⟨f1, f2⟩ := hM.fin hk (fun k q => by omega)
    have hsz := hM.st.1.size
    have hFf : F = false := by rw [hF, he, decide_eq_false h0, Bool.false_and]
    exact ⟨Si, v, by rw [hFf], .inr ⟨by rw [he]; exact h0, by rw [he]; exact hv.mono (by omega)⟩, by rw [hDg]; exact f1, f2⟩
  have DONE : Hid (∀ (t : Array Value) (wi : World) (Si : Nat → Prop) (g' : Dev) (f : Bool), t.getD 4 undef = .pointer (some ⟨w.heap.size, 0, none⟩) → t.getD 5 undef = .pointer (some ⟨w.heap.size + 1, 0, none⟩) → Mid w w1 wi S Si d 2 g' → E = 0 → D = g' → F = f → bodyPostD Try.prog Try.f16 (FnPost w S d E D F) Exit.ret { tmps := t, defers := df_fn w.heap.size (w.heap.size + 1) } ((wi.setCell ⟨w.heap.size, 0, none⟩ (.bool f)).setCell ⟨w.heap.size + 1, 0, none⟩ .nilIface)) := by
    intro t wi Si g' f h4 h5 hM he hDg hFf
    have k4 := hM.cells c4 (Nat.le_refl _) (by omega)
    have k5 := hM.cells c5 (by omega) (by omega)
    have hK : Keep (fun b => b = w.heap.size ∨ b = w.heap.size + 1) wi ((wi.setCell ⟨w.heap.size, 0, none⟩ (.bool f)).setCell ⟨w.heap.size + 1, 0, none⟩ .nilIface) := ((Keep.refl _ wi).setCell (fun _ => .inl rfl) _).setCell (fun _ => .inr rfl) _
    obtain ⟨f1, f2⟩ := hM.fin hK (fun k q => by omega)
    refine fn_done t _ _ _ _ _ h4 h5 ((k4.stored (j := 0) (by simp) _).other (by omega)) ((k5.other (by omega)).stored (j := 0) (by simp) _) ?_
    exact ⟨Si, _, by rw [hFf], .inl ⟨he, rfl⟩, by rw [hDg]; exact f1, f2⟩
  unfold Dev.fnE at hE
  unfold Dev.fnD at hD
  by_cases hd : g.down = true
  · rw [if_pos hd] at hE hD
    have KR := run_down P1 hd
    have HE := hide hE
    have HD := hide hD
    clear hE hD hF P1 h b1 M1 c4 c5 hw1 hd
    go_enter_defers Try.func16, Try.ntmps16
    go_upto_region 2 with fail
    rw [← HW.out]
    go_wp2_with fail
    refine KR.mono ?_
    rintro e w2 ⟨rfl, hw2⟩
    obtain rfl : w1 = w2 := hw2.symm
    refine DOOR.out _ _ S 40 g ?_ ?_ HM1.out HE.out (by decide) HD.out <;> rfl
  have hd : g.down = false := by simpa using hd
  rw [if_neg (by rw [hd]; simp)] at hE hD
  have KR := run_ok P1 hd
  have KT := mayTwin_any P1 at_
  by_cases ht : g.has at_ 3 = true
  rotate_left
  · have ht : g.has at_ 3 = false := by simpa using ht
    rw [if_pos ht] at hE hD
    rw [ht] at KT
    have HE := hide hE
    have HD := hide hD
    clear hE hD hF P1 h b1 M1 c4 c5 hw1 hd ht
    go_enter_defers Try.func16, Try.ntmps16
    go_upto_region 2 with fail
    rw [← HW.out]
    go_wp2_with fail
    refine KR.mono ?_
    rintro e w2 ⟨rfl, hw2⟩
    obtain rfl : w1 = w2 := hw2.symm
    go_wp2_with fail
    refine KT.mono ?_
    rintro e w2 ⟨rfl, hw2⟩
    obtain rfl : w1 = w2 := hw2.symm
    go_wp2_with fail
    refine (GU.out 4 w1).mono ?_
    rintro e w2 ⟨rfl, hw2⟩
    obtain rfl : w1 = w2 := hw2.symm
    refine DOOR.out _ _ S 4 g ?_ ?_ HM1.out HE.out (by decide) HD.out <;> rfl
  obtain ⟨a1, a2, a3⟩ := has_num h ht
  have hn8 := (n_le h).2
  rw [ht, if_neg (by simp)] at hE hD
  rw [ht] at KT
  obtain ⟨A, rfl⟩ : ∃ A : Nat, at_ = (A : Int) := ⟨at_.toNat, by omega⟩
  have KP := read1_any P1 A hd (by omega) (by omega)
  have hXB : AllB (g.content A) := content_allB h.ok A
  have hmk : g.mark (A : Int) = g.content A := by unfold Dev.mark; rw [Int.toNat_natCast]
  unfold Dev.sense Dev.fnSg at hE hD
  rw [hmk, Int.toNat_natCast] at hE hD
  rw [hmk] at hF
  have RP := fun (wi : World) (Si : Nat → Prop) (q : PDev wi Si d g) => readPage_any q (A + 1) hd (by omega) (by omega)
  have MH := fun (wi : World) (Si : Nat → Prop) (q : PDev wi Si d g) (hm : Int) => mayHome_any q (A : Int) hm ht
  obtain ⟨X, hX⟩ : ∃ X, X = g.content A := ⟨_, rfl⟩
  rw [← hX] at KP hXB hE hD hF
  obtain ⟨ZB, hZB⟩ : ∃ z, z = zerosB := ⟨_, rfl⟩
  have hZl : ZB.length = 512 := by rw [hZB]; exact zerosB_length
  have Z := zero_run
  rw [← hZB] at Z
  clear hZB
  have HE := hide hE
  have HD := hide hD
  have HF := hide hF
  have HXB := hide hXB
  have HX := hide hX
  have hA : (A : Int) ≤ 8192 := a3
  have hA2 : A + 3 ≤ g.n := by omega
  have HRP := hide RP
  have HMH := hide MH
  have HZ := hide Z
  clear hE hD hF P1 b1 M1 c4 c5 hw1 ht a1 a2 a3 hX hXB hmk h hd RP MH Z
  go_enter_defers Try.func16, Try.ntmps16
  go_upto_region 2 with fail
  rw [← HW.out]
  go_wp2_with fail
  refine KR.mono ?_
  rintro e w2 ⟨rfl, hw2⟩
  obtain rfl : w1 = w2 := hw2.symm
  clear hw2 KR
  go_wp2_with fail
  refine KT.mono ?_
  rintro e w2 ⟨rfl, hw2⟩
  obtain rfl : w1 = w2 := hw2.symm
  clear hw2 KT
  go_wp2_with fail
  refine KP.mono ?_
  rintro e w3 ⟨gb, cap, rfl, o3, hXl, b3⟩
  have sn := hide (Owns.seen_at o3)
  have M3 := HM1.out.below b3
  have a4 : Arr (w3.alloc (.cells (bytesV ZB) 76)) 76 w3.heap.size ZB := Arr.new w3 76 ZB
  obtain ⟨w9, X9, a9, k9⟩ := cells_arr (M := X) a4 hZl hXl
  have hz9 := k9.size
  rw [World.size_alloc] at hz9
  have bb : Below w3.heap.size w3 w9 := (alloc_below w3 _).trans (k9.below (by rw [World.size_alloc]; omega) (fun k hk q => by omega))
  have M9 := M3.below bb
  have HM9 := hide M9
  have A9 := hide a9
  obtain ⟨q, hq⟩ : ∃ q, q = w3.heap.size := ⟨_, rfl⟩
  have hqs : w.heap.size + 2 ≤ q := by have := M3.st.1.size; have := M3.siz; omega
  have hcl9 := a9.cell 511 (by omega)
  clear KP o3 b3 M3 a4 k9 a9 bb M9
  go_wp2_with fail
  refine wp_toArr (.tmp 18) (by rfl) ⟨gb, 0, none⟩ cap (by rfl) ?_
  go_wp2_with fail
  refine wp_load_seen (.tmp 19) (by rfl) gb (by rfl) X sn.out hXl ?_
  rw [← hq] at A9 hcl9
  clear sn
  have Z := HZ.out
  go_upto_region 6 with fail
  clear Z
  rw [← hq]
  clear X9 hq
  by_cases hx : X.getD 511 0 = 0
  · have hE := HE.out
    have hD := HD.out
    rw [if_pos hx] at hE hD
    have hF : F = false := by rw [HF.out, hx]; simp
    rw [hx] at hcl9
    have C49 := HM9.out.cells C4.out (Nat.le_refl _) (by omega)
    have C59 := HM9.out.cells C5.out (by omega) (by omega)
    obtain ⟨k4, f4⟩ := C49.get 0 _ rfl
    obtain ⟨k5, f5⟩ := C59.get 0 _ rfl
    have HE' := hide hE
    have HD' := hide hD
    have HF' := hide hF
    clear HE HD HF hE hD hF hx C49 C59 HX HXB
    go_wp2_with fail
    refine DONE.out _ _ S g false ?_ ?_ HM9.out HE'.out HD'.out HF'.out <;> rfl
  have hxb : (((X.getD 511 0 : Nat) : Int) == 0) = false := by simpa using hx
  have hE := HE.out
  have hD := HD.out
  rw [if_neg hx] at hE hD
  have hF : F = decide (E = 0) := by rw [HF.out, decide_eq_true hx, Bool.and_true]
  have KH := home_any X w9 hXl HXB.out
  have HE' := hide hE
  have HD' := hide hD
  have HF' := hide hF
  have HX0 := hide hx
  clear HE HD HF hE hD hF hx
  generalize X.getD 511 0 = xl at *
  go_wp2_with fail
  refine wp_load_arr (.tmp 6) (by rfl) q (by rfl) X A9.out hXl ?_
  go_wp2_with fail
  refine KH.mono ?_
  rintro e w10 ⟨rfl, b10⟩
  have M10 := HM9.out.below b10
  have A10 := A9.out.below b10
  clear KH b10 HM9 A9 hcl9
  obtain ⟨H, hH⟩ : ∃ H, H = homeN X := ⟨_, rfl⟩
  rw [← hH] at HE' HD' ⊢
  have MK5 := fun w => markerOf_any H 165 w
  have MK0 := fun w => markerOf_any H 0 w
  have LM0 := fun (wi : World) (Si : Nat → Prop) (gi : Dev) (q : PDev wi Si d gi) (q1 : gi.pend.length ≤ 999998) (q2 : gi.calls ≤ 999998) => layMarker_any q A (mkB H 0) (mkB_length _ _) (mkB_allB _ _ (by decide)) q1 q2
  have hM5 := mkB_length H 165
  obtain ⟨MB5, hMB5⟩ : ∃ m, m = mkB H 165 := ⟨_, rfl⟩
  obtain ⟨MB0, hMB0⟩ : ∃ m, m = mkB H 0 := ⟨_, rfl⟩
  simp only [← hMB5, ← hMB0] at MK5 MK0 LM0 hM5 HE' HD'
  have NQ := neq_arr X MB5 hXl hM5
  unfold fnSegs at HE' HD'
  rw [← hMB0] at HE' HD'
  have HMK5 := hide MK5
  have HMK0 := hide MK0
  have HLM0 := hide LM0
  clear MK5 MK0 hMB5 hMB0 hH LM0
  have hzz := M10.st.1.size
  have hq10 := A10.lt
  have DR : Below w10.heap.size w10 w10.drew := (Below.refl _ _).drew
  have HM11 := hide (M10.below DR)
  have HA10 := hide A10
  clear M10
  go_upto_region 9 with fail
  refine wp_region_held_drew (S := fun wq => Arr wq 76 q X) (by kernel_rfl) HA10.out (fun hS => ?_)
  have hq11 : q < w10.drew.heap.size := hq10
  clear HA10 A10 hq10 DR
  generalize w10.drew = w11 at *
  refine take_atD 0 (some 26) (v := ?_) rfl rfl (by kernel_rfl) (by kernel_rfl) (by kernel_rfl) (fun _ _ _ h => fn_put (d := 26) (by decide) (by decide) h) ⟨by rfl, ?_⟩ hS ?_
  rotate_left
  · intro wq hSw; refine exec_load_arr (.tmp 6) ?_ ?_ hSw hXl <;> rfl
  simp only [Act.put, List.setIfInBounds_toArray, List.set_cons_zero, List.set_cons_succ]
  refine take_atD 1 (some 27) (v := ?_) rfl rfl (by kernel_rfl) (by kernel_rfl) (by kernel_rfl) (fun _ _ _ h => fn_put (d := 27) (by decide) (by decide) h) ⟨by rfl, ?_⟩ hS ?_
  rotate_left
  · intro wq hSw; go_simp; try rfl
  simp only [Act.put, List.setIfInBounds_toArray, List.set_cons_zero, List.set_cons_succ]
  refine wpAnyH_ready (rs := [2]) (by kernel_rfl) (by simp) ?_
  refine AllReadyH.cons rfl (fun K hK => ?_) AllReadyH.nil
  go_simp
  go_wp2_with fail
  refine (HMK5.out w11).mono ?_
  rintro e w12 ⟨rfl, b12⟩
  have HM12 := hide (HM11.out.below b12)
  have hS12 := Arr.below hS b12
  have hq12 : q < w12.heap.size := Arr.lt hS12
  clear b12 HM11
  go_wp2_with fail
  refine hK.out _ _ hS12 (fun hS => ?_)
  clear hK K hS12
  (try simp only [Act.put, List.setIfInBounds_toArray, List.set_cons_zero, List.set_cons_succ])
  by_cases hm : X = MB5
  rotate_left
  · have NQ' : ∀ w, (binOp .neq 76 (.agg (bytesV X)) (.agg (bytesV MB5))).run Try.prog w = .ok (.bool true) w := fun w => by have q := NQ w; rw [decide_eq_false hm] at q; exact q
    have hE := HE'.out
    have hD := HD'.out
    rw [decide_eq_false hm, Bool.false_and, if_pos rfl] at hE hD
    have HE2 := hide hE
    have HD2 := hide hD
    clear hE hD HE' HD' NQ hm
    refine take_atD 3 (some 29) (v := ?_) rfl rfl (by kernel_rfl) (by kernel_rfl) (by kernel_rfl) (fun _ _ _ h => fn_put (d := 29) (by decide) (by decide) h) ⟨by rfl, ?_⟩ hS ?_
    rotate_left
    · intro wq hSw; go_simp; try rfl
    simp only [Act.put, List.setIfInBounds_toArray, List.set_cons_zero, List.set_cons_succ]
    refine take_atD 4 (some 30) (v := ?_) rfl rfl (by kernel_rfl) (by kernel_rfl) (by kernel_rfl) (fun _ _ _ h => fn_put (d := 30) (by decide) (by decide) h) ⟨by rfl, ?_⟩ hS ?_
    rotate_left
    · intro wq hSw; go_simp; try rfl
    simp only [Act.put, List.setIfInBounds_toArray, List.set_cons_zero, List.set_cons_succ]
    refine pass_atD 5 (some 31) rfl rfl (by kernel_rfl) (by kernel_rfl) (by kernel_rfl) (fun _ _ _ h => fn_put (d := 31) (by decide) (by decide) h) (by rfl) hS ?_
    simp only [Act.put, List.setIfInBounds_toArray, List.set_cons_zero, List.set_cons_succ]
    refine pass_atD 6 (some 32) rfl rfl (by kernel_rfl) (by kernel_rfl) (by kernel_rfl) (fun _ _ _ h => fn_put (d := 32) (by decide) (by decide) h) (by rfl) hS ?_
    simp only [Act.put, List.setIfInBounds_toArray, List.set_cons_zero, List.set_cons_succ]
    refine pass_atD 7 (some 33) rfl rfl (by kernel_rfl) (by kernel_rfl) (by kernel_rfl) (fun _ _ _ h => fn_put (d := 33) (by decide) (by decide) h) (by rfl) hS ?_
    simp only [Act.put, List.setIfInBounds_toArray, List.set_cons_zero, List.set_cons_succ]
    refine pass_atD 8 (some 34) rfl rfl (by kernel_rfl) (by kernel_rfl) (by kernel_rfl) (fun _ _ _ h => fn_put (d := 34) (by decide) (by decide) h) (by rfl) hS ?_
    simp only [Act.put, List.setIfInBounds_toArray, List.set_cons_zero, List.set_cons_succ]
    refine pass_atD 9 (some 35) rfl rfl (by kernel_rfl) (by kernel_rfl) (by kernel_rfl) (fun _ _ _ h => fn_put (d := 35) (by decide) (by decide) h) (by rfl) hS ?_
    simp only [Act.put, List.setIfInBounds_toArray, List.set_cons_zero, List.set_cons_succ]
    refine take_atD 10 (some 36) (v := ?_) rfl rfl (by kernel_rfl) (by kernel_rfl) (by kernel_rfl) (fun _ _ _ h => fn_put (d := 36) (by decide) (by decide) h) ⟨by rfl, ?_⟩ hS ?_
    rotate_left
    · intro wq hSw; go_simp; try rfl
    simp only [Act.put, List.setIfInBounds_toArray, List.set_cons_zero, List.set_cons_succ]
    refine wpAnyH_done (by kernel_rfl) ?_ _
    go_wp2_with fail
    refine (GU.out 84 w12).mono ?_
    rintro e w13 ⟨rfl, hw13⟩
    obtain rfl : w12 = w13 := hw13.symm
    refine DOOR.out _ _ S 84 g ?_ ?_ HM12.out HE2.out (by decide) HD2.out <;> rfl
  have NQ' : ∀ w, (binOp .neq 76 (.agg (bytesV X)) (.agg (bytesV MB5))).run Try.prog w = .ok (.bool false) w := fun w => by have q := NQ w; rw [decide_eq_true hm] at q; exact q
  have hE := HE'.out
  have hD := HD'.out
  rw [decide_eq_true hm, Bool.true_and] at hE hD
  have KM := HMH.out w12 S HM12.out.dev (H : Int)
  have HE3 := hide hE
  have HD3 := hide hD
  clear hE hD HE' HD' NQ hm
  refine take_atD 3 (some 29) (v := ?_) rfl rfl (by kernel_rfl) (by kernel_rfl) (by kernel_rfl) (fun _ _ _ h => fn_put (d := 29) (by decide) (by decide) h) ⟨by rfl, ?_⟩ hS ?_
  rotate_left
  · intro wq hSw; go_simp; try rfl
  simp only [Act.put, List.setIfInBounds_toArray, List.set_cons_zero, List.set_cons_succ]
  refine take_atD 4 (some 30) (v := ?_) rfl rfl (by kernel_rfl) (by kernel_rfl) (by kernel_rfl) (fun _ _ _ h => fn_put (d := 30) (by decide) (by decide) h) ⟨by rfl, ?_⟩ hS ?_
  rotate_left
  · intro wq hSw; go_simp; try rfl
  simp only [Act.put, List.setIfInBounds_toArray, List.set_cons_zero, List.set_cons_succ]
  refine take_atD 5 (some 31) (v := ?_) rfl rfl (by kernel_rfl) (by kernel_rfl) (by kernel_rfl) (fun _ _ _ h => fn_put (d := 31) (by decide) (by decide) h) ⟨by rfl, ?_⟩ hS ?_
  rotate_left
  · intro wq hSw; go_simp; try rfl
  simp only [Act.put, List.setIfInBounds_toArray, List.set_cons_zero, List.set_cons_succ]
  refine take_atD 6 (some 32) (v := ?_) rfl rfl (by kernel_rfl) (by kernel_rfl) (by kernel_rfl) (fun _ _ _ h => fn_put (d := 32) (by decide) (by decide) h) ⟨by rfl, ?_⟩ hS ?_
  rotate_left
  · intro wq hSw; go_simp; try rfl
  simp only [Act.put, List.setIfInBounds_toArray, List.set_cons_zero, List.set_cons_succ]
  refine take_atD 7 (some 33) (v := ?_) rfl rfl (by kernel_rfl) (by kernel_rfl) (by kernel_rfl) (fun _ _ _ h => fn_put (d := 33) (by decide) (by decide) h) ⟨by rfl, ?_⟩ hS ?_
  rotate_left
  · intro wq hSw; go_simp; try rfl
  simp only [Act.put, List.setIfInBounds_toArray, List.set_cons_zero, List.set_cons_succ]
  refine wpAnyH_ready (rs := [8]) (by kernel_rfl) (by simp) ?_
  refine AllReadyH.cons rfl (fun K hK => ?_) AllReadyH.nil
  go_simp
  go_wp2_with fail
  refine KM.mono ?_
  rintro e w13 ⟨rfl, hw13⟩
  obtain rfl : w12 = w13 := hw13.symm
  clear hw13 KM
  go_wp2_with fail
  refine hK.out _ _ hS (fun hS => ?_)
  clear hK K
  (try simp only [Act.put, List.setIfInBounds_toArray, List.set_cons_zero, List.set_cons_succ])
  by_cases hh : g.homeB (A : Int) (H : Int) = true
  rotate_left
  · have hh : g.homeB (A : Int) (H : Int) = false := by simpa using hh
    have hE := HE3.out
    have hD := HD3.out
    rw [if_pos hh] at hE hD
    rw [hh]
    have HE2 := hide hE
    have HD2 := hide hD
    clear hE hD HE3 HD3 hh NQ'
    refine take_atD 9 (some 35) (v := ?_) rfl rfl (by kernel_rfl) (by kernel_rfl) (by kernel_rfl) (fun _ _ _ h => fn_put (d := 35) (by decide) (by decide) h) ⟨by rfl, ?_⟩ hS ?_
    rotate_left
    · intro wq hSw; go_simp; try rfl
    simp only [Act.put, List.setIfInBounds_toArray, List.set_cons_zero, List.set_cons_succ]
    refine take_atD 10 (some 36) (v := ?_) rfl rfl (by kernel_rfl) (by kernel_rfl) (by kernel_rfl) (fun _ _ _ h => fn_put (d := 36) (by decide) (by decide) h) ⟨by rfl, ?_⟩ hS ?_
    rotate_left
    · intro wq hSw; go_simp; try rfl
    simp only [Act.put, List.setIfInBounds_toArray, List.set_cons_zero, List.set_cons_succ]
    refine wpAnyH_done (by kernel_rfl) ?_ _
    go_wp2_with fail
    refine (GU.out 84 w12).mono ?_
    rintro e w13 ⟨rfl, hw13⟩
    obtain rfl : w12 = w13 := hw13.symm
    refine DOOR.out _ _ S 84 g ?_ ?_ HM12.out HE2.out (by decide) HD2.out <;> rfl
  have hh2 : g.has (H : Int) 2 = true := by
    unfold Dev.homeB at hh
    cases q : g.has (H : Int) 2
    · rw [q] at hh; simp at hh
    · rfl
  obtain ⟨m1, m2, m3⟩ := has_num HM12.out.dev hh2
  have hE := HE3.out
  have hD := HD3.out
  rw [hh, if_neg (by simp)] at hE hD
  rw [hh]
  have KP := HRP.out w12 S HM12.out.dev
  rw [show ((A + 1 : Nat) : Int) = (A : Int) + 1 by simp] at KP
  have HE4 := hide hE
  have HD4 := hide hD
  have hH8 : H ≤ 8192 := by omega
  have LP := hide (fun (wi : World) (Si : Nat → Prop) (k : Nat) (B : List Nat) (q : PDev wi Si d g) (hb : Bytes wi (some ⟨k, 0, none⟩) B) (hn : ¬ Si k) (hl : B.length = 1024) (ha : AllB B) => layPage_any q H k 0 1024 B hb hn hl (Nat.le_refl _) ha (by omega) (by omega) (by omega))
  clear hE hD HE3 HD3 hh hh2 m1 m2 m3 NQ' HXB HX HMH HRP
  refine take_atD 9 (some 35) (v := ?_) rfl rfl (by kernel_rfl) (by kernel_rfl) (by kernel_rfl) (fun _ _ _ h => fn_put (d := 35) (by decide) (by decide) h) ⟨by rfl, ?_⟩ hS ?_
  rotate_left
  · intro wq hSw; go_simp; try rfl
  simp only [Act.put, List.setIfInBounds_toArray, List.set_cons_zero, List.set_cons_succ]
  refine take_atD 10 (some 36) (v := ?_) rfl rfl (by kernel_rfl) (by kernel_rfl) (by kernel_rfl) (fun _ _ _ h => fn_put (d := 36) (by decide) (by decide) h) ⟨by rfl, ?_⟩ hS ?_
  rotate_left
  · intro wq hSw; go_simp; try rfl
  simp only [Act.put, List.setIfInBounds_toArray, List.set_cons_zero, List.set_cons_succ]
  refine wpAnyH_done (by kernel_rfl) ?_ _
  clear hS hq12 hqs hq11
  go_wp2_with fail
  refine KP.mono ?_
  rintro e w13 ⟨k2, rfl, hk2, o13, l1, l2, b13⟩
  have M13 := HM12.out.below b13
  have hbt := Owns.seen_at o13
  have hab : AllB (g.content (A + 1) ++ g.content (A + 1 + 1)) := (content_allB M13.dev.ok _).append (content_allB M13.dev.ok _)
  have hbl : (g.content (A + 1) ++ g.content (A + 1 + 1)).length = 1024 := by rw [List.length_append, l1, l2]
  have K13 := LP.out w13 S k2 _ M13.dev hbt (fun q => by have := HM12.out.dev.lt k2 q; omega) hbl hab
  have t1 : (g.content (A + 1) ++ g.content (A + 1 + 1)).take 512 = g.content (A + 1) := List.take_left' l1
  have t2 : (g.content (A + 1) ++ g.content (A + 1 + 1)).drop 512 = g.content (A + 1 + 1) := List.drop_left' l1
  rw [t1, t2] at K13
  have pl := puts_len [(H, g.content (A + 1)), (H + 1, g.content (A + 1 + 1))] g
  obtain ⟨s1, hs1⟩ : ∃ x : List (Nat × List Nat), x = [(H, g.content (A + 1)), (H + 1, g.content (A + 1 + 1))] := ⟨_, rfl⟩
  have ql : s1.length = 2 := by rw [hs1]; rfl
  have hE : E = segsE [s1, [(A, MB0)]] g := by rw [hs1]; exact HE4.out
  have hD : D = segsD [s1, [(A, MB0)]] g := by rw [hs1]; exact HD4.out
  rw [← hs1] at K13 pl
  rw [ql] at pl
  have HE5 := hide hE
  have HD5 := hide hD
  have HPL := hide pl
  have HM13 := hide M13
  clear KP hk2 o13 l1 l2 b13 M13 hbt hab hbl LP t1 t2 pl hs1 ql hE hD HE4 HD4 HM12
  go_wp2_with fail
  refine K13.mono ?_
  rintro e w14 ⟨S14, he, p14, t14⟩
  have M14 := HM13.out.next p14 t14
  by_cases h1 : putsE s1 g = 0
  rotate_left
  · rw [fin_no h1] at he
    subst he
    refine DOOR.out _ _ S14 _ _ ?_ ?_ M14 (HE5.out.trans (segs_stop h1).1) h1 (HD5.out.trans (segs_stop h1).2) <;> rfl
  rw [h1, fin_zero] at he
  subst he
  have E6 := hide (HE5.out.trans (segs_step h1).1)
  have D6 := hide (HD5.out.trans (segs_step h1).2)
  generalize putsD s1 g = g1 at *
  have HM14 := hide M14
  clear h1 p14 t14 M14 K13 HM13 HE5 HD5
  go_wp2_with fail
  refine (HMK0.out w14).mono ?_
  rintro e w15 ⟨rfl, b15⟩
  have M15 := HM14.out.below b15
  have K15 := HLM0.out w15 S14 g1 M15.dev (by have := HPL.out.1; omega) (by have := HPL.out.2; omega)
  have HM15 := hide M15
  clear M15 b15 HM14
  go_wp2_with fail
  refine K15.mono ?_
  rintro e w16 ⟨S16, he, p16, t16⟩
  have M16 := HM15.out.next p16 t16
  by_cases h2 : putsE [(A, MB0)] g1 = 0
  rotate_left
  · rw [fin_no h2] at he
    subst he
    refine DOOR.out _ _ S16 _ _ ?_ ?_ M16 (E6.out.trans (segs_stop h2).1) h2 (D6.out.trans (segs_stop h2).2) <;> rfl
  rw [h2, fin_zero] at he
  subst he
  have E7 := hide (E6.out.trans (segs_step h2).1)
  have D7 := hide (D6.out.trans (segs_step h2).2)
  generalize putsD [(A, MB0)] g1 = g2 at *
  have C4f := M16.cells C4.out (Nat.le_refl _) (by omega)
  have C5f := M16.cells C5.out (by omega) (by omega)
  obtain ⟨k4, f4⟩ := C4f.get 0 _ rfl
  obtain ⟨k5, f5⟩ := C5f.get 0 _ rfl
  have HM16 := hide M16
  clear h2 p16 t16 M16 K15 HM15 C4f C5f E6 D6
  go_wp2_with fail
  have hE0 : E = 0 := E7.out
  refine DONE.out _ _ S16 g2 true ?_ ?_ HM16.out hE0 D7.out (by rw [HF'.out, hE0]; rfl) <;> rfl
end Go.Proofs.Ytpddmimacjknfaa
