import Derived.Test.YtimakfnlcgedkaaRg24
namespace Go.Proofs.Ytimakfnlcgedkaa
open Go.RowKit Go.QK Go.Maps Go.QM Go.QR
set_option maxRecDepth 100000
/-- New registries stand in the table's place. -/
theorem Tb.begun {lab : Nat → Nat} {w w1 w2 : World} {B : Nat} {T : Tab} (h : Tb lab w B T) {i : Nat} (hi : i < 2) {b m g c : Nat} {vC vG : Value} {r : Reg} (hb : Below w.heap.size w w1) (hp : PR w1 b m g r) (hr : RR w1 B c vC vG r) (hn : w.heap.size ≤ b ∧ w.heap.size ≤ m ∧ w.heap.size ≤ g) (hd : c ≠ b ∧ c ≠ m ∧ c ≠ g) (hc : w.heap.size ≤ c) (hvC : vC.ownBlock = none) (hvG : vG.ownBlock = none) (hw : w2 = (w1.setCell ⟨T.t, i, none⟩ (ptr b)).setCell ⟨T.t, 2 + i, none⟩ (ptr c)) :
    Tb (fun x => if x < w.heap.size then lab x else if x = c then 4 + i else 2 + i) w2 B { T with b := upd T.b i b, m := upd T.m i m, g := upd T.g i g, c := upd T.c i c, vC := upd T.vC i vC, vG := upd T.vG i vG, rp := upd T.rp i r, rq := upd T.rq i r } := by
  have hB : B ≤ w.heap.size := by have := h.low.1; have := h.box.1; omega
  obtain ⟨lab', hl'⟩ : ∃ lab' : Nat → Nat, lab' = fun x => if x < w.heap.size then lab x else if x = c then 4 + i else 2 + i := ⟨_, rfl⟩
  rw [← hl']
  have old : ∀ x, x < w.heap.size → lab' x = lab x := fun x hx => by rw [hl']; simp [hx]
  have nw : ∀ x, w.heap.size ≤ x → x ≠ c → lab' x = 2 + i := fun x hx hn => by rw [hl']; simp only; rw [if_neg (by omega), if_neg hn]
  have nc : lab' c = 4 + i := by rw [hl']; simp; omega
  have h1 := (h.relab old).below hb
  have k2 : Keep (fun z => z = T.t) w1 w2 := by rw [hw]; exact ((Keep.refl (fun z => z = T.t) w1).setCell (g := T.t) (j := i) (fun _ => rfl) (ptr b)).setCell (g := T.t) (j := 2 + i) (fun _ => rfl) (ptr c)
  have ht : T.t < w.heap.size := h.box.1
  have hs : ∀ x, x = T.t → lab' x = 1 := fun x q => by rw [q]; exact h1.l1
  have lt := hp.lt
  refine ⟨?_, fun j hj => ?_, fun j hj => ?_, GRow.keep h1.rl k2 (fun x hx q => ?_), GRow.keep h1.rm k2 (fun x hx q => ?_), fun k e he => (h1.ent k e he).keep k2 (fun x q _ => by have := hs _ q; omega), h.many, h1.l1, fun j hj => ?_, fun j hj => ?_, h1.l6, h1.l7, ⟨h.low.1, fun j hj => ?_⟩⟩
  · have hbx := (h1.box.stored (j := i) (by simp; omega) (ptr b)).stored (j := 2 + i) (by simp; omega) (ptr c)
    rw [← hw] at hbx
    rcases (show i = 0 ∨ i = 1 by omega) with rfl | rfl
    · simpa [upd] using hbx
    · simpa [upd] using hbx
  · show PR w2 (upd T.b i b j) (upd T.m i m j) (upd T.g i g j) (upd T.rp i r j)
    by_cases e : j = i
    · subst e
      rw [upd_same, upd_same, upd_same, upd_same]
      exact hp.keep k2 (by omega) (by omega) (by omega)
    · rw [upd_other _ _ e, upd_other _ _ e, upd_other _ _ e, upd_other _ _ e]
      have l := h1.l2 j hj
      exact (h1.pr j hj).keep k2 (fun q => by have := hs _ q; omega) (fun q => by have := hs _ q; omega) (fun q => by have := hs _ q; omega)
  · show RR w2 B (upd T.c i c j) (upd T.vC i vC j) (upd T.vG i vG j) (upd T.rq i r j)
    by_cases e : j = i
    · subst e
      rw [upd_same, upd_same, upd_same, upd_same]
      exact hr.keep k2 (by omega) (fun x hx q => by rw [hvC] at hx; cases hx) (fun x hx q => by rw [hvG] at hx; cases hx)
    · rw [upd_other _ _ e, upd_other _ _ e, upd_other _ _ e, upd_other _ _ e]
      have p := h1.rr j hj
      have l := h1.l4 j hj
      exact p.keep k2 (fun q => by have := hs _ q; omega) (fun x hx q => by have := hs _ q; have := l.2.1 x hx; omega) (fun x hx q => by have := hs _ q; have := l.2.2 x hx; omega)
  · have := hs _ q; have := h1.l6 x hx; omega
  · have := hs _ q; have := h1.l7 x hx; omega
  · show lab' (upd T.b i b j) = 2 + j ∧ lab' (upd T.m i m j) = 2 + j ∧ lab' (upd T.g i g j) = 2 + j
    by_cases e : j = i
    · subst e
      rw [upd_same, upd_same, upd_same, nw _ hn.1 (fun q => hd.1 q.symm), nw _ hn.2.1 (fun q => hd.2.1 q.symm), nw _ hn.2.2 (fun q => hd.2.2 q.symm)]
      exact ⟨rfl, rfl, rfl⟩
    · rw [upd_other _ _ e, upd_other _ _ e, upd_other _ _ e]
      exact h1.l2 j hj
  · show lab' (upd T.c i c j) = 4 + j ∧ (∀ x, (upd T.vC i vC j).ownBlock = some x → lab' x = 4 + j) ∧ (∀ x, (upd T.vG i vG j).ownBlock = some x → lab' x = 4 + j)
    by_cases e : j = i
    · subst e
      rw [upd_same, upd_same, upd_same]
      exact ⟨nc, fun x hx => (by rw [hvC] at hx; cases hx), fun x hx => (by rw [hvG] at hx; cases hx)⟩
    · rw [upd_other _ _ e, upd_other _ _ e, upd_other _ _ e]
      exact h1.l4 j hj
  · show B ≤ upd T.b i b j ∧ B ≤ upd T.m i m j ∧ B ≤ upd T.g i g j
    by_cases e : j = i
    · subst e
      rw [upd_same, upd_same, upd_same]
      omega
    · rw [upd_other _ _ e, upd_other _ _ e, upd_other _ _ e]
      exact h.low.2 j hj
theorem RR.mono {w : World} {B B' b : Nat} {vC vG : Value} {r : Reg} (h : RR w B b vC vG r) (hb : B' ≤ B) : RR w B' b vC vG r := ⟨h.box, GRow.mono h.rc hb, GRow.mono h.rg hb, h.cg, h.oc, h.og, Nat.le_trans hb h.low⟩
theorem ptr_nil (b : Nat) (ty : TypeId) (hty : ty = 24 ∨ ty = 55) (w : World) : (binOp .eql ty (ptr b) (.pointer none)).run Try.prog w = .ok (.bool false) w ∧ (binOp .neq ty (ptr b) (.pointer none)).run Try.prog w = .ok (.bool true) w := by
  rcases hty with rfl | rfl <;> (constructor <;> go_simp)
/-- The table with no registries yet: its block alone is told. -/
structure T0 (w : World) (B t : Nat) (p0 p1 r0 r1 : Value) : Prop where
  box : Cells w t [p0, p1, r0, r1, .slice none 0 0, .slice none 0 0]
  low : B ≤ t
set_option maxHeartbeats 4000000 in
theorem begins_no (t i : Nat) (p : Int) (w : World) (h : p < 2 ∨ 64 < p) : Calls Try.prog 19 #[ptr t, .int .i64 (i : Int), .int .i64 p] w fun e w' => e = .returned (.bool true) ∧ w = w' := by
  have K1 := fun w => (new_no p w h)
  have K2 := fun w => (rnew_no p w h)
  go_enter Try.func19, Try.ntmps19
  go_wp2_with (first | (go_at_call 9; refine (K1 _).mono ?_; rintro e wz ⟨rfl, hz⟩; rw [hz]; clear hz wz) | (go_at_call 27; refine (K2 _).mono ?_; rintro e wz ⟨rfl, rfl⟩) | (go_at_call 10; refine (num_eq _ _).mono ?_; rintro e wz ⟨rfl, rfl⟩))
  go_ret
  exact ⟨rfl, rfl⟩
/-- What a New of both leaves: the new registries, and the two cells. -/
def BegPost (t i p : Nat) (w : World) (e : Ending) (w' : World) : Prop := e = .returned (.bool true) ∧ ∃ w1 b m g c, Below w.heap.size w w1 ∧ PR w1 b m g ⟨p, [], []⟩ ∧ RR w1 c c (.slice none 0 0) (.slice none 0 0) ⟨p, [], []⟩ ∧ (w.heap.size ≤ b ∧ w.heap.size ≤ m ∧ w.heap.size ≤ g) ∧ (c ≠ b ∧ c ≠ m ∧ c ≠ g) ∧ w.heap.size ≤ c ∧ w' = (w1.setCell ⟨t, i, none⟩ (ptr b)).setCell ⟨t, 2 + i, none⟩ (ptr c)
set_option maxHeartbeats 4000000 in
theorem begins_yes (t i p : Nat) (x0 x1 x2 x3 x4 x5 : Value) (w : World) (h : Cells w t [x0, x1, x2, x3, x4, x5]) (hi : i < 2) (h1 : 2 ≤ p) (h2 : p ≤ 64) : Calls Try.prog 19 #[ptr t, .int .i64 (i : Int), .int .i64 (p : Int)] w (BegPost t i p w) := by
  unfold BegPost
  have K1 := fun w => new_yes p w h1 h2
  have K2 := fun w => rnew_yes p w h1 h2
  have hi2 : (i : Int) < 2 := by omega
  have HC := hide h
  clear h
  go_enter Try.func19, Try.ntmps19
  go_wp2_with fail
  refine (K1 _).mono ?_
  rintro e w1 ⟨rfl, P1, hb, hs⟩
  have HP := hide P1
  have HB := hide hb
  have HS := hide hs
  have C1 := hide (HC.out.below hb)
  clear P1 hb hs K1 HC
  obtain ⟨b, hb'⟩ : ∃ b, b = w.heap.size + 2 := ⟨_, rfl⟩
  obtain ⟨m, hm'⟩ : ∃ b, b = w.heap.size := ⟨_, rfl⟩
  obtain ⟨g, hg'⟩ : ∃ b, b = w.heap.size + 1 := ⟨_, rfl⟩
  have HP2 := hide (show PR w1 b m g ⟨p, [], []⟩ by rw [hb', hm', hg']; exact HP.out)
  have HL := hide (show (w.heap.size ≤ b ∧ w.heap.size ≤ m ∧ w.heap.size ≤ g) ∧ b < w1.heap.size ∧ m < w1.heap.size ∧ g < w1.heap.size by have := HS.out; omega)
  rw [← hb']
  clear hb' hm' hg' HP HS
  go_wp2_with fail
  refine (K2 _).mono ?_
  rintro e w2 ⟨rfl, R2, hb, -⟩
  have HP3 := hide (HP2.out.below hb)
  have HB3 := hide (HB.out.trans (hb.mono HB.out.size))
  have C3 := hide (C1.out.below hb)
  have HR3 := hide R2
  have HLc := hide HB.out.size
  clear R2 hb HP2 HB C1 K2
  obtain ⟨c, hc'⟩ : ∃ c, c = w1.heap.size := ⟨_, rfl⟩
  rw [← hc'] at HR3 HL HLc ⊢
  clear hc'
  have e1 := fun w => (ptr_nil b 24 (.inl rfl) w).1
  have e2 := fun w => (ptr_nil c 55 (.inr rfl) w).1
  have e3 := fun w => (ptr_nil c 55 (.inr rfl) w).2
  have ff0 := (C3.out.2 i (by simp; omega)).2
  have ff1 := (C3.out.2 (2 + i) (by simp; omega)).2
  have cc0 := (C3.out.2 i (by simp; omega)).1
  have cc1 := (C3.out.2 (2 + i) (by simp; omega)).1
  go_wp2_with (go_at_call 10; refine (num_eq _ _).mono ?_; rintro e wz ⟨rfl, rfl⟩)
  go_ret
  exact ⟨rfl, w2, b, m, g, c, HB3.out, HP3.out, HR3.out, HL.out.1, by have := HL.out; omega, HLc.out, rfl⟩
end Go.Proofs.Ytimakfnlcgedkaa
