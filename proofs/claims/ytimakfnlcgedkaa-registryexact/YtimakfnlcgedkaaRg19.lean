import Derived.Test.YtimakfnlcgedkaaRg18
namespace Go.Proofs.Ytimakfnlcgedkaa
open Go.RowKit Go.QK Go.Maps Go.QM Go.QR
set_option maxRecDepth 100000
set_option maxHeartbeats 2000000 in
theorem rgroupF_any (B b : Nat) (vC vG : Value) (r : Reg) (d : Int) (w : World) (h : RR w B b vC vG r) (ok : r.Ok) : Calls Try.prog 39 #[ptr b, .int .i64 d] w fun e w' => e = .returned (.tuple #[slotV (r.groupS d), .int .i64 (r.groupE d)]) ∧ Below w.heap.size w w' := by
  have hl := ok.lens.2
  have hP := ok.most
  have KG := fun w' (h : RR w' B b vC vG r) => rgroup_any B b vC vG r d w' h (by omega)
  have bb := alloc_below w (.cells #[.int .i64 0, .int .i64 0] 30)
  have HR := hide (h.below bb)
  have Z := hide (Cells.new w #[.int .i64 0, .int .i64 0] 30)
  unfold Reg.groupS Reg.groupE
  cases hp : place r.G d with
  | none =>
    have e0 : r.gslot d = none := by unfold Reg.gslot; rw [hp]; rfl
    rw [e0]
    rw [hp] at KG
    simp only [plI] at KG
    clear e0 h bb hp ok
    go_enter Try.func39, Try.ntmps39
    go_wp2_with (go_at_call 37; refine (KG _ HR.out).mono ?_; rintro e wz ⟨rfl, rfl⟩)
    exact bodyPost_ret (v := .tuple #[slotV (0, 0), .int .i64 122]) (by simp [results, Try.results39, go_sem]) rfl ⟨rfl, alloc_below _ _⟩
  | some k =>
    have hk := place_lt hp
    have e0 : r.gslot d = some (high r.P k) := by unfold Reg.gslot; rw [hp]; rfl
    have KH := fun w' (h : RR w' B b vC vG r) => rhigh_any B b vC vG r k w' h hP (by omega)
    rw [e0]
    rw [hp] at KG
    simp only [plI] at KG
    obtain ⟨hs, hhs⟩ : ∃ x, x = high r.P k := ⟨_, rfl⟩
    rw [← hhs] at KH ⊢
    have hk0 : ¬ ((k : Int) < 0) := by omega
    clear e0 h bb hp ok hhs
    go_enter Try.func39, Try.ntmps39
    go_wp2_with (first | (go_at_call 37; refine (KG _ HR.out).mono ?_; rintro e wz ⟨rfl, rfl⟩) | (go_at_call 48; refine (KH _ HR.out).mono ?_; rintro e w5 ⟨rfl, hh⟩; have Z5 := hide (Z.out.below hh); have B5 := hide (below1 hh); clear hh HR Z; obtain ⟨p0, q0⟩ := Z5.out.get 0 _ rfl; obtain ⟨p1, q1⟩ := Z5.out.get 1 _ rfl))
    refine bodyPost_ret (v := .tuple #[slotV hs, .int .i64 0]) (by simp [results, Try.results39, go_sem, p0, p1]) rfl ⟨rfl, ?_⟩
    exact B5.out.trans ((((Keep.refl (fun z => z = w.heap.size) w5).setCell (g := w.heap.size) (j := 0) (fun _ => rfl) (.int .i64 hs.1)).setCell (g := w.heap.size) (j := 1) (fun _ => rfl) (.int .i64 hs.2)).below B5.out.size (fun z hz q => by omega))
set_option maxHeartbeats 4000000 in
theorem rfind_any (B b : Nat) (vC vG : Value) (r : Reg) (c : Int) (w : World) (h : RR w B b vC vG r) (ok : r.Ok) : Calls Try.prog 38 #[ptr b, .int .i64 c] w fun e w' => e = .returned (.tuple #[slotV (r.findW c), .int .i64 (r.findG c), slotV (r.findS c), .int .i64 (r.findE c)]) ∧ Below w.heap.size w w' := by
  obtain ⟨hl1, hl2⟩ := ok.lens
  have hP := ok.most
  have KC := fun w' (h : RR w' B b vC vG r) => rcounter_any B b vC vG r c w' h (by omega)
  unfold Reg.findW Reg.findG Reg.findS Reg.findE
  cases hp : place r.nums c with
  | none =>
    have bb := (alloc_below w (.cells #[.int .i64 0, .int .i64 0] 30)).alloc (by simp) (.cells #[.int .i64 0, .int .i64 0] 30)
    have HR := hide (h.below bb)
    have e0 : r.entry c = none := by unfold Reg.entry; rw [hp]; rfl
    rw [e0]
    rw [hp] at KC
    simp only [plI] at KC
    clear e0 h bb hp ok
    go_enter Try.func38, Try.ntmps38
    go_wp2_with (go_at_call 45; refine (KC _ HR.out).mono ?_; rintro e wz ⟨rfl, rfl⟩)
    exact bodyPost_ret (v := .tuple #[slotV (0, 0), .int .i64 0, slotV (0, 0), .int .i64 120]) (by simp [results, Try.results38, go_sem]) rfl ⟨rfl, (alloc_below _ _).alloc (by simp) _⟩
  | some k =>
    have hk := place_lt hp
    have hk2 : k < r.C.length := by simpa [Reg.nums] using hk
    have e0 : r.entry c = some (low k, r.C[k].2) := by unfold Reg.entry; rw [hp]; simp [List.getD, List.getElem?_eq_getElem hk2]
    obtain ⟨j, hj, -, -⟩ := entry_grp ok e0
    have hj2 := place_lt hj
    have eg : r.gslot r.C[k].2 = some (high r.P j) := by unfold Reg.gslot; rw [hj]; rfl
    have KG := fun w' (h : RR w' B b vC vG r) => rgroup_any B b vC vG r r.C[k].2 w' h (by omega)
    rw [hj] at KG
    have KL := fun w' => rlow_any k w' (by omega)
    have KH := fun w' (h : RR w' B b vC vG r) => rhigh_any B b vC vG r j w' h hP (by omega)
    rw [e0]
    simp only [eg]
    rw [hp] at KC
    simp only [plI] at KC KG
    have HR := hide h
    obtain ⟨gn, hgn⟩ : ∃ x, x = r.C[k].2 := ⟨_, rfl⟩
    obtain ⟨lw, hlw⟩ : ∃ x, x = low k := ⟨_, rfl⟩
    obtain ⟨hs, hhs⟩ : ∃ x, x = high r.P j := ⟨_, rfl⟩
    rw [← hgn] at KG
    rw [← hlw] at KL
    rw [← hhs] at KH
    have EE := hide (show slotV ((some (low k, r.C[k].2)).map Prod.fst |>.getD (0, 0)) = slotV lw ∧ ((some (low k, r.C[k].2)).map Prod.snd).getD 0 = gn ∧ slotV ((some (high r.P j)).getD (0, 0)) = slotV hs by rw [hlw, hgn, hhs]; exact ⟨rfl, rfl, rfl⟩)
    rw [EE.out.1, EE.out.2.1, EE.out.2.2]
    have HGN := hide hgn
    have hk0 : ¬ ((k : Int) < 0) := by omega
    obtain ⟨aC, cC, aG, cG, q1, q2, -⟩ := h.c
    subst q1 q2
    clear e0 h hp ok eg hj hlw hhs hgn EE
    go_enter Try.func38, Try.ntmps38
    go_upto_region 1 with fail
    refine named (P := Code.wp _ _ _ _) ?_
    intro w3 hw3
    obtain ⟨C1, C2, bb, -⟩ := two_cells hw3
    have HR3 := hide (HR.out.below bb)
    have B3 := hide bb
    have X0 := hide C1
    have X1 := hide C2
    clear hw3 bb C1 C2 HR
    have kb := (HR3.out.box.get 1 _ rfl).1
    obtain ⟨aC9, cC9, aG9, cG9, u1, u2, li, -⟩ := HR3.out.c
    cases u1
    cases u2
    obtain ⟨bl, off, ha, -, hcell⟩ := Lies.rowAt c2 2 (fun _ => rfl) li k hk2 (by omega)
    subst ha
    have c1 : w3.cell? ⟨bl, off + k * 2 + 1, none⟩ = some (.int .i64 gn) := by rw [HGN.out]; exact hcell 1 _ rfl
    clear hcell li
    obtain ⟨A, hA⟩ : ∃ A, A = w.heap.size := ⟨_, rfl⟩
    rw [← hA] at B3 X0 X1 ⊢
    have sA : A + 1 < w3.heap.size := X1.out.1
    have HA := hide hA
    clear hA
    go_wp2_with (first | (go_at_call 45; refine (KC _ HR3.out).mono ?_; rintro e wz ⟨rfl, rfl⟩) | (go_at_call 47; refine (KL _).mono ?_; rintro e w5 ⟨rfl, hh⟩; have HR5 := hide (HR3.out.below hh); have U0 := hide (X0.out.below hh); have U1 := hide (X1.out.below hh); have BU := hide (B3.out.trans (hh.mono (by omega))); have sU := Nat.lt_of_lt_of_le sA hh.size; clear hh HR3 X0 X1 B3 sA c1 kb) | (go_at_call 37; refine (KG _ HR5.out).mono ?_; rintro e wz ⟨rfl, rfl⟩) | (go_at_call 48; refine (KH _ HR5.out).mono ?_; rintro e w6 ⟨rfl, hh⟩; have Y0 := hide (U0.out.below hh); have Y1 := hide (U1.out.below hh); have BY := hide (BU.out.trans (hh.mono (by omega))); have sY := Nat.lt_of_lt_of_le sU hh.size; clear hh HR5 U0 U1 BU sU; obtain ⟨p0, q0⟩ := Y0.out.get 0 _ rfl; obtain ⟨p1, q1⟩ := Y0.out.get 1 _ rfl; obtain ⟨p2, q2⟩ := Y1.out.get 0 _ rfl; obtain ⟨p3, q3⟩ := Y1.out.get 1 _ rfl))
    have k2 := ((((Keep.refl (fun z => z = A ∨ z = A + 1) w6).setCell (g := A) (j := 0) (fun _ => .inl rfl) (.int .i64 lw.1)).setCell (g := A) (j := 1) (fun _ => .inl rfl) (.int .i64 lw.2)).setCell (g := A + 1) (j := 0) (fun _ => .inr rfl) (.int .i64 hs.1)).setCell (g := A + 1) (j := 1) (fun _ => .inr rfl) (.int .i64 hs.2)
    have u0 : A ≠ A + 1 := by omega
    refine bodyPost_ret (v := .tuple #[slotV lw, .int .i64 gn, slotV hs, .int .i64 0]) (by simp [results, Try.results38, go_sem, p0, p1, p2, p3]) rfl ⟨rfl, ?_⟩
    rw [← HA.out]
    exact BY.out.trans (Keep.below k2 (by omega) (fun z hz q => by omega))
end Go.Proofs.Ytimakfnlcgedkaa
