import Derived.Test.YtpddmimacjknfaaTw6
namespace Go.Proofs.Ytpddmimacjknfaa
open Go.RowKit Go.QK
set_option maxRecDepth 100000

set_option maxHeartbeats 2000000 in
theorem write_nil (at_ hm : Int) (a : Option Addr) (n c : Nat) (w : World) :
    Calls Try.prog 11 #[.pointer none, .int .i64 at_, .int .i64 hm, .slice a n c] w fun e w' => ∃ v, e = .returned v ∧ Told w' w.heap.size v writeS 3 ∧ Below w.heap.size w w' := by
  obtain ⟨w1, hw1⟩ : ∃ w1, w1 = w.alloc (.cells #[.nilIface] 32) := ⟨_, rfl⟩
  have b1 : Below w.heap.size w w1 := by rw [hw1]; exact alloc_below _ _
  have c1 : Cells w1 w.heap.size [.nilIface] := by rw [hw1]; exact Cells.new w #[.nilIface] 32
  have HW := hide hw1
  have B1 := hide b1
  have C1 := hide c1
  have KR := run_nil w1
  clear hw1 b1 c1
  go_enter_defers Try.func11, Try.ntmps11
  go_upto_region 2 with fail
  rw [← HW.out]
  clear HW
  go_wp2_with fail
  refine KR.mono ?_
  rintro e w2 ⟨rfl, hw2⟩
  obtain rfl : w1 = w2 := hw2.symm
  refine wr_door _ _ w.heap.size 3 .nilIface rfl C1.out ?_
  intro v w' hv hk
  have := B1.out.size
  exact ⟨v, rfl, .inr ⟨by decide, hv.mono (by omega)⟩, B1.out.trans (hk.below (by omega) (fun k hk q => by omega))⟩

theorem rd_idle (b0 b1 : Nat) (w : World) :
    CallsD Try.prog 35 #[.pointer (some ⟨b0, 0, none⟩), .pointer (some ⟨b1, 0, none⟩)] .returning w fun e u' w' => e = .returned (.tuple #[]) ∧ u' = .returning ∧ w' = w := by
  refine callsD_of_wpS Try.func35 rfl fun c₀ cs hu => ?_
  apply wpS_seq
  apply wpS_region
  simp [wpOpsS, go_sem, recoverD, hu, Try.ntmps35, Exit.thenS]
  refine wpS_of_wp ?_
  go_wp2_with fail
  cases c₀
  simp_all [bodyPostS, results, Try.results35]
set_option maxHeartbeats 1000000 in
theorem rd_catch (b6 b7 e : Nat) (w : World) (x6 x7 : Value) (c6 : Cells w b6 [x6]) (c7 : Cells w b7 [x7]) (hne : b6 ≠ b7) :
    CallsD Try.prog 35 #[.pointer (some ⟨b6, 0, none⟩), .pointer (some ⟨b7, 0, none⟩)] (.panicking (pan e)) w fun x u' w' => x = .returned (.tuple #[]) ∧ u' = .panicking [{ v := stopV e, recovered := true }] ∧
      ∃ v, Cells w' b6 [.slice none 0 0] ∧ Cells w' b7 [v] ∧ ErrNew w' w.heap.size v readS e ∧ Keep (fun b => b = b6 ∨ b = b7) w w' := by
  have FA := hide (asFault_new readS e w)
  have HC6 := hide c6
  have HC7 := hide c7
  clear c6 c7
  refine callsD_of_wpS Try.func35 rfl fun c₀ cs hu => ?_
  apply wpS_seq
  apply wpS_region
  unfold pan at hu
  unfold stopV at *
  simp [wpOpsS, go_sem, recoverD, hu, Try.ntmps35, Exit.thenS, Act.put]
  refine wpS_of_wp ?_
  go_wp2_with fail
  refine FA.out.mono ?_
  rintro x w1 ⟨v, rfl, h1, b1⟩
  obtain ⟨eb, rfl, heb, h1⟩ := h1
  obtain ⟨k6, f6⟩ := (HC6.out.below b1).get 0 _ rfl
  have hc7 := (HC7.out.below b1)
  obtain ⟨k7, f7⟩ := hc7.get 0 _ rfl
  have C6 := hide (HC6.out.below b1)
  have C7 := hide hc7
  have B1 := hide b1
  have lt6 := HC6.out.1
  have lt7 := HC7.out.1
  have H1 := hide h1
  have hne' : ¬ b7 = b6 := fun q => hne q.symm
  clear FA HC6 HC7 hc7 b1 h1 hu
  go_wp2_with fail
  have hv : ∀ (t : Array Value) (w : World), (results Try.f35 t).run Try.prog w = .ok (.tuple #[]) w := fun t w => by simp [results, Try.results35]
  refine ⟨rfl, _, rfl, _, hv _ _, rfl, rfl, ?_, .iface 84 (.pointer (some ⟨eb, 0, none⟩)), ?_, ⟨eb, rfl, heb, ?_⟩, ?_⟩
  · exact (C6.out.stored (j := 0) (by simp) _).other hne'
  · exact (C7.out.other hne).stored (j := 0) (by simp) _
  · exact (H1.out.other (by omega)).other (by omega)
  · exact ((Keep.of_below (S := fun b => b = b6 ∨ b = b7) B1.out).setCell (fun _ => .inl rfl) _).setCell (fun _ => .inr rfl) _
abbrev df_rd (b6 b7 : Nat) : List Deferred := [{ target := .fn (.func 35) #[.pointer (some ⟨b6, 0, none⟩), .pointer (some ⟨b7, 0, none⟩)], args := #[] }]
theorem rd_results (t : Array Value) (w : World) (b6 b7 : Nat) (v6 v7 : Value) (h4 : t.getD 4 undef = .pointer (some ⟨b6, 0, none⟩)) (h5 : t.getD 5 undef = .pointer (some ⟨b7, 0, none⟩)) (c6 : Cells w b6 [v6]) (c7 : Cells w b7 [v7]) : (results Try.f12 t).run Try.prog w = .ok (.tuple #[v6, v7]) w := by
  obtain ⟨k6, _⟩ := c6.get 0 _ rfl
  obtain ⟨k7, _⟩ := c7.get 0 _ rfl
  have h4' : t[4]?.getD undef = .pointer (some ⟨b6, 0, none⟩) := by simpa using h4
  have h5' : t[5]?.getD undef = .pointer (some ⟨b7, 0, none⟩) := by simpa using h5
  simp [results, Try.results12, go_sem, h4', h5', k6, k7]
theorem rd_door {R : Ending → World → Prop} (t : Array Value) (w : World) (b6 b7 e : Nat) (x6 x7 : Value) (h4 : t.getD 4 undef = .pointer (some ⟨b6, 0, none⟩)) (h5 : t.getD 5 undef = .pointer (some ⟨b7, 0, none⟩)) (c6 : Cells w b6 [x6]) (c7 : Cells w b7 [x7]) (hne : b6 ≠ b7)
    (hR : ∀ v w', ErrNew w' w.heap.size v readS e → Keep (fun b => b = b6 ∨ b = b7) w w' → R (.returned (.tuple #[.slice none 0 0, v])) w') :
    bodyPostD Try.prog Try.f12 R (Exit.panic (pan e)) { tmps := t, defers := df_rd b6 b7 } w := by
  refine leaves_cons (f := 35) (args := #[.pointer (some ⟨b6, 0, none⟩), .pointer (some ⟨b7, 0, none⟩)]) (by simp) (by simp [go_sem]) ?_
  refine (rd_catch b6 b7 e w x6 x7 c6 c7 hne).mono ?_
  rintro e' u' w' ⟨rfl, rfl, v, k6, k7, he, hk⟩
  exact ⟨_, rd_results t w' b6 b7 _ v h4 h5 k6 k7, hR v w' he hk⟩
theorem rd_done {R : Ending → World → Prop} (t : Array Value) (w : World) (b6 b7 : Nat) (v6 v7 : Value) (h4 : t.getD 4 undef = .pointer (some ⟨b6, 0, none⟩)) (h5 : t.getD 5 undef = .pointer (some ⟨b7, 0, none⟩)) (c6 : Cells w b6 [v6]) (c7 : Cells w b7 [v7]) (hR : R (.returned (.tuple #[v6, v7])) w) :
    bodyPostD Try.prog Try.f12 R Exit.ret { tmps := t, defers := df_rd b6 b7 } w := by
  refine leaves_cons (f := 35) (args := #[.pointer (some ⟨b6, 0, none⟩), .pointer (some ⟨b7, 0, none⟩)]) (by simp) (by simp [go_sem]) ?_
  refine (rd_idle b6 b7 w).mono ?_
  rintro e' u' w' ⟨rfl, rfl, rfl⟩
  exact ⟨_, rd_results t w' b6 b7 v6 v7 h4 h5 c6 c7, hR⟩

theorem fn_idle (b0 b1 : Nat) (w : World) :
    CallsD Try.prog 40 #[.pointer (some ⟨b0, 0, none⟩), .pointer (some ⟨b1, 0, none⟩)] .returning w fun e u' w' => e = .returned (.tuple #[]) ∧ u' = .returning ∧ w' = w := by
  refine callsD_of_wpS Try.func40 rfl fun c₀ cs hu => ?_
  apply wpS_seq
  apply wpS_region
  simp [wpOpsS, go_sem, recoverD, hu, Try.ntmps40, Exit.thenS]
  refine wpS_of_wp ?_
  go_wp2_with fail
  cases c₀
  simp_all [bodyPostS, results, Try.results40]
set_option maxHeartbeats 1000000 in
theorem fn_catch (b6 b7 e : Nat) (w : World) (x6 x7 : Value) (c6 : Cells w b6 [x6]) (c7 : Cells w b7 [x7]) (hne : b6 ≠ b7) :
    CallsD Try.prog 40 #[.pointer (some ⟨b6, 0, none⟩), .pointer (some ⟨b7, 0, none⟩)] (.panicking (pan e)) w fun x u' w' => x = .returned (.tuple #[]) ∧ u' = .panicking [{ v := stopV e, recovered := true }] ∧
      ∃ v, Cells w' b6 [.bool false] ∧ Cells w' b7 [v] ∧ ErrNew w' w.heap.size v finishS e ∧ Keep (fun b => b = b6 ∨ b = b7) w w' := by
  have FA := hide (asFault_new finishS e w)
  have HC6 := hide c6
  have HC7 := hide c7
  clear c6 c7
  refine callsD_of_wpS Try.func40 rfl fun c₀ cs hu => ?_
  apply wpS_seq
  apply wpS_region
  unfold pan at hu
  unfold stopV at *
  simp [wpOpsS, go_sem, recoverD, hu, Try.ntmps40, Exit.thenS, Act.put]
  refine wpS_of_wp ?_
  go_wp2_with fail
  refine FA.out.mono ?_
  rintro x w1 ⟨v, rfl, h1, b1⟩
  obtain ⟨eb, rfl, heb, h1⟩ := h1
  obtain ⟨k6, f6⟩ := (HC6.out.below b1).get 0 _ rfl
  have hc7 := (HC7.out.below b1)
  obtain ⟨k7, f7⟩ := hc7.get 0 _ rfl
  have C6 := hide (HC6.out.below b1)
  have C7 := hide hc7
  have B1 := hide b1
  have lt6 := HC6.out.1
  have lt7 := HC7.out.1
  have H1 := hide h1
  have hne' : ¬ b7 = b6 := fun q => hne q.symm
  clear FA HC6 HC7 hc7 b1 h1 hu
  go_wp2_with fail
  have hv : ∀ (t : Array Value) (w : World), (results Try.f40 t).run Try.prog w = .ok (.tuple #[]) w := fun t w => by simp [results, Try.results40]
  refine ⟨rfl, _, rfl, _, hv _ _, rfl, rfl, ?_, .iface 84 (.pointer (some ⟨eb, 0, none⟩)), ?_, ⟨eb, rfl, heb, ?_⟩, ?_⟩
  · exact (C6.out.stored (j := 0) (by simp) _).other hne'
  · exact (C7.out.other hne).stored (j := 0) (by simp) _
  · exact (H1.out.other (by omega)).other (by omega)
  · exact ((Keep.of_below (S := fun b => b = b6 ∨ b = b7) B1.out).setCell (fun _ => .inl rfl) _).setCell (fun _ => .inr rfl) _
abbrev df_fn (b6 b7 : Nat) : List Deferred := [{ target := .fn (.func 40) #[.pointer (some ⟨b6, 0, none⟩), .pointer (some ⟨b7, 0, none⟩)], args := #[] }]
theorem fn_results (t : Array Value) (w : World) (b6 b7 : Nat) (v6 v7 : Value) (h4 : t.getD 4 undef = .pointer (some ⟨b6, 0, none⟩)) (h5 : t.getD 5 undef = .pointer (some ⟨b7, 0, none⟩)) (c6 : Cells w b6 [v6]) (c7 : Cells w b7 [v7]) : (results Try.f16 t).run Try.prog w = .ok (.tuple #[v6, v7]) w := by
  obtain ⟨k6, _⟩ := c6.get 0 _ rfl
  obtain ⟨k7, _⟩ := c7.get 0 _ rfl
  have h4' : t[4]?.getD undef = .pointer (some ⟨b6, 0, none⟩) := by simpa using h4
  have h5' : t[5]?.getD undef = .pointer (some ⟨b7, 0, none⟩) := by simpa using h5
  simp [results, Try.results16, go_sem, h4', h5', k6, k7]
theorem fn_door {R : Ending → World → Prop} (t : Array Value) (w : World) (b6 b7 e : Nat) (x6 x7 : Value) (h4 : t.getD 4 undef = .pointer (some ⟨b6, 0, none⟩)) (h5 : t.getD 5 undef = .pointer (some ⟨b7, 0, none⟩)) (c6 : Cells w b6 [x6]) (c7 : Cells w b7 [x7]) (hne : b6 ≠ b7)
    (hR : ∀ v w', ErrNew w' w.heap.size v finishS e → Keep (fun b => b = b6 ∨ b = b7) w w' → R (.returned (.tuple #[.bool false, v])) w') :
    bodyPostD Try.prog Try.f16 R (Exit.panic (pan e)) { tmps := t, defers := df_fn b6 b7 } w := by
  refine leaves_cons (f := 40) (args := #[.pointer (some ⟨b6, 0, none⟩), .pointer (some ⟨b7, 0, none⟩)]) (by simp) (by simp [go_sem]) ?_
  refine (fn_catch b6 b7 e w x6 x7 c6 c7 hne).mono ?_
  rintro e' u' w' ⟨rfl, rfl, v, k6, k7, he, hk⟩
  exact ⟨_, fn_results t w' b6 b7 _ v h4 h5 k6 k7, hR v w' he hk⟩
theorem fn_done {R : Ending → World → Prop} (t : Array Value) (w : World) (b6 b7 : Nat) (v6 v7 : Value) (h4 : t.getD 4 undef = .pointer (some ⟨b6, 0, none⟩)) (h5 : t.getD 5 undef = .pointer (some ⟨b7, 0, none⟩)) (c6 : Cells w b6 [v6]) (c7 : Cells w b7 [v7]) (hR : R (.returned (.tuple #[v6, v7])) w) :
    bodyPostD Try.prog Try.f16 R Exit.ret { tmps := t, defers := df_fn b6 b7 } w := by
  refine leaves_cons (f := 40) (args := #[.pointer (some ⟨b6, 0, none⟩), .pointer (some ⟨b7, 0, none⟩)]) (by simp) (by simp [go_sem]) ?_
  refine (fn_idle b6 b7 w).mono ?_
  rintro e' u' w' ⟨rfl, rfl, rfl⟩
  exact ⟨_, fn_results t w' b6 b7 v6 v7 h4 h5 c6 c7, hR⟩

/-! Read. -/
/-- Two new variables. -/
theorem two_new (w : World) (x y : Value) (s t : TypeId) : ∃ w2, w2 = (w.alloc (.cells #[x] s)).alloc (.cells #[y] t) ∧ Below w.heap.size w w2 ∧ w2.heap.size = w.heap.size + 2 ∧ Cells w2 w.heap.size [x] ∧ Cells w2 (w.heap.size + 1) [y] := by
  refine ⟨_, rfl, ((Below.refl _ w).alloc (Nat.le_refl _) _).alloc (by simp) _, by simp, (Cells.new w #[x] s).below (alloc_below _ _), ?_⟩
  have := Cells.new (w.alloc (.cells #[x] s)) #[y] t
  rw [World.size_alloc] at this
  exact this
def RdPost (w : World) (E : Nat) (B : List Nat) (e : Ending) (w' : World) : Prop :=
  ∃ v x, e = .returned (.tuple #[x, v]) ∧ Told w' w.heap.size v readS E ∧ ((E ≠ 0 ∧ x = .slice none 0 0) ∨ (E = 0 ∧ B.length = 1024 ∧ ∃ gb, x = .slice (some ⟨gb, 0, none⟩) 1024 1024 ∧ w.heap.size ≤ gb ∧ OwnB w' w.heap.size (.slice (some ⟨gb, 0, none⟩) 1024 1024) B)) ∧ Below w.heap.size w w'
theorem two_below {w w' : World} {B : Nat} (h : Keep (fun b => b = B ∨ b = B + 1) w w') (hB : B ≤ w.heap.size) : Below B w w' := h.below hB (fun k hk q => by omega)
set_option maxHeartbeats 4000000 in
theorem read_twin {w : World} {S : Nat → Prop} {d : Nat} {g : Dev} (h : PDev w S d g) (hm : Int) (hpl : g.pend.length ≤ 1000000) :
    Calls Try.prog 12 #[.pointer (some ⟨d, 0, none⟩), .int .i64 hm] w (RdPost w (g.rdE hm) (g.rdB hm)) := by
  obtain ⟨w2, hw2, b2, z2, c4, c5⟩ := two_new w (.slice none 0 0) .nilIface 22 32
  have P2 := h.below b2
  obtain ⟨E, hE⟩ : ∃ E, E = g.rdE hm := ⟨_, rfl⟩
  obtain ⟨B, hB⟩ : ∃ B, B = g.rdB hm := ⟨_, rfl⟩
  rw [← hE, ← hB]
  have GU := hide (fun e w => giveUp_any e w)
  have HW := hide hw2
  have HB2 := hide b2
  have C4 := hide c4
  have C5 := hide c5
  have DOOR : Hid (∀ (t : Array Value) (e : Nat), t.getD 4 undef = .pointer (some ⟨w.heap.size, 0, none⟩) → t.getD 5 undef = .pointer (some ⟨w.heap.size + 1, 0, none⟩) → E = e → e ≠ 0 → bodyPostD Try.prog Try.f12 (RdPost w E B) (Exit.panic (pan e)) { tmps := t, defers := df_rd w.heap.size (w.heap.size + 1) } w2) := by
    intro t e h4 h5 he h0
    refine rd_door t w2 _ _ e _ _ h4 h5 c4 c5 (by omega) ?_
    intro v w' hv hk
    exact ⟨v, _, rfl, .inr ⟨by rw [he]; exact h0, by rw [he]; exact hv.mono (by omega)⟩, .inl ⟨by rw [he]; exact h0, rfl⟩, b2.trans (two_below hk (by omega))⟩
  unfold Dev.rdE at hE
  by_cases hd : g.down = true
  · rw [if_pos hd] at hE
    have KR := run_down P2 hd
    have HE := hide hE
    clear hE hB P2 h b2 c4 c5 hw2 hd
    go_enter_defers Try.func12, Try.ntmps12
    go_upto_region 2 with fail
    rw [← HW.out]
    go_wp2_with fail
    refine KR.mono ?_
    rintro e w3 ⟨rfl, hw3⟩
    obtain rfl : w2 = w3 := hw3.symm
    exact DOOR.out _ 40 rfl rfl HE.out (by decide)
  have hd : g.down = false := by simpa using hd
  rw [if_neg (by rw [hd]; simp)] at hE
  have KR := run_ok P2 hd
  have KT := mayPage_any P2 hm
  by_cases ht : g.has hm 2 = true
  rotate_left
  · have ht : g.has hm 2 = false := by simpa using ht
    rw [if_pos ht] at hE
    rw [ht] at KT
    have HE := hide hE
    clear hE hB P2 h b2 c4 c5 hw2 hd ht
    go_enter_defers Try.func12, Try.ntmps12
    go_upto_region 2 with fail
    rw [← HW.out]
    go_wp2_with fail
    refine KR.mono ?_
    rintro e w3 ⟨rfl, hw3⟩
    obtain rfl : w2 = w3 := hw3.symm
    go_wp2_with fail
    refine KT.mono ?_
    rintro e w3 ⟨rfl, hw3⟩
    obtain rfl : w2 = w3 := hw3.symm
    go_wp2_with fail
    refine (GU.out 4 w2).mono ?_
    rintro e w3 ⟨rfl, hw3⟩
    obtain rfl : w2 = w3 := hw3.symm
    exact DOOR.out _ 4 rfl rfl HE.out (by decide)
  obtain ⟨a1, a2, a3⟩ := has_num h ht
  rw [ht, if_neg (by simp)] at hE
  rw [ht] at KT
  obtain ⟨H, rfl⟩ : ∃ H : Nat, hm = (H : Int) := ⟨hm.toNat, by omega⟩
  have hBB : B = g.content H ++ g.content (H + 1) := by
    rw [hB]
    unfold Dev.rdB
    rw [if_pos (by unfold Dev.rdE; rw [if_neg (by rw [hd]; simp), ht, if_neg (by simp)]), Int.toNat_natCast]
  have KP := readPage_any P2 H hd (by omega) hpl
  rw [← hBB] at KP
  have HBB := hide hBB
  have HE := hide hE
  clear hE hB P2 h b2 c4 c5 hw2 hd ht a1 a2 a3 hBB
  go_enter_defers Try.func12, Try.ntmps12
  go_upto_region 2 with fail
  rw [← HW.out]
  go_wp2_with fail
  refine KR.mono ?_
  rintro e w3 ⟨rfl, hw3⟩
  obtain rfl : w2 = w3 := hw3.symm
  go_wp2_with fail
  refine KT.mono ?_
  rintro e w3 ⟨rfl, hw3⟩
  obtain rfl : w2 = w3 := hw3.symm
  go_wp2_with fail
  refine KP.mono ?_
  rintro e w3 ⟨gb, rfl, hgb, o3, l1, l2, b3⟩
  obtain ⟨k4, f4⟩ := (C4.out.below b3).get 0 _ rfl
  obtain ⟨k5, f5⟩ := (C5.out.below b3).get 0 _ rfl
  have C43 := hide (C4.out.below b3)
  have C53 := hide (C5.out.below b3)
  have z3 := b3.size
  have hK : Keep (fun b => b = w.heap.size ∨ b = w.heap.size + 1) w3 ((w3.setCell ⟨w.heap.size, 0, none⟩ (.slice (some ⟨gb, 0, none⟩) 1024 1024)).setCell ⟨w.heap.size + 1, 0, none⟩ .nilIface) := ((Keep.refl _ w3).setCell (fun _ => .inl rfl) _).setCell (fun _ => .inr rfl) _
  have O9 := hide (Owns.base (B' := w.heap.size) (Owns.keep o3 hK (fun k hk q => by have hk' : some gb = some k := hk; cases hk'; omega)) (by omega))
  have B9 := hide ((bnext HB2.out b3 (Nat.le_refl _)).trans (two_below hK (by omega)))
  have LB := hide (show B.length = 1024 by rw [HBB.out, List.length_append, l1, l2])
  have hgb' : w.heap.size ≤ gb := by omega
  clear KP KT KR o3 l1 l2 b3 hK C4 C5 HW HBB hgb
  go_wp2_with fail
  refine rd_done _ _ w.heap.size (w.heap.size + 1) _ _ rfl rfl ((C43.out.stored (j := 0) (by simp) _).other (by omega)) ((C53.out.other (by omega)).stored (j := 0) (by simp) _) ?_
  exact ⟨_, _, rfl, .inl ⟨HE.out, rfl⟩, .inr ⟨HE.out, LB.out, gb, rfl, hgb', O9.out⟩, B9.out⟩
end Go.Proofs.Ytpddmimacjknfaa
