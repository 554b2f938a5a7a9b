import Derived.Test.YtehbpmibllpkhaaGreatDoorUd3
import Derived.Recover
import Derived.Defers
set_option linter.all false
namespace Go.Proofs.YtehbpmibllpkhaaGreatDoor
open Go.RowKit Go.QK Go.Maps Go.QM Go.QU
set_option maxRecDepth 100000
abbrev runS : ByteArray := ⟨#[82, 117, 110]⟩
def stopV (e : Nat) : Value := .iface 105 (.agg #[.int .i64 (e : Int)])
def pan (e : Nat) : List PanicEntry := [{ v := stopV e, recovered := false }]
theorem giveUp_any (e : Nat) (w : World) : Calls Tryz.prog 28 #[.int .i64 (e : Int)] w fun x w' => x = .panicked (pan e) ∧ w' = w := by
  go_enter Tryz.func28, Tryz.ntmps28
  go_wp2_with fail
  exact ⟨rfl, rfl, rfl⟩
/-- An error whose block is new (not below B). -/
def ErrNew (w : World) (B : Nat) (v : Value) (call : ByteArray) (e : Nat) : Prop := ∃ b, v = .iface 90 (.pointer (some ⟨b, 0, none⟩)) ∧ B ≤ b ∧ Cells w b [.string call, .int .i64 0, .iface 25 (.int .i64 (e : Int))]
theorem assert_stop (a : Value) (w : World) : (Instr.typeAssert (.iface 105 (.agg #[a])) 20 105 true).run Tryz.prog w = .ok (.tuple #[.agg #[a], .bool true]) w := by
  unfold Instr.typeAssert
  simp [run_underlying Tryz.underlying105]
theorem asFault_new (e : Nat) (w : World) : Calls Tryz.prog 27 #[stopV e] w fun x w' => ∃ v, x = .returned v ∧ ErrNew w' w.heap.size v runS e ∧ Below w.heap.size w w' := by
  have A := fun (a : Value) (w : World) => assert_stop a w
  have C0 := Cells.new w #[.int .i64 (e : Int)] 105
  have B0 := alloc_below w (.cells #[.int .i64 (e : Int)] 105)
  unfold stopV
  go_enter Tryz.func27, Tryz.ntmps27
  go_wp2_with fail
  go_ret
  refine ⟨_, rfl, ⟨_, rfl, ?_, ?_⟩, ?_⟩
  rotate_left
  · have q := Cells.new (w.alloc (.cells #[.int .i64 (e : Int)] 105)) #[.string runS, .int .i64 0, .iface 25 (.int .i64 (e : Int))] 92
    rw [World.size_alloc] at q
    exact q
  · exact bnext B0 (alloc_below _ _) (Nat.le_refl _)
  · simp
set_option maxHeartbeats 1000000 in
theorem ru_catch (b6 b7 e : Nat) (w : World) (x6 x7 : Value) (c6 : Cells w b6 [x6]) (c7 : Cells w b7 [x7]) (hne : b6 ≠ b7) :
    CallsD Tryz.prog 26 #[.pointer (some ⟨b6, 0, none⟩), .pointer (some ⟨b7, 0, none⟩)] (.panicking (pan e)) w fun x u' w' => x = .returned (.tuple #[]) ∧ u' = .panicking [{ v := stopV e, recovered := true }] ∧
      ∃ v, Cells w' b6 [.int .i64 0] ∧ Cells w' b7 [v] ∧ ErrNew w' w.heap.size v runS e ∧ Keep (fun b => b = b6 ∨ b = b7) w w' := by
  have FA := hide (asFault_new e w)
  have HC6 := hide c6
  have HC7 := hide c7
  clear c6 c7
  refine callsD_of_wpS Tryz.func26 rfl fun c₀ cs hu => ?_
  apply wpS_seq
  apply wpS_region
  unfold pan at hu
  unfold stopV at *
  simp [wpOpsS, go_sem, recoverD, hu, Tryz.ntmps26, Exit.thenS, Act.put]
  refine wpS_of_wp ?_
  go_wp2_with fail
  refine FA.out.mono ?_
  rintro x w1 ⟨v, rfl, h1, b1⟩
  obtain ⟨eb, rfl, heb, h1⟩ := h1
  obtain ⟨k6, f6⟩ := (HC6.out.below b1).get 0 _ rfl
  have hc7 := (HC7.out.below b1)
  obtain ⟨k7, f7⟩ := hc7.get 0 _ rfl
  have C6 := hide (HC6.out.below b1)
  have C7 := hide hc7
  have B1 := hide b1
  have lt6 := HC6.out.1
  have lt7 := HC7.out.1
  have H1 := hide h1
  have hne' : ¬ b7 = b6 := fun q => hne q.symm
  clear FA HC6 HC7 hc7 b1 h1 hu
  go_wp2_with fail
  have hv : ∀ (t : Array Value) (w : World), (results Tryz.f26 t).run Tryz.prog w = .ok (.tuple #[]) w := fun t w => by simp [results, Tryz.results26]
  refine ⟨rfl, _, rfl, _, hv _ _, rfl, rfl, ?_, .iface 90 (.pointer (some ⟨eb, 0, none⟩)), ?_, ⟨eb, rfl, heb, ?_⟩, ?_⟩
  · exact (C6.out.stored (j := 0) (by simp) _).other hne'
  · exact (C7.out.other hne).stored (j := 0) (by simp) _
  · exact (H1.out.other (by omega)).other (by omega)
  · exact ((Keep.of_below (S := fun b => b = b6 ∨ b = b7) B1.out).setCell (fun _ => .inl rfl) _).setCell (fun _ => .inr rfl) _
abbrev df_ru (b6 b7 : Nat) : List Deferred := [{ target := .fn (.func 26) #[.pointer (some ⟨b6, 0, none⟩), .pointer (some ⟨b7, 0, none⟩)], args := #[] }]
theorem ru_results (t : Array Value) (w : World) (b6 b7 : Nat) (v6 v7 : Value) (h4 : t.getD 8 undef = .pointer (some ⟨b6, 0, none⟩)) (h5 : t.getD 9 undef = .pointer (some ⟨b7, 0, none⟩)) (c6 : Cells w b6 [v6]) (c7 : Cells w b7 [v7]) : (results Tryz.f13 t).run Tryz.prog w = .ok (.tuple #[v6, v7]) w := by
  obtain ⟨k6, _⟩ := c6.get 0 _ rfl
  obtain ⟨k7, _⟩ := c7.get 0 _ rfl
  have h4' : t[8]?.getD undef = .pointer (some ⟨b6, 0, none⟩) := by simpa using h4
  have h5' : t[9]?.getD undef = .pointer (some ⟨b7, 0, none⟩) := by simpa using h5
  simp [results, Tryz.results13, go_sem, h4', h5', k6, k7]
theorem ru_door {R : Ending → World → Prop} (t : Array Value) (w : World) (b6 b7 e : Nat) (x6 x7 : Value) (h4 : t.getD 8 undef = .pointer (some ⟨b6, 0, none⟩)) (h5 : t.getD 9 undef = .pointer (some ⟨b7, 0, none⟩)) (c6 : Cells w b6 [x6]) (c7 : Cells w b7 [x7]) (hne : b6 ≠ b7)
    (hR : ∀ v w', ErrNew w' w.heap.size v runS e → Keep (fun b => b = b6 ∨ b = b7) w w' → R (.returned (.tuple #[.int .i64 0, v])) w') :
    bodyPostD Tryz.prog Tryz.f13 R (Exit.panic (pan e)) { tmps := t, defers := df_ru b6 b7 } w := by
  refine leaves_cons (f := 26) (args := #[.pointer (some ⟨b6, 0, none⟩), .pointer (some ⟨b7, 0, none⟩)]) (by simp) (by simp [go_sem]) ?_
  refine (ru_catch b6 b7 e w x6 x7 c6 c7 hne).mono ?_
  rintro e' u' w' ⟨rfl, rfl, v, k6, k7, he, hk⟩
  exact ⟨_, ru_results t w' b6 b7 _ v h4 h5 k6 k7, hR v w' he hk⟩
set_option maxHeartbeats 2000000 in
theorem run_nil (w : World) :
    Calls Tryz.prog 13 #[.pointer none, .pointer none, .pointer none, .int .i64 1] w fun e w' => ∃ v, e = .returned (.tuple #[.int .i64 0, v]) ∧ ErrNew w' w.heap.size v runS 3 ∧ Below w.heap.size w w' := by
  obtain ⟨w1, hw1⟩ : ∃ w1, w1 = (w.alloc (.cells #[.int .i64 0] 3)).alloc (.cells #[.nilIface] 56) := ⟨_, rfl⟩
  have b0 := alloc_below w (.cells #[.int .i64 0] 3)
  have b1 : Below w.heap.size w w1 := by rw [hw1]; exact bnext b0 (alloc_below _ _) (Nat.le_refl _)
  have c1 : Cells w1 w.heap.size [.int .i64 0] := by rw [hw1]; exact (Cells.new w #[.int .i64 0] 3).below (alloc_below _ _)
  have c2 : Cells w1 (w.heap.size + 1) [.nilIface] := by
    have q := Cells.new (w.alloc (.cells #[.int .i64 0] 3)) #[.nilIface] 56
    rw [World.size_alloc] at q
    rw [hw1]; exact q
  have HW := hide hw1
  have B1 := hide b1
  have C1 := hide c1
  have C2 := hide c2
  have G := hide (giveUp_any 3 w1)
  clear hw1 b1 c1 c2 b0
  go_enter_defers Tryz.func13, Tryz.ntmps13
  go_upto_region 2 with fail
  rw [← HW.out]
  clear HW
  go_wp2_with fail
  refine G.out.mono ?_
  rintro e w2 ⟨rfl, hw2⟩
  obtain rfl : w1 = w2 := hw2.symm
  refine ru_door _ _ w.heap.size (w.heap.size + 1) 3 (.int .i64 0) .nilIface rfl rfl C1.out C2.out (by omega) ?_
  intro v w' hv hk
  have := B1.out.size
  refine ⟨v, rfl, ?_, B1.out.trans (hk.below (by omega) (fun k hk q => by omega))⟩
  obtain ⟨b, q1, q2, q3⟩ := hv
  exact ⟨b, q1, by omega, q3⟩
end Go.Proofs.YtehbpmibllpkhaaGreatDoor
