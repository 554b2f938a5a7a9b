import Derived.Test.YtpddmimacjknfaaTw4
namespace Go.Proofs.Ytpddmimacjknfaa
open Go.RowKit Go.QK
set_option maxRecDepth 100000

abbrev writeS : ByteArray := ⟨#[87, 114, 105, 116, 101]⟩
abbrev readS : ByteArray := ⟨#[82, 101, 97, 100]⟩
abbrev finishS : ByteArray := ⟨#[70, 105, 110, 105, 115, 104]⟩
/-- An error whose block is new (not below B). -/
def ErrNew (w : World) (B : Nat) (v : Value) (call : ByteArray) (e : Nat) : Prop := ∃ b, v = .iface 84 (.pointer (some ⟨b, 0, none⟩)) ∧ B ≤ b ∧ Cells w b [.string call, .int .i64 0, .iface 40 (.int .i64 (e : Int))]
section
variable {S : Nat → Prop} {w w' : World} {B B' : Nat} {v : Value} {call : ByteArray} {e : Nat}
theorem ErrNew.keep (h : ErrNew w B v call e) (hk : Keep S w w') (hS : ∀ k, S k → k < B) : ErrNew w' B v call e := by
  obtain ⟨b, h1, h2, h3⟩ := h
  exact ⟨b, h1, h2, h3.keep hk (fun q => by have := hS b q; omega)⟩
theorem ErrNew.below (h : ErrNew w B v call e) (hk : Below w.heap.size w w') : ErrNew w' B v call e := by
  obtain ⟨b, h1, h2, h3⟩ := h
  exact ⟨b, h1, h2, h3.below hk⟩
theorem ErrNew.mono (h : ErrNew w B v call e) (hk : B' ≤ B) : ErrNew w B' v call e := by
  obtain ⟨b, h1, h2, h3⟩ := h
  exact ⟨b, h1, Nat.le_trans hk h2, h3⟩
/-- What a call answers as its error. -/
def Told (w : World) (B : Nat) (v : Value) (call : ByteArray) (e : Nat) : Prop := (e = 0 ∧ v = .nilIface) ∨ (e ≠ 0 ∧ ErrNew w B v call e)
theorem Told.below (h : Told w B v call e) (hk : Below w.heap.size w w') : Told w' B v call e := by
  rcases h with h | ⟨h, q⟩
  · exact .inl h
  · exact .inr ⟨h, q.below hk⟩
theorem Told.mono (h : Told w B v call e) (hk : B' ≤ B) : Told w B' v call e := by
  rcases h with h | ⟨h, q⟩
  · exact .inl h
  · exact .inr ⟨h, q.mono hk⟩
end
theorem assert_stop (a : Value) (w : World) : (Instr.typeAssert (.iface 104 (.agg #[a])) 20 104 true).run Try.prog w = .ok (.tuple #[.agg #[a], .bool true]) w := by
  unfold Instr.typeAssert
  simp [run_underlying Try.underlying104]
theorem asFault_new (call : ByteArray) (e : Nat) (w : World) : Calls Try.prog 27 #[.string call, stopV e] w fun x w' => ∃ v, x = .returned v ∧ ErrNew w' w.heap.size v call e ∧ Below w.heap.size w w' := by
  have A := fun (a : Value) (w : World) => assert_stop a w
  have C0 := Cells.new w #[.int .i64 (e : Int)] 104
  have B0 := alloc_below w (.cells #[.int .i64 (e : Int)] 104)
  unfold stopV
  go_enter Try.func27, Try.ntmps27
  go_wp2_with fail
  go_ret
  refine ⟨_, rfl, ⟨_, rfl, ?_, ?_⟩, ?_⟩
  rotate_left
  · have q := Cells.new (w.alloc (.cells #[.int .i64 (e : Int)] 104)) #[.string call, .int .i64 0, .iface 40 (.int .i64 (e : Int))] 86
    rw [World.size_alloc] at q
    exact q
  · exact bnext B0 (alloc_below _ _) (Nat.le_refl _)
  · simp

/-! Write's closure. -/
theorem wr_idle (b : Nat) (w : World) :
    CallsD Try.prog 26 #[.pointer (some ⟨b, 0, none⟩)] .returning w fun e u' w' => e = .returned (.tuple #[]) ∧ u' = .returning ∧ w' = w := by
  refine callsD_of_wpS Try.func26 rfl fun c₀ cs hu => ?_
  apply wpS_seq
  apply wpS_region
  simp [wpOpsS, go_sem, recoverD, hu, Try.ntmps26, Exit.thenS]
  refine wpS_of_wp ?_
  go_wp2_with fail
  cases c₀
  simp_all [bodyPostS, results, Try.results26]
set_option maxHeartbeats 1000000 in
theorem wr_catch (b e : Nat) (w : World) (x : Value) (c : Cells w b [x]) :
    CallsD Try.prog 26 #[.pointer (some ⟨b, 0, none⟩)] (.panicking (pan e)) w fun r u' w' => r = .returned (.tuple #[]) ∧ u' = .panicking [{ v := stopV e, recovered := true }] ∧
      ∃ v, Cells w' b [v] ∧ ErrNew w' w.heap.size v writeS e ∧ Keep (fun k => k = b) w w' := by
  have FA := hide (asFault_new writeS e w)
  have HC := hide c
  clear c
  refine callsD_of_wpS Try.func26 rfl fun c₀ cs hu => ?_
  apply wpS_seq
  apply wpS_region
  unfold pan at hu
  unfold stopV at *
  simp [wpOpsS, go_sem, recoverD, hu, Try.ntmps26, Exit.thenS, Act.put]
  refine wpS_of_wp ?_
  go_wp2_with fail
  refine FA.out.mono ?_
  rintro r w1 ⟨v, rfl, h1, b1⟩
  obtain ⟨eb, rfl, heb, h1⟩ := h1
  obtain ⟨k6, f6⟩ := (HC.out.below b1).get 0 _ rfl
  have C6 := hide (HC.out.below b1)
  have B1 := hide b1
  have lt6 := HC.out.1
  have H1 := hide h1
  clear FA HC b1 h1 hu
  go_wp2_with fail
  have hv : ∀ (t : Array Value) (w : World), (results Try.f26 t).run Try.prog w = .ok (.tuple #[]) w := fun t w => by simp [results, Try.results26]
  refine ⟨rfl, _, rfl, _, hv _ _, rfl, rfl, _, ?_, ⟨eb, rfl, heb, ?_⟩, ?_⟩
  · exact C6.out.stored (j := 0) (by simp) _
  · exact H1.out.other (by omega)
  · exact (Keep.of_below (S := fun k => k = b) B1.out).setCell (fun _ => rfl) _
abbrev dfW (b : Nat) : List Deferred := [{ target := .fn (.func 26) #[.pointer (some ⟨b, 0, none⟩)], args := #[] }]
theorem wr_results (t : Array Value) (w : World) (b : Nat) (v : Value) (h4 : t.getD 8 undef = .pointer (some ⟨b, 0, none⟩)) (c4 : Cells w b [v]) : (results Try.f11 t).run Try.prog w = .ok v w := by
  obtain ⟨k4, _⟩ := c4.get 0 _ rfl
  have h4' : t[8]?.getD undef = .pointer (some ⟨b, 0, none⟩) := by simpa using h4
  simp [results, Try.results11, go_sem, h4', k4]
theorem wr_door {R : Ending → World → Prop} (t : Array Value) (w : World) (b e : Nat) (x : Value) (h4 : t.getD 8 undef = .pointer (some ⟨b, 0, none⟩)) (c : Cells w b [x])
    (hR : ∀ v w', ErrNew w' w.heap.size v writeS e → Keep (fun k => k = b) w w' → R (.returned v) w') :
    bodyPostD Try.prog Try.f11 R (Exit.panic (pan e)) { tmps := t, defers := dfW b } w := by
  refine leaves_cons (f := 26) (args := #[.pointer (some ⟨b, 0, none⟩)]) (by simp) (by simp [go_sem]) ?_
  refine (wr_catch b e w x c).mono ?_
  rintro e' u' w' ⟨rfl, rfl, v, k4, he, hk⟩
  exact ⟨_, wr_results t w' b v h4 k4, hR v w' he hk⟩
theorem wr_done {R : Ending → World → Prop} (t : Array Value) (w : World) (b : Nat) (v : Value) (h4 : t.getD 8 undef = .pointer (some ⟨b, 0, none⟩)) (c : Cells w b [v]) (hR : R (.returned v) w) :
    bodyPostD Try.prog Try.f11 R Exit.ret { tmps := t, defers := dfW b } w := by
  refine leaves_cons (f := 26) (args := #[.pointer (some ⟨b, 0, none⟩)]) (by simp) (by simp [go_sem]) ?_
  refine (wr_idle b w).mono ?_
  rintro e' u' w' ⟨rfl, rfl, rfl⟩
  exact ⟨_, wr_results t w' b v h4 c, hR⟩
end Go.Proofs.Ytpddmimacjknfaa
