import Derived.Test.YtgpmghdoofcpaaaLg15
namespace Go.Proofs.Ytgpmghdoofcpaaa.Lg
open Go.RowKit Go.QK
open Dv (hide bnext alloc_below load_arr store_arr slice_arr wp_load_arr wp_store_arr neq_arr info91)

/-! A region that draws its order in a function that defers. -/
theorem leaves_tmps {P : Program} {fn : Func} {t t' : Array Value} {R : Ending → World → Prop} (h : results fn t = results fn t') : (ds : List Deferred) → (u : FrameMode) → (w : World) → Leaves P fn t R ds u w → Leaves P fn t' R ds u w
  | [], .returning, w, k => by
    obtain ⟨v, h1, h2⟩ := k
    exact ⟨v, by rw [← h]; exact h1, h2⟩
  | [], .panicking _, _, k => k
  | [], .run, _, k => k
  | d :: ds, u, w, k => by
    obtain ⟨h1, fv, cap, f, args, h2, h3, h4⟩ := k
    refine ⟨h1, fv, cap, f, args, h2, h3, h4.mono fun e u' w' q => ?_⟩
    cases e with
    | returned v => exact leaves_tmps h ds _ _ q
    | panicked c => exact leaves_tmps h ds _ _ q
    | outgrown => exact q
theorem results28 (t : Array Value) (d : Nat) (v : Value) (hd : d ≠ 4) : results Try.f13 (t.setIfInBounds d v) = results Try.f13 t := by
  have e : (t.setIfInBounds d v).getD 4 undef = t.getD 4 undef := by
    simp only [Array.getD_eq_getD_getElem?]
    rw [Array.getElem?_setIfInBounds_ne hd]
  unfold results
  simp only [Try.results13]
  simp
  simp only [Array.getD_eq_getD_getElem?] at e
  rw [e]
theorem force_put {R : Ending → World → Prop} {c : List PanicEntry} {a : Act} {w : World} {d : Nat} {v : Value} (hd : d ≠ 4) (h : bodyPostD Try.prog Try.f13 R (.panic c) (a.put (some d) v) w) : bodyPostD Try.prog Try.f13 R (.panic c) a w :=
  leaves_tmps (results28 a.tmps d v hd) _ _ _ h
section
variable {P : Program} {ops : Array Oper} {Q : Exit → Act → World → Prop} {md : Region.Mode} {Sw : World → Prop}
theorem take_atD (i : Nat) (d : Option Nat) {oi : Oper} {v : Value} {fuel : Nat} {listed : Array Bool} {t : Array Value} {ds : List Deferred} {w : World} (hi : ops[i]? = some oi) (hd : oi.dst = d)
    (hs : Region.noSelect ops = true) (hf : Region.free md ops listed i = true) (hr : (Region.ready md ops listed).contains i = true)
    (hQ : ∀ c a w, Q (.panic c) (a.put d v) w → Q (.panic c) a w)
    (hy : Region.wanted oi (yielded ops t) = true ∧ ∀ w, Sw w → (execOp (Act.eval { tmps := t, defers := ds }) oi).run P w = .ok (.value v) w) (hS : Sw w)
    (h : wpAnyH P md ops Q Sw fuel (listed.setIfInBounds i true) (Act.put { tmps := t, defers := ds } d v) w) : wpAnyH P md ops Q Sw (fuel + 1) listed { tmps := t, defers := ds } w := by
  subst hd
  exact wpAnyH_take hi hs hf hr hQ (Or.inl hy) hS h
end
set_option maxRecDepth 100000 in
theorem force_idle (b4 b2 : Nat) (w : World) :
    CallsD Try.prog 26 #[.pointer (some ⟨b4, 0, none⟩), .pointer (some ⟨b2, 0, none⟩)] .returning w fun e u' w' => e = .returned (.tuple #[]) ∧ u' = .returning ∧ w' = w := by
  refine callsD_of_wpS Try.func26 rfl fun c₀ cs hu => ?_
  apply wpS_seq
  apply wpS_region
  simp [wpOpsS, go_sem, recoverD, hu, Try.ntmps26, Exit.thenS]
  refine wpS_of_wp ?_
  go_wp2_with fail
  cases c₀
  simp_all [bodyPostS, results, Try.results26]
set_option maxRecDepth 100000 in
set_option maxHeartbeats 1000000 in
theorem force_catch (b4 b2 l d first count forced at_ e : Nat) (ended : Bool) (rv : Value) (w : World) (x4 : Value) (c4 : Cells w b4 [x4]) (c2 : Cells w b2 [.pointer (some ⟨l, 0, none⟩)]) (hh : Hd w l d first count rv forced ended) (n1 : b4 ≠ b2) (n2 : b4 ≠ l) :
    CallsD Try.prog 26 #[.pointer (some ⟨b4, 0, none⟩), .pointer (some ⟨b2, 0, none⟩)] (.panicking (pan at_ e)) w fun x u' w' => x = .returned (.tuple #[]) ∧ u' = .panicking [{ v := stopV at_ e, recovered := true }] ∧
      ∃ v, Cells w' b4 [v] ∧ Hd w' l d first count rv forced true ∧ ErrNew w' w.heap.size v forceS at_ e ∧ Keep (fun b => b = b4 ∨ b = l) w w' := by
  have FA := hide (asFault_new forceS at_ e w)
  have HC4 := hide c4
  have HC2 := hide c2
  have HH := hide hh
  clear c4 c2 hh
  have hrep : Array.replicate 9 undef = #[undef, undef, undef, undef, undef, undef, undef, undef, undef] := rfl
  refine callsD_of_wpS Try.func26 rfl fun c₀ cs hu => ?_
  apply wpS_seq
  apply wpS_region
  unfold pan at hu
  unfold stopV at *
  simp [wpOpsS, go_sem, recoverD, hu, Try.ntmps26, Exit.thenS, hrep, Act.put]
  refine wpS_of_wp ?_
  go_wp2_with fail
  refine FA.out.mono ?_
  rintro x w1 ⟨v, rfl, h1, b1⟩
  obtain ⟨eb, rfl, heb, h1⟩ := h1
  have hc4 := HC4.out.below b1
  have hc2 := HC2.out.below b1
  have hh1 := HH.out.below b1
  obtain ⟨k4, f4⟩ := hc4.get 0 _ rfl
  obtain ⟨k2, f2⟩ := hc2.get 0 _ rfl
  obtain ⟨k5, f5⟩ := hh1.get 5 _ rfl
  have C4 := hide hc4
  have HH1 := hide hh1
  have B1 := hide b1
  have lt4 := HC4.out.1
  have ltl := HH.out.1
  have H1 := hide h1
  have n1' : ¬ b2 = b4 := fun q => n1 q.symm
  have n2' : ¬ l = b4 := fun q => n2 q.symm
  clear FA HC4 HC2 hc4 hc2 hh1 b1 h1 hu HH
  go_wp2_with fail
  have hv : ∀ (t : Array Value) (w : World), (results Try.f26 t).run Try.prog w = .ok (.tuple #[]) w := fun t w => by simp [results, Try.results26]
  refine ⟨rfl, _, rfl, _, hv _ _, rfl, rfl, _, ?_, ?_, ⟨eb, rfl, heb, ?_⟩, ?_⟩
  · exact (C4.out.stored (j := 0) (by simp) _).other n2'
  · exact (HH1.out.other n2).stored (j := 5) (by simp [hdC]) _
  · exact (H1.out.other (by omega)).other (by omega)
  · exact ((Keep.of_below (S := fun b => b = b4 ∨ b = l) B1.out).setCell (fun _ => .inl rfl) _).setCell (fun _ => .inr rfl) _
abbrev dff (b4 b2 : Nat) : List Deferred := [{ target := .fn (.func 26) #[.pointer (some ⟨b4, 0, none⟩), .pointer (some ⟨b2, 0, none⟩)], args := #[] }]
set_option maxRecDepth 100000 in
theorem force_results (t : Array Value) (w : World) (b4 : Nat) (v : Value) (h4 : t.getD 4 undef = .pointer (some ⟨b4, 0, none⟩)) (c4 : Cells w b4 [v]) : (results Try.f13 t).run Try.prog w = .ok v w := by
  obtain ⟨k4, _⟩ := c4.get 0 _ rfl
  have h4' : t[4]?.getD undef = .pointer (some ⟨b4, 0, none⟩) := by simpa using h4
  simp [results, Try.results13, go_sem, h4', k4]
theorem force_door {R : Ending → World → Prop} (t : Array Value) (w : World) (b4 b2 l d first count forced at_ e : Nat) (ended : Bool) (rv x4 : Value) (h4 : t.getD 4 undef = .pointer (some ⟨b4, 0, none⟩)) (c4 : Cells w b4 [x4]) (c2 : Cells w b2 [.pointer (some ⟨l, 0, none⟩)]) (hh : Hd w l d first count rv forced ended) (n1 : b4 ≠ b2) (n2 : b4 ≠ l)
    (hR : ∀ v w', ErrNew w' w.heap.size v forceS at_ e → Hd w' l d first count rv forced true → Keep (fun b => b = b4 ∨ b = l) w w' → R (.returned v) w') :
    bodyPostD Try.prog Try.f13 R (Exit.panic (pan at_ e)) { tmps := t, defers := dff b4 b2 } w := by
  refine leaves_cons (f := 26) (args := #[.pointer (some ⟨b4, 0, none⟩), .pointer (some ⟨b2, 0, none⟩)]) (by simp) (by simp [go_sem]) ?_
  refine (force_catch b4 b2 l d first count forced at_ e ended rv w x4 c4 c2 hh n1 n2).mono ?_
  rintro e' u' w' ⟨rfl, rfl, v, k4, kh, he, hk⟩
  exact ⟨_, force_results t w' b4 v h4 k4, hR v w' he kh hk⟩
theorem force_done {R : Ending → World → Prop} (t : Array Value) (w : World) (b4 b2 : Nat) (v : Value) (h4 : t.getD 4 undef = .pointer (some ⟨b4, 0, none⟩)) (c4 : Cells w b4 [v]) (hR : R (.returned v) w) :
    bodyPostD Try.prog Try.f13 R Exit.ret { tmps := t, defers := dff b4 b2 } w := by
  refine leaves_cons (f := 26) (args := #[.pointer (some ⟨b4, 0, none⟩), .pointer (some ⟨b2, 0, none⟩)]) (by simp) (by simp [go_sem]) ?_
  refine (force_idle b4 b2 w).mono ?_
  rintro e' u' w' ⟨rfl, rfl, rfl⟩
  exact ⟨_, force_results t w' b4 v h4 c4, hR⟩
theorem force_plain {R : Ending → World → Prop} (t : Array Value) (w : World) (b4 : Nat) (v : Value) (h4 : t.getD 4 undef = .pointer (some ⟨b4, 0, none⟩)) (c4 : Cells w b4 [v]) (hR : R (.returned v) w) :
    bodyPostD Try.prog Try.f13 R Exit.ret { tmps := t, defers := [] } w :=
  ⟨_, force_results t w b4 v h4 c4, hR⟩
end Go.Proofs.Ytgpmghdoofcpaaa.Lg
