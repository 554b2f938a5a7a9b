import Derived.Test.YtgpmghdoofcpaaaGreatLg11
import Derived.Defers
namespace Go.Proofs.YtgpmghdoofcpaaaGreat.Lg
open Go.RowKit Go.QK
open Dv (hide bnext alloc_below load_arr store_arr slice_arr wp_load_arr wp_store_arr neq_arr info91)

abbrev openS : ByteArray := ⟨#[79, 112, 101, 110]⟩
abbrev forceS : ByteArray := ⟨#[70, 111, 114, 99, 101]⟩
/-- An error whose block is new (not below B). -/
def ErrNew (w : World) (B : Nat) (v : Value) (call : ByteArray) (at_ : Int) (e : Int) : Prop := ∃ b, v = .iface 139 (.pointer (some ⟨b, 0, none⟩)) ∧ B ≤ b ∧ Cells w b [.string call, .int .i64 at_, .iface 47 (.int .i64 e)]
theorem ErrNew.keep {S : Nat → Prop} {w w' : World} {B : Nat} {v : Value} {call : ByteArray} {at_ e : Int} (h : ErrNew w B v call at_ e) (hk : Keep S w w') (hS : ∀ k, S k → k < B) : ErrNew w' B v call at_ e := by
  obtain ⟨b, h1, h2, h3⟩ := h
  exact ⟨b, h1, h2, h3.keep hk (fun q => by have := hS b q; omega)⟩
theorem ErrNew.below {w w' : World} {B : Nat} {v : Value} {call : ByteArray} {at_ e : Int} (h : ErrNew w B v call at_ e) (hk : Below w.heap.size w w') : ErrNew w' B v call at_ e := by
  obtain ⟨b, h1, h2, h3⟩ := h
  exact ⟨b, h1, h2, h3.below hk⟩
theorem ErrNew.mono {w : World} {B B' : Nat} {v : Value} {call : ByteArray} {at_ e : Int} (h : ErrNew w B v call at_ e) (hk : B' ≤ B) : ErrNew w B' v call at_ e := by
  obtain ⟨b, h1, h2, h3⟩ := h
  exact ⟨b, h1, Nat.le_trans hk h2, h3⟩
set_option maxRecDepth 100000 in
theorem fault_new (call : ByteArray) (at_ e : Int) (w : World) : Calls Tryz.prog 55 #[.string call, .int .i64 at_, .int .i64 e] w fun x w' => ∃ v, x = .returned v ∧ ErrNew w' w.heap.size v call at_ e ∧ Below w.heap.size w w' := by
  go_enter Tryz.func55, Tryz.ntmps55
  go_wp2_with fail
  go_ret
  exact ⟨_, rfl, ⟨_, rfl, Nat.le_refl _, Cells.new w #[.string call, .int .i64 at_, .iface 47 (.int .i64 e)] 141⟩, alloc_below _ _⟩
set_option maxRecDepth 100000 in
theorem asFault_new (call : ByteArray) (at_ e : Nat) (w : World) : Calls Tryz.prog 57 #[.string call, stopV at_ e] w fun x w' => ∃ v, x = .returned v ∧ ErrNew w' w.heap.size v call at_ e ∧ Below w.heap.size w w' := by
  have A := fun (a b : Value) (w : World) => assert_stop a b w
  have C0 := Cells.new w #[.int .i64 (at_ : Int), .int .i64 (e : Int)] 146
  have B0 := alloc_below w (.cells #[.int .i64 (at_ : Int), .int .i64 (e : Int)] 146)
  have F := fun w => fault_new call at_ e w
  unfold stopV
  go_enter Tryz.func57, Tryz.ntmps57
  go_wp2_with fail
  refine (F _).mono ?_
  rintro x w1 ⟨v, rfl, h1, h2⟩
  go_wp2_with fail
  go_ret
  exact ⟨_, rfl, h1.mono (by simp), bnext B0 h2 (Nat.le_refl _)⟩

set_option maxRecDepth 100000 in
theorem open_idle (b6 b7 : Nat) (w : World) :
    CallsD Tryz.prog 60 #[.pointer (some ⟨b6, 0, none⟩), .pointer (some ⟨b7, 0, none⟩)] .returning w fun e u' w' => e = .returned (.tuple #[]) ∧ u' = .returning ∧ w' = w := by
  refine callsD_of_wpS Tryz.func60 rfl fun c₀ cs hu => ?_
  apply wpS_seq
  apply wpS_region
  simp [wpOpsS, go_sem, recoverD, hu, Tryz.ntmps60, Exit.thenS]
  refine wpS_of_wp ?_
  go_wp2_with fail
  cases c₀
  simp_all [bodyPostS, results, Tryz.results60]
set_option maxRecDepth 100000 in
theorem open_catch (b6 b7 at_ e : Nat) (w : World) (x6 x7 : Value) (c6 : Cells w b6 [x6]) (c7 : Cells w b7 [x7]) (hne : b6 ≠ b7) :
    CallsD Tryz.prog 60 #[.pointer (some ⟨b6, 0, none⟩), .pointer (some ⟨b7, 0, none⟩)] (.panicking (pan at_ e)) w fun x u' w' => x = .returned (.tuple #[]) ∧ u' = .panicking [{ v := stopV at_ e, recovered := true }] ∧
      ∃ v, Cells w' b6 [.pointer none] ∧ Cells w' b7 [v] ∧ ErrNew w' w.heap.size v openS at_ e ∧ Keep (fun b => b = b6 ∨ b = b7) w w' := by
  have FA := hide (asFault_new openS at_ e w)
  have HC6 := hide c6
  have HC7 := hide c7
  clear c6 c7
  have hrep : Array.replicate 6 undef = #[undef, undef, undef, undef, undef, undef] := rfl
  refine callsD_of_wpS Tryz.func60 rfl fun c₀ cs hu => ?_
  apply wpS_seq
  apply wpS_region
  unfold pan at hu
  unfold stopV at *
  simp [wpOpsS, go_sem, recoverD, hu, Tryz.ntmps60, Exit.thenS, hrep, Act.put]
  refine wpS_of_wp ?_
  go_wp2_with fail
  refine FA.out.mono ?_
  rintro x w1 ⟨v, rfl, h1, b1⟩
  obtain ⟨eb, rfl, heb, h1⟩ := h1
  obtain ⟨k6, f6⟩ := (HC6.out.below b1).get 0 _ rfl
  have hc7 := (HC7.out.below b1)
  obtain ⟨k7, f7⟩ := hc7.get 0 _ rfl
  have C6 := hide (HC6.out.below b1)
  have C7 := hide hc7
  have B1 := hide b1
  have lt6 := HC6.out.1
  have lt7 := HC7.out.1
  have H1 := hide h1
  have hne' : ¬ b7 = b6 := fun q => hne q.symm
  clear FA HC6 HC7 hc7 b1 h1 hu
  go_wp2_with fail
  have hv : ∀ (t : Array Value) (w : World), (results Tryz.f60 t).run Tryz.prog w = .ok (.tuple #[]) w := fun t w => by simp [results, Tryz.results60]
  refine ⟨rfl, _, rfl, _, hv _ _, rfl, rfl, ?_, _, ?_, ⟨eb, rfl, heb, ?_⟩, ?_⟩
  · exact (C6.out.stored (j := 0) (by simp) _).other hne'
  · exact (C7.out.other hne).stored (j := 0) (by simp) _
  · exact (H1.out.other (by omega)).other (by omega)
  · exact ((Keep.of_below (S := fun b => b = b6 ∨ b = b7) B1.out).setCell (fun _ => .inl rfl) _).setCell (fun _ => .inr rfl) _

/-- The log and its disk in memory. -/
structure LD (w : World) (S T : Nat → Prop) (l d : Nat) (g : Dev) (m : LogM) : Prop where
  dev : PDev w S d g
  recs : ∃ rv vs, Recs w T rv m.recs vs ∧ Hd w l d m.first m.count rv m.forced m.ended
  nT : ¬ T l
  nS : ¬ S l
  ap : ∀ b, S b → ¬ T b

set_option maxRecDepth 100000 in
theorem open_results (t : Array Value) (w : World) (b6 b7 : Nat) (p6 : Option Addr) (v7 : Value) (h6 : t.getD 6 undef = .pointer (some ⟨b6, 0, none⟩)) (h7 : t.getD 7 undef = .pointer (some ⟨b7, 0, none⟩)) (c6 : Cells w b6 [.pointer p6]) (c7 : Cells w b7 [v7]) :
    (results Tryz.f32 t).run Tryz.prog w = .ok (.tuple #[.pointer p6, v7]) w := by
  obtain ⟨k6, _⟩ := c6.get 0 _ rfl
  obtain ⟨k7, _⟩ := c7.get 0 _ rfl
  have h6' : t[6]?.getD undef = .pointer (some ⟨b6, 0, none⟩) := by simpa using h6
  have h7' : t[7]?.getD undef = .pointer (some ⟨b7, 0, none⟩) := by simpa using h7
  simp [results, Tryz.results32, go_sem, h6', h7', k6, k7]
abbrev dfr (b6 b7 : Nat) : List Deferred := [{ target := .fn (.func 60) #[.pointer (some ⟨b6, 0, none⟩), .pointer (some ⟨b7, 0, none⟩)], args := #[] }]
theorem open_door {R : Ending → World → Prop} (t : Array Value) (w : World) (b6 b7 at_ e : Nat) (x6 x7 : Value) (h6 : t.getD 6 undef = .pointer (some ⟨b6, 0, none⟩)) (h7 : t.getD 7 undef = .pointer (some ⟨b7, 0, none⟩)) (c6 : Cells w b6 [x6]) (c7 : Cells w b7 [x7]) (hne : b6 ≠ b7)
    (hR : ∀ v w', ErrNew w' w.heap.size v openS at_ e → Keep (fun b => b = b6 ∨ b = b7) w w' → R (.returned (.tuple #[.pointer none, v])) w') :
    bodyPostD Tryz.prog Tryz.f32 R (Exit.panic (pan at_ e)) { tmps := t, defers := dfr b6 b7 } w := by
  refine leaves_cons (f := 60) (args := #[.pointer (some ⟨b6, 0, none⟩), .pointer (some ⟨b7, 0, none⟩)]) (by simp) (by simp [go_sem]) ?_
  refine (open_catch b6 b7 at_ e w x6 x7 c6 c7 hne).mono ?_
  rintro e' u' w' ⟨rfl, rfl, v, k6, k7, he, hk⟩
  exact ⟨_, open_results t w' b6 b7 none v h6 h7 k6 k7, hR v w' he hk⟩
theorem open_done {R : Ending → World → Prop} (t : Array Value) (w : World) (b6 b7 l : Nat) (h6 : t.getD 6 undef = .pointer (some ⟨b6, 0, none⟩)) (h7 : t.getD 7 undef = .pointer (some ⟨b7, 0, none⟩)) (c6 : Cells w b6 [.pointer (some ⟨l, 0, none⟩)]) (c7 : Cells w b7 [.nilIface])
    (hR : R (.returned (.tuple #[.pointer (some ⟨l, 0, none⟩), .nilIface])) w) :
    bodyPostD Tryz.prog Tryz.f32 R Exit.ret { tmps := t, defers := dfr b6 b7 } w := by
  refine leaves_cons (f := 60) (args := #[.pointer (some ⟨b6, 0, none⟩), .pointer (some ⟨b7, 0, none⟩)]) (by simp) (by simp [go_sem]) ?_
  refine (open_idle b6 b7 w).mono ?_
  rintro e' u' w' ⟨rfl, rfl, rfl⟩
  exact ⟨_, open_results t w' b6 b7 _ _ h6 h7 c6 c7, hR⟩

/-- The two results' blocks. -/
theorem two_new (w : World) : ∃ w2, w2 = (w.alloc (.cells #[.pointer none] 27)).alloc (.cells #[.nilIface] 76) ∧ Below w.heap.size w w2 ∧ w2.heap.size = w.heap.size + 2 ∧ Cells w2 w.heap.size [.pointer none] ∧ Cells w2 (w.heap.size + 1) [.nilIface] := by
  refine ⟨_, rfl, ((Below.refl _ w).alloc (Nat.le_refl _) _).alloc (by simp) _, by simp, (Cells.new w #[.pointer none] 27).below (alloc_below _ _), ?_⟩
  have := Cells.new (w.alloc (.cells #[.pointer none] 27)) #[.nilIface] 76
  rw [World.size_alloc] at this
  exact this

set_option maxRecDepth 100000 in
set_option maxHeartbeats 1000000 in
theorem open_nil (first count : Int) (w : World) :
    Calls Tryz.prog 32 #[.pointer none, .int .i64 first, .int .i64 count] w fun e w' => ∃ v, e = .returned (.tuple #[.pointer none, v]) ∧ ErrNew w' w.heap.size v openS 0 3 ∧ Below w.heap.size w w' := by
  have hmf : ∀ (fn : Fn) (first cap : Array Value) (w : World), (Instr.makeFunc fn first cap).run Tryz.prog w = .ok (.func fn first cap) w := fun _ _ _ _ => rfl
  obtain ⟨w2, hw2, b2, z2, c6, c7⟩ := two_new w
  have HW := hide hw2
  have C6 := hide c6
  have C7 := hide c7
  clear hw2 c6 c7
  go_enter_defers Tryz.func32, Tryz.ntmps32
  go_wp2_with fail
  rw [← HW.out]
  refine (giveUp_any 0 3 _).mono ?_
  rintro e w1 ⟨rfl, rfl⟩
  refine open_door _ w1 w.heap.size (w.heap.size + 1) 0 3 _ _ rfl rfl C6.out C7.out (by omega) ?_
  intro v w' he hk
  exact ⟨v, rfl, he.mono (by omega), b2.trans (hk.below (by omega) (fun k hk q => by omega))⟩

set_option maxRecDepth 100000 in
set_option maxHeartbeats 1000000 in
theorem open_place {w : World} {S : Nat → Prop} {d : Nat} {g : Dev} (h : PDev w S d g) (first count : Int) (hf : -9223372036854775808 ≤ first ∧ first ≤ 9223372036854775807) (hp : ¬ placeOk g first count) :
    Calls Tryz.prog 32 #[.pointer (some ⟨d, 0, none⟩), .int .i64 first, .int .i64 count] w fun e w' => ∃ v, e = .returned (.tuple #[.pointer none, v]) ∧ ErrNew w' w.heap.size v openS 0 4 ∧ Below w.heap.size w w' := by
  have hmf : ∀ (fn : Fn) (first cap : Array Value) (w : World), (Instr.makeFunc fn first cap).run Tryz.prog w = .ok (.func fn first cap) w := fun _ _ _ _ => rfl
  obtain ⟨nn, n1, n2, hn3⟩ := h.ok.size
  have hgn : g.n ≤ 8192 := by unfold Dev.n; omega
  obtain ⟨w2, hw2, b2, z2, c6, c7⟩ := two_new w
  have KS := hide (Dv.sectors_any (h.below b2))
  have HW := hide hw2
  have C6 := hide c6
  have C7 := hide c7
  unfold placeOk at hp
  clear hw2 c6 c7 n1 n2 hn3
  have fin3 : ∀ v w', ErrNew w' w2.heap.size v openS (0 : Nat) (4 : Nat) → Keep (fun b => b = w.heap.size ∨ b = w.heap.size + 1) w2 w' → (∃ v', Ending.returned (.tuple #[.pointer none, v]) = .returned (.tuple #[.pointer none, v']) ∧ ErrNew w' w.heap.size v' openS 0 4 ∧ Below w.heap.size w w') :=
    fun v w' he hk => ⟨v, rfl, he.mono (by omega), b2.trans (hk.below (by omega) (fun k hk q => by omega))⟩
  by_cases q1 : first < 0
  · have d1 : decide (first < 0) = true := by simpa using q1
    clear hp
    go_enter_defers Tryz.func32, Tryz.ntmps32
    go_wp2_with fail
    rw [← HW.out]
    refine (giveUp_any 0 4 _).mono ?_
    rintro e w1 ⟨rfl, rfl⟩
    exact open_door _ w1 w.heap.size (w.heap.size + 1) 0 4 _ _ rfl rfl C6.out C7.out (by omega) fin3
  · have d1 : decide (first < 0) = false := by simpa using q1
    by_cases q2 : count < 1
    · have d2 : decide (count < 1) = true := by simpa using q2
      clear hp
      go_enter_defers Tryz.func32, Tryz.ntmps32
      go_wp2_with fail
      rw [← HW.out]
      refine (giveUp_any 0 4 _).mono ?_
      rintro e w1 ⟨rfl, rfl⟩
      exact open_door _ w1 w.heap.size (w.heap.size + 1) 0 4 _ _ rfl rfl C6.out C7.out (by omega) fin3
    · have d2 : decide (count < 1) = false := by simpa using q2
      have d3 : decide ((g.n : Int) - first < count) = true := by simp; omega
      have d4 : (g.n : Int) - first < count := by omega
      clear hp
      go_enter_defers Tryz.func32, Tryz.ntmps32
      go_wp2_with fail
      rw [← HW.out]
      refine KS.out.mono ?_
      rintro e w1 ⟨rfl, rfl⟩
      go_wp2_with fail
      refine (giveUp_any 0 4 _).mono ?_
      rintro e w1 ⟨rfl, rfl⟩
      exact open_door _ w1 w.heap.size (w.heap.size + 1) 0 4 _ _ rfl rfl C6.out C7.out (by omega) fin3
end Go.Proofs.YtgpmghdoofcpaaaGreat.Lg
