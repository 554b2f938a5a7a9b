import Derived.Test.YtgpmghdoofcpaaaGreatProg
import Derived.Test.YtgpmghdoofcpaaaGreatG03
namespace Go.Proofs.YtgpmghdoofcpaaaGreat
open Go.RowKit Go.QK

set_option maxRecDepth 100000 in
theorem info5 : (Tryz.prog.info? 5).map (fun i => (i.zero, i.size, i.bytes)) = some (some (.int .u8 0), 1, 1) := by kernel_rfl

/-- 'append(v, y)' and 'append(v, x...)' of bytes. -/
theorem pushB {w : World} {ops : Array Oper} {rest : List Oper} {o : Oper} {a : Act} {Q : Exit → Act → World → Prop} (hgd : o.guard = none) (s x : Operand)
    (ho : o.op = .call { callee := .builtin .append, args := #[s, x], argTypes := #[80, 80] })
    (B : Nat) (v : Value) (l : List Nat) (hs : a.eval s = v) (ad : Addr) (y : Nat) (hx : a.eval x = .slice (some ad) 1 1) (hown : OwnB w B v l) (hc : w.cell? ad = some (.int .u8 (y : Int)))
    (hl : l.length ≤ 2000000) (hB : B ≤ w.heap.size)
    (h : ∀ v' w', OwnB w' B v' (l ++ [y]) → w.grownBy w' v.ownBlock → (v'.ownBlock = v.ownBlock ∨ v'.ownBlock = some w.heap.size) → wpList Tryz.prog ops Q rest (a.put o.dst v') w') : wpList Tryz.prog ops Q (o :: rest) a w := by
  refine push_own Tryz.underlying80 info5 hgd s x ho B v (ints l) hs ad (y : Int) hx hown hc (by unfold maxLen; simp; omega) (by simp; omega) hB ?_
  intro v' w' h1 h2 h3
  exact h v' w' (by unfold OwnB; rw [ints_append]; exact h1) h2 h3
theorem appB {w : World} {ops : Array Oper} {rest : List Oper} {o : Oper} {a : Act} {Q : Exit → Act → World → Prop} (hgd : o.guard = none) (s x : Operand)
    (ho : o.op = .call { callee := .builtin .append, args := #[s, x], argTypes := #[80, 80] })
    (B : Nat) (v : Value) (l : List Nat) (hs : a.eval s = v) (hown : OwnB w B v l) (ax : Option Addr) (n c : Nat) (m : List Nat) (hm : m.length = n) (hx : a.eval x = .slice ax n c) (hseen : Bytes w ax m) (hnil : ax = none → c = 0)
    (hl : l.length + m.length ≤ 2000000) (hB : B ≤ w.heap.size)
    (h : ∀ v' w', OwnB w' B v' (l ++ m) → w.grownBy w' v.ownBlock → (v'.ownBlock = v.ownBlock ∨ v'.ownBlock = some w.heap.size) → wpList Tryz.prog ops Q rest (a.put o.dst v') w') : wpList Tryz.prog ops Q (o :: rest) a w := by
  refine append_own Tryz.underlying80 info5 hgd s x ho B v (ints l) hs hown ax n c (ints m) (by simpa using hm) hx hseen hnil (by unfold maxLen; simp; omega) (by simp; omega) hB ?_
  intro v' w' h1 h2 h3
  exact h v' w' (by unfold OwnB; rw [ints_append]; exact h1) h2 h3

set_option maxRecDepth 100000 in
theorem newWriter_any (w : World) : Calls Tryz.prog 66 #[] w fun e w' => e = .returned (.pointer (some ⟨w.heap.size, 0, none⟩)) ∧ w' = w.alloc (.cells #[.slice none 0 0] 156) := by
  go_enter Tryz.func66, Tryz.ntmps66
  go_wp2
  go_ret
  exact ⟨rfl, rfl⟩

/-- A writer: its block, its row, what was written. -/
def Wr (w : World) (B p : Nat) (v : Value) (l : List Nat) : Prop := Cells w p [v] ∧ OwnB w B v l ∧ v.ownBlock ≠ some p ∧ B ≤ p

/-- What a writer's calls touch. -/
def wS (p : Nat) (v : Value) (k : Nat) : Prop := k = p ∨ v.ownBlock = some k

set_option maxRecDepth 100000 in
theorem nilEq (a : Option Addr) (l c : Nat) (w : World) : (binOp .eql 80 (.slice a l c) (.slice none 0 0)).run Tryz.prog w = .ok (.bool a.isNone) w := by
  cases a <;> rfl

set_option maxRecDepth 100000 in
theorem clone_any (a : Option Addr) (l : List Nat) (cap : Nat) (w : World) (hs : Bytes w a l) (hc : l.length ≤ cap) (ha : a = none → cap = 0) (hl : l.length ≤ 140737488355328) :
    Calls Tryz.prog 59 #[.slice a l.length cap] w fun e w' => ∃ v, e = .returned v ∧ OwnB w' w.heap.size v l ∧ Below w.heap.size w w' := by
  cases a with
  | none =>
    have := ha rfl
    have hl0 : l = [] := List.eq_nil_of_length_eq_zero (by omega)
    subst hl0
    have E := fun w => nilEq none 0 0 w
    simp only [Option.isNone_none] at E
    go_enter Tryz.func59, Tryz.ntmps59
    go_wp2_with fail
    go_ret
    exact ⟨_, rfl, Owns.nil _ _ _ _, Below.refl _ _⟩
  | some ad =>
    have E := fun w => nilEq (some ad) l.length cap w
    simp only [Option.isNone_some] at E
    go_enter Tryz.func59, Tryz.ntmps59
    have H0 : OwnB (w.alloc (.cells #[] 5)) w.heap.size (.slice (some ⟨w.heap.size, 0, none⟩) 0 0) [] := by
      have := World.ownsRow_lit (base := w.heap.size) (e := 5) (size := 1) w #[] 0 (Nat.le_refl _) (by unfold maxLen; omega) rfl
      simpa [Owns] using this
    have HO : Hid _ := H0
    clear H0
    have HS : Hid _ := Seen.below hs ((Below.refl w.heap.size w).alloc (Nat.le_refl _) (.cells #[] 5))
    clear hs
    go_wp2_with (at_builtin; refine append_own Tryz.underlying80 info5 rfl (.tmp 5) (.tmp 6) rfl w.heap.size _ [] rfl HO.out (some ad) l.length cap (ints l) (by simp) rfl HS.out nofun ?c1 ?c2 ?c3 ?_)
    case c1 => unfold maxLen; simp; omega
    case c2 => simp; omega
    case c3 => simp
    intro v' w1 hown hg _
    have R1 : Below w.heap.size w w1 := ((Below.refl _ _).alloc (Nat.le_refl _) _).grown hg (by simp) (fun j hj => (World.ownsRow.lt HO.out j hj).1)
    have HO1 : Hid _ := hown
    clear hown hg HO HS
    go_wp2_with fail
    go_ret
    exact ⟨_, rfl, HO1.out, R1⟩

theorem out_any (B p : Nat) (v : Value) (l : List Nat) (w : World) (h : Wr w B p v l) (hl : l.length ≤ 1000000) :
    Calls Tryz.prog 68 #[.pointer (some ⟨p, 0, none⟩)] w fun e w' => ∃ v, e = .returned v ∧ OwnB w' w.heap.size v l ∧ Below w.heap.size w w' := by
  obtain ⟨h1, h2, _, _⟩ := h
  obtain ⟨c0, _⟩ := h1.get 0 v rfl
  obtain ⟨a, cap, rfl, s, ha, hc, _⟩ := h2.seen
  rw [ints_length] at hc c0
  clear h1 h2
  go_enter Tryz.func68, Tryz.ntmps68
  go_wp2_with fail
  refine (clone_any a l cap _ s hc ha (by omega)).mono ?_
  rintro e w1 ⟨v, rfl, o, b⟩
  go_wp2_with fail
  go_ret
  exact ⟨_, rfl, o, b⟩
/-- The row stays where it is, or is new. -/
def moved (w : World) (v v' : Value) : Prop := v'.ownBlock = v.ownBlock ∨ ∃ g, v'.ownBlock = some g ∧ w.heap.size ≤ g
theorem moved.trans {w w1 : World} {v v1 v2 : Value} (h : moved w v v1) (k : moved w1 v1 v2) (hs : w.heap.size ≤ w1.heap.size) : moved w v v2 := by
  rcases k with k | ⟨g, k, hg⟩
  · rcases h with h | ⟨g, h, hg⟩
    · exact .inl (k.trans h)
    · exact .inr ⟨g, k.trans h, hg⟩
  · exact .inr ⟨g, k, Nat.le_trans hs hg⟩
theorem wS.moved {w : World} {p : Nat} {v v' : Value} (h : moved w v v') : ∀ j, j < w.heap.size → wS p v' j → wS p v j := by
  intro j hj q
  rcases q with q | q
  · exact .inl q
  · rcases h with h | ⟨g, h, hg⟩
    · exact .inr (h ▸ q)
    · rw [h] at q
      cases q
      omega

/-- One byte more. -/
theorem Wr.step {w w1 : World} {o : Obj} {B p : Nat} {v v' : Value} {l l' : List Nat} (h : Wr w B p v l) (hown : OwnB w1 B v' l') (hg : (w.alloc o).grownBy w1 v.ownBlock) (hv : v'.ownBlock = v.ownBlock ∨ v'.ownBlock = some (w.heap.size + 1)) :
    Wr (w1.setCell ⟨p, 0, none⟩ v') B p v' l' ∧ Keep (wS p v) w (w1.setCell ⟨p, 0, none⟩ v') ∧ moved w v v' ∧ w1.cell? ⟨p, 0, none⟩ = some v ∧ w1.frozen? ⟨p, 0, none⟩ = false := by
  obtain ⟨h1, h2, h3, h4⟩ := h
  have k1 : Keep (wS p v) w w1 := ((Keep.refl _ _).alloc o).grown hg (fun g e _ => .inr e)
  have k2 : Keep (fun k => v.ownBlock = some k) w w1 := ((Keep.refl _ _).alloc o).grown hg (fun g e _ => e)
  have hne : v'.ownBlock ≠ some p := by
    rcases hv with e | e
    · rw [e]; exact h3
    · rw [e]
      intro q
      have := h1.1
      simp at q
      omega
  refine ⟨⟨?_, Owns.other hown hne, hne, h4⟩, k1.setCell (fun _ => .inl rfl) _, ?_, (h1.keep k2 h3).get 0 v rfl⟩
  · exact (h1.keep k2 h3).stored (j := 0) (by simp) v'
  · rcases hv with e | e
    · exact .inl e
    · exact .inr ⟨_, e, by simp⟩
theorem Wr.keep {S : Nat → Prop} {w w' : World} {B p : Nat} {v : Value} {l : List Nat} (h : Wr w B p v l) (hk : Keep S w w') (hn : ∀ k, wS p v k → ¬ S k) : Wr w' B p v l :=
  ⟨h.1.keep hk (hn p (.inl rfl)), Owns.keep h.2.1 hk (fun g e => hn g (.inr e)), h.2.2.1, h.2.2.2⟩
theorem Wr.below {w w' : World} {B p : Nat} {v : Value} {l : List Nat} (h : Wr w B p v l) (hk : Below w.heap.size w w') : Wr w' B p v l :=
  h.keep (Keep.of_below (S := fun _ => False) hk) (fun _ _ => id)
theorem Wr.lt {w : World} {B p : Nat} {v : Value} {l : List Nat} (h : Wr w B p v l) : ∀ k, wS p v k → B ≤ k ∧ k < w.heap.size := by
  intro k q
  rcases q with rfl | q
  · exact ⟨h.2.2.2, h.1.1⟩
  · exact World.ownsRow.lt h.2.1 k q

set_option maxHeartbeats 1000000 in
set_option maxRecDepth 100000 in
theorem writeU_any (n B p : Nat) (v : Value) (l : List Nat) (w : World) (hn : n < 18446744073709551616) (h : Wr w B p v l) (hl : l.length ≤ 1000000) :
    Calls Tryz.prog 110 #[.pointer (some ⟨p, 0, none⟩), .int .u64 (n : Int)] w fun e w' => ∃ v', e = .returned (.tuple #[]) ∧ Wr w' B p v' (l ++ form n) ∧ Keep (wS p v) w w' ∧ moved w v v' := by
  have hB : B ≤ w.heap.size := by have := h.1.1; have := h.2.2.2; omega
  go_enter Tryz.func110, Tryz.ntmps110
  go_wp2_with fail
  go_loopw [1] (fun i wr => ∃ (m : Nat) (u : Value) (pre : List Nat), i = .int .u64 (m : Int) ∧ m < 18446744073709551616 ∧ form n = pre ++ form m ∧ Wr wr B p u (l ++ pre) ∧ Keep (wS p v) w wr ∧ moved w v u) (fun i _ => (intOf i).toNat)
  case atStart => exact ⟨n, v, [], rfl, hn, rfl, by simpa using h, Keep.refl _ _, .inl rfl⟩
  case round =>
    obtain ⟨m, u, pre, rfl, hm, hf, hw, hk, hmv⟩ := hrel
    have hlen : pre.length ≤ 10 := by
      have := (form_len hn).2
      rw [hf] at this
      simp at this
      omega
    have hBr : B ≤ wr.heap.size := Nat.le_trans hB hk.size
    obtain ⟨c0, f0⟩ := hw.1.get 0 u rfl
    have hll : (l ++ pre).length ≤ 2000000 := by simp; omega
    have hap : ∀ q, l ++ (pre ++ q) = (l ++ pre) ++ q := fun q => (List.append_assoc _ _ _).symm
    generalize l ++ pre = L at hw hll hap
    have HA : Hid (∀ q, l ++ (pre ++ q) = L ++ q) := hap
    have HW : Hid (Wr wr B p u L) := hw
    clear hap hw
    by_cases hlt : m < 128
    · have hg : ¬ ((128 : Int) ≤ (m : Int)) := by omega
      have e1 : IntKind.u8.wrap (m : Int) = ((m : Nat) : Int) := by rw [IntKind.wrap_u8]; omega
      have HF : Hid (form n = pre ++ [m]) := by rw [form_small hlt] at hf; exact hf
      clear hf
      go_wp2_with (at_builtin; refine pushB rfl (.tmp 24) (.tmp 27) rfl B u L rfl ⟨wr.heap.size, 0, none⟩ m rfl (HW.out.2.1.alloc _) (by simp [go_sem]) hll (by simp; omega) ?_)
      intro v' w1 hown hg hv
      obtain ⟨q1, q2, q3, hc1, hf1⟩ := HW.out.step hown hg hv
      have HS : Hid (Wr (w1.setCell ⟨p, 0, none⟩ v') B p v' (l ++ form n)) := by unfold Hid; rw [HF.out, HA.out]; exact q1
      obtain ⟨av, cv, rfl, _⟩ := hown.seen
      clear q1 hown hg hv HW
      have q4 := hk.trans q2 (wS.moved hmv)
      have q5 := hmv.trans q3 hk.size
      clear q2 q3 hk hmv
      generalize (ints (L ++ [m])).length = kk at *
      go_wp2_with fail
      go_end0
      exact ⟨_, rfl, HS.out, q4, q5⟩
    · have hg : (128 : Int) ≤ (m : Int) := by omega
      obtain ⟨x, hx⟩ : ∃ x, x = m % 256 := ⟨_, rfl⟩
      obtain ⟨y, hy⟩ : ∃ y, y = m % 128 + 128 := ⟨_, rfl⟩
      have e1 : IntKind.u8.wrap (m : Int) = (x : Int) := by rw [IntKind.wrap_u8]; omega
      have e2 : bits .or .u8 (x : Int) 128 = (y : Int) := by rw [hx, hy]; exact or128_u8 m
      have HF : Hid (form n = pre ++ ([y] ++ form (m / 128))) := by unfold Hid; rw [form_big hlt] at hf; rw [hy]; exact hf
      clear hf hx hy
      go_wp2_with (at_builtin; refine pushB rfl (.tmp 10) (.tmp 14) rfl B u L rfl ⟨wr.heap.size, 0, none⟩ y rfl (HW.out.2.1.alloc _) (by simp [go_sem]) hll (by simp; omega) ?_)
      intro v' w1 hown hg hv
      obtain ⟨q1, q2, q3, hc1, hf1⟩ := HW.out.step hown hg hv
      have HS : Hid (Wr (w1.setCell ⟨p, 0, none⟩ v') B p v' (l ++ (pre ++ [y]))) := by unfold Hid; rw [HA.out]; exact q1
      obtain ⟨av, cv, rfl, _⟩ := hown.seen
      clear q1 hown hg hv HW
      have q4 := hk.trans q2 (wS.moved hmv)
      have q5 := hmv.trans q3 hk.size
      clear q2 q3 hk hmv
      generalize (ints (L ++ [y])).length = kk at *
      go_wp2_with fail
      go_roundw
      case rel => exact ⟨m / 128, _, pre ++ [y], by go_num, by omega, by rw [HF.out]; simp, HS.out, q4, q5⟩
      case measure => simp [intOf]; omega
set_option maxRecDepth 100000 in
theorem fold_any (n : Int) (w : World) (h1 : -9223372036854775808 ≤ n) (h2 : n ≤ 9223372036854775807) :
    Calls Tryz.prog 111 #[.int .i64 n] w fun e w' => e = .returned (.int .u64 ((sgn n : Nat) : Int)) ∧ w' = w := by
  by_cases h : n < 0
  · obtain ⟨x, hx⟩ : ∃ x : Nat, (x : Int) = n + 18446744073709551616 := ⟨(n + 18446744073709551616).toNat, by omega⟩
    obtain ⟨y, hy⟩ : ∃ y : Nat, (y : Int) = 2 * n + 18446744073709551616 := ⟨(2 * n + 18446744073709551616).toNat, by omega⟩
    obtain ⟨z, hz⟩ : ∃ z : Nat, z = sgn n := ⟨_, rfl⟩
    have e1 : IntKind.u64.wrap n = (x : Int) := by rw [IntKind.wrap_u64]; omega
    have e2 : IntKind.u64.wrap ((x : Int) * 2) = (y : Int) := by rw [IntKind.wrap_u64]; omega
    have e3 : bits .xor .u64 IntKind.u64.max (y : Int) = (z : Int) := by
      rw [show IntKind.u64.max = 18446744073709551615 from rfl, not_u64 y (by omega), hz]
      unfold sgn
      split <;> omega
    rw [← hz]
    clear hx hy hz
    go_enter Tryz.func111, Tryz.ntmps111
    go_wp2_with fail
    go_ret
    exact ⟨rfl, rfl⟩
  · obtain ⟨x, rfl⟩ := Int.eq_ofNat_of_zero_le (show 0 ≤ n by omega)
    have hz : sgn (x : Int) = 2 * x := by unfold sgn; split <;> omega
    have e1 : IntKind.u64.wrap (x : Int) = (x : Int) := by rw [IntKind.wrap_u64]; omega
    obtain ⟨y, hy⟩ : ∃ y : Nat, y = 2 * x := ⟨_, rfl⟩
    have e2 : IntKind.u64.wrap ((x : Int) * 2) = (y : Int) := by rw [IntKind.wrap_u64]; omega
    rw [hz, ← hy]
    clear hy hz
    go_enter Tryz.func111, Tryz.ntmps111
    go_wp2_with fail
    go_ret
    exact ⟨rfl, rfl⟩

set_option maxRecDepth 100000 in
theorem writeS_any (n : Int) (B p : Nat) (v : Value) (l : List Nat) (w : World) (h1 : -9223372036854775808 ≤ n) (h2 : n ≤ 9223372036854775807) (h : Wr w B p v l) (hl : l.length ≤ 1000000) :
    Calls Tryz.prog 91 #[.pointer (some ⟨p, 0, none⟩), .int .i64 n] w fun e w' => ∃ v', e = .returned (.tuple #[]) ∧ Wr w' B p v' (l ++ form (sgn n)) ∧ Keep (wS p v) w w' ∧ moved w v v' := by
  have hs := sgn_lt h1 h2
  have hf := fold_any n w h1 h2
  generalize sgn n = m at *
  go_enter Tryz.func91, Tryz.ntmps91
  go_wp2_with fail
  refine hf.mono ?_
  rintro e w' ⟨rfl, rfl⟩
  go_wp2_with fail
  refine (writeU_any m B p v l _ hs h hl).mono ?_
  rintro e w1 ⟨v', rfl, q1, q2, q3⟩
  go_wp2_with fail
  go_end0
  exact ⟨_, rfl, q1, q2, q3⟩
end Go.Proofs.YtgpmghdoofcpaaaGreat
