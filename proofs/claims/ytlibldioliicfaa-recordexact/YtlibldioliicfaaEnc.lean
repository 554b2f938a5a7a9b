import Derived.Test.YtlibldioliicfaaChk2
import Derived.Test.YtlibldioliicfaaLit
namespace Go.Proofs.Ytlibldioliicfaa
open Go.RowKit Go.QK

abbrev natCs (ns : List Nat) : List Value := ns.map (fun n : Nat => Value.int .i64 (n : Int))
theorem Lies.natAt {w : World} {a : Option Addr} {ns : List Nat} (h : Lies w a (natCs ns)) (k : Nat) (hk : k < ns.length) : ∃ b off, a = some ⟨b, off, none⟩ ∧ b < w.heap.size ∧ w.cell? ⟨b, off + k, none⟩ = some (.int .i64 (ns[k] : Int)) := by
  exact h.cellAt k _ (by simp [natCs, List.getElem?_eq_getElem hk])
theorem notS {w : World} {p b : Nat} {v v' : Value} (h : moved w v v') (hb : b < w.heap.size) (hn : ¬ wS p v b) : ¬ wS p v' b := fun q => hn (wS.moved h b hb q)
theorem flatForm_len (ns : List Nat) (h : ∀ n ∈ ns, n < 18446744073709551616) : (ns.flatMap form).length ≤ 10 * ns.length := by
  induction ns with
  | nil => simp
  | cons n ns ih =>
    have := (form_len (h n (by simp))).2
    have := ih (fun m hm => h m (by simp [hm]))
    rw [List.flatMap_cons, List.length_append, List.length_cons]
    omega

set_option maxRecDepth 100000
theorem put_any (ns : List Nat) (a : Option Addr) (c : Nat) (B p : Nat) (v : Value) (l : List Nat) (w : World) (hs : ∀ w', Keep (wS p v) w w' → Lies w' a (natCs ns)) (hns : ∀ n ∈ ns, n < 9223372036854775808) (h : Wr w B p v l) (hl : l.length + 10 * ns.length ≤ 1000000) :
    Calls Try.prog 47 #[.pointer (some ⟨p, 0, none⟩), .slice a ns.length c] w fun e w' => ∃ v', e = .returned (.tuple #[]) ∧ Wr w' B p v' (l ++ ns.flatMap form) ∧ Keep (wS p v) w w' ∧ moved w v v' := by
  have HS := hide hs
  clear hs
  go_enter Try.func47, Try.ntmps47
  go_wp2_with fail
  go_loopw [8] (fun i wr => ∃ (k : Nat) (u : Value), i = .int .i64 (k : Int) ∧ k ≤ ns.length ∧ Wr wr B p u (l ++ (ns.take k).flatMap form) ∧ Keep (wS p v) w wr ∧ moved w v u) (fun i _ => (ns.length + 1 - (intOf i).toNat))
  case atStart => exact ⟨0, v, rfl, Nat.zero_le _, by simpa using h, Keep.refl _ _, .inl rfl⟩
  case round =>
    obtain ⟨k, u, rfl, hk, hw, hkp, hm⟩ := hrel
    have HW := hide hw
    clear hw
    by_cases hlt : k < ns.length
    · have hg1 : decide ((k : Int) < (ns.length : Int)) = true := by simp; omega
      obtain ⟨b, off, rfl, hbl, k0⟩ := (HS.out wr hkp).natAt k hlt
      have hx : ns[k] < 9223372036854775808 := hns _ (List.getElem_mem _)
      have hlen : (l ++ (ns.take k).flatMap form).length ≤ 1000000 := by
        have := flatForm_len (ns.take k) (fun n hn => by have := hns n (List.mem_of_mem_take hn); omega)
        simp at this ⊢
        omega
      have he : l ++ (ns.take (k + 1)).flatMap form = (l ++ (ns.take k).flatMap form) ++ form ns[k] := by
        rw [← List.take_append_getElem hlt, List.flatMap_append, List.flatMap_cons, List.flatMap_nil, List.append_nil, List.append_assoc]
      have HE := hide he
      clear he
      generalize ns[k] = x at *
      have e1 : IntKind.u64.wrap (x : Int) = (x : Int) := by rw [IntKind.wrap_u64]; omega
      have f1 := writeU_any x B p u _ wr (by omega) HW.out hlen
      go_wp2_with fail
      refine f1.mono ?_
      rintro e w1 ⟨u', rfl, hw', hk', hm'⟩
      have K2 := hkp.trans hk' (wS.moved hm)
      have M2 := hm.trans hm' hkp.size
      rw [← HE.out] at hw'
      have HW' := hide hw'
      clear hw' HE HW
      go_wp2_with fail
      go_roundw
      case rel => exact ⟨k + 1, u', by go_num, hlt, HW'.out, K2, M2⟩
      case measure => simp [intOf]; omega
    · have hg1 : decide ((k : Int) < (ns.length : Int)) = false := by simp; omega
      have hkk : k = ns.length := by omega
      have HW' := hide HW.out
      rw [hkk, List.take_length] at HW'
      clear HW hkk
      go_wp2_with fail
      go_end0
      exact ⟨u, rfl, HW'.out, hkp, hm⟩

/-- Numbers that were just laid into a slice of their own. -/
theorem put_lit {m : Nat} (ns : List Nat) (B p : Nat) (v : Value) (l : List Nat) (w : World) (hns : ∀ n ∈ ns, n < 9223372036854775808) (h : Wr w B p v l) (hl : l.length + 10 * ns.length ≤ 1000000) (hn : ns.length = m) :
    Calls Try.prog 47 #[.pointer (some ⟨p, 0, none⟩), .slice (some ⟨w.heap.size, 0, none⟩) m m] (w.alloc (.cells (natCs ns).toArray 3)) fun e w' => ∃ v', e = .returned (.tuple #[]) ∧ Wr w' B p v' (l ++ ns.flatMap form) ∧ Keep (wS p v) w w' ∧ moved w v v' := by
  subst hn
  have hlt := h.lt
  refine (put_any ns _ ns.length B p v l _ ?_ hns (h.below (alloc_below _ _)) hl).mono ?_
  · intro w' hk
    have C := (Cells.new w (natCs ns).toArray 3)
    have C' := C.keep hk (by intro q; have := (hlt _ q).2; omega)
    exact .inr ⟨w.heap.size, 0, rfl, C'.1, fun i hi => by rw [Nat.zero_add]; exact (C'.2 i hi).1⟩
  · rintro e w' ⟨v', rfl, q1, q2, q3⟩
    refine ⟨v', rfl, q1, ?_, ?_⟩
    · exact (Keep.of_below (alloc_below w _)).trans q2 (fun _ _ q => q)
    · rcases q3 with q | ⟨g, q, hg⟩
      · exact .inl q
      · exact .inr ⟨g, q, by simp at hg; omega⟩

def stateN (l : LiveM) : Nat := if l.com = true then 1 else if l.und = true then 2 else 0
theorem stateOf_any (x y : Int) (p q : Bool) (w : World) : Calls Try.prog 74 #[.agg #[.int .i64 x, .int .i64 y, .bool p, .bool q]] w fun e w' => e = .returned (.int .i64 ((stateN ⟨x, y, p, q⟩ : Nat) : Int)) ∧ Below w.heap.size w w' := by
  unfold stateN
  cases p
  · cases q
    · go_enter Try.func74, Try.ntmps74
      go_wp2_with fail
      go_ret
      exact ⟨by simp, alloc_below _ _⟩
    · go_enter Try.func74, Try.ntmps74
      go_wp2_with fail
      go_ret
      exact ⟨by simp, alloc_below _ _⟩
  · go_enter Try.func74, Try.ntmps74
    go_wp2_with fail
    go_ret
    exact ⟨by simp, alloc_below _ _⟩
end Go.Proofs.Ytlibldioliicfaa
