import Derived.Test.YtpddmimacjknfaaTwOpen
import Derived.Test.YtpddmimacjknfaaTw14fell
import Derived.Test.YtpddmimacjknfaaTw14zero
import Derived.Test.YtpddmimacjknfaaTw14late
namespace Go.Proofs.Ytpddmimacjknfaa
open Go.ChangeShapes Go.WideShapes Go.ChangeAt Go.RowKit Go.Joins Go.QK

set_option maxRecDepth 100000 in
theorem old_lifted (os : Os) (started : os.Started) (H : Type) (enc : TypeId × Value → H) :
    ReturnsInHanded {} Try.checked os 5 .any (Rows.twinOldOrNewSpec.pre6 enc Try.prog Try.f5 Rows.twinOldOrNewRow.domain false) (Rows.twinOldOrNewSpec.post enc Try.prog Try.f5 false true false false) := by
  refine returnsInHanded_of_change_sized (C := Try.checked) own started (by kernel_rfl) Try.func5
    (ChangeSpec.witness6 (enc := enc) (C := Try.checked) false ⟨#[], #[.int .i64 0, .int .u8 0, .agg #[.int .i64 0, .slice none 0 0, .int .i64 0, .int .i64 0], .slice none 0 0], []⟩ 8 (by kernel_rfl) (by kernel_rfl) (by kernel_rfl) (by kernel_rfl)) ?_
  intro W base args ds gs before hval0 hW hcnd hsz _
  have hval : ∀ (j : Nat) t v, Try.f5.params[j]? = some t → args[j]? = some v → Value.okWide Try.prog W .any base t v := hval0
  have hW' := hW
  obtain ⟨p, q, hA0, hV, rfl, hfz, hnd⟩ := hW
  have hA : DataW.TrodAll enc Try.prog W 0 (fun _ => true) true Try.f5.params.toList args.toList ds p := hA0
  have hsz' : (DataW.weightsEach Try.prog (Try.f5.params.toList ++ Rows.twinOldOrNewSpec.plain.varTypes Try.prog) (ds ++ gs)).all (· ≤ reachBytes) = true := hsz
  rw [Try.params5] at hA hval hsz'
  obtain ⟨v0, vs0, d0, ds0, p0, q0, hargs, rfl, rfl, h0, r0⟩ := trodAll_cons hA
  obtain ⟨v1, vs1, d1, ds1, p1, q1, rfl, rfl, rfl, h1, r1⟩ := trodAll_cons r0
  obtain ⟨v2, vs2, d2, ds2, p2, q2, rfl, rfl, rfl, h2, r2⟩ := trodAll_cons r1
  obtain ⟨v3, vs3, d3, ds3, p3, q3, rfl, rfl, rfl, h3, r3⟩ := trodAll_cons r2
  obtain ⟨rfl, rfl, rfl⟩ := trodAll_nil r3
  obtain rfl : args = #[v0, v1, v2, v3] := by cases args; simp_all
  obtain ⟨rfl, rfl⟩ := trodVars_none hV
  have k2 := h2
  have lt2 : ∀ x ∈ p2, x.block < W.heap.size := by obtain ⟨m, hm⟩ := k2; exact DataW.trod_lt m _ _ _ hm
  have k3 := h3
  have lt3 : ∀ x ∈ p3, x.block < W.heap.size := by obtain ⟨m, hm⟩ := k3; exact DataW.trod_lt m _ _ _ hm
  obtain ⟨i0, rfl, rfl, rfl, w0⟩ := open_int Try.underlying3 (hval 0 3 v0 rfl rfl) h0
  obtain ⟨i1, rfl, rfl, rfl, w1⟩ := open_int Try.underlying5 (hval 1 5 v1 rfl rfl) h1
  obtain ⟨f, rfl, hf⟩ := nat_u8 w1
  obtain ⟨cs2, e2, _⟩ := okWide_struct Try.underlying46 (hval 2 46 v2 rfl rfl)
  subst e2
  obtain ⟨f2, g2⟩ := h2
  obtain ⟨s, l, la, lc, hcs, u1, u2⟩ := open_fall (by simpa [Value.cells] using g2)
  obtain rfl : cs2 = #[.int .i64 s, .slice la l.keep.length lc, .int .i64 l.torn, .int .i64 l.off] := by
    cases cs2; simp_all
  have hk := u2 (fun n hn => by
    have := List.all_eq_true.1 hsz' n (DataW.weights_mem_each (j := 2) (t := 46) rfl rfl n hn)
    simpa using this)
  obtain ⟨a3, len3, cap3, rfl⟩ := okWide_slice Try.underlying38 (hval 3 38 v3 rfl rfl)
  obtain ⟨f3, g3⟩ := h3
  obtain ⟨m3, s3⟩ := open_falls (by simpa [Value.cells] using g3) (fun n hn => by have := List.all_eq_true.1 hsz' n (DataW.weights_mem_each (j := 3) (t := 38) rfl rfl n hn); simpa using this)
  clear hA0 hval0
  have CALL : Calls Try.prog 5 #[.int .i64 i0, .int .u8 (f : Int), .agg #[.int .i64 s, .slice la l.keep.length lc, .int .i64 l.torn, .int .i64 l.off], .slice a3 len3 cap3] W fun e w' => e = .returned (.bool true) ∧ Below W.heap.size W w' := by
    have hb := bring_lt s 12 (by omega)
    by_cases c0 : bring s 12 = 0
    · exact law_zero i0 f s l la lc a3 len3 cap3 W u1 hk (fun q => u1.low q) s3 m3 c0
    · by_cases c1 : bring s 12 = 11
      · exact law_late i0 f s l la lc a3 len3 cap3 W u1 hk (fun q => u1.low q) s3 m3 c1
      · exact law_fell i0 f s l la lc a3 len3 cap3 W u1 hk (fun q => u1.low q) s3 m3 ⟨by omega, by omega⟩
  refine CALL.mono fun e W' ⟨he, bel⟩ => ?_
  subst he
  exact ⟨_, rfl, _, _, _, [], _, [], hW', trodAll_mk1 (shut_bool Try.underlying4 _), (trodAll_cons_mk (shut_int Try.underlying3 w0) (trodAll_cons_mk (shut_int Try.underlying5 w1) (trodAll_cons_mk (Below.trod laidOut (by kernel_rfl) (of_decide_eq_true (by kernel_rfl)) k2 bel lt2) (trodAll_cons_mk (Below.trod laidOut (by kernel_rfl) (of_decide_eq_true (by kernel_rfl)) k3 bel lt3) trodAll_mk0)))), rfl, bel.frame _, fun h => by cases h⟩

/-- 'quotalaw08.TwinOldOrNew' answers true. -/
theorem twinOldOrNew_holds : Rows.TwinOldOrNewSaid :=
  OpenClaim.holds_of_wide 5 Try.f5 rfl rfl rfl rfl rfl rfl rfl ⟨rfl, rfl, rfl, rfl, rfl⟩ rfl rfl rfl rfl rfl (by kernel_rfl) Try.func5 (by kernel_rfl)
    (of_decide_eq_true (by kernel_rfl)) (by unfold Func.isWrapper; first | (rw [if_pos (by decide +kernel)]; kernel_rfl) | (rw [if_neg (by decide +kernel)]; exact ⟨rfl, rfl⟩))
    (fun os started H enc _ => old_lifted os started H enc)
#print axioms twinOldOrNew_holds
end Go.Proofs.Ytpddmimacjknfaa
