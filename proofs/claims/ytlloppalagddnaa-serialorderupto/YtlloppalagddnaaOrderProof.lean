import Derived.Test.YtlloppalagddnaaSrP
namespace Go.Proofs.Ytlloppalagddnaa
open Go.ChangeShapes Go.WideShapes Go.ChangeAt Go.RowKit Go.Joins Go.QK Go.QM Go.QS Quota

theorem flat_sum (rs : List RI) : (netsOf rs).flatten.length = (rs.map (fun r => r.l.length)).sum := by
  induction rs with
  | nil => rfl
  | cons r rs ih =>
    simp only [netsOf, List.map_cons, List.flatten_cons, List.length_append, List.sum_cons] at *
    omega
theorem rows_ints (ts : List Int) : rowsC (fun z : Int => [Value.int .i64 z]) ts = ts.map (Value.int .i64) := by
  induction ts with
  | nil => rfl
  | cons d ds ih => simp only [rowsC, List.flatMap_cons, List.map_cons] at *; rw [ih]; rfl
set_option maxRecDepth 100000 in
theorem order_lifted (os : Os) (started : os.Started) (H : Type) (enc : TypeId × Value → H) (F : Stop.Interp) :
    ReturnsInHanded {} Try.checked os 4 .any ((Rows.OpenSpec.upto Rows.serialOrderSpec).pre6 enc Try.prog Try.f4 Rows.serialOrderUptoRow.domain false) (((Rows.OpenSpec.upto Rows.serialOrderSpec).at F).post enc Try.prog Try.f4 false true false false) := by
  refine returnsInHanded_of_cond (C := Try.checked) (s := Rows.OpenSpec.upto Rows.serialOrderSpec) (k := Rows.uptoSmall) rfl own started (by kernel_rfl) Try.func4
    (OpenSpec.witness (enc := enc) (C := Try.checked) (s := Rows.OpenSpec.upto Rows.serialOrderSpec) (k := Rows.uptoSmall) rfl false ⟨#[], #[.slice none 0 0, .slice none 0 0, .slice none 0 0], []⟩ 8 (by kernel_rfl) (by kernel_rfl) (by kernel_rfl)
      (x := ([.nil, .nil, .nil], [], [])) (by kernel_rfl) rfl (by kernel_rfl)) ?_
  intro W base args ds gs before hval0 hW hcnd hk _
  have hval : ∀ (j : Nat) t v, Try.f4.params[j]? = some t → args[j]? = some v → Value.okWide Try.prog W .any base t v := hval0
  have hW' := hW
  obtain ⟨p, q, hA0, hV, rfl, hfz, hnd⟩ := hW
  have hA : DataW.TrodAll enc Try.prog W 0 (fun _ => true) true Try.f4.params.toList args.toList ds p := hA0
  rw [Try.params4] at hA hval
  obtain ⟨v0, vs0, d0, ds0, p0, q0, hargs, rfl, rfl, h0, r0⟩ := trodAll_cons hA
  obtain ⟨v1, vs1, d1, ds1, p1, q1, rfl, rfl, rfl, h1, r1⟩ := trodAll_cons r0
  obtain ⟨v2, vs2, d2, ds2, p2, q2, rfl, rfl, rfl, h2, r2⟩ := trodAll_cons r1
  obtain ⟨rfl, rfl, rfl⟩ := trodAll_nil r2
  obtain rfl : args = #[v0, v1, v2] := by cases args; simp_all
  obtain ⟨rfl, rfl⟩ := trodVars_none hV
  have hb : Rows.uptoBulkAll ([d0, d1, d2] ++ []) ≤ 1048576 := of_decide_eq_true hk
  simp only [List.append_nil, Rows.uptoBulkAll] at hb
  have k0 := h0
  have lt0 : ∀ x ∈ p0, x.block < W.heap.size := by obtain ⟨m, hm⟩ := k0; exact DataW.trod_lt m _ _ _ hm
  have k1 := h1
  have lt1 : ∀ x ∈ p1, x.block < W.heap.size := by obtain ⟨m, hm⟩ := k1; exact DataW.trod_lt m _ _ _ hm
  have k2 := h2
  have lt2 : ∀ x ∈ p2, x.block < W.heap.size := by obtain ⟨m, hm⟩ := k2; exact DataW.trod_lt m _ _ _ hm
  obtain ⟨a0, len0, cap0, e0⟩ := okWide_slice Try.underlying35 (hval 0 35 v0 rfl rfl)
  obtain ⟨f0, g0⟩ := h0
  obtain ⟨sa0, xs0, sc0, q0e, q0l, q0k, q0c, q0n, q0b, q0s⟩ := open_rowsB (v := v0) cnC Cn.Ok (fun _ => 0) Try.underlying35 cells47 (by decide) (fun _ => rfl) (fun h => open_cn h) (by rw [e0] at g0 ⊢; simpa [Value.cells] using g0)
  subst q0e
  clear e0
  obtain ⟨a1, len1, cap1, e1⟩ := okWide_slice Try.underlying36 (hval 1 36 v1 rfl rfl)
  obtain ⟨f1, g1⟩ := h1
  obtain ⟨sa1, xs1, sc1, q1e, q1l, q1k, q1c, q1n, q1b, q1s⟩ := open_rowsB (v := v1) riC (RIk W) (fun r => r.l.length) Try.underlying36 cells82 (by decide) (fun _ => rfl) (fun h => open_run h) (by rw [e1] at g1 ⊢; simpa [Value.cells] using g1)
  subst q1e
  clear e1
  obtain ⟨a2, len2, cap2, e2⟩ := okWide_slice Try.underlying37 (hval 2 37 v2 rfl rfl)
  obtain ⟨f2, g2⟩ := h2
  obtain ⟨sa2, xs2, sc2, q2e, q2l, q2k, q2c, q2n, q2b, q2s⟩ := open_rowsB (v := v2) (fun z : Int => [Value.int .i64 z]) I64 (fun _ => 0) Try.underlying37 cells3 (by decide) (fun _ => rfl) (fun h => open_int1 h) (by rw [e2] at g2 ⊢; simpa [Value.cells] using g2)
  subst q2e
  clear e2
  rw [rows_ints] at q2l
  rw [← flat_sum] at q1b
  simp only at q0s q1s q1b q2s
  clear hA0 hval0
  refine (law_order sa0 sc0 xs0 sa1 sc1 xs1 sa2 sc2 xs2 W q0l q0n q0k (by omega) ⟨q1l, fun r hr => (q1k r hr).1, fun r hr => (q1k r hr).2.1⟩ q1n q1c (by omega) (fun r hr => (q1k r hr).2.2) (by omega) q2l (by omega) q2k).mono fun e W' ⟨he, bel⟩ => ?_
  subst he
  exact ⟨_, rfl, _, _, _, [], _, [], hW', trodAll_mk1 (shut_bool Try.underlying4 _), (trodAll_cons_mk (Below.trod laidOut (by kernel_rfl) (of_decide_eq_true (by kernel_rfl)) k0 bel lt0) (trodAll_cons_mk (Below.trod laidOut (by kernel_rfl) (of_decide_eq_true (by kernel_rfl)) k1 bel lt1) (trodAll_cons_mk (Below.trod laidOut (by kernel_rfl) (of_decide_eq_true (by kernel_rfl)) k2 bel lt2) trodAll_mk0))), rfl, bel.frame _, fun h => by cases h⟩

/-- 'quotalaw21.SerialOrder' answers true, where what it reads is of bulk at most 1048576. -/
theorem serialOrder_holds : Rows.SerialOrderUptoSaid :=
  OpenClaim.holds_of_cond 4 Try.f4 rfl rfl rfl rfl rfl rfl rfl ⟨rfl, rfl, rfl, rfl, rfl⟩ rfl rfl rfl rfl rfl (by kernel_rfl) Try.func4 (by kernel_rfl)
    (of_decide_eq_true (by kernel_rfl)) (by unfold Func.isWrapper; first | (rw [if_pos (by decide +kernel)]; kernel_rfl) | (rw [if_neg (by decide +kernel)]; exact ⟨rfl, rfl⟩))
    (fun os started H enc _ F => order_lifted os started H enc F)
#print axioms serialOrder_holds
end Go.Proofs.Ytlloppalagddnaa
