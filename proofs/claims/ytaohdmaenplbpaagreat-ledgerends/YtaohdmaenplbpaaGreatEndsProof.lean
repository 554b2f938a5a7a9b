import Derived.Test.YtaohdmaenplbpaaGreatLdOp
import Derived.Test.YtaohdmaenplbpaaGreatLdAU
set_option linter.all false
namespace Go.Proofs.YtaohdmaenplbpaaGreat
open Go.ChangeShapes Go.WideShapes Go.ChangeAt Go.RowKit Go.Deep Go.QK Go.Joins Quota Go.Maps Go.QM
set_option maxRecDepth 100000
theorem cells4 : Tryz.prog.cellsOf 4 = 1 := by kernel_rfl
def blC (b : Bool) : List Value := [.bool b]
theorem rows_bl (bs : List Bool) : rowsC blC bs = bs.map Value.bool := by
  unfold rowsC
  induction bs with
  | nil => rfl
  | cons b r ih => rw [List.flatMap_cons, ih]; rfl
variable {H : Type} {enc : TypeId × Value → H} {W : World}
theorem open_ways {fuel : Nat} {v : Value} {x : DataW H × List MemPlace} (hf : DataW.trod enc Tryz.prog W 0 (fun _ => true) true fuel 85 [v] = some x) :
    ∃ (a : Option Addr) (bs : List Bool) (c : Nat), v = .slice a bs.length c ∧ Lies W a (bs.map Value.bool) ∧ (∀ b ∈ bs, True) ∧ bs.length ≤ 9223372036854775807 := by
  obtain ⟨a, bs, c, h1, h2, h3, h4⟩ := open_rows blC (fun _ => True) Tryz.underlying85 cells4 (by decide) (fun _ => rfl) (fun h => by
    obtain ⟨b, e, -⟩ := DataW.trod_bool Tryz.underlying4 h
    exact ⟨b, e, trivial⟩) hf
  rw [rows_bl] at h2
  exact ⟨a, bs, c, h1, h2, h3, by unfold maxLen at h4; omega⟩
end Go.Proofs.YtaohdmaenplbpaaGreat

set_option linter.all false
namespace Go.Proofs.YtaohdmaenplbpaaGreat
open Go.ChangeShapes Go.WideShapes Go.ChangeAt Go.RowKit Go.Joins Go.QK Quota

set_option maxRecDepth 100000 in
theorem ends_lifted (os : Os) (started : os.Started) (H : Type) (enc : TypeId × Value → H) :
    ReturnsInHanded {} Tryz.checked os 7 .any (Rows.ledgerEndsSpec.pre6 enc Tryz.prog Tryz.f7 Rows.ledgerEndsRow.domain false) (Rows.ledgerEndsSpec.post enc Tryz.prog Tryz.f7 false true false false) := by
  refine returnsInHanded_of_change_sized (C := Tryz.checked) own started (by kernel_rfl) Tryz.func7
    (ChangeSpec.witness6 (enc := enc) (C := Tryz.checked) false ⟨#[], #[.slice none 0 0, .slice none 0 0, .slice none 0 0, .int .i64 0], []⟩ 8 (by kernel_rfl) (by kernel_rfl) (by kernel_rfl) (by kernel_rfl)) ?_
  intro W base args ds gs before hval0 hW hcnd hsz _
  have hval : ∀ (j : Nat) t v, Tryz.f7.params[j]? = some t → args[j]? = some v → Value.okWide Tryz.prog W .any base t v := hval0
  have hW' := hW
  obtain ⟨p, q, hA0, hV, rfl, hfz, hnd⟩ := hW
  have hA : DataW.TrodAll enc Tryz.prog W 0 (fun _ => true) true Tryz.f7.params.toList args.toList ds p := hA0
  have hsz' : (DataW.weightsEach Tryz.prog (Tryz.f7.params.toList ++ Rows.ledgerEndsSpec.plain.varTypes Tryz.prog) (ds ++ gs)).all (· ≤ reachBytes) = true := hsz
  rw [Tryz.params7] at hA hval hsz'
  obtain ⟨v0, vs0, d0, ds0, p0, q0, hargs, rfl, rfl, h0, r0⟩ := trodAll_cons hA
  obtain ⟨v1, vs1, d1, ds1, p1, q1, rfl, rfl, rfl, h1, r1⟩ := trodAll_cons r0
  obtain ⟨v2, vs2, d2, ds2, p2, q2, rfl, rfl, rfl, h2, r2⟩ := trodAll_cons r1
  obtain ⟨v3, vs3, d3, ds3, p3, q3, rfl, rfl, rfl, h3, r3⟩ := trodAll_cons r2
  obtain ⟨rfl, rfl, rfl⟩ := trodAll_nil r3
  obtain rfl : args = #[v0, v1, v2, v3] := by cases args; simp_all
  obtain ⟨rfl, rfl⟩ := trodVars_none hV
  have k0 := h0
  have lt0 : ∀ x ∈ p0, x.block < W.heap.size := by obtain ⟨m, hm⟩ := k0; exact DataW.trod_lt m _ _ _ hm
  obtain ⟨a0, len0, cap0, e0⟩ := okWide_slice Tryz.underlying22 (hval 0 22 v0 rfl rfl)
  obtain ⟨f0, g0⟩ := h0
  obtain ⟨sa0, xs0, sc0, q0e, q0l, q0o, q0m⟩ := open_rms (v := v0) (by rw [e0] at g0 ⊢; simpa [Value.cells] using g0)
  subst q0e
  clear e0
  have k1 := h1
  have lt1 : ∀ x ∈ p1, x.block < W.heap.size := by obtain ⟨m, hm⟩ := k1; exact DataW.trod_lt m _ _ _ hm
  obtain ⟨a1, len1, cap1, e1⟩ := okWide_slice Tryz.underlying23 (hval 1 23 v1 rfl rfl)
  obtain ⟨f1, g1⟩ := h1
  obtain ⟨sa1, xs1, sc1, q1e, q1l, q1o, q1m⟩ := open_dds (v := v1) (by rw [e1] at g1 ⊢; simpa [Value.cells] using g1)
  subst q1e
  clear e1
  have k2 := h2
  have lt2 : ∀ x ∈ p2, x.block < W.heap.size := by obtain ⟨m, hm⟩ := k2; exact DataW.trod_lt m _ _ _ hm
  obtain ⟨a2, len2, cap2, e2⟩ := okWide_slice Tryz.underlying85 (hval 2 85 v2 rfl rfl)
  obtain ⟨f2, g2⟩ := h2
  obtain ⟨sa2, xs2, sc2, q2e, q2l, q2o, q2m⟩ := open_ways (v := v2) (by rw [e2] at g2 ⊢; simpa [Value.cells] using g2)
  subst q2e
  clear e2
  obtain ⟨i3, rfl, rfl, rfl, w3⟩ := open_int Tryz.underlying3 (hval 3 3 v3 rfl rfl) h3
  clear hA0 hval0
  refine (law_ends xs0 sa0 _ sc0 xs1 sa1 _ sc1 xs2 sa2 _ sc2 i3 W q0l rfl q0o q0m q1l rfl q1o q2l rfl).mono fun e W' ⟨he, bel⟩ => ?_
  subst he
  exact ⟨_, rfl, _, _, _, [], _, [], hW', trodAll_mk1 (shut_bool Tryz.underlying4 _), (trodAll_cons_mk (Below.trod laidOut (by kernel_rfl) (of_decide_eq_true (by kernel_rfl)) k0 bel lt0) (trodAll_cons_mk (Below.trod laidOut (by kernel_rfl) (of_decide_eq_true (by kernel_rfl)) k1 bel lt1) (trodAll_cons_mk (Below.trod laidOut (by kernel_rfl) (of_decide_eq_true (by kernel_rfl)) k2 bel lt2) (trodAll_cons_mk (shut_int Tryz.underlying3 w3) trodAll_mk0)))), rfl, bel.frame _, fun h => by cases h⟩

/-- 'quotalaw11.LedgerEnds' answers true. -/
theorem ledgerEnds_holds : Rows.LedgerEndsSaid :=
  OpenClaim.holds_of_wide 7 Tryz.f7 rfl rfl rfl rfl rfl rfl rfl ⟨rfl, rfl, rfl, rfl, rfl⟩ rfl rfl rfl rfl rfl (by kernel_rfl) Tryz.func7 (by kernel_rfl)
    (of_decide_eq_true (by kernel_rfl)) (by unfold Func.isWrapper; first | (rw [if_pos (by decide +kernel)]; kernel_rfl) | (rw [if_neg (by decide +kernel)]; exact ⟨rfl, rfl⟩))
    (fun os started H enc _ => ends_lifted os started H enc)
#print axioms ledgerEnds_holds
end Go.Proofs.YtaohdmaenplbpaaGreat
