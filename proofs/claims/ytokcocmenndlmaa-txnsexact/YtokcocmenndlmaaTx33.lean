import Derived.Test.YtokcocmenndlmaaTx31
namespace Go.Proofs.Ytokcocmenndlmaa
open Go.RowKit Go.QK Go.Maps Go.QM Go.QT
set_option maxRecDepth 100000
theorem row_at2 {w w' : World} {la : Option Addr} {D : List (Int × Int)} (h : Lies w la (rowsC dC D)) (hb : Below w.heap.size w w') {k : Nat} (hk : k < D.length) : ∃ bl off, la = some ⟨bl, off, none⟩ ∧ w'.cell? ⟨bl, off + k * 2, none⟩ = some (.int .i64 D[k].1) ∧ w'.cell? ⟨bl, off + k * 2 + 1, none⟩ = some (.int .i64 D[k].2) := by
  obtain ⟨bl, off, ha, hbl, hcell⟩ := Lies.rowAt dC 2 (fun _ => rfl) h k hk (by omega)
  have c := fun j v hv => (hb.cell (p := ⟨bl, off + k * 2 + j, none⟩) hbl).trans (hcell j v hv)
  exact ⟨bl, off, ha, c 0 _ rfl, c 1 _ rfl⟩
theorem Lies.front {w : World} {a : Option Addr} {xs ys : List Value} (h : Lies w a (xs ++ ys)) : Lies w a xs := by
  rcases h with q | ⟨b, off, e, hl, hc⟩
  · exact .inl (List.append_eq_nil_iff.1 q).1
  · refine .inr ⟨b, off, e, hl, fun i hi => ?_⟩
    have := hc i (by rw [List.length_append]; omega)
    rw [List.getElem_append_left hi] at this
    exact this
theorem slice_cap4 {t e : TypeId} (ht : Try.prog.underlying t = some (.slice e)) (hz : ∀ w, (Go.sizeOf e).run Try.prog w = .ok 4 w) (a : Addr) (n cap : Nat) (w : World) (h : n + 1 ≤ cap) :
    (Instr.slice t (.slice (some a) n cap) none (some (.int .i64 ((n : Int) + 1))) none).run Try.prog w = .ok (.slice (some a) (n + 1) cap) w := by
  obtain ⟨k, hk⟩ : ∃ k : Nat, k = n + 1 := ⟨_, rfl⟩
  rw [show ((n : Int) + 1) = (k : Int) by omega, ← hk]
  have h3 : k ≤ cap := by omega
  clear hk h
  go_simp
theorem slice_cap2 {t e : TypeId} (ht : Try.prog.underlying t = some (.slice e)) (hz : ∀ w, (Go.sizeOf e).run Try.prog w = .ok 2 w) (a : Addr) (n cap : Nat) (w : World) (h : n + 1 ≤ cap) :
    (Instr.slice t (.slice (some a) n cap) none (some (.int .i64 ((n : Int) + 1))) none).run Try.prog w = .ok (.slice (some a) (n + 1) cap) w := by
  obtain ⟨k, hk⟩ : ∃ k : Nat, k = n + 1 := ⟨_, rfl⟩
  rw [show ((n : Int) + 1) = (k : Int) by omega, ← hk]
  have h3 : k ≤ cap := by omega
  clear hk h
  go_simp
theorem cap_le {w : World} {B e sz n c : Nat} {a : Option Addr} {xs : List Value} (h : GRow w B e sz (.slice a n c) n xs) : n ≤ c ∧ Lies w a xs := by
  obtain ⟨a', c', e1, l, hn, _⟩ := GRow.lies h
  cases e1
  exact ⟨hn, l⟩
set_option maxHeartbeats 8000000 in
theorem kept_any (gL cL gD cD B : Nat) (la da : Option Addr) (lc dc : Nat) (nx ny : Int) (L : List Lv) (D : List (Int × Int)) (w : World) (hL : GRow w B 26 4 (.slice (some ⟨gL, 0, none⟩) (L.length + 1) cL) (L.length + 1) (rowsC lvC L ++ [.int .i64 23130, .int .i64 0, .bool false, .bool false])) (hD : GRow w B 130 2 (.slice (some ⟨gD, 0, none⟩) (D.length + 1) cD) (D.length + 1) (rowsC dC D ++ [.int .i64 23130, .int .i64 0])) (hl : Lies w la (rowsC lvC L)) (hd : Lies w da (rowsC dC D)) (h1 : L.length ≤ 1000) (h2 : D.length ≤ 1000) :
    Calls Try.prog 56 #[.agg #[.slice (some ⟨gL, 0, none⟩) L.length cL, .slice (some ⟨gD, 0, none⟩) D.length cD, .int .i64 nx], .agg #[.slice la L.length lc, .slice da D.length dc, .int .i64 ny]] w fun e w' => e = .returned (.bool true) ∧ Below w.heap.size w w' := by
  obtain ⟨qL, lL⟩ := cap_le hL
  obtain ⟨qD, lD⟩ := cap_le hD
  have eL := rowsC_len lvC 4 (fun _ => rfl) L
  have eD := rowsC_len dC 2 (fun _ => rfl) D
  have XL := hide (fun w' (h : Below w.heap.size w w') => show w'.cell? ⟨gL, L.length * 4, none⟩ = some (.int .i64 23130) by
    obtain ⟨bl, off, e1, hc⟩ := lies_one lL h (k := L.length * 4) (v := .int .i64 23130) (by rw [List.getElem?_append_right (by omega)]; rw [eL, show L.length * 4 - 4 * L.length = 0 by omega]; rfl)
    cases e1
    rw [Nat.zero_add] at hc
    exact hc)
  have XD := hide (fun w' (h : Below w.heap.size w w') => show w'.cell? ⟨gD, D.length * 2, none⟩ = some (.int .i64 23130) by
    obtain ⟨bl, off, e1, hc⟩ := lies_one lD h (k := D.length * 2) (v := .int .i64 23130) (by rw [List.getElem?_append_right (by omega)]; rw [eD, show D.length * 2 - 2 * D.length = 0 by omega]; rfl)
    cases e1
    rw [Nat.zero_add] at hc
    exact hc)
  have FL := hide lL.front
  have FD := hide lD.front
  have HL := hide hl
  have HD := hide hd
  have s1 := fun w => slice_cap4 Try.underlying33 Try.sizeOf26 ⟨gL, 0, none⟩ L.length cL w qL
  have s2 := fun w => slice_cap2 Try.underlying24 Try.sizeOf130 ⟨gD, 0, none⟩ D.length cD w qD
  have e1 : IntKind.i64.wrap ((L.length : Int) + 1) = (L.length : Int) + 1 := wrapK (by unfold I64; omega)
  have e2 : IntKind.i64.wrap ((D.length : Int) + 1) = (D.length : Int) + 1 := wrapK (by unfold I64; omega)
  have e3 : wrap64 ((L.length : Int) + 1) = (L.length : Int) + 1 := wrapI (by unfold I64; omega)
  have e4 : wrap64 ((D.length : Int) + 1) = (D.length : Int) + 1 := wrapI (by unfold I64; omega)
  clear hL hD hl hd lL lD eL eD
  go_enter Try.func56, Try.ntmps56
  go_upto_region 1 with fail
  refine named (P := Code.wp _ _ _ _) ?_
  intro w1 hw1
  obtain ⟨pa, hpa⟩ : ∃ b, b = w.heap.size := ⟨_, rfl⟩
  obtain ⟨pp, hpp⟩ : ∃ b, b = w.heap.size + 1 := ⟨_, rfl⟩
  have CA := hide (show Cells w1 pa [.slice (some ⟨gL, 0, none⟩) L.length cL, .slice (some ⟨gD, 0, none⟩) D.length cD, .int .i64 nx] by rw [hw1, hpa]; exact (Cells.new w _ _).below (alloc_below _ _))
  have CP := hide (show Cells w1 pp [.slice la L.length lc, .slice da D.length dc, .int .i64 ny] by
    rw [hw1, hpp]
    have := Cells.new (w.alloc (.cells #[.slice (some ⟨gL, 0, none⟩) L.length cL, .slice (some ⟨gD, 0, none⟩) D.length cD, .int .i64 nx] 49)) #[.slice la L.length lc, .slice da D.length dc, .int .i64 ny] 49
    simpa using this)
  have B1 := hide (show Below w.heap.size w w1 by rw [hw1]; exact (alloc_below _ _).alloc (alloc_below _ _).size _)
  obtain ⟨a0, -⟩ := CA.out.get 0 _ rfl
  obtain ⟨a1, -⟩ := CA.out.get 1 _ rfl
  obtain ⟨b0, -⟩ := CP.out.get 0 _ rfl
  obtain ⟨b1, -⟩ := CP.out.get 1 _ rfl
  rw [← hpp, ← hpa]
  clear hw1 hpa hpp
  go_wp2_with fail
  clear a0 a1 b0 b1 s1 s2 e1 e2 e3 e4
  go_loopw [7] (fun v wr => ∃ k : Nat, v = .int .i64 (k : Int) ∧ k ≤ D.length ∧ Below w1.heap.size w1 wr) (fun v _ => D.length - (intOf v).toNat)
  case atStart => exact ⟨0, rfl, Nat.zero_le _, Below.refl _ _⟩
  case round =>
    obtain ⟨k, rfl, hk, hb⟩ := hrel
    have HB := hide hb
    have BW := hide (B1.out.trans (hb.mono B1.out.size))
    obtain ⟨a0, -⟩ := (CA.out.below hb).get 0 _ rfl
    obtain ⟨b0, -⟩ := (CP.out.below hb).get 0 _ rfl
    obtain ⟨b1, -⟩ := (CP.out.below hb).get 1 _ rfl
    clear hb
    by_cases hlt : k < D.length
    · obtain ⟨x1, o1, z1, p0, p1⟩ := row_at2 HD.out BW.out hlt
      obtain ⟨x2, o2, z2, q0, q1⟩ := row_at2 FD.out BW.out hlt
      cases z2
      subst z1
      generalize D[k] = x at *
      obtain ⟨u1, u2⟩ := x
      simp only at p0 p1 q0 q1
      rw [Nat.zero_add] at q0 q1
      clear a0 b0
      go_upto_region 6 with fail
      go_quiet (fail)
      go_wp2_with fail
      go_roundw
      case rel => exact ⟨k + 1, by go_num, by omega, below_drewN HB.out _⟩
      case measure => simp [intOf]; omega
    · have d3 : (L.length : Int) < (L.length : Int) + 1 := by omega
      have d4 : (D.length : Int) < (D.length : Int) + 1 := by omega
      go_wp2_with fail
      refine (same_true L _ _ _ _ _ (FL.out.below BW.out) (HL.out.below BW.out) (by omega)).mono ?_
      rintro e w2 ⟨rfl, hh⟩
      have B2 := hide (BW.out.trans (hh.mono BW.out.size))
      have C2 := hide ((CP.out.below HB.out).below hh)
      clear hh a0 b0 b1
      obtain ⟨b0, -⟩ := C2.out.get 0 _ rfl
      obtain ⟨b1, -⟩ := C2.out.get 1 _ rfl
      have xl := XL.out _ B2.out
      have xd := XD.out _ B2.out
      go_wp2_with fail
      go_ret
      exact ⟨by first | rfl | simp, B2.out⟩
end Go.Proofs.Ytokcocmenndlmaa
