import Derived.Test.YtimakfnlcgedkaaRg20
namespace Go.Proofs.Ytimakfnlcgedkaa
open Go.RowKit Go.QK Go.Maps Go.QM Go.QR
set_option maxRecDepth 100000
set_option maxHeartbeats 2000000 in
theorem rcounters_any (B b : Nat) (vC vG : Value) (r : Reg) (w : World) (h : RR w B b vC vG r) (ok : r.Ok) : Calls Try.prog 40 #[ptr b] w fun e w' => ∃ v, e = .returned v ∧ GRow w' w.heap.size 3 1 v r.C.length ((rise r.nums).map (Value.int .i64)) ∧ Below w.heap.size w w' := by
  have hl1 := ok.lens.1
  have HR := hide h
  have HN := hide (show r.nums.length = r.C.length by simp [Reg.nums])
  obtain ⟨aC, cC, aG, cG, q1, q2, -⟩ := h.c
  subst q1 q2
  clear h ok
  go_enter Try.func40, Try.ntmps40
  go_wp2
  go_loopw [3, 4] (fun v i wr => ∃ k : Nat, i = .int .i64 (k : Int) ∧ k ≤ r.C.length ∧ GRow wr w.heap.size 3 1 v k ((r.nums.take k).map (Value.int .i64)) ∧ Below w.heap.size w wr) (fun _ i _ => r.C.length - (intOf i).toNat)
  case atStart => exact ⟨0, rfl, Nat.zero_le _, by simpa using World.ownsRow_nil w w.heap.size 3 1, Below.refl _ _⟩
  case round =>
    obtain ⟨k, rfl, hk, hr, hb⟩ := hrel
    have R0 := hide hr
    have B0 := hide hb
    have HR0 := hide (HR.out.below hb)
    have kb := (HR0.out.box.get 1 _ rfl).1
    clear hr hb
    by_cases hlt : k < r.C.length
    · obtain ⟨aC9, cC9, aG9, cG9, u1, u2, li, -⟩ := HR0.out.c
      cases u1
      cases u2
      obtain ⟨bl, off, ha, -, hcell⟩ := Lies.rowAt c2 2 (fun _ => rfl) li k hlt (by omega)
      subst ha
      have hc := hcell 0 _ rfl
      rw [Nat.add_zero] at hc
      obtain ⟨x, hx⟩ : ∃ x, x = r.C[k].1 := ⟨_, rfl⟩
      rw [← hx] at hc
      have HX := hide (show r.nums.take (k + 1) = r.nums.take k ++ [x] by rw [List.take_succ_eq_append_getElem (by rw [HN.out]; exact hlt), hx]; simp [Reg.nums])
      clear hx hcell li
      go_wp2_with (at_builtin; refine wpList_appR Try.underlying34 info3 rfl (by decide) (by decide) rfl (.tmp _) (.tmp _) rfl w.heap.size _ k ((r.nums.take k).map (Value.int .i64)) rfl (GRow.below R0.out (alloc_below _ _)) (some ⟨wr.heap.size, 0, none⟩) 1 1 [.int .i64 x] rfl rfl (lies_one _ _ _) (by simp [Value.oneCell']) (by nofun) (by omega) (by have := B0.out.size; simp; omega) ?_; intro vn w2 q1 q2 q3)
      have B2 : Below w.heap.size w w2 := (B0.out.trans ((alloc_below wr (.cells #[.int .i64 x] 3)).mono B0.out.size)).trans (((grown_keep q2)).below (by have := B0.out.size; simp; omega) (fun z hz q => by have := (World.ownsRow.lt R0.out z q).1; omega))
      have R2 := hide (show GRow w2 w.heap.size 3 1 vn (k + 1) ((r.nums.take (k + 1)).map (Value.int .i64)) by rw [HX.out]; simpa using q1)
      go_roundw
      case rel => first | exact ⟨k + 1, by go_num, by omega, R2.out, B2⟩ | ((repeat apply Exists.intro); exact ⟨⟨k + 1, by go_num, by omega, R2.out, B2⟩, rfl⟩)
      case measure => simp [intOf]; omega
    · obtain rfl : k = r.C.length := by omega
      have R1 := R0.out
      rw [← HN.out, List.take_length] at R1
      obtain ⟨av, cv, hv, li, -⟩ := GRow.lies R1
      have KR := rrising_any r.nums av cv wr li (by rw [HN.out]; omega)
      rw [← hv, HN.out] at KR
      clear hv li R1
      go_wp2_with fail
      refine KR.mono ?_
      rintro e w3 ⟨v, rfl, h1, h2⟩
      have F1 := hide (GRow.mono h1 B0.out.size)
      have F2 := hide (B0.out.trans (h2.mono B0.out.size))
      clear h1 h2 KR
      go_wp2_with fail
      go_ret
      exact ⟨v, rfl, F1.out, F2.out⟩
set_option maxHeartbeats 1000000 in
theorem rgroups_any (B b : Nat) (vC vG : Value) (r : Reg) (w : World) (h : RR w B b vC vG r) (ok : r.Ok) : Calls Try.prog 41 #[ptr b] w fun e w' => ∃ v, e = .returned v ∧ GRow w' w.heap.size 3 1 v r.G.length ((rise r.G).map (Value.int .i64)) ∧ Below w.heap.size w w' := by
  have hl2 := ok.lens.2
  have kb := (h.box.get 2 _ rfl).1
  obtain ⟨aC, cC, aG, cG, q1, q2, -, li⟩ := h.c
  subst q1 q2
  have KR := rrising_any r.G aG cG w li (by omega)
  clear h ok li
  go_enter Try.func41, Try.ntmps41
  go_wp2_with fail
  refine KR.mono ?_
  rintro e w3 ⟨v, rfl, h1, h2⟩
  go_wp2_with fail
  go_ret
  exact ⟨v, rfl, h1, h2⟩
end Go.Proofs.Ytimakfnlcgedkaa
