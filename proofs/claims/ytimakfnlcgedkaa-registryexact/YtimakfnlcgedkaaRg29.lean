import Derived.Test.YtimakfnlcgedkaaRg28
namespace Go.Proofs.Ytimakfnlcgedkaa
open Go.RowKit Go.QK Go.Maps Go.QM Go.QR
set_option maxRecDepth 100000
structure OpM where
  kind : Int
  which : Bool
  cn : Int
  gn : Int
  wh : SlotN
  su : SlotN
  many : Int
def opL (o : OpM) : List Value := [.int .i64 o.kind, .bool o.which, .int .i64 o.cn, .int .i64 o.gn, .int .i64 o.wh.1, .int .i64 o.wh.2, .int .i64 o.su.1, .int .i64 o.su.2, .int .i64 o.many]
abbrev opV (o : OpM) : Value := .agg #[.int .i64 o.kind, .bool o.which, .int .i64 o.cn, .int .i64 o.gn, .int .i64 o.wh.1, .int .i64 o.wh.2, .int .i64 o.su.1, .int .i64 o.su.2, .int .i64 o.many]
theorem box_op (w : World) (o : OpM) : Cells (w.alloc (.cells #[.int .i64 o.kind, .bool o.which, .int .i64 o.cn, .int .i64 o.gn, .int .i64 o.wh.1, .int .i64 o.wh.2, .int .i64 o.su.1, .int .i64 o.su.2, .int .i64 o.many] 64)) w.heap.size (opL o) := Cells.new _ _ _
set_option maxHeartbeats 4000000 in
theorem many_any (lab : Nat → Nat) (B : Nat) (T : Tab) (i : Nat) (o : OpM) (w : World) (h : Tb lab w B T) (hi : i < 2) (he : ∀ j, j < 2 → T.rp j = T.rq j) : Calls Try.prog 33 #[ptr T.t, .int .i64 (i : Int), opV o] w (TPost 0 w B T) := by
  unfold TPost
  have HBS := hide (show B ≤ w.heap.size by have := h.low.1; have := h.box.1; omega)
  have HQ := hide he
  have HT0 := hide h
  clear h he
  go_enter Try.func33, Try.ntmps33
  go_upto_region 1 with fail
  refine named (P := Code.wp _ _ _ _) ?_
  intro w1 hw1
  have HX := hide (show Cells w1 w.heap.size (opL o) by rw [hw1]; exact box_op w o)
  have B1 := hide (show Below B w w1 by rw [hw1]; exact (alloc_below _ _).mono HBS.out)
  obtain ⟨bx, hbx⟩ : ∃ b, b = w.heap.size := ⟨_, rfl⟩
  have HL := hide (show ∃ lb, Tb lb w1 B T ∧ lb bx = 9 from ⟨ext lab w.heap.size 9, by
    rw [hw1]
    exact (HT0.out.relab (lab' := ext lab w.heap.size 9) (fun x hx => ext_old hx)).below (alloc_below _ _), by rw [hbx]; exact ext_new (Nat.le_refl _)⟩)
  rw [← hbx] at HX ⊢
  clear hw1 hbx HT0
  go_wp2_with fail
  go_loopw [7] (fun v wr => ∃ k : Nat, v = .int .i64 (k : Int) ∧ k ≤ 400 ∧ ∃ lb T', Tb lb wr B T' ∧ lb bx = 9 ∧ (∀ j, j < 2 → T'.rp j = T'.rq j) ∧ T'.t = T.t ∧ Below B w wr ∧ T'.ls.length ≤ T.ls.length + 0 ∧ Cells wr bx (opL o)) (fun v _ => 400 - (intOf v).toNat)
  case atStart =>
    obtain ⟨lb, h1, h2⟩ := HL.out
    exact ⟨0, rfl, by omega, lb, T, h1, h2, HQ.out, rfl, B1.out, Nat.le_refl _, HX.out⟩
  case round =>
    obtain ⟨k, rfl, hk, lb, T', h1, h2, h3, h4, h5, h6, h7⟩ := hrel
    have KP := fun (c d : Int) => puts_any lb B T' i c d wr h1 hi h3
    unfold PutPost at KP
    rw [h4] at KP
    obtain ⟨v2, -⟩ := h7.get 2 _ rfl
    obtain ⟨v3, -⟩ := h7.get 3 _ rfl
    obtain ⟨v6, -⟩ := h7.get 6 _ rfl
    obtain ⟨v8, -⟩ := h7.get 8 _ rfl
    have H1 := hide h1
    have H2 := hide h2
    have H3 := hide h3
    have H4 := hide h4
    have H5 := hide h5
    have H6 := hide h6
    have H7 := hide h7
    clear h1 h2 h3 h4 h5 h6 h7
    have FINAL : ∀ {e : Ending} {w' : World}, (e = .returned (.bool true) ∧ ∃ lab' T'', Tb lab' w' B T'' ∧ (∀ j, j < 2 → T''.rp j = T''.rq j) ∧ T''.t = T.t ∧ Below B wr w' ∧ T''.ls.length ≤ T'.ls.length ∧ Keep (fun z => lb z ≠ 9) wr w' ∧ ∀ x, x < wr.heap.size → lab' x = lb x) → (e = .returned (.bool true) ∧ ∃ lb' T'', Tb lb' w' B T'' ∧ lb' bx = 9 ∧ (∀ j, j < 2 → T''.rp j = T''.rq j) ∧ T''.t = T.t ∧ Below B w w' ∧ T''.ls.length ≤ T.ls.length + 0 ∧ Cells w' bx (opL o)) := by
      rintro e w' ⟨g0, lab', T'', g1, g2, g3, g4, g5, g6, g7⟩
      exact ⟨g0, lab', T'', g1, (g7 bx H7.out.1).trans H2.out, g2, g3, H5.out.trans g4, Nat.le_trans g5 H6.out, H7.out.keep g6 (fun q => q H2.out)⟩
    have HF := hide (fun (e : Ending) (w' : World) => @FINAL e w')
    clear FINAL
    by_cases hm : (k : Int) < o.many
    · by_cases hl : k < 400
      · by_cases hs : o.su.1 = 0
        · have hsb : (o.su.1 != 0) = false := by simpa using hs
          clear hs
          go_wp2_with fail
          refine (KP _ _).mono ?_
          intro e w2 hpost
          obtain ⟨rfl, lb', T'', g1, g2, g3, g4, g5, g6, g7⟩ := HF.out e w2 hpost
          clear hpost KP HF
          go_wp2_with fail
          go_roundw
          case rel => first | exact ⟨k + 1, by go_num, by omega, lb', T'', g1, g2, g3, g4, g5, g6, g7⟩ | ((repeat apply Exists.intro); exact ⟨⟨k + 1, by go_num, by omega, lb', T'', g1, g2, g3, g4, g5, g6, g7⟩, rfl⟩)
          case measure => simp [intOf]; omega
        · have hsb : (o.su.1 != 0) = true := by simpa using hs
          clear hs
          go_wp2_with fail
          refine (KP _ _).mono ?_
          intro e w2 hpost
          obtain ⟨rfl, lb', T'', g1, g2, g3, g4, g5, g6, g7⟩ := HF.out e w2 hpost
          clear hpost KP HF
          go_wp2_with fail
          go_roundw
          case rel => first | exact ⟨k + 1, by go_num, by omega, lb', T'', g1, g2, g3, g4, g5, g6, g7⟩ | ((repeat apply Exists.intro); exact ⟨⟨k + 1, by go_num, by omega, lb', T'', g1, g2, g3, g4, g5, g6, g7⟩, rfl⟩)
          case measure => simp [intOf]; omega
      · go_wp2_with fail
        go_ret
        exact ⟨rfl, lb, T', H1.out, H3.out, H4.out, H5.out, H6.out⟩
    · go_wp2_with fail
      go_ret
      exact ⟨rfl, lb, T', H1.out, H3.out, H4.out, H5.out, H6.out⟩
end Go.Proofs.Ytimakfnlcgedkaa
