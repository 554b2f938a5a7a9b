import Derived.Test.YtokcocmenndlmaaTx28
namespace Go.Proofs.Ytokcocmenndlmaa
open Go.RowKit Go.QK Go.Maps Go.QM Go.QT
set_option maxRecDepth 100000
theorem marks_at {w w' : World} {a : Option Addr} {k n i : Nat} (h : Lies w a (marks k n)) (hb : Below w.heap.size w w') (hi : i < n) : ∃ bl off, a = some ⟨bl, off, none⟩ ∧ w'.cell? ⟨bl, off + i * 4, none⟩ = some (.int .i64 (-1 - (k : Int))) ∧ w'.cell? ⟨bl, off + i * 4 + 1, none⟩ = some (.int .i64 0) ∧ w'.cell? ⟨bl, off + i * 4 + 2, none⟩ = some (.bool false) ∧ w'.cell? ⟨bl, off + i * 4 + 3, none⟩ = some (.bool false) := by
  obtain ⟨bl, off, e1, -, p0, p1, p2, p3⟩ := row_at h hb (k := i) (by rw [List.length_replicate]; exact hi)
  rw [List.getElem_replicate] at p0 p1 p2 p3
  exact ⟨bl, off, e1, p0, p1, p2, p3⟩
theorem lies_one {w w' : World} {a : Option Addr} {xs : List Value} (h : Lies w a xs) (hb : Below w.heap.size w w') {k : Nat} {v : Value} (hk : xs[k]? = some v) : ∃ bl off, a = some ⟨bl, off, none⟩ ∧ w'.cell? ⟨bl, off + k, none⟩ = some v := by
  obtain ⟨b1, o1, q1, -, x1⟩ := (h.below hb).cellAt k v hk
  exact ⟨b1, o1, q1, x1⟩
set_option maxHeartbeats 4000000 in
theorem holds_any (lab : Nat → Nat) (B : Nat) (T : Tab) (w : World) (h : Tb lab w B T) : Calls Try.prog 22 #[.pointer (some ⟨T.t, 4, none⟩)] w fun e w' => e = .returned (.bool true) ∧ Below w.heap.size w w' := by
  obtain ⟨k4, -⟩ := h.box.get 4 _ rfl
  obtain ⟨k5, -⟩ := h.box.get 5 _ rfl
  have htl := h.box.1
  obtain ⟨aL, cL, hvL, lL, -⟩ := GRow.lies h.rl
  obtain ⟨aM, cM, hvM, lM, -⟩ := GRow.lies h.rm
  rw [hvL] at k4
  rw [hvM] at k5
  have hm := h.many
  have HL := hide lL
  have HM := hide lM
  have HE := hide h.ent
  have HK4 := hide k4
  have HK5 := hide k5
  clear h hvL hvM lL lM k4 k5
  go_enter Try.func22, Try.ntmps22
  go_wp2
  go_loopw [3] (fun v wr => ∃ k : Nat, v = .int .i64 (k : Int) ∧ k ≤ T.ls.length ∧ Below w.heap.size w wr) (fun v _ => T.ls.length - (intOf v).toNat)
  case atStart => exact ⟨0, rfl, Nat.zero_le _, Below.refl _ _⟩
  case round =>
    obtain ⟨k, rfl, hk, hb⟩ := hrel
    have HB := hide hb
    have k4 : wr.cell? ⟨T.t, 4, none⟩ = some (.slice aL T.ls.length cL) := (hb.cell (p := ⟨T.t, 4, none⟩) htl).trans HK4.out
    clear hb
    by_cases hlt : k < T.ls.length
    · obtain ⟨e, he⟩ : ∃ e, T.ls[k]? = some e := ⟨_, List.getElem?_eq_getElem hlt⟩
      obtain ⟨⟨a1, c1, a2, c2', e1, e2, l1, l2, -, -⟩, hf⟩ := HE.out k e he
      have X1 := hide (fun w' (h : Below w.heap.size w w') => lies_one HL.out h (k := k) (v := .slice a1 e.2.2 c1) (by rw [List.getElem?_map, he, ← e1]; rfl))
      have X2 := hide (fun w' (h : Below w.heap.size w w') => lies_one HM.out h (k := k) (v := .slice a2 (e.2.2 + 1) c2') (by rw [List.getElem?_map, he, ← e2]; rfl))
      obtain ⟨n, hn⟩ : ∃ n, n = e.2.2 := ⟨_, rfl⟩
      rw [← hn] at X1 X2 l1 l2 hf
      have Z1 := hide l1
      have Z2 := hide l2
      obtain ⟨mk, hmk⟩ : ∃ x, x = -1 - (k : Int) := ⟨_, rfl⟩
      have emk : wrap64 (-1 - (k : Int)) = mk := by rw [hmk]; exact wrapI (by unfold I64; omega)
      have emk2 : (-1 : Int) - (k : Int) = mk := hmk.symm
      clear e1 e2 l1 l2 he hn hmk
      go_upto_region 5 with fail
      refine named (P := Code.wp _ _ _ _) ?_
      intro w0 hw0
      obtain ⟨mb, hmb⟩ : ∃ mb, mb = wr.heap.size := ⟨_, rfl⟩
      have M0 := hide (show Cells w0 mb [.int .i64 mk, .int .i64 0, .bool false, .bool false] by rw [hw0, hmb]; exact Cells.new _ _ _)
      have B0 := hide (show Below w.heap.size w w0 by rw [hw0]; exact HB.out.alloc HB.out.size _)
      rw [← hmb]
      clear hw0 hmb k4
      go_wp2_with fail
      go_loopw [5] (fun v wr => ∃ i : Nat, v = .int .i64 (i : Int) ∧ i ≤ n + 1 ∧ Below w.heap.size w wr ∧ Cells wr mb [.int .i64 mk, .int .i64 0, .bool false, .bool false]) (fun v _ => n + 1 - (intOf v).toNat)
      case atStart => exact ⟨0, rfl, Nat.zero_le _, B0.out, M0.out⟩
      case round =>
        obtain ⟨i, rfl, hi, hb, hc⟩ := hrel
        obtain ⟨b2, o2, q2, x2⟩ := X2.out _ hb
        subst q2
        obtain ⟨b1, o1, q1, x1⟩ := X1.out _ hb
        subst q1
        have k4 : wr.cell? ⟨T.t, 4, none⟩ = some (.slice (some ⟨b1, o1, none⟩) T.ls.length cL) := (hb.cell (p := ⟨T.t, 4, none⟩) htl).trans HK4.out
        have k5 : wr.cell? ⟨T.t, 5, none⟩ = some (.slice (some ⟨b2, o2, none⟩) T.ls.length cM) := (hb.cell (p := ⟨T.t, 5, none⟩) htl).trans HK5.out
        have HB' := hide hb
        have HC' := hide hc
        by_cases hli : i < n + 1
        · obtain ⟨b3, o3, q3, y0, y1, y2, y3⟩ := marks_at Z2.out hb hli
          subst q3
          obtain ⟨c0, -⟩ := hc.get 0 _ rfl
          obtain ⟨c1', -⟩ := hc.get 1 _ rfl
          obtain ⟨c2, -⟩ := hc.get 2 _ rfl
          obtain ⟨c3, -⟩ := hc.get 3 _ rfl
          rw [emk2] at y0
          clear hb hc
          by_cases hlj : i < n
          · obtain ⟨b4, o4, q4, z0, z1, z2, z3⟩ := marks_at Z1.out HB'.out hlj
            subst q4
            rw [emk2] at z0
            go_upto_region 8 with fail
            go_quiet (fail)
            go_wp2_with fail
            go_roundw
            case rel => exact ⟨i + 1, by go_num, by omega, below_drewN HB'.out _, HC'.out.below (below_drewN (Below.refl _ _) _)⟩
            case measure => simp [intOf]; omega
          · go_upto_region 8 with fail
            go_quiet (fail)
            go_wp2_with fail
            go_roundw
            case rel => exact ⟨i + 1, by go_num, by omega, below_drewN HB'.out _, HC'.out.below (below_drewN (Below.refl _ _) _)⟩
            case measure => simp [intOf]; omega
        · clear hb hc
          go_wp2_with fail
          go_roundw
          case rel => exact ⟨k + 1, by go_num, by omega, HB'.out⟩
          case measure => simp [intOf]; omega
    · go_wp2_with fail
      go_ret
      exact ⟨rfl, HB.out⟩
end Go.Proofs.Ytokcocmenndlmaa
