import Derived.Test.YtimakfnlcgedkaaRg26
namespace Go.Proofs.Ytimakfnlcgedkaa
open Go.RowKit Go.QK Go.Maps Go.QM Go.QR
set_option maxRecDepth 100000
theorem marks_at {w : World} {a : Option Addr} {k n i : Nat} (h : Lies w a (marks k n)) (hi : i < n) : ∃ bl off, a = some ⟨bl, off, none⟩ ∧ w.cell? ⟨bl, off + i, none⟩ = some (.int .i64 (mark k)) := by
  obtain ⟨bl, off, e1, -, hc⟩ := h.cellAt i (.int .i64 (mark k)) (by rw [List.getElem?_replicate, if_pos hi])
  exact ⟨bl, off, e1, hc⟩
set_option maxHeartbeats 4000000 in
theorem holds_any (lab : Nat → Nat) (B : Nat) (T : Tab) (w : World) (h : Tb lab w B T) : Calls Try.prog 21 #[.pointer (some ⟨T.t, 4, none⟩)] w fun e w' => e = .returned (.bool true) ∧ w = w' := by
  obtain ⟨k4, -⟩ := h.box.get 4 _ rfl
  obtain ⟨k5, -⟩ := h.box.get 5 _ rfl
  obtain ⟨aL, cL, hvL, lL, -⟩ := GRow.lies h.rl
  obtain ⟨aM, cM, hvM, lM, -⟩ := GRow.lies h.rm
  rw [hvL] at k4
  rw [hvM] at k5
  have hm := h.many
  have HL := hide lL
  have HM := hide lM
  have HE := hide h.ent
  clear h hvL hvM lL lM
  go_enter Try.func21, Try.ntmps21
  go_wp2
  go_loop [3] (fun v => ∃ k : Nat, v = .int .i64 (k : Int) ∧ k ≤ T.ls.length) (fun v => T.ls.length - (intOf v).toNat)
  case atStart => exact ⟨0, rfl, Nat.zero_le _⟩
  case round =>
    obtain ⟨k, rfl, hk⟩ := hrel
    by_cases hlt : k < T.ls.length
    · obtain ⟨e, he⟩ : ∃ e, T.ls[k]? = some e := ⟨_, List.getElem?_eq_getElem hlt⟩
      obtain ⟨⟨a1, c1, a2, c2', e1, e2, l1, l2, -, -⟩, hf⟩ := HE.out k e he
      obtain ⟨b1, o1, q1, -, x1⟩ := HL.out.cellAt k e.1 (by rw [List.getElem?_map, he]; rfl)
      obtain ⟨b2, o2, q2, -, x2⟩ := HM.out.cellAt k e.2.1 (by rw [List.getElem?_map, he]; rfl)
      subst q1 q2
      rw [e1] at x1
      rw [e2] at x2
      obtain ⟨n, hn⟩ : ∃ n, n = e.2.2 := ⟨_, rfl⟩
      rw [← hn] at x1 x2 l1 l2 hf
      have Z1 := hide l1
      have Z2 := hide l2
      have emk : wrap64 (-1 - (k : Int)) = mark k := by unfold mark; exact wrapI (by unfold I64; omega)
      have emk2 : (-1 : Int) - (k : Int) = mark k := rfl
      clear e1 e2 l1 l2 he hn
      go_wp2
      go_loop [4] (fun v => ∃ i : Nat, v = .int .i64 (i : Int) ∧ i ≤ n + 1) (fun v => n + 1 - (intOf v).toNat)
      case atStart => exact ⟨0, rfl, Nat.zero_le _⟩
      case round =>
        obtain ⟨i, rfl, hi⟩ := hrel
        by_cases hli : i < n + 1
        · obtain ⟨b3, o3, q3, x3⟩ := marks_at Z2.out hli
          subst q3
          by_cases hlj : i < n
          · obtain ⟨b4, o4, q4, x4⟩ := marks_at Z1.out hlj
            subst q4
            go_wp2
            go_round
            case rel => first | exact ⟨i + 1, by go_num, by omega⟩ | ((repeat apply Exists.intro); exact ⟨⟨i + 1, by go_num, by omega⟩, rfl⟩)
            case measure => simp [intOf]; omega
          · go_wp2
            go_round
            case rel => first | exact ⟨i + 1, by go_num, by omega⟩ | ((repeat apply Exists.intro); exact ⟨⟨i + 1, by go_num, by omega⟩, rfl⟩)
            case measure => simp [intOf]; omega
        · go_wp2
          go_round
          case rel => first | exact ⟨k + 1, by go_num, by omega⟩ | ((repeat apply Exists.intro); exact ⟨⟨k + 1, by go_num, by omega⟩, rfl⟩)
          case measure => simp [intOf]; omega
    · go_wp2
      go_ret
      exact ⟨rfl, rfl⟩
end Go.Proofs.Ytimakfnlcgedkaa
