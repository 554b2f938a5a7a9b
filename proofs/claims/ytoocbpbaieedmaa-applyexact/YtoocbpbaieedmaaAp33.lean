import Derived.Test.YtoocbpbaieedmaaAp32
namespace Go.Proofs.Ytoocbpbaieedmaa
open Go.RowKit Go.QK Quota
set_option maxRecDepth 100000
theorem Mk.at {w : World} {sz : Nat} {a : Option Addr} {n c : Nat} {m : Int} (h : Mk w sz (.slice a n c) m) {i : Nat} (hi : i < n) : ∃ g, a = some ⟨g, 0, none⟩ ∧ w.cell? ⟨g, i * sz, none⟩ = some (.int .i64 m) := by
  obtain ⟨a', n', c', e, -, h⟩ := h
  cases e
  rcases h with h | ⟨g, h1, -, h3⟩
  · omega
  · exact ⟨g, h1, h3 i hi⟩
theorem Mk.form {w : World} {sz : Nat} {v : Value} {m : Int} (h : Mk w sz v m) : ∃ a n c, v = .slice a n c ∧ n ≤ 1000 := by
  obtain ⟨a, n, c, e, hn, -⟩ := h
  exact ⟨a, n, c, e, hn⟩
/-- A list of the book, with its mark. -/
theorem BK.listAt {w : World} {S : Nat → Prop} {b K : Nat} {vs : List Value} {Rs : List (List Value)} (h : BK w S b vs Rs K) {j k : Nat} {v : Value} {R : List Value} (hv : vs[j]? = some v) (hR : Rs[j]? = some R) (hl : R.length = K) (hk : k < K) :
    ∃ pb po q a n c, v = .slice (some ⟨pb, po, none⟩) K q ∧ w.cell? ⟨b, j, none⟩ = some v ∧ w.cell? ⟨pb, po + k, none⟩ = some (.slice a n c) ∧ n ≤ 1000 ∧ Mk w (zT j) (.slice a n c) (1000000 + (k : Int)) := by
  obtain ⟨p, q, e, l, -⟩ := GRow.lies (h.row j v R hv hR)
  obtain ⟨lv, hlv⟩ : ∃ lv, R[k]? = some lv := ⟨_, List.getElem?_eq_getElem (by omega)⟩
  obtain ⟨pb, po, rfl, -, hc⟩ := l.cellAt k lv hlv
  obtain ⟨hm, -⟩ := h.mks j R k lv hk hR hlv
  obtain ⟨a, n, c, rfl, hn⟩ := hm.form
  exact ⟨pb, po, q, a, n, c, by rw [e, hl], (h.box.get j v hv).1, hc, hn, hm⟩
set_option maxHeartbeats 8000000 in
theorem bears_any (S : Nat → Prop) (b K k : Nat) (vs : List Value) (Rs : List (List Value)) (w : World) (h : BK w S b vs Rs K) (hK : ∀ (j : Nat) (R : List Value), Rs[j]? = some R → R.length = K) (hK2 : K ≤ 200) (hk : k < K) :
    Calls Try.prog 29 #[ptr b, .int .i64 (k : Int)] w fun e w' => e = .returned (.bool true) ∧ w = w' := by
  obtain ⟨v0, v1, v2, v3, v4, v5, rfl⟩ := six h.l1
  obtain ⟨R0, R1, R2, R3, R4, R5, rfl⟩ := six h.l2
  obtain ⟨p0, o0, q0, a0, n0, c0, rfl, k0, y0, l0, m0⟩ := h.listAt (j := 0) rfl rfl (hK 0 R0 rfl) hk
  obtain ⟨p1, o1, q1, a1, n1, c1, rfl, k1, y1, l1, m1⟩ := h.listAt (j := 1) rfl rfl (hK 1 R1 rfl) hk
  obtain ⟨p2, o2, q2, a2, n2, c2, rfl, k2, y2, l2, m2⟩ := h.listAt (j := 2) rfl rfl (hK 2 R2 rfl) hk
  obtain ⟨p3, o3, q3, a3, n3, c3, rfl, k3, y3, l3, m3⟩ := h.listAt (j := 3) rfl rfl (hK 3 R3 rfl) hk
  obtain ⟨p4, o4, q4, a4, n4, c4, rfl, k4, y4, l4, m4⟩ := h.listAt (j := 4) rfl rfl (hK 4 R4 rfl) hk
  obtain ⟨p5, o5, q5, a5, n5, c5, rfl, k5, y5, l5, m5⟩ := h.listAt (j := 5) rfl rfl (hK 5 R5 rfl) hk
  have M0 := hide m0
  have M1 := hide m1
  have M2 := hide m2
  have M3 := hide m3
  have M4 := hide m4
  have M5 := hide m5
  clear h hK m0 m1 m2 m3 m4 m5
  obtain ⟨m, hm⟩ : ∃ m : Int, m = 1000000 + (k : Int) := ⟨_, rfl⟩
  rw [← hm] at M0
  rw [← hm] at M1
  rw [← hm] at M2
  rw [← hm] at M3
  rw [← hm] at M4
  rw [← hm] at M5
  have HM := hide hm
  clear hm
  go_enter Try.func29, Try.ntmps29
  go_wp2_with fail
  rw [← HM.out]
  go_loop [6] (fun v => ∃ i : Nat, v = .int .i64 (i : Int) ∧ i ≤ n1) (fun v => n1 - (intOf v).toNat)
  case atStart => exact ⟨0, rfl, Nat.zero_le _⟩
  case round =>
    obtain ⟨i, rfl, hi⟩ := hrel
    by_cases hlt : i < n1
    · obtain ⟨g1, e1, z1⟩ := Mk.at M1.out hlt
      subst e1
      change w.cell? ⟨g1, i * 5, none⟩ = _ at z1
      by_cases hlj : i < n0
      · obtain ⟨g0, e0, z0⟩ := Mk.at M0.out hlj
        subst e0
        change w.cell? ⟨g0, i * 5, none⟩ = _ at z0
        go_wp2_with fail
        go_round
        case rel => first | exact ⟨i + 1, by go_num, by omega⟩ | ((repeat apply Exists.intro); exact ⟨⟨i + 1, by go_num, by omega⟩, rfl⟩)
        case measure => simp [intOf]; omega
      · go_wp2_with fail
        go_round
        case rel => first | exact ⟨i + 1, by go_num, by omega⟩ | ((repeat apply Exists.intro); exact ⟨⟨i + 1, by go_num, by omega⟩, rfl⟩)
        case measure => simp [intOf]; omega
    · go_wp2_with fail
      clear hlt hi
      go_loop [7] (fun v => ∃ i : Nat, v = .int .i64 (i : Int) ∧ i ≤ n3) (fun v => n3 - (intOf v).toNat)
      case atStart => exact ⟨0, rfl, Nat.zero_le _⟩
      case round =>
        obtain ⟨i, rfl, hi⟩ := hrel
        by_cases hlt : i < n3
        · obtain ⟨g3, e3, z3⟩ := Mk.at M3.out hlt
          subst e3
          change w.cell? ⟨g3, i * 2, none⟩ = _ at z3
          by_cases hlj : i < n2
          · obtain ⟨g2, e2, z2⟩ := Mk.at M2.out hlj
            subst e2
            change w.cell? ⟨g2, i * 2, none⟩ = _ at z2
            go_wp2_with fail
            go_round
            case rel => first | exact ⟨i + 1, by go_num, by omega⟩ | ((repeat apply Exists.intro); exact ⟨⟨i + 1, by go_num, by omega⟩, rfl⟩)
            case measure => simp [intOf]; omega
          · go_wp2_with fail
            go_round
            case rel => first | exact ⟨i + 1, by go_num, by omega⟩ | ((repeat apply Exists.intro); exact ⟨⟨i + 1, by go_num, by omega⟩, rfl⟩)
            case measure => simp [intOf]; omega
        · go_wp2_with fail
          clear hlt hi
          go_loop [8] (fun v => ∃ i : Nat, v = .int .i64 (i : Int) ∧ i ≤ n5) (fun v => n5 - (intOf v).toNat)
          case atStart => exact ⟨0, rfl, Nat.zero_le _⟩
          case round =>
            obtain ⟨i, rfl, hi⟩ := hrel
            by_cases hlt : i < n5
            · obtain ⟨g5, e5, z5⟩ := Mk.at M5.out hlt
              subst e5
              change w.cell? ⟨g5, i * 1, none⟩ = _ at z5
              rw [Nat.mul_one] at z5
              by_cases hlj : i < n4
              · obtain ⟨g4, e4, z4⟩ := Mk.at M4.out hlj
                subst e4
                change w.cell? ⟨g4, i * 1, none⟩ = _ at z4
                rw [Nat.mul_one] at z4
                go_wp2_with fail
                go_round
                case rel => first | exact ⟨i + 1, by go_num, by omega⟩ | ((repeat apply Exists.intro); exact ⟨⟨i + 1, by go_num, by omega⟩, rfl⟩)
                case measure => simp [intOf]; omega
              · go_wp2_with fail
                go_round
                case rel => first | exact ⟨i + 1, by go_num, by omega⟩ | ((repeat apply Exists.intro); exact ⟨⟨i + 1, by go_num, by omega⟩, rfl⟩)
                case measure => simp [intOf]; omega
            · go_wp2_with fail
              go_ret
              exact ⟨rfl, rfl⟩
end Go.Proofs.Ytoocbpbaieedmaa
