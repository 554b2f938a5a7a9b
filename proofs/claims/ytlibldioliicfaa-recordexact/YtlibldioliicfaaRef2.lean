import Derived.Test.YtlibldioliicfaaRef
namespace Go.Proofs.Ytlibldioliicfaa
open Go.RowKit Go.QK

theorem rd_zero {l : List Nat} (h : rdE l ≠ 0) : rdX l = 0 ∧ rdN l = 0 := by
  unfold rdX rdN
  unfold rdE at h
  unfold rd at *
  split
  · exact ⟨rfl, rfl⟩
  · split
    · exact ⟨rfl, rfl⟩
    · split
      · exact ⟨rfl, rfl⟩
      · rename_i h1 h2 h3
        rw [if_neg h1, if_neg h2, if_neg h3] at h
        exact absurd rfl h
theorem stopped (l : List Nat) (k : Nat) (h : ∀ j, j < k → 128 ≤ l.getD j 0) (hk : k ≤ l.length) (hs : k = l.length ∨ l.getD k 0 < 128) : lead l = k := by
  rcases hs with q | q
  · have := lead_ge l k h hk
    have := lead_le l
    omega
  · rcases Nat.lt_or_ge k l.length with r | r
    · exact lead_eq l k h r q
    · have := lead_ge l k h hk
      have := lead_le l
      omega

/-- What 'stands' answers. -/
def standsV (l : List Nat) : Value := .tuple #[.int .u64 ((rdX l : Nat) : Int), .int .i64 ((rdN l : Nat) : Int), .int .i64 ((rdE l : Nat) : Int)]
theorem standsV_bad {l : List Nat} {e : Nat} (h : rdE l = e) (he : e ≠ 0) : standsV l = .tuple #[.int .u64 0, .int .i64 0, .int .i64 (e : Int)] := by
  obtain ⟨h1, h2⟩ := rd_zero (l := l) (by omega)
  unfold standsV
  rw [h1, h2, h]
  rfl

set_option maxHeartbeats 4000000 in
set_option maxRecDepth 100000 in
theorem stands_any (p : Nat) (a : Option Addr) (c : Nat) (l : List Nat) (pos e : Nat) (w : World) (h : Rd w p a c l pos e) :
    Calls Try.prog 86 #[.pointer (some ⟨p, 0, none⟩)] w fun x w' => x = .returned (standsV (l.drop pos)) ∧ ∃ m, w' = w.drewN m := by
  obtain ⟨h1, h2, h3, h4, h5, h6, h7, h8, h9⟩ := h
  obtain ⟨c0, _⟩ := h1.get 0 _ rfl
  obtain ⟨c1, _⟩ := h1.get 1 _ rfl
  have hdl : (l.drop pos).length = l.length - pos := by simp
  have sl := fun w => slice_from (P := Try.prog) (t := 22) (e := 5) Try.underlying22 (fun _ => by kernel_rfl) a l.length c pos w h7 h3
  rw [← hdl] at sl
  have hs := h2.drop pos h3
  have hb := h8.drop pos
  have hml : (l.drop pos).length ≤ 140737488355328 := by omega
  generalize l.drop pos = m at *
  clear h1 h2 h8 h9 h4
  go_enter Try.func86, Try.ntmps86
  go_wp2_with fail
  go_quiet (fail)
  have HS : Hid (Bytes (w.drewN nq) (dropA a c pos) m) := hs
  clear hs sl c0 c1
  go_wp2_with fail
  go_loopw [6] (fun i wr => ∃ k : Nat, i = .int .i64 (k : Int) ∧ k ≤ m.length ∧ k ≤ 10 ∧ (∀ j, j < k → 128 ≤ m.getD j 0) ∧ wr = w.drewN nq) (fun i _ => 10 - (intOf i).toNat)
  case atStart => exact ⟨0, rfl, Nat.zero_le _, by omega, nofun, rfl⟩
  case round =>
    obtain ⟨k, rfl, hk, hk10, hj, rfl⟩ := hrel
    by_cases hk1 : k < m.length
    · have g1 : (k : Int) < (m.length : Int) := by omega
      by_cases hk2 : k < 10
      · have g2 : (k : Int) < 10 := by omega
        obtain ⟨b, off, hab, hbl, hcell⟩ := Bytes.at HS.out hk1
        rw [hab]
        by_cases hx : 128 ≤ m.getD k 0
        · have hjn : ∀ j, j < k + 1 → 128 ≤ m.getD j 0 := by
            intro j hj1
            rcases Nat.lt_or_ge j k with q | q
            · exact hj j q
            · obtain rfl : j = k := by omega
              exact hx
          have g3 : (128 : Int) ≤ ((m.getD k 0 : Nat) : Int) := by omega
          generalize m.getD k 0 = x at *
          go_wp2_with fail
          go_roundw
          case rel => exact ⟨k + 1, by go_num, by omega, by omega, hjn, trivial⟩
          case measure => simp [intOf]; omega
        · have hld : lead m = k := stopped m k hj hk (.inr (by omega))
          have htl : (m.take (k + 1)).length = k + 1 := by simp; omega
          have htk : (m.take (k + 1)).getD k 0 = m.getD k 0 := by simp
          have hx8 : m.getD k 0 < 128 := by omega
          generalize m.getD k 0 = x at *
          have g3 : decide ((128 : Int) ≤ (x : Int)) = false := by simp; omega
          have g4 : ((k : Int) == 10) = false := by simp; omega
          have g5 : ((k : Int) == (m.length : Int)) = false := by simp; omega
          clear hx
          by_cases hk0 : 0 < k
          · have g6 : (0 : Int) < (k : Int) := by omega
            by_cases hx0 : x = 0
            · have g7 : ((x : Int) == 0) = true := by simp; exact hx0
              have hE : rdE m = 22 := rd_bad (by omega) (by omega) (by
                rw [hld]
                unfold badForm
                rw [htl, Nat.add_sub_cancel, htk]
                omega)
              have HV : Hid (standsV m = .tuple #[.int .u64 0, .int .i64 0, .int .i64 ((22 : Nat) : Int)]) := standsV_bad hE (by decide)
              clear htk hE hj
              go_wp2_with fail
              exact bodyPost_ret (v := .tuple #[.int .u64 0, .int .i64 0, .int .i64 22]) (by simp [results, Try.results86, go_sem]) rfl ⟨by rw [HV.out]; rfl, nq, rfl⟩
            · have g7 : ((x : Int) == 0) = false := by simp; exact hx0
              by_cases hk9 : k = 9
              · have g8 : ((k : Int) == 9) = true := by simp; omega
                have hk9a : 9 ≤ k := by omega
                have hk9b : k ≤ 9 := by omega
                clear hk9
                by_cases hx1 : 1 < x
                · have g9 : (1 : Int) < (x : Int) := by omega
                  have hE : rdE m = 22 := rd_bad (by omega) (by omega) (by
                    rw [hld]
                    unfold badForm
                    rw [htl, Nat.add_sub_cancel, htk]
                    omega)
                  have HV : Hid (standsV m = .tuple #[.int .u64 0, .int .i64 0, .int .i64 ((22 : Nat) : Int)]) := standsV_bad hE (by decide)
                  clear htk hE hj
                  go_wp2_with fail
                  exact bodyPost_ret (v := .tuple #[.int .u64 0, .int .i64 0, .int .i64 22]) (by simp [results, Try.results86, go_sem]) rfl ⟨by rw [HV.out]; rfl, nq, rfl⟩
                · have g9 : decide ((1 : Int) < (x : Int)) = false := by simp; omega
                  have hnb : ¬ badForm (m.take (k + 1)) := by
                    unfold badForm
                    rw [htl, Nat.add_sub_cancel, htk]
                    omega
                  obtain ⟨f1, f2, f3⟩ := rd_fine (l := m) (by omega) (by omega) (by rw [hld]; exact hnb)
                  rw [hld] at f2 f3
                  obtain ⟨_, _, _, _, hlt64, _, hdec⟩ := rd_good hb (by rw [rd_parts, f1] : rd m = (0, rdX m, rdN m))
                  have HV : Hid (standsV m = .tuple #[.int .u64 ((dec (m.take (k + 1)) : Nat) : Int), .int .i64 ((k + 1 : Nat) : Int), .int .i64 ((0 : Nat) : Int)]) := by
                    unfold Hid standsV
                    rw [f1, f2, f3]
                  rw [f3] at hlt64
                  have HC : Hid (∀ t, t < k + 1 → (w.drewN nq).cell? ⟨b, off + t, none⟩ = some (.int .u8 (((m.take (k + 1)).getD t 0 : Nat) : Int))) := by
                    intro t ht
                    obtain ⟨b', off', hab', _, hc'⟩ := Bytes.at HS.out (i := t) (by omega)
                    rw [hab] at hab'
                    simp only [Option.some.injEq, Addr.mk.injEq] at hab'
                    obtain ⟨rfl, rfl, _⟩ := hab'
                    rw [hc']
                    simp [ht]
                  have hLb : AllB (m.take (k + 1)) := hb.take _
                  generalize m.take (k + 1) = L at *
                  have hd0 : dec (L.drop (k + 1)) = 0 := by rw [List.drop_of_length_le (by omega)]; rfl
                  clear hdec f1 f2 f3 hnb htk hj
                  go_wp2_with fail
                  go_loopw [7, 8] (fun y i wr => ∃ t : Nat, t ≤ k + 1 ∧ i = .int .i64 ((t : Int) - 1) ∧ y = .int .u64 ((dec (L.drop t) : Nat) : Int) ∧ wr = w.drewN nq) (fun _ i _ => (intOf i + 1).toNat)
                  case atStart => exact ⟨k + 1, Nat.le_refl _, by go_num, by rw [hd0]; rfl, rfl⟩
                  case round =>
                    obtain ⟨t, ht, rfl, rfl, rfl⟩ := hrel
                    by_cases ht0 : 0 < t
                    · obtain ⟨q, rfl⟩ : ∃ q, t = q + 1 := ⟨t - 1, by omega⟩
                      have ei : (((q + 1 : Nat) : Int) - 1) = (q : Int) := by omega
                      rw [ei]
                      have hcq := HC.out q (by omega)
                      have hst := dec_drop L q (by omega)
                      have hle := dec_drop_le L q
                      have hxq := hLb.get q
                      generalize L.getD q 0 = y at *
                      generalize dec (L.drop (q + 1)) = d1 at *
                      generalize hd : dec (L.drop q) = d0 at *
                      have r1 : IntKind.u64.wrap ((d1 : Int) * 128) = (d1 : Int) * 128 := by rw [IntKind.wrap_u64]; omega
                      have r2 : IntKind.u64.wrap ((y : Int) % 128) = (y : Int) % 128 := by rw [IntKind.wrap_u64]; omega
                      have r3 : IntKind.u64.wrap ((d1 : Int) * 128 + (y : Int) % 128) = (d0 : Int) := by rw [IntKind.wrap_u64]; omega
                      have hq0 : ¬ (q : Int) < 0 := by omega
                      have hqm : (q : Int) < (m.length : Int) := by omega
                      clear ei hst
                      go_wp2_with fail
                      go_roundw
                      case rel => exact ⟨q, by omega, by go_num, by rw [hd], trivial⟩
                      case measure => simp [intOf]
                    · obtain rfl : t = 0 := by omega
                      rw [List.drop_zero]
                      go_wp2_with fail
                      exact bodyPost_ret (v := .tuple #[.int .u64 ((dec L : Nat) : Int), .int .i64 ((k : Int) + 1), .int .i64 0]) (by simp [results, Try.results86, go_sem]) rfl ⟨by rw [HV.out]; simp, nq, rfl⟩
              · have g8 : ((k : Int) == 9) = false := by simp; omega
                have hnb : ¬ badForm (m.take (k + 1)) := by
                  unfold badForm
                  rw [htl, Nat.add_sub_cancel, htk]
                  omega
                obtain ⟨f1, f2, f3⟩ := rd_fine (l := m) (by omega) (by omega) (by rw [hld]; exact hnb)
                rw [hld] at f2 f3
                obtain ⟨_, _, _, _, hlt64, _, hdec⟩ := rd_good hb (by rw [rd_parts, f1] : rd m = (0, rdX m, rdN m))
                have HV : Hid (standsV m = .tuple #[.int .u64 ((dec (m.take (k + 1)) : Nat) : Int), .int .i64 ((k + 1 : Nat) : Int), .int .i64 ((0 : Nat) : Int)]) := by
                  unfold Hid standsV
                  rw [f1, f2, f3]
                rw [f3] at hlt64
                have HC : Hid (∀ t, t < k + 1 → (w.drewN nq).cell? ⟨b, off + t, none⟩ = some (.int .u8 (((m.take (k + 1)).getD t 0 : Nat) : Int))) := by
                  intro t ht
                  obtain ⟨b', off', hab', _, hc'⟩ := Bytes.at HS.out (i := t) (by omega)
                  rw [hab] at hab'
                  simp only [Option.some.injEq, Addr.mk.injEq] at hab'
                  obtain ⟨rfl, rfl, _⟩ := hab'
                  rw [hc']
                  simp [ht]
                have hLb : AllB (m.take (k + 1)) := hb.take _
                generalize m.take (k + 1) = L at *
                have hd0 : dec (L.drop (k + 1)) = 0 := by rw [List.drop_of_length_le (by omega)]; rfl
                clear hdec f1 f2 f3 hnb htk hj
                go_wp2_with fail
                go_loopw [7, 8] (fun y i wr => ∃ t : Nat, t ≤ k + 1 ∧ i = .int .i64 ((t : Int) - 1) ∧ y = .int .u64 ((dec (L.drop t) : Nat) : Int) ∧ wr = w.drewN nq) (fun _ i _ => (intOf i + 1).toNat)
                case atStart => exact ⟨k + 1, Nat.le_refl _, by go_num, by rw [hd0]; rfl, rfl⟩
                case round =>
                  obtain ⟨t, ht, rfl, rfl, rfl⟩ := hrel
                  by_cases ht0 : 0 < t
                  · obtain ⟨q, rfl⟩ : ∃ q, t = q + 1 := ⟨t - 1, by omega⟩
                    have ei : (((q + 1 : Nat) : Int) - 1) = (q : Int) := by omega
                    rw [ei]
                    have hcq := HC.out q (by omega)
                    have hst := dec_drop L q (by omega)
                    have hle := dec_drop_le L q
                    have hxq := hLb.get q
                    generalize L.getD q 0 = y at *
                    generalize dec (L.drop (q + 1)) = d1 at *
                    generalize hd : dec (L.drop q) = d0 at *
                    have r1 : IntKind.u64.wrap ((d1 : Int) * 128) = (d1 : Int) * 128 := by rw [IntKind.wrap_u64]; omega
                    have r2 : IntKind.u64.wrap ((y : Int) % 128) = (y : Int) % 128 := by rw [IntKind.wrap_u64]; omega
                    have r3 : IntKind.u64.wrap ((d1 : Int) * 128 + (y : Int) % 128) = (d0 : Int) := by rw [IntKind.wrap_u64]; omega
                    have hq0 : ¬ (q : Int) < 0 := by omega
                    have hqm : (q : Int) < (m.length : Int) := by omega
                    clear ei hst
                    go_wp2_with fail
                    go_roundw
                    case rel => exact ⟨q, by omega, by go_num, by rw [hd], trivial⟩
                    case measure => simp [intOf]
                  · obtain rfl : t = 0 := by omega
                    rw [List.drop_zero]
                    go_wp2_with fail
                    exact bodyPost_ret (v := .tuple #[.int .u64 ((dec L : Nat) : Int), .int .i64 ((k : Int) + 1), .int .i64 0]) (by simp [results, Try.results86, go_sem]) rfl ⟨by rw [HV.out]; simp, nq, rfl⟩
          · have g6 : decide ((0 : Int) < (k : Int)) = false := by simp; omega
            have g8 : ((k : Int) == 9) = false := by simp; omega
            have hnb : ¬ badForm (m.take (k + 1)) := by
              unfold badForm
              rw [htl, Nat.add_sub_cancel, htk]
              omega
            obtain ⟨f1, f2, f3⟩ := rd_fine (l := m) (by omega) (by omega) (by rw [hld]; exact hnb)
            rw [hld] at f2 f3
            obtain ⟨_, _, _, _, hlt64, _, hdec⟩ := rd_good hb (by rw [rd_parts, f1] : rd m = (0, rdX m, rdN m))
            have HV : Hid (standsV m = .tuple #[.int .u64 ((dec (m.take (k + 1)) : Nat) : Int), .int .i64 ((k + 1 : Nat) : Int), .int .i64 ((0 : Nat) : Int)]) := by
              unfold Hid standsV
              rw [f1, f2, f3]
            rw [f3] at hlt64
            have HC : Hid (∀ t, t < k + 1 → (w.drewN nq).cell? ⟨b, off + t, none⟩ = some (.int .u8 (((m.take (k + 1)).getD t 0 : Nat) : Int))) := by
              intro t ht
              obtain ⟨b', off', hab', _, hc'⟩ := Bytes.at HS.out (i := t) (by omega)
              rw [hab] at hab'
              simp only [Option.some.injEq, Addr.mk.injEq] at hab'
              obtain ⟨rfl, rfl, _⟩ := hab'
              rw [hc']
              simp [ht]
            have hLb : AllB (m.take (k + 1)) := hb.take _
            generalize m.take (k + 1) = L at *
            have hd0 : dec (L.drop (k + 1)) = 0 := by rw [List.drop_of_length_le (by omega)]; rfl
            clear hdec f1 f2 f3 hnb htk hj
            go_wp2_with fail
            go_loopw [7, 8] (fun y i wr => ∃ t : Nat, t ≤ k + 1 ∧ i = .int .i64 ((t : Int) - 1) ∧ y = .int .u64 ((dec (L.drop t) : Nat) : Int) ∧ wr = w.drewN nq) (fun _ i _ => (intOf i + 1).toNat)
            case atStart => exact ⟨k + 1, Nat.le_refl _, by go_num, by rw [hd0]; rfl, rfl⟩
            case round =>
              obtain ⟨t, ht, rfl, rfl, rfl⟩ := hrel
              by_cases ht0 : 0 < t
              · obtain ⟨q, rfl⟩ : ∃ q, t = q + 1 := ⟨t - 1, by omega⟩
                have ei : (((q + 1 : Nat) : Int) - 1) = (q : Int) := by omega
                rw [ei]
                have hcq := HC.out q (by omega)
                have hst := dec_drop L q (by omega)
                have hle := dec_drop_le L q
                have hxq := hLb.get q
                generalize L.getD q 0 = y at *
                generalize dec (L.drop (q + 1)) = d1 at *
                generalize hd : dec (L.drop q) = d0 at *
                have r1 : IntKind.u64.wrap ((d1 : Int) * 128) = (d1 : Int) * 128 := by rw [IntKind.wrap_u64]; omega
                have r2 : IntKind.u64.wrap ((y : Int) % 128) = (y : Int) % 128 := by rw [IntKind.wrap_u64]; omega
                have r3 : IntKind.u64.wrap ((d1 : Int) * 128 + (y : Int) % 128) = (d0 : Int) := by rw [IntKind.wrap_u64]; omega
                have hq0 : ¬ (q : Int) < 0 := by omega
                have hqm : (q : Int) < (m.length : Int) := by omega
                clear ei hst
                go_wp2_with fail
                go_roundw
                case rel => exact ⟨q, by omega, by go_num, by rw [hd], trivial⟩
                case measure => simp [intOf]
              · obtain rfl : t = 0 := by omega
                rw [List.drop_zero]
                go_wp2_with fail
                exact bodyPost_ret (v := .tuple #[.int .u64 ((dec L : Nat) : Int), .int .i64 ((k : Int) + 1), .int .i64 0]) (by simp [results, Try.results86, go_sem]) rfl ⟨by rw [HV.out]; simp, nq, rfl⟩
      · obtain rfl : k = 10 := by omega
        have hE : rdE m = 22 := rd_far (lead_ge m 10 hj hk)
        have HV : Hid (standsV m = .tuple #[.int .u64 0, .int .i64 0, .int .i64 ((22 : Nat) : Int)]) := standsV_bad hE (by decide)
        go_wp2_with fail
        exact bodyPost_ret (v := .tuple #[.int .u64 0, .int .i64 0, .int .i64 22]) (by simp [results, Try.results86, go_sem]) rfl ⟨by rw [HV.out]; rfl, nq, rfl⟩
    · obtain hkm : k = m.length := by omega
      have hld : lead m = k := stopped m k hj hk (.inl hkm)
      have g1 : decide ((k : Int) < (m.length : Int)) = false := by simp; omega
      by_cases hk2 : k = 10
      · have hE : rdE m = 22 := rd_far (by omega)
        have HV : Hid (standsV m = .tuple #[.int .u64 0, .int .i64 0, .int .i64 ((22 : Nat) : Int)]) := standsV_bad hE (by decide)
        have g4 : ((k : Int) == 10) = true := by simp; omega
        clear hkm hld hk2
        go_wp2_with fail
        exact bodyPost_ret (v := .tuple #[.int .u64 0, .int .i64 0, .int .i64 22]) (by simp [results, Try.results86, go_sem]) rfl ⟨by rw [HV.out]; rfl, nq, rfl⟩
      · have hE : rdE m = 20 := rd_end (by omega) (by omega)
        have HV : Hid (standsV m = .tuple #[.int .u64 0, .int .i64 0, .int .i64 ((20 : Nat) : Int)]) := standsV_bad hE (by decide)
        have g4 : ((k : Int) == 10) = false := by simp; omega
        have g5 : ((k : Int) == (m.length : Int)) = true := by simp; omega
        clear hkm hld hk2
        go_wp2_with fail
        exact bodyPost_ret (v := .tuple #[.int .u64 0, .int .i64 0, .int .i64 20]) (by simp [results, Try.results86, go_sem]) rfl ⟨by rw [HV.out]; rfl, nq, rfl⟩
end Go.Proofs.Ytlibldioliicfaa
