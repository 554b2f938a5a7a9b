import Derived.Test.YtlibldioliicfaaRef2
namespace Go.Proofs.Ytlibldioliicfaa
open Go.RowKit Go.QK

set_option maxHeartbeats 1000000 in
set_option maxRecDepth 100000 in
theorem rU_any (most : Nat) (p : Nat) (a : Option Addr) (c : Nat) (l : List Nat) (pos e : Nat) (w : World) (h : Rd w p a c l pos e) :
    Calls Try.prog 61 #[.pointer (some ⟨p, 0, none⟩), .int .u64 (most : Int)] w fun x w' =>
      x = .returned (.int .u64 ((uV most l pos e : Nat) : Int)) ∧ Rd w' p a c l (uP most l pos e) (uE most l pos e) ∧ Keep (fun k => k = p) w w' := by
  obtain ⟨c1, f1⟩ := h.1.get 1 _ rfl
  obtain ⟨c2, f2⟩ := h.1.get 2 _ rfl
  have hb : AllB l := h.2.2.2.2.2.2.2.1
  have hp7 : pos ≤ l.length := h.2.2.2.2.2.2.1
  have hl6 : l.length ≤ 140737488355328 := h.2.2.2.2.2.1
  by_cases he : e = 0
  · subst he
    have g0 : ((0 : Nat) : Int) = 0 := rfl
    rw [g0] at c2
    have HS := stands_any p a c l pos 0 w h
    have HF := fun m x => Rd.fault (w := w.drewN m) h x
    have HN := fun m x hx => Rd.stand (w := w.drewN m) h x hx
    by_cases hE : rdE (l.drop pos) = 0
    · obtain ⟨y1, g1, g2, g3, g4, y2, y3⟩ := rd_good (hb.drop pos) (by rw [rd_parts, hE] : rd (l.drop pos) = (0, rdX (l.drop pos), rdN (l.drop pos)))
      simp at g3
      unfold uV uP uE standsV at *
      rw [hE] at HS
      generalize rdX (l.drop pos) = x at *
      generalize rdN (l.drop pos) = n at *
      clear y1 y2 y3
      by_cases hm : most < x
      · rw [if_pos (by omega), if_pos (by omega), if_neg (by omega), if_neg (by omega), if_pos hm]
        have HFH : Hid _ := HF
        have HSH : Hid _ := HS
        have gm : (most : Int) < (x : Int) := by omega
        clear HF HN HS h
        go_enter Try.func61, Try.ntmps61
        go_wp2_with fail
        refine Calls.mono HSH.out ?_
        rintro r w1 ⟨rfl, m, rfl⟩
        go_wp2_with fail
        go_ret
        exact ⟨rfl, HFH.out m 23, keepDrew _ _ _ _ _⟩
      · rw [if_neg (by omega), if_neg (by omega), if_neg (by omega), if_neg (by omega), if_neg hm]
        have HNH : Hid _ := HN
        have HSH : Hid _ := HS
        have gm : decide ((most : Int) < (x : Int)) = false := by simp; omega
        clear HF HN HS h
        go_enter Try.func61, Try.ntmps61
        go_wp2_with fail
        refine Calls.mono HSH.out ?_
        rintro r w1 ⟨rfl, m, rfl⟩
        go_wp2_with fail
        go_ret
        exact ⟨rfl, HNH.out m (pos + n) (by omega), keepDrew _ _ _ _ _⟩
    · obtain ⟨z1, z2⟩ := rd_zero hE
      unfold uV uP uE standsV at *
      rw [if_pos (by omega), if_pos (by omega), if_neg (by omega), if_pos hE]
      rw [z1, z2] at HS
      have hne := errNe _ hE
      generalize rdE (l.drop pos) = er at *
      have hbq : ((er : Int) == 0) = false := by simp; omega
      have HFH : Hid _ := HF
      have HSH : Hid _ := HS
      clear HF HN HS h z1 z2
      go_enter Try.func61, Try.ntmps61
      go_wp2_with fail
      refine Calls.mono HSH.out ?_
      rintro r w1 ⟨rfl, m, rfl⟩
      go_wp2_with fail
      go_ret
      exact ⟨rfl, HFH.out m er, keepDrew _ _ _ _ _⟩
  · have hne := errNe e he
    unfold uV uP uE
    rw [if_pos (.inl he), if_pos (.inl he), if_pos he]
    have HH : Hid (Rd w p a c l pos e) := h
    clear h
    go_enter Try.func61, Try.ntmps61
    go_wp2_with fail
    go_ret
    exact ⟨rfl, HH.out, Keep.refl _ _⟩

set_option maxRecDepth 100000 in
theorem rS_any (p : Nat) (a : Option Addr) (c : Nat) (l : List Nat) (pos e : Nat) (w : World) (h : Rd w p a c l pos e) :
    Calls Try.prog 65 #[.pointer (some ⟨p, 0, none⟩)] w fun x w' =>
      x = .returned (.int .i64 (uns (uV 18446744073709551615 l pos e))) ∧ Rd w' p a c l (uP 18446744073709551615 l pos e) (uE 18446744073709551615 l pos e) ∧ Keep (fun k => k = p) w w' := by
  have hb : AllB l := h.2.2.2.2.2.2.2.1
  have hv := uV_lt 18446744073709551615 l pos e hb
  have hu := rU_any 18446744073709551615 p a c l pos e w h
  have hf := fun w => rUnsign_any _ w hv
  generalize uV 18446744073709551615 l pos e = x at *
  generalize uP 18446744073709551615 l pos e = y at *
  generalize uE 18446744073709551615 l pos e = z at *
  go_enter Try.func65, Try.ntmps65
  go_wp2_with fail
  refine hu.mono ?_
  rintro q w1 ⟨rfl, r1, r2⟩
  go_wp2_with fail
  refine (hf _).mono ?_
  rintro e w' ⟨rfl, rfl⟩
  go_wp2_with fail
  go_ret
  exact ⟨rfl, r1, r2⟩


end Go.Proofs.Ytlibldioliicfaa
