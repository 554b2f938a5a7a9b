import Derived.Test.YtllpfojkbeloeaaDoorAwake
import Derived.Deep.DeepCutAuto
namespace Go.Proofs.YtllpfojkbeloeaaDoor
open Go.RowKit Go.QK

theorem rd_at {l : List Nat} {pos n : Nat} {r : List Nat} (h : l.drop pos = form n ++ r) (hn : n < 18446744073709551616) : rdE (l.drop pos) = 0 ∧ rdX (l.drop pos) = n ∧ rdN (l.drop pos) = (form n).length := by
  unfold rdE rdX rdN
  rw [h, rd_form r hn]
  exact ⟨rfl, rfl, rfl⟩
theorem u_form {l : List Nat} {pos n : Nat} {r : List Nat} (most : Nat) (h : l.drop pos = form n ++ r) (hn : n < 18446744073709551616) (hm : n ≤ most) : uV most l pos 0 = n ∧ uP most l pos 0 = pos + (form n).length ∧ uE most l pos 0 = 0 := by
  obtain ⟨h1, h2, h3⟩ := rd_at h hn
  unfold uV uP uE
  rw [h1, h2, h3]
  have : ¬ most < n := by omega
  simp [this]
theorem u_cut {l : List Nat} {pos n : Nat} (most : Nat) (h : l.drop pos = (form n).dropLast) (hn : n < 18446744073709551616) : uV most l pos 0 = 0 ∧ uP most l pos 0 = pos ∧ uE most l pos 0 = 20 := by
  have h1 : rdE (l.drop pos) = 20 := by unfold rdE; rw [h, rd_cut hn]
  unfold uV uP uE
  rw [h1]
  simp

theorem slice_to (a : Option Addr) (n c k : Nat) (ki : Int) (w : World) (hk : ki = (k : Int)) (h2 : k ≤ c) : (Instr.slice 29 (.slice a n c) none (some (.int .i64 ki)) none).run Tryd.prog w = .ok (.slice a k c) w := by
  subst hk
  go_simp

set_option maxHeartbeats 4000000 in
set_option maxRecDepth 100000 in
theorem cut_U (N ahead more : Nat) (I : Int) (w : World) (ht : Tab w) (hN : N < 18446744073709551616) (hA : ahead < 18446744073709551616) (hM : more < 256) :
    Calls Tryd.prog 3 #[.agg #[.bool false, .int .u64 (N : Int), .int .i64 I], .int .u64 (ahead : Int), .int .u8 (more : Int)] w fun e w' => e = .returned (.bool true) ∧ Below w.heap.size w w' := by
  obtain ⟨x, hx⟩ : ∃ x, x = N := ⟨_, rfl⟩
  have hxl : x < 18446744073709551616 := by rw [hx]; exact hN
  obtain ⟨fA, hfA⟩ : ∃ f, f = form ahead := ⟨_, rfl⟩
  obtain ⟨fX, hfX⟩ : ∃ f, f = form x := ⟨_, rfl⟩
  have lA := form_len hA
  have lX := form_len hxl
  have aA : AllB fA := by rw [hfA]; exact AllB.form _
  have aX : AllB fX := by rw [hfX]; exact AllB.form _
  rw [← hfA] at lA
  rw [← hfX] at lX
  have HFA : Hid (fA = form ahead) := hfA
  have HFX : Hid (fX = form x) := hfX
  have HX : Hid (x = N) := hx
  clear hfA hfX hx
  have HB : Hid (Cells (w.alloc (.cells #[.bool false, .int .u64 (N : Int), .int .i64 I] 24)) w.heap.size [.bool false, .int .u64 (N : Int), .int .i64 I]) := Cells.new _ _ _
  have B0 := alloc_below w (.cells #[.bool false, .int .u64 (N : Int), .int .i64 I] 24)
  have hsz0 : (w.alloc (.cells #[.bool false, .int .u64 (N : Int), .int .i64 I] 24)).heap.size = w.heap.size + 1 := by simp
  have HT0 : Hid (Tab (w.alloc (.cells #[.bool false, .int .u64 (N : Int), .int .i64 I] 24))) := ht.below B0
  clear ht
  go_enter Tryd.func3, Tryd.ntmps3
  go_wp2_with fail
  refine (awake_any _ HT0.out).mono ?_
  rintro e w1 ⟨rfl, b1⟩
  have HB1 : Hid (Cells w1 w.heap.size [.bool false, .int .u64 (N : Int), .int .i64 I]) := HB.out.below b1
  have B1 : Below w.heap.size w w1 := bnext B0 b1 (Nat.le_refl _)
  have hs1 : w.heap.size + 1 ≤ w1.heap.size := by rw [← hsz0]; exact b1.size
  clear HB HT0 b1 B0 hsz0
  go_wp2_with fail
  refine (newWriter_any _).mono ?_
  rintro e w2 ⟨rfl, hw2⟩
  have b2 : Below w1.heap.size w1 w2 := by rw [hw2]; exact alloc_below _ _
  have W2 : Wr w2 w1.heap.size w1.heap.size (.slice none 0 0) [] := by
    rw [hw2]
    exact ⟨Cells.new _ _ _, Owns.nil _ _ _ _, nofun, Nat.le_refl _⟩
  have HB2 : Hid (Cells w2 w.heap.size [.bool false, .int .u64 (N : Int), .int .i64 I]) := HB1.out.below b2
  have B2 : Below w.heap.size w w2 := bnext B1 b2 (Nat.le_refl _)
  have HW2 : Hid (Wr w2 w1.heap.size w1.heap.size (.slice none 0 0) []) := W2
  clear W2 hw2 b2 HB1
  go_wp2_with fail
  refine (writeU_any ahead _ _ _ _ _ hA HW2.out (by decide)).mono ?_
  rintro e w3 ⟨v3, rfl, W3, K3, M3⟩
  rw [List.nil_append, ← HFA.out] at W3
  have HB3 : Hid (Cells w3 w.heap.size [.bool false, .int .u64 (N : Int), .int .i64 I]) := HB2.out.keep K3 (fun q => by have := (HW2.out.lt _ q).1; omega)
  have B3 : Below w.heap.size w w3 := bkeep B2 K3 (Nat.le_refl _) (fun j q => by have := (HW2.out.lt j q).1; omega)
  have HW3 : Hid (Wr w3 w1.heap.size w1.heap.size v3 fA) := W3
  clear W3 K3 M3 HB2 HW2 B2
  go_wp2_with fail
  refine (out_any _ _ _ _ _ HW3.out (by omega)).mono ?_
  rintro e w4 ⟨v4, rfl, o4, b4⟩
  obtain ⟨a4, c4, rfl, _⟩ := o4.seen
  rw [ints_length]
  have HB4 : Hid (Cells w4 w.heap.size [.bool false, .int .u64 (N : Int), .int .i64 I]) := HB3.out.below b4
  have HW4 : Hid (Wr w4 w1.heap.size w1.heap.size v3 fA) := HW3.out.below b4
  have B4 : Below w.heap.size w w4 := bnext B3 b4 (Nat.le_refl _)
  clear o4 b4 HB3 HW3 B3
  obtain ⟨g0, _⟩ := HB4.out.get 0 _ rfl
  obtain ⟨g1, _⟩ := HB4.out.get 1 _ rfl
  obtain ⟨g2, _⟩ := HB4.out.get 2 _ rfl
  go_wp2_with fail
  refine (writeU_any N _ _ _ _ _ hN HW4.out (by omega)).mono ?_
  rintro e w5 ⟨v5, rfl, W5, K5, M5⟩
  rw [← HX.out, ← HFX.out] at W5
  have HB5 : Hid (Cells w5 w.heap.size [.bool false, .int .u64 (N : Int), .int .i64 I]) := HB4.out.keep K5 (fun q => by have := (HW4.out.lt _ q).1; omega)
  have B5 : Below w.heap.size w w5 := bkeep B4 K5 (Nat.le_refl _) (fun j q => by have := (HW4.out.lt j q).1; omega)
  have HW5 : Hid (Wr w5 w1.heap.size w1.heap.size v5 (fA ++ fX)) := W5
  clear W5 K5 M5 HB4 HW4 B4 g0 g1 g2
  go_wp2_with fail
  refine (out_any _ _ _ _ _ HW5.out (by simp; omega)).mono ?_
  rintro e w6 ⟨v6, rfl, o6, b6⟩
  obtain ⟨a6, c6, rfl, s6, n6, l6, m6⟩ := o6.seen
  rw [ints_length] at l6
  rw [ints_length]
  obtain ⟨n, hn⟩ : ∃ n, n = (fA ++ fX).length := ⟨_, rfl⟩
  have hn2 : n = fA.length + fX.length := by rw [hn]; simp
  rw [← hn] at l6
  rw [← hn]
  have HN : Hid (n = (fA ++ fX).length) := hn
  have HB6 : Hid (Cells w6 w.heap.size [.bool false, .int .u64 (N : Int), .int .i64 I]) := HB5.out.below b6
  have B6 : Below w.heap.size w w6 := bnext B5 b6 (Nat.le_refl _)
  have HS6 : Hid (Bytes w6 a6 (fA ++ fX)) := s6
  unfold maxLen at m6
  clear o6 b6 s6 HB5 HW5 B5 hn
  have g1 : decide (n ≤ fA.length) = false := by simp; omega
  have g2 : ((fA.length : Int) == 0) = false := by simp; intro h; rw [h] at lA; simp at lA
  have g3 : decide ((fA.length : Int) + 10 < (n : Int)) = false := by simp; omega
  have HG : Hid (n = fA.length + fX.length) := hn2
  obtain ⟨k, hk⟩ : ∃ k, k = fA.length := ⟨_, rfl⟩
  have HK : Hid (k = fA.length) := hk
  have hkb : k ≤ 10 := by omega
  have hnb : n ≤ 20 := by omega
  have hkn : k + 1 ≤ n := by omega
  rw [← hk] at g1 g2 g3
  rw [← hk]
  clear hn2 hk
  go_wp2_with fail
  go_loopw [10] (fun t wr => ∃ j : Nat, t = .int .i64 (j : Int) ∧ j ≤ 2 ∧ Bytes wr a6 (fA ++ fX) ∧ Cells wr w.heap.size [.bool false, .int .u64 (N : Int), .int .i64 I] ∧ Below w.heap.size w wr) (fun t _ => 2 - (intOf t).toNat)
  case atStart => exact ⟨0, rfl, by omega, HS6.out, HB6.out, B6⟩
  case round =>
    obtain ⟨j, rfl, hj, hs, hcl, hbl⟩ := hrel
    have HS : Hid (Bytes wr a6 (fA ++ fX)) := hs
    have HC : Hid (Cells wr w.heap.size [.bool false, .int .u64 (N : Int), .int .i64 I]) := hcl
    clear hs hcl
    by_cases hj2 : j = 2
    · subst hj2
      obtain ⟨F, hF⟩ : ∃ F, F = fA ++ fX := ⟨_, rfl⟩
      have hFn : F.length = n := by rw [hF]; exact HN.out.symm
      have aF : AllB F := by rw [hF]; exact aA.append aX
      have aM : AllB (F ++ [more]) := aF.append (fun y hy => by simp at hy; omega)
      have HSF : Hid (Bytes wr a6 F) := by rw [hF]; exact HS.out
      have hFb : ([] : List Nat).length + F.length ≤ 2000000 := by simp; omega
      have hFb2 : F.length ≤ 2000000 := by omega
      have u4 : uV 18446744073709551615 (F ++ [more]) 0 0 = ahead ∧ uP 18446744073709551615 (F ++ [more]) 0 0 = k ∧ uE 18446744073709551615 (F ++ [more]) 0 0 = 0 := by
        have := u_form (l := F ++ [more]) (pos := 0) (r := fX ++ [more]) 18446744073709551615 (by rw [List.drop_zero, hF, HFA.out, List.append_assoc]) hA (by omega)
        rw [Nat.zero_add, ← HFA.out, ← HK.out] at this
        exact this
      have u5 : uV 18446744073709551615 (F ++ [more]) k 0 = x ∧ uP 18446744073709551615 (F ++ [more]) k 0 = n ∧ uE 18446744073709551615 (F ++ [more]) k 0 = 0 := by
        have := u_form (l := F ++ [more]) (pos := k) (n := x) (r := [more]) 18446744073709551615 (by rw [HK.out, hF, List.append_assoc, List.drop_left, HFX.out]) hxl (by omega)
        rw [← HFX.out, HK.out, ← HG.out] at this
        rw [HK.out]
        exact this
      have u6 : endE (F ++ [more]) n 0 = 21 := by unfold endE; rw [if_pos]; simp; omega
      have hmd : more % 256 = more := Nat.mod_eq_of_lt hM
      clear hF
      go_wp2_with (at_builtin; refine appB rfl (.const (.slice none 0 0)) (.tmp 102) rfl wr.heap.size _ [] rfl (Owns.nil _ _ _ _) a6 n c6 F hFn rfl HSF.out n6 hFb (Nat.le_refl _) ?_)
      intro v7 w7 o7 g7 _
      have b7 : Below wr.heap.size wr w7 := (Below.refl _ _).grown g7 (Nat.le_refl _) (by nofun)
      have hs7 := b7.size
      have HO7 : Hid (OwnB w7 wr.heap.size v7 F) := o7
      have HC7 : Hid (Cells w7 w.heap.size [.bool false, .int .u64 (N : Int), .int .i64 I]) := HC.out.below b7
      clear o7 g7
      go_wp2_with (at_builtin; refine pushB rfl (.tmp 103) (.tmp 105) rfl wr.heap.size v7 F rfl ⟨w7.heap.size, 0, none⟩ more rfl (HO7.out.alloc _) (by simp [go_sem]) hFb2 (by simp; omega) ?_)
      intro v8 w8 o8 g8 _
      have HB8 : Hid (Below wr.heap.size wr w8) := (b7.alloc hs7 _).grown g8 (by simp; omega) (fun j hj => (World.ownsRow.lt HO7.out j hj).1)
      have HC8 : Hid (Cells w8 w.heap.size [.bool false, .int .u64 (N : Int), .int .i64 I]) := HC.out.below HB8.out
      obtain ⟨a8, c8, rfl, s8, n8, l8, m8⟩ := o8.seen
      rw [ints_length] at l8
      rw [ints_length]
      obtain ⟨M, hM'⟩ : ∃ M, M = F ++ [more] := ⟨_, rfl⟩
      have hMl : M.length ≤ 1000000 := by rw [hM']; simp; omega
      rw [← hM'] at u4 u5 u6 aM s8 l8 o8
      rw [← hM']
      have HS8 : Hid (Bytes w8 a8 M) := s8
      clear o8 s8 g8 b7 HO7 HC7 hM'
      go_wp2_with fail
      refine (newReader_any a8 M c8 _ HS8.out l8 n8 hMl aM).mono ?_
      rintro e w9 ⟨p, a, c, rfl, hp, ha, hr, b9⟩
      have HR1 : Hid (Rd w9 p a c M 0 0) := hr
      have HC9 : Hid (Cells w9 w.heap.size [.bool false, .int .u64 (N : Int), .int .i64 I]) := HC8.out.below b9
      have HB9 : Hid (Below wr.heap.size wr w9) := bnext HB8.out b9 (Nat.le_refl _)
      have hp1 : wr.heap.size ≤ p := Nat.le_trans HB8.out.size hp
      have hwr : w.heap.size < wr.heap.size := HC.out.1
      clear hr b9 HS8 l8 n8 m8 HB8 HC8
      go_wp2_with fail
      have K := readU_any 18446744073709551615 p a c M 0 0 _ HR1.out
      rw [u4.1, u4.2.1, u4.2.2] at K
      refine K.mono ?_
      rintro e w10 ⟨rfl, R10, K10⟩
      have HB10 : Hid (Below wr.heap.size wr w10) := bkeep HB9.out K10 (Nat.le_refl _) (fun j q => by have : j = p := q; omega)
      have HC10 : Hid (Cells w10 w.heap.size [.bool false, .int .u64 (N : Int), .int .i64 I]) := HC9.out.keep K10 (fun q => by have : w.heap.size = p := q; omega)
      have HR2 : Hid (Rd w10 p a c M k 0) := R10
      clear R10 K10 HR1 HB9 HC9 K
      obtain ⟨g0, _⟩ := HC10.out.get 0 _ rfl
      go_wp2_with fail
      have K := readU_any 18446744073709551615 p a c M k 0 _ HR2.out
      rw [u5.1, u5.2.1, u5.2.2] at K
      refine K.mono ?_
      rintro e w11 ⟨rfl, R11, K11⟩
      have HB11 : Hid (Below wr.heap.size wr w11) := bkeep HB10.out K11 (Nat.le_refl _) (fun j q => by have : j = p := q; omega)
      have HR3 : Hid (Rd w11 p a c M n 0) := R11
      clear R11 K11 HR2 HB10 HC10 K g0
      go_wp2_with fail
      have K := end_any p a c M n 0 _ HR3.out
      rw [u6] at K
      refine K.mono ?_
      rintro e w12 ⟨rfl, R12, K12⟩
      have HB12 : Hid (Below wr.heap.size wr w12) := bkeep HB11.out K12 (Nat.le_refl _) (fun j q => by have : j = p := q; omega)
      have HR4 : Hid (Rd w12 p a c M n 21) := R12
      clear R12 K12 HR3 HB11 K
      go_wp2_with fail
      refine (fault_any p a c M n 21 _ HR4.out).mono ?_
      rintro e w13 ⟨rfl, b13⟩
      have ef : faultP n 21 = n := by simp [faultP]
      rw [ef]
      have HB13 : Hid (Below wr.heap.size wr w13) := bnext HB12.out b13 (Nat.le_refl _)
      clear ef b13 HR4 HB12
      go_wp2_with (go_at_call 17; refine (num_any _ _).mono ?_; rintro e w' ⟨rfl, rfl⟩)
      go_ret
      exact ⟨rfl, bnext hbl HB13.out (Nat.le_refl _)⟩
    · have hLL : (fA ++ fX).take (n - 1) = fA ++ fX.dropLast := by
        have h1 := HG.out
        have h2 : n - 1 = fA.length + (fX.length - 1) := by omega
        rw [h2, List.take_length_add_append, List.dropLast_eq_take]
      obtain ⟨L, hLd⟩ : ∃ L, L = fA ++ fX.dropLast := ⟨_, rfl⟩
      rw [← hLd] at hLL
      have hL : L.length = n - 1 := by rw [hLd, HG.out]; simp; omega
      have hLb : ([] : List Nat).length + L.length ≤ 2000000 := by have := HG.out; simp; omega
      have HSL : Hid (Bytes wr a6 L) := by
        have := HS.out.take (n - 1)
        rw [hLL] at this
        exact this
      have aL : AllB L := by
        rw [hLd]
        refine aA.append (fun y hy => aX y ?_)
        exact (List.dropLast_sublist fX).subset hy
      have hL1 : L.length ≤ 1000000 := by have := HG.out; omega
      have u1 : uV ahead L 0 0 = ahead ∧ uP ahead L 0 0 = k ∧ uE ahead L 0 0 = 0 := by
        have := u_form (l := L) (pos := 0) (r := fX.dropLast) ahead (by rw [List.drop_zero, hLd, HFA.out]) hA (Nat.le_refl _)
        rw [Nat.zero_add, ← HFA.out, ← HK.out] at this
        exact this
      have u2 : uV 18446744073709551615 L k 0 = 0 ∧ uP 18446744073709551615 L k 0 = k ∧ uE 18446744073709551615 L k 0 = 20 :=
        u_cut (l := L) (pos := k) 18446744073709551615 (by rw [HK.out, hLd, List.drop_left, HFX.out]) hxl
      have sl := fun w => slice_to a6 n c6 (n - 1) ((n : Int) - 1) w (by omega) (by omega)
      clear hLd hLL
      have hj01 : j = 0 ∨ j = 1 := by omega
      rcases hj01 with hj0 | hj0
      · subst hj0
        go_wp2_with (at_builtin; refine appB rfl (.const (.slice none 0 0)) (.tmp 61) rfl wr.heap.size _ [] rfl (Owns.nil _ _ _ _) a6 (n - 1) c6 L hL rfl HSL.out n6 hLb (Nat.le_refl _) ?_)
        intro v7 w7 o7 g7 _
        have b7 : Below wr.heap.size wr w7 := (Below.refl _ _).grown g7 (Nat.le_refl _) (by nofun)
        obtain ⟨a7, c7, rfl, s7, n7, l7, m7⟩ := o7.seen
        rw [ints_length] at l7
        rw [ints_length]
        have HS7 : Hid (Bytes w7 a7 L) := s7
        clear o7 g7 s7
        go_wp2_with fail
        have K0 := newReader_any a7 L c7 _ HS7.out l7 n7 hL1 aL
        rw [hL] at K0
        refine K0.mono ?_
        rintro e w8 ⟨p, a, c, rfl, hp, ha, hr, b8⟩
        have HR8 : Hid (Rd w8 p a c L 0 0) := hr
        have b78 : Below wr.heap.size wr w8 := bnext b7 b8 (Nat.le_refl _)
        have hp1 : wr.heap.size ≤ p := Nat.le_trans b7.size hp
        clear hr b7 b8 HS7 l7 n7 m7 K0
        go_wp2_with fail
        have K := readU_any ahead p a c L 0 0 _ HR8.out
        rw [u1.1, u1.2.1, u1.2.2] at K
        refine K.mono ?_
        rintro e w9 ⟨rfl, R9, K9⟩
        have b9 : Below wr.heap.size wr w9 := bkeep b78 K9 (Nat.le_refl _) (fun j q => by have : j = p := q; omega)
        have HR9 : Hid (Rd w9 p a c L k 0) := R9
        clear R9 K9 HR8 b78 K
        go_wp2_with fail
        have K := readU_any 18446744073709551615 p a c L k 0 _ HR9.out
        rw [u2.1, u2.2.1, u2.2.2] at K
        refine K.mono ?_
        rintro e w10 ⟨rfl, R10, K10⟩
        have b10 : Below wr.heap.size wr w10 := bkeep b9 K10 (Nat.le_refl _) (fun j q => by have : j = p := q; omega)
        have HR10 : Hid (Rd w10 p a c L k 20) := R10
        clear R10 K10 HR9 b9 K
        go_wp2_with fail
        refine (fault_any p a c L k 20 _ HR10.out).mono ?_
        rintro e w11 ⟨rfl, b11⟩
        have ef : faultP k 20 = k := by simp [faultP]
        rw [ef]
        have HB11 : Hid (Below wr.heap.size wr w11) := bnext b10 b11 (Nat.le_refl _)
        clear ef b11 b10 HR10
        go_wp2_with (go_at_call 17; refine (num_any _ _).mono ?_; rintro e w' ⟨rfl, rfl⟩)
        go_roundw
        case rel => exact ⟨1, by go_num, by omega, Seen.below HS.out HB11.out, HC.out.below HB11.out, bnext hbl HB11.out (Nat.le_refl _)⟩
        case measure => simp [intOf]
      · subst hj0
        go_wp2_with (at_builtin; refine appB rfl (.const (.slice none 0 0)) (.tmp 61) rfl wr.heap.size _ [] rfl (Owns.nil _ _ _ _) a6 (n - 1) c6 L hL rfl HSL.out n6 hLb (Nat.le_refl _) ?_)
        intro v7 w7 o7 g7 _
        have b7 : Below wr.heap.size wr w7 := (Below.refl _ _).grown g7 (Nat.le_refl _) (by nofun)
        obtain ⟨a7, c7, rfl, s7, n7, l7, m7⟩ := o7.seen
        rw [ints_length] at l7
        rw [ints_length]
        have HS7 : Hid (Bytes w7 a7 L) := s7
        clear o7 g7 s7
        go_wp2_with fail
        have K0 := newReader_any a7 L c7 _ HS7.out l7 n7 hL1 aL
        rw [hL] at K0
        refine K0.mono ?_
        rintro e w8 ⟨p, a, c, rfl, hp, ha, hr, b8⟩
        have HR8 : Hid (Rd w8 p a c L 0 0) := hr
        have b78 : Below wr.heap.size wr w8 := bnext b7 b8 (Nat.le_refl _)
        have hp1 : wr.heap.size ≤ p := Nat.le_trans b7.size hp
        clear hr b7 b8 HS7 l7 n7 m7 K0
        go_wp2_with fail
        have K := readU_any ahead p a c L 0 0 _ HR8.out
        rw [u1.1, u1.2.1, u1.2.2] at K
        refine K.mono ?_
        rintro e w9 ⟨rfl, R9, K9⟩
        have b9 : Below wr.heap.size wr w9 := bkeep b78 K9 (Nat.le_refl _) (fun j q => by have : j = p := q; omega)
        have HR9 : Hid (Rd w9 p a c L k 0) := R9
        clear R9 K9 HR8 b78 K
        go_wp2_with fail
        have K := readS_any p a c L k 0 _ HR9.out
        rw [u2.1, u2.2.1, u2.2.2] at K
        refine K.mono ?_
        rintro e w10 ⟨rfl, R10, K10⟩
        have eu : uns 0 = 0 := by decide
        rw [eu]
        clear eu
        have b10 : Below wr.heap.size wr w10 := bkeep b9 K10 (Nat.le_refl _) (fun j q => by have : j = p := q; omega)
        have HR10 : Hid (Rd w10 p a c L k 20) := R10
        clear R10 K10 HR9 b9 K
        go_wp2_with fail
        refine (fault_any p a c L k 20 _ HR10.out).mono ?_
        rintro e w11 ⟨rfl, b11⟩
        have ef : faultP k 20 = k := by simp [faultP]
        rw [ef]
        have HB11 : Hid (Below wr.heap.size wr w11) := bnext b10 b11 (Nat.le_refl _)
        clear ef b11 b10 HR10
        go_wp2_with (go_at_call 17; refine (num_any _ _).mono ?_; rintro e w' ⟨rfl, rfl⟩)
        go_roundw
        case rel => exact ⟨2, by go_num, by omega, Seen.below HS.out HB11.out, HC.out.below HB11.out, bnext hbl HB11.out (Nat.le_refl _)⟩
        case measure => simp [intOf]

set_option maxHeartbeats 4000000 in
set_option maxRecDepth 100000 in
theorem cut_S (N ahead more : Nat) (I : Int) (w : World) (ht : Tab w) (hA : ahead < 18446744073709551616) (hM : more < 256) (hI1 : -9223372036854775808 ≤ I) (hI2 : I ≤ 9223372036854775807) :
    Calls Tryd.prog 3 #[.agg #[.bool true, .int .u64 (N : Int), .int .i64 I], .int .u64 (ahead : Int), .int .u8 (more : Int)] w fun e w' => e = .returned (.bool true) ∧ Below w.heap.size w w' := by
  obtain ⟨x, hx⟩ : ∃ x, x = sgn I := ⟨_, rfl⟩
  have hxl : x < 18446744073709551616 := by rw [hx]; exact sgn_lt hI1 hI2
  obtain ⟨fA, hfA⟩ : ∃ f, f = form ahead := ⟨_, rfl⟩
  obtain ⟨fX, hfX⟩ : ∃ f, f = form x := ⟨_, rfl⟩
  have lA := form_len hA
  have lX := form_len hxl
  have aA : AllB fA := by rw [hfA]; exact AllB.form _
  have aX : AllB fX := by rw [hfX]; exact AllB.form _
  rw [← hfA] at lA
  rw [← hfX] at lX
  have HFA : Hid (fA = form ahead) := hfA
  have HFX : Hid (fX = form x) := hfX
  have HX : Hid (x = sgn I) := hx
  clear hfA hfX hx
  have HB : Hid (Cells (w.alloc (.cells #[.bool true, .int .u64 (N : Int), .int .i64 I] 24)) w.heap.size [.bool true, .int .u64 (N : Int), .int .i64 I]) := Cells.new _ _ _
  have B0 := alloc_below w (.cells #[.bool true, .int .u64 (N : Int), .int .i64 I] 24)
  have hsz0 : (w.alloc (.cells #[.bool true, .int .u64 (N : Int), .int .i64 I] 24)).heap.size = w.heap.size + 1 := by simp
  have HT0 : Hid (Tab (w.alloc (.cells #[.bool true, .int .u64 (N : Int), .int .i64 I] 24))) := ht.below B0
  clear ht
  go_enter Tryd.func3, Tryd.ntmps3
  go_wp2_with fail
  refine (awake_any _ HT0.out).mono ?_
  rintro e w1 ⟨rfl, b1⟩
  have HB1 : Hid (Cells w1 w.heap.size [.bool true, .int .u64 (N : Int), .int .i64 I]) := HB.out.below b1
  have B1 : Below w.heap.size w w1 := bnext B0 b1 (Nat.le_refl _)
  have hs1 : w.heap.size + 1 ≤ w1.heap.size := by rw [← hsz0]; exact b1.size
  clear HB HT0 b1 B0 hsz0
  go_wp2_with fail
  refine (newWriter_any _).mono ?_
  rintro e w2 ⟨rfl, hw2⟩
  have b2 : Below w1.heap.size w1 w2 := by rw [hw2]; exact alloc_below _ _
  have W2 : Wr w2 w1.heap.size w1.heap.size (.slice none 0 0) [] := by
    rw [hw2]
    exact ⟨Cells.new _ _ _, Owns.nil _ _ _ _, nofun, Nat.le_refl _⟩
  have HB2 : Hid (Cells w2 w.heap.size [.bool true, .int .u64 (N : Int), .int .i64 I]) := HB1.out.below b2
  have B2 : Below w.heap.size w w2 := bnext B1 b2 (Nat.le_refl _)
  have HW2 : Hid (Wr w2 w1.heap.size w1.heap.size (.slice none 0 0) []) := W2
  clear W2 hw2 b2 HB1
  go_wp2_with fail
  refine (writeU_any ahead _ _ _ _ _ hA HW2.out (by decide)).mono ?_
  rintro e w3 ⟨v3, rfl, W3, K3, M3⟩
  rw [List.nil_append, ← HFA.out] at W3
  have HB3 : Hid (Cells w3 w.heap.size [.bool true, .int .u64 (N : Int), .int .i64 I]) := HB2.out.keep K3 (fun q => by have := (HW2.out.lt _ q).1; omega)
  have B3 : Below w.heap.size w w3 := bkeep B2 K3 (Nat.le_refl _) (fun j q => by have := (HW2.out.lt j q).1; omega)
  have HW3 : Hid (Wr w3 w1.heap.size w1.heap.size v3 fA) := W3
  clear W3 K3 M3 HB2 HW2 B2
  go_wp2_with fail
  refine (out_any _ _ _ _ _ HW3.out (by omega)).mono ?_
  rintro e w4 ⟨v4, rfl, o4, b4⟩
  obtain ⟨a4, c4, rfl, _⟩ := o4.seen
  rw [ints_length]
  have HB4 : Hid (Cells w4 w.heap.size [.bool true, .int .u64 (N : Int), .int .i64 I]) := HB3.out.below b4
  have HW4 : Hid (Wr w4 w1.heap.size w1.heap.size v3 fA) := HW3.out.below b4
  have B4 : Below w.heap.size w w4 := bnext B3 b4 (Nat.le_refl _)
  clear o4 b4 HB3 HW3 B3
  obtain ⟨g0, _⟩ := HB4.out.get 0 _ rfl
  obtain ⟨g1, _⟩ := HB4.out.get 1 _ rfl
  obtain ⟨g2, _⟩ := HB4.out.get 2 _ rfl
  go_wp2_with fail
  refine (writeS_any I _ _ _ _ _ hI1 hI2 HW4.out (by omega)).mono ?_
  rintro e w5 ⟨v5, rfl, W5, K5, M5⟩
  rw [← HX.out, ← HFX.out] at W5
  have HB5 : Hid (Cells w5 w.heap.size [.bool true, .int .u64 (N : Int), .int .i64 I]) := HB4.out.keep K5 (fun q => by have := (HW4.out.lt _ q).1; omega)
  have B5 : Below w.heap.size w w5 := bkeep B4 K5 (Nat.le_refl _) (fun j q => by have := (HW4.out.lt j q).1; omega)
  have HW5 : Hid (Wr w5 w1.heap.size w1.heap.size v5 (fA ++ fX)) := W5
  clear W5 K5 M5 HB4 HW4 B4 g0 g1 g2
  go_wp2_with fail
  refine (out_any _ _ _ _ _ HW5.out (by simp; omega)).mono ?_
  rintro e w6 ⟨v6, rfl, o6, b6⟩
  obtain ⟨a6, c6, rfl, s6, n6, l6, m6⟩ := o6.seen
  rw [ints_length] at l6
  rw [ints_length]
  obtain ⟨n, hn⟩ : ∃ n, n = (fA ++ fX).length := ⟨_, rfl⟩
  have hn2 : n = fA.length + fX.length := by rw [hn]; simp
  rw [← hn] at l6
  rw [← hn]
  have HN : Hid (n = (fA ++ fX).length) := hn
  have HB6 : Hid (Cells w6 w.heap.size [.bool true, .int .u64 (N : Int), .int .i64 I]) := HB5.out.below b6
  have B6 : Below w.heap.size w w6 := bnext B5 b6 (Nat.le_refl _)
  have HS6 : Hid (Bytes w6 a6 (fA ++ fX)) := s6
  unfold maxLen at m6
  clear o6 b6 s6 HB5 HW5 B5 hn
  have g1 : decide (n ≤ fA.length) = false := by simp; omega
  have g2 : ((fA.length : Int) == 0) = false := by simp; intro h; rw [h] at lA; simp at lA
  have g3 : decide ((fA.length : Int) + 10 < (n : Int)) = false := by simp; omega
  have HG : Hid (n = fA.length + fX.length) := hn2
  obtain ⟨k, hk⟩ : ∃ k, k = fA.length := ⟨_, rfl⟩
  have HK : Hid (k = fA.length) := hk
  have hkb : k ≤ 10 := by omega
  have hnb : n ≤ 20 := by omega
  have hkn : k + 1 ≤ n := by omega
  rw [← hk] at g1 g2 g3
  rw [← hk]
  clear hn2 hk
  go_wp2_with fail
  go_loopw [10] (fun t wr => ∃ j : Nat, t = .int .i64 (j : Int) ∧ j ≤ 2 ∧ Bytes wr a6 (fA ++ fX) ∧ Cells wr w.heap.size [.bool true, .int .u64 (N : Int), .int .i64 I] ∧ Below w.heap.size w wr) (fun t _ => 2 - (intOf t).toNat)
  case atStart => exact ⟨0, rfl, by omega, HS6.out, HB6.out, B6⟩
  case round =>
    obtain ⟨j, rfl, hj, hs, hcl, hbl⟩ := hrel
    have HS : Hid (Bytes wr a6 (fA ++ fX)) := hs
    have HC : Hid (Cells wr w.heap.size [.bool true, .int .u64 (N : Int), .int .i64 I]) := hcl
    clear hs hcl
    by_cases hj2 : j = 2
    · subst hj2
      obtain ⟨F, hF⟩ : ∃ F, F = fA ++ fX := ⟨_, rfl⟩
      have hFn : F.length = n := by rw [hF]; exact HN.out.symm
      have aF : AllB F := by rw [hF]; exact aA.append aX
      have aM : AllB (F ++ [more]) := aF.append (fun y hy => by simp at hy; omega)
      have HSF : Hid (Bytes wr a6 F) := by rw [hF]; exact HS.out
      have hFb : ([] : List Nat).length + F.length ≤ 2000000 := by simp; omega
      have hFb2 : F.length ≤ 2000000 := by omega
      have u4 : uV 18446744073709551615 (F ++ [more]) 0 0 = ahead ∧ uP 18446744073709551615 (F ++ [more]) 0 0 = k ∧ uE 18446744073709551615 (F ++ [more]) 0 0 = 0 := by
        have := u_form (l := F ++ [more]) (pos := 0) (r := fX ++ [more]) 18446744073709551615 (by rw [List.drop_zero, hF, HFA.out, List.append_assoc]) hA (by omega)
        rw [Nat.zero_add, ← HFA.out, ← HK.out] at this
        exact this
      have u5 : uV 18446744073709551615 (F ++ [more]) k 0 = x ∧ uP 18446744073709551615 (F ++ [more]) k 0 = n ∧ uE 18446744073709551615 (F ++ [more]) k 0 = 0 := by
        have := u_form (l := F ++ [more]) (pos := k) (n := x) (r := [more]) 18446744073709551615 (by rw [HK.out, hF, List.append_assoc, List.drop_left, HFX.out]) hxl (by omega)
        rw [← HFX.out, HK.out, ← HG.out] at this
        rw [HK.out]
        exact this
      have u6 : endE (F ++ [more]) n 0 = 21 := by unfold endE; rw [if_pos]; simp; omega
      have hmd : more % 256 = more := Nat.mod_eq_of_lt hM
      clear hF
      go_wp2_with (at_builtin; refine appB rfl (.const (.slice none 0 0)) (.tmp 102) rfl wr.heap.size _ [] rfl (Owns.nil _ _ _ _) a6 n c6 F hFn rfl HSF.out n6 hFb (Nat.le_refl _) ?_)
      intro v7 w7 o7 g7 _
      have b7 : Below wr.heap.size wr w7 := (Below.refl _ _).grown g7 (Nat.le_refl _) (by nofun)
      have hs7 := b7.size
      have HO7 : Hid (OwnB w7 wr.heap.size v7 F) := o7
      have HC7 : Hid (Cells w7 w.heap.size [.bool true, .int .u64 (N : Int), .int .i64 I]) := HC.out.below b7
      clear o7 g7
      go_wp2_with (at_builtin; refine pushB rfl (.tmp 103) (.tmp 105) rfl wr.heap.size v7 F rfl ⟨w7.heap.size, 0, none⟩ more rfl (HO7.out.alloc _) (by simp [go_sem]) hFb2 (by simp; omega) ?_)
      intro v8 w8 o8 g8 _
      have HB8 : Hid (Below wr.heap.size wr w8) := (b7.alloc hs7 _).grown g8 (by simp; omega) (fun j hj => (World.ownsRow.lt HO7.out j hj).1)
      have HC8 : Hid (Cells w8 w.heap.size [.bool true, .int .u64 (N : Int), .int .i64 I]) := HC.out.below HB8.out
      obtain ⟨a8, c8, rfl, s8, n8, l8, m8⟩ := o8.seen
      rw [ints_length] at l8
      rw [ints_length]
      obtain ⟨M, hM'⟩ : ∃ M, M = F ++ [more] := ⟨_, rfl⟩
      have hMl : M.length ≤ 1000000 := by rw [hM']; simp; omega
      rw [← hM'] at u4 u5 u6 aM s8 l8 o8
      rw [← hM']
      have HS8 : Hid (Bytes w8 a8 M) := s8
      clear o8 s8 g8 b7 HO7 HC7 hM'
      go_wp2_with fail
      refine (newReader_any a8 M c8 _ HS8.out l8 n8 hMl aM).mono ?_
      rintro e w9 ⟨p, a, c, rfl, hp, ha, hr, b9⟩
      have HR1 : Hid (Rd w9 p a c M 0 0) := hr
      have HC9 : Hid (Cells w9 w.heap.size [.bool true, .int .u64 (N : Int), .int .i64 I]) := HC8.out.below b9
      have HB9 : Hid (Below wr.heap.size wr w9) := bnext HB8.out b9 (Nat.le_refl _)
      have hp1 : wr.heap.size ≤ p := Nat.le_trans HB8.out.size hp
      have hwr : w.heap.size < wr.heap.size := HC.out.1
      clear hr b9 HS8 l8 n8 m8 HB8 HC8
      go_wp2_with fail
      have K := readU_any 18446744073709551615 p a c M 0 0 _ HR1.out
      rw [u4.1, u4.2.1, u4.2.2] at K
      refine K.mono ?_
      rintro e w10 ⟨rfl, R10, K10⟩
      have HB10 : Hid (Below wr.heap.size wr w10) := bkeep HB9.out K10 (Nat.le_refl _) (fun j q => by have : j = p := q; omega)
      have HC10 : Hid (Cells w10 w.heap.size [.bool true, .int .u64 (N : Int), .int .i64 I]) := HC9.out.keep K10 (fun q => by have : w.heap.size = p := q; omega)
      have HR2 : Hid (Rd w10 p a c M k 0) := R10
      clear R10 K10 HR1 HB9 HC9 K
      obtain ⟨g0, _⟩ := HC10.out.get 0 _ rfl
      go_wp2_with fail
      have K := readS_any p a c M k 0 _ HR2.out
      rw [u5.1, u5.2.1, u5.2.2] at K
      refine K.mono ?_
      rintro e w11 ⟨rfl, R11, K11⟩
      have HB11 : Hid (Below wr.heap.size wr w11) := bkeep HB10.out K11 (Nat.le_refl _) (fun j q => by have : j = p := q; omega)
      have HR3 : Hid (Rd w11 p a c M n 0) := R11
      clear R11 K11 HR2 HB10 HC10 K g0
      go_wp2_with fail
      have K := end_any p a c M n 0 _ HR3.out
      rw [u6] at K
      refine K.mono ?_
      rintro e w12 ⟨rfl, R12, K12⟩
      have HB12 : Hid (Below wr.heap.size wr w12) := bkeep HB11.out K12 (Nat.le_refl _) (fun j q => by have : j = p := q; omega)
      have HR4 : Hid (Rd w12 p a c M n 21) := R12
      clear R12 K12 HR3 HB11 K
      go_wp2_with fail
      refine (fault_any p a c M n 21 _ HR4.out).mono ?_
      rintro e w13 ⟨rfl, b13⟩
      have ef : faultP n 21 = n := by simp [faultP]
      rw [ef]
      have HB13 : Hid (Below wr.heap.size wr w13) := bnext HB12.out b13 (Nat.le_refl _)
      clear ef b13 HR4 HB12
      go_wp2_with (go_at_call 17; refine (num_any _ _).mono ?_; rintro e w' ⟨rfl, rfl⟩)
      go_ret
      exact ⟨rfl, bnext hbl HB13.out (Nat.le_refl _)⟩
    · have hLL : (fA ++ fX).take (n - 1) = fA ++ fX.dropLast := by
        have h1 := HG.out
        have h2 : n - 1 = fA.length + (fX.length - 1) := by omega
        rw [h2, List.take_length_add_append, List.dropLast_eq_take]
      obtain ⟨L, hLd⟩ : ∃ L, L = fA ++ fX.dropLast := ⟨_, rfl⟩
      rw [← hLd] at hLL
      have hL : L.length = n - 1 := by rw [hLd, HG.out]; simp; omega
      have hLb : ([] : List Nat).length + L.length ≤ 2000000 := by have := HG.out; simp; omega
      have HSL : Hid (Bytes wr a6 L) := by
        have := HS.out.take (n - 1)
        rw [hLL] at this
        exact this
      have aL : AllB L := by
        rw [hLd]
        refine aA.append (fun y hy => aX y ?_)
        exact (List.dropLast_sublist fX).subset hy
      have hL1 : L.length ≤ 1000000 := by have := HG.out; omega
      have u1 : uV ahead L 0 0 = ahead ∧ uP ahead L 0 0 = k ∧ uE ahead L 0 0 = 0 := by
        have := u_form (l := L) (pos := 0) (r := fX.dropLast) ahead (by rw [List.drop_zero, hLd, HFA.out]) hA (Nat.le_refl _)
        rw [Nat.zero_add, ← HFA.out, ← HK.out] at this
        exact this
      have u2 : uV 18446744073709551615 L k 0 = 0 ∧ uP 18446744073709551615 L k 0 = k ∧ uE 18446744073709551615 L k 0 = 20 :=
        u_cut (l := L) (pos := k) 18446744073709551615 (by rw [HK.out, hLd, List.drop_left, HFX.out]) hxl
      have sl := fun w => slice_to a6 n c6 (n - 1) ((n : Int) - 1) w (by omega) (by omega)
      clear hLd hLL
      have hj01 : j = 0 ∨ j = 1 := by omega
      rcases hj01 with hj0 | hj0
      · subst hj0
        go_wp2_with (at_builtin; refine appB rfl (.const (.slice none 0 0)) (.tmp 61) rfl wr.heap.size _ [] rfl (Owns.nil _ _ _ _) a6 (n - 1) c6 L hL rfl HSL.out n6 hLb (Nat.le_refl _) ?_)
        intro v7 w7 o7 g7 _
        have b7 : Below wr.heap.size wr w7 := (Below.refl _ _).grown g7 (Nat.le_refl _) (by nofun)
        obtain ⟨a7, c7, rfl, s7, n7, l7, m7⟩ := o7.seen
        rw [ints_length] at l7
        rw [ints_length]
        have HS7 : Hid (Bytes w7 a7 L) := s7
        clear o7 g7 s7
        go_wp2_with fail
        have K0 := newReader_any a7 L c7 _ HS7.out l7 n7 hL1 aL
        rw [hL] at K0
        refine K0.mono ?_
        rintro e w8 ⟨p, a, c, rfl, hp, ha, hr, b8⟩
        have HR8 : Hid (Rd w8 p a c L 0 0) := hr
        have b78 : Below wr.heap.size wr w8 := bnext b7 b8 (Nat.le_refl _)
        have hp1 : wr.heap.size ≤ p := Nat.le_trans b7.size hp
        clear hr b7 b8 HS7 l7 n7 m7 K0
        go_wp2_with fail
        have K := readU_any ahead p a c L 0 0 _ HR8.out
        rw [u1.1, u1.2.1, u1.2.2] at K
        refine K.mono ?_
        rintro e w9 ⟨rfl, R9, K9⟩
        have b9 : Below wr.heap.size wr w9 := bkeep b78 K9 (Nat.le_refl _) (fun j q => by have : j = p := q; omega)
        have HR9 : Hid (Rd w9 p a c L k 0) := R9
        clear R9 K9 HR8 b78 K
        go_wp2_with fail
        have K := readU_any 18446744073709551615 p a c L k 0 _ HR9.out
        rw [u2.1, u2.2.1, u2.2.2] at K
        refine K.mono ?_
        rintro e w10 ⟨rfl, R10, K10⟩
        have b10 : Below wr.heap.size wr w10 := bkeep b9 K10 (Nat.le_refl _) (fun j q => by have : j = p := q; omega)
        have HR10 : Hid (Rd w10 p a c L k 20) := R10
        clear R10 K10 HR9 b9 K
        go_wp2_with fail
        refine (fault_any p a c L k 20 _ HR10.out).mono ?_
        rintro e w11 ⟨rfl, b11⟩
        have ef : faultP k 20 = k := by simp [faultP]
        rw [ef]
        have HB11 : Hid (Below wr.heap.size wr w11) := bnext b10 b11 (Nat.le_refl _)
        clear ef b11 b10 HR10
        go_wp2_with (go_at_call 17; refine (num_any _ _).mono ?_; rintro e w' ⟨rfl, rfl⟩)
        go_roundw
        case rel => exact ⟨1, by go_num, by omega, Seen.below HS.out HB11.out, HC.out.below HB11.out, bnext hbl HB11.out (Nat.le_refl _)⟩
        case measure => simp [intOf]
      · subst hj0
        go_wp2_with (at_builtin; refine appB rfl (.const (.slice none 0 0)) (.tmp 61) rfl wr.heap.size _ [] rfl (Owns.nil _ _ _ _) a6 (n - 1) c6 L hL rfl HSL.out n6 hLb (Nat.le_refl _) ?_)
        intro v7 w7 o7 g7 _
        have b7 : Below wr.heap.size wr w7 := (Below.refl _ _).grown g7 (Nat.le_refl _) (by nofun)
        obtain ⟨a7, c7, rfl, s7, n7, l7, m7⟩ := o7.seen
        rw [ints_length] at l7
        rw [ints_length]
        have HS7 : Hid (Bytes w7 a7 L) := s7
        clear o7 g7 s7
        go_wp2_with fail
        have K0 := newReader_any a7 L c7 _ HS7.out l7 n7 hL1 aL
        rw [hL] at K0
        refine K0.mono ?_
        rintro e w8 ⟨p, a, c, rfl, hp, ha, hr, b8⟩
        have HR8 : Hid (Rd w8 p a c L 0 0) := hr
        have b78 : Below wr.heap.size wr w8 := bnext b7 b8 (Nat.le_refl _)
        have hp1 : wr.heap.size ≤ p := Nat.le_trans b7.size hp
        clear hr b7 b8 HS7 l7 n7 m7 K0
        go_wp2_with fail
        have K := readU_any ahead p a c L 0 0 _ HR8.out
        rw [u1.1, u1.2.1, u1.2.2] at K
        refine K.mono ?_
        rintro e w9 ⟨rfl, R9, K9⟩
        have b9 : Below wr.heap.size wr w9 := bkeep b78 K9 (Nat.le_refl _) (fun j q => by have : j = p := q; omega)
        have HR9 : Hid (Rd w9 p a c L k 0) := R9
        clear R9 K9 HR8 b78 K
        go_wp2_with fail
        have K := readS_any p a c L k 0 _ HR9.out
        rw [u2.1, u2.2.1, u2.2.2] at K
        refine K.mono ?_
        rintro e w10 ⟨rfl, R10, K10⟩
        have eu : uns 0 = 0 := by decide
        rw [eu]
        clear eu
        have b10 : Below wr.heap.size wr w10 := bkeep b9 K10 (Nat.le_refl _) (fun j q => by have : j = p := q; omega)
        have HR10 : Hid (Rd w10 p a c L k 20) := R10
        clear R10 K10 HR9 b9 K
        go_wp2_with fail
        refine (fault_any p a c L k 20 _ HR10.out).mono ?_
        rintro e w11 ⟨rfl, b11⟩
        have ef : faultP k 20 = k := by simp [faultP]
        rw [ef]
        have HB11 : Hid (Below wr.heap.size wr w11) := bnext b10 b11 (Nat.le_refl _)
        clear ef b11 b10 HR10
        go_wp2_with (go_at_call 17; refine (num_any _ _).mono ?_; rintro e w' ⟨rfl, rfl⟩)
        go_roundw
        case rel => exact ⟨2, by go_num, by omega, Seen.below HS.out HB11.out, HC.out.below HB11.out, bnext hbl HB11.out (Nat.le_refl _)⟩
        case measure => simp [intOf]
end Go.Proofs.YtllpfojkbeloeaaDoor
