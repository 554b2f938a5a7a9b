import Derived.Test.YtfoknkhbcnbdhaaOwn
import Derived.Deep.DeepCutAuto
namespace Go.Proofs.Ytfoknkhbcnbdhaa
open Go.RowKit Quota

theorem isum_reverse (xs : List Int) : isum xs.reverse = isum xs := by
  induction xs with
  | nil => rfl
  | cons x r ih => simp only [List.reverse_cons, isum_append, ih, isum]; omega
theorem all_reverse {xs : List Int} (h : All xs) : All xs.reverse := fun x hx => h x (by simpa using hx)

theorem Seen.take {w : World} {a : Option Addr} {xs : List Int} (h : Seen w a xs) (k : Nat) : Seen w a (xs.take k) := by
  rcases h with rfl | ⟨b, off, h1, h2, h3⟩
  · exact .inl (by simp)
  · refine .inr ⟨b, off, h1, h2, fun i hi => ?_⟩
    rw [h3 i (by simp at hi; omega)]
    simp

/-- Where 'l[k:]' leads. -/
def dropA (a : Option Addr) (cap k : Nat) : Option Addr := if cap = k then a else a.map (fun x => x.add k)

theorem slice_from (a : Option Addr) (n cap k : Nat) (w : World) (h : k ≤ n) (h2 : n ≤ cap) :
    (Instr.slice 35 (.slice a n cap) (some (.int .i64 k)) none none).run Try.prog w = .ok (.slice (dropA a cap k) (n - k) (cap - k)) w := by
  unfold dropA
  by_cases e : cap = k
  · subst e
    have hn : n = cap := by omega
    subst hn
    go_simp
  · have e' : ¬ k = cap := fun q => e q.symm
    rw [if_neg e]
    go_simp

theorem Seen.drop {w : World} {a : Option Addr} {xs : List Int} {cap : Nat} (h : Seen w a xs) (k : Nat) (hc : xs.length ≤ cap) : Seen w (dropA a cap k) (xs.drop k) := by
  by_cases hk : xs.length ≤ k
  · exact .inl (by simp; exact hk)
  · rcases h with rfl | ⟨b, off, h1, h2, h3⟩
    · simp at hk
    · refine .inr ⟨b, off + k, ?_, h2, fun i hi => ?_⟩
      · unfold dropA
        rw [if_neg (by omega), h1]
        simp [addr_add]
      · have := h3 (k + i) (by simp at hi; omega)
        rw [← Nat.add_assoc] at this
        rw [this]
        simp

theorem dropA_nil {a : Option Addr} {cap k : Nat} (h : a = none → cap = 0) : dropA a cap k = none → cap - k = 0 := by
  unfold dropA
  split
  · intro e; have := h e; omega
  · cases a with
    | none => intro _; have := h rfl; omega
    | some x => intro e; cases e

set_option maxHeartbeats 1000000 in
set_option maxRecDepth 100000 in
theorem sums_short (xs : List Int) (a : Option Addr) (cap : Nat) (pos x : Int) (w0 : World) (xs0 : List Int) (hcut : (xs0.take 2000) = xs) (hs : Seen w0 a xs0) (hx : All xs0) (ha : a = none → cap = 0) (hc : xs0.length ≤ cap) (hcap : cap ≤ maxLen) (hx0 : I64 x) :
    Calls Try.prog 7 #[.slice a xs0.length cap, .int .i64 pos, .int .i64 x] w0 fun e w' => e = .returned (.bool true) ∧ Below w0.heap.size w0 w' := by
  have hl : xs.length ≤ 2000 := by rw [← hcut]; simp; omega
  have hle : xs.length ≤ cap := by rw [← hcut]; simp; omega
  have hmin : min xs0.length 2000 = xs.length := by rw [← hcut]; simp; omega
  have hx1 : All xs := by rw [← hcut]; exact all_take hx _
  have hs1 : Seen w0 a xs := by
    rcases hs with rfl | ⟨b, off, h1, h2, h3⟩
    · simp at hcut; exact .inl hcut
    · refine .inr ⟨b, off, h1, h2, fun i hi => ?_⟩
      subst hcut
      rw [h3 i (by simp at hi; omega)]
      simp
  have HM : Hid (min xs0.length 2000 = xs.length) := hmin
  clear hcut hmin
  unfold maxLen at hcap
  go_enter Try.func7, Try.ntmps7
  go_wp2_with fail
  refine (awake_any _).mono ?_
  rintro e w1 ⟨rfl, h1⟩
  go_wp2_with fail
  refine (cut_at a xs0.length cap 2000 2000 _ rfl hc (fun h => by have := ha h; omega) (by unfold maxLen; omega) (by omega)).mono ?_
  rintro e w' ⟨rfl, rfl⟩
  rw [HM.out]
  have hs2 := hs1.below h1
  clear HM hs hs1 hx
  go_wp2_with fail
  refine (sum_any xs a cap _ hs2 hx1 (by omega)).mono ?_
  rintro e w2 ⟨rfl, h2⟩
  have hs3 := hs2.below h2
  have g2 := h1.trans (h2.mono h1.size)
  clear h1 h2 hs2
  go_wp2_with fail
  refine (turned_any xs a cap _ hs3 (by omega)).mono ?_
  rintro e w3 ⟨v, rfl, hown, h3⟩
  obtain ⟨av, cv, rfl, hsv, _, _⟩ := hown.seen
  have hs4 := hs3.below h3
  have g3 := g2.trans (h3.mono g2.size)
  clear h3 hs3 g2 hown
  go_wp2_with fail
  have K := sum_any xs.reverse av cv w3 hsv (all_reverse hx1) (by simp; omega)
  rw [isum_reverse, List.length_reverse] at K
  refine K.mono ?_
  clear K
  rintro e w4 ⟨rfl, h4⟩
  have hs5 := hs4.below h4
  have g4 := g3.trans (h4.mono g3.size)
  clear h4 hs4 g3 hsv
  generalize hS : isum xs = S at *
  have HS : Hid (isum xs = S) := hS
  clear hS
  go_upto_region 6 with fail
  go_cut [54] (fun s w' => s = .bool false ∧ w' = w4)
  case first =>
    by_cases q : I64 S
    · have b1 : (fitE S != 0) = false := by rw [(fit_yes q).2]; rfl
      go_wp2_with (go_at_call 10; refine (num_any _ _).mono ?_; rintro e w' ⟨rfl, rfl⟩)
      go_meet
      exact ⟨rfl, rfl⟩
    · have b1 : (fitE S != 0) = true := by rw [(fit_no q).2]; rfl
      have b2 : (fitV S != 0) = false := by rw [(fit_no q).1]; rfl
      go_wp2_with (go_at_call 10; refine (num_any _ _).mono ?_; rintro e w' ⟨rfl, rfl⟩)
      go_meet
      exact ⟨rfl, rfl⟩
  case rest =>
    obtain ⟨hs54, rfl⟩ := hcut
    rw [hs54]
    go_wp2_with fail
    refine (brought_any pos _ _ (by omega) (by omega)).mono ?_
    rintro e w' ⟨r, hr0, hr1, rfl, rfl⟩
    obtain ⟨k, rfl⟩ := Int.eq_ofNat_of_zero_le hr0
    have hk : k ≤ xs.length := by omega
    clear hr0 hr1
    go_wp2_with fail
    have K := sum_any (xs.take k) a cap wc (hs5.take k) (all_take hx1 k) (by simp; omega)
    rw [List.length_take_of_le hk] at K
    refine K.mono ?_
    clear K
    rintro e w5 ⟨rfl, h5⟩
    have hs6 := hs5.below h5
    have g5 := g4.trans (h5.mono g4.size)
    clear h5 hs5 g4
    have sl := fun w => slice_from a xs.length cap k w hk hle
    go_wp2_with fail
    clear sl
    have K := sum_any (xs.drop k) (dropA a cap k) (cap - k) w5 (hs6.drop k hle) (all_drop hx1 k) (by simp; omega)
    rw [List.length_drop] at K
    refine K.mono ?_
    clear K
    rintro e w6 ⟨rfl, h6⟩
    have hs7 := hs6.below h6
    have g6 := g5.trans (h6.mono g5.size)
    clear h6 hs6 g5
    have HAB : Hid (isum (xs.take k) + isum (xs.drop k) = S) := by
      have := isum_append (xs.take k) (xs.drop k)
      rw [List.take_append_drop, HS.out] at this
      exact this.symm
    generalize hA : isum (xs.take k) = A at *
    generalize hB : isum (xs.drop k) = B at *
    have HA : Hid (isum (xs.take k) = A) := hA
    have HB : Hid (isum (xs.drop k) = B) := hB
    clear hA hB
    go_upto_region 11 with fail
    go_cut [81] (fun s w' => s = .bool (fitB A && fitB B) ∧ w' = w6)
    case first =>
      by_cases q : I64 A
      · have b1 : (fitE A == 0) = true := by rw [(fit_yes q).2]; rfl
        have b3 : fitB A = true := fitB_true.2 q
        by_cases q' : I64 B
        · have b2 : (fitE B == 0) = true := by rw [(fit_yes q').2]; rfl
          have b4 : fitB B = true := fitB_true.2 q'
          go_wp2_with (go_at_call 10; refine (num_any _ _).mono ?_; rintro e w' ⟨rfl, rfl⟩)
          go_meet
          exact ⟨by rw [b3, b4]; rfl, rfl⟩
        · have b2 : (fitE B == 0) = false := by rw [(fit_no q').2]; rfl
          have b4 : fitB B = false := fitB_false.2 q'
          go_wp2_with (go_at_call 10; refine (num_any _ _).mono ?_; rintro e w' ⟨rfl, rfl⟩)
          go_meet
          exact ⟨by rw [b3, b4]; rfl, rfl⟩
      · have b1 : (fitE A == 0) = false := by rw [(fit_no q).2]; rfl
        have b3 : fitB A = false := fitB_false.2 q
        go_wp2_with (go_at_call 10; refine (num_any _ _).mono ?_; rintro e w' ⟨rfl, rfl⟩)
        go_meet
        exact ⟨by rw [b3]; rfl, rfl⟩
    case rest =>
      obtain ⟨hs81, rfl⟩ := hcut
      rw [hs81]
      clear hs81 hs54
      go_upto_if 81 with fail
      go_cut [16, 17] (fun _ _ w' => Below w0.heap.size w0 w' ∧ Seen w' a xs)
      case first =>
        cases hq : (fitB A && fitB B)
        · go_wp2_with fail
          go_meet
          exact ⟨g6, hs7⟩
        · simp only [Bool.and_eq_true] at hq
          have qA := fitB_true.1 hq.1
          have qB := fitB_true.1 hq.2
          have eA := (fit_yes qA).1
          have eB := (fit_yes qB).1
          have K := fun w => add_any (fitV A) (fitV B) w (by rw [eA]; exact qA) (by rw [eB]; exact qB)
          have eS : fitV A + fitV B = S := by rw [eA, eB]; exact HAB.out
          rw [eS] at K
          clear eA eB eS qA qB hq
          go_wp2_with (go_at_call 10; refine (num_any _ _).mono ?_; rintro e w' ⟨rfl, rfl⟩)
          refine (K _).mono ?_
          rintro e w7 ⟨rfl, h7⟩
          clear K
          go_wp2_with (go_at_call 10; refine (num_any _ _).mono ?_; rintro e w' ⟨rfl, rfl⟩)
          go_meet
          exact ⟨g6.trans (h7.mono g6.size), hs7.below h7⟩
      case rest =>
        obtain ⟨g7, hs8⟩ := hcut
        clear g6 hs7
        by_cases qx : I64 (-x)
        · have sl := fun w => slice_from a xs.length cap k w hk hle
          have hyt : (xs.take k).length = k := List.length_take_of_le hk
          have HT : Hid ((xs.take k).length = k) := hyt
          clear hyt
          go_wp2_with fail
          refine (neg_yes _ hx0 rfl qx).mono ?_
          rintro e w8 ⟨rfl, h8⟩
          have g8 := g7.trans (h8.mono g7.size)
          have hs9 := hs8.below h8
          clear g7 hs8 h8
          have hz8 := g8.size
          go_wp2_with (first | (go_at_call 10; refine (num_any _ _).mono ?_; rintro e w' ⟨rfl, rfl⟩) | (at_builtin; refine append_own rfl (.tmp 115) (.tmp 118) rfl w8.heap.size _ [] rfl (Owns.nil _ _) a k cap (xs.take k) HT.out rfl (hs9.take k) ha ?c3 ?c4 ?_))
          case c3 => simp; omega
          case c4 => exact Nat.le_refl _
          intro v1 w9 o9 r9
          have b9 : Below w8.heap.size w8 w9 := grown_below (Owns.nil _ _) (Nat.le_refl _) r9
          have O9 : Hid (Owns w9 w8.heap.size v1 (xs.take k)) := o9
          have z9 := b9.size
          clear o9 r9
          go_wp2_with (at_builtin; refine append_own rfl (.tmp 120) (.tmp 122) rfl w8.heap.size _ (xs.take k) rfl (O9.out.alloc _) (some ⟨w9.heap.size, 0, none⟩) 1 1 [x] rfl rfl ?d1 nofun ?d3 ?d4 ?_)
          case d1 => exact Seen.one _ _ _
          case d3 => simp; omega
          case d4 => first | omega | (simp; omega)
          intro v2 w10 o10 r10
          have b10 : Below w8.heap.size w8 w10 := (b9.alloc z9 _).trans (grown_below (O9.out.alloc _) (by simp; omega) r10)
          have O10 : Hid (Owns w10 w8.heap.size v2 (xs.take k ++ [x])) := o10
          have z10 := b10.size
          have hsd := (hs9.below b10).drop k hle
          have HE : Hid ((xs.drop k).length = xs.length - k) := List.length_drop
          clear o10 r10 O9 b9 z9
          go_wp2_with (at_builtin; refine append_own rfl (.tmp 124) (.tmp 127) rfl w8.heap.size _ (xs.take k ++ [x]) rfl O10.out (dropA a cap k) (xs.length - k) (cap - k) (xs.drop k) HE.out rfl hsd (dropA_nil ha) ?e3 ?e4 ?_)
          case e3 => simp; omega
          case e4 => first | omega | (simp; omega)
          intro v3 w11 o11 r11
          have b11 : Below w8.heap.size w8 w11 := b10.trans (grown_below O10.out z10 r11)
          obtain ⟨m3, hm3⟩ : ∃ m, m = xs.take k ++ [x] ++ xs.drop k := ⟨_, rfl⟩
          replace o11 : Owns w11 w8.heap.size v3 m3 := by rw [hm3]; simpa using o11
          have O11 : Hid (Owns w11 w8.heap.size v3 m3) := o11
          have HM3 : Hid (m3 = xs.take k ++ [x] ++ xs.drop k) := hm3
          have hl3 : m3.length ≤ 2002 := by rw [hm3]; simp; omega
          have z11 := b11.size
          clear o11 r11 O10 b10 z10 hsd hm3 sl
          go_wp2_with (at_builtin; refine append_own rfl (.tmp 129) (.tmp 131) rfl w8.heap.size _ m3 rfl (O11.out.alloc _) (some ⟨w11.heap.size, 0, none⟩) 1 1 [-x] rfl rfl ?f1 nofun ?f3 ?f4 ?_)
          case f1 => exact Seen.one _ _ _
          case f3 => simp; omega
          case f4 => first | omega | (simp; omega)
          intro v4 w12 o12 r12
          have b12 : Below w8.heap.size w8 w12 := (b11.alloc z11 _).trans (grown_below (O11.out.alloc _) (by simp; omega) r12)
          obtain ⟨m4, hm4⟩ : ∃ m, m = m3 ++ [-x] := ⟨_, rfl⟩
          replace o12 : Owns w12 w8.heap.size v4 m4 := by rw [hm4]; simpa using o12
          obtain ⟨av4, cv4, rfl, hsv4, _, _⟩ := o12.seen
          have hl4 : m4.length ≤ 2003 := by rw [hm4]; simp; omega
          have hA4 : All m4 := by
            rw [hm4, HM3.out]
            have a1 : All [x] := by intro y hy; simp at hy; rw [hy]; exact hx0
            have a2 : All [-x] := by intro y hy; simp at hy; rw [hy]; exact qx
            exact all_app (all_app (all_app (all_take hx1 k) a1) (all_drop hx1 k)) a2
          have hS4 : isum m4 = S := by
            rw [hm4, HM3.out]
            simp only [isum_append, isum]
            have e1 := HA.out
            have e2 := HB.out
            have e3 := HAB.out
            rw [e1, e2]
            omega
          have K := sum_any m4 av4 cv4 w12 hsv4 hA4 (by omega)
          rw [hS4] at K
          clear hS4 hA4 o12 r12 O11 b11 z11 hm4 hsv4
          go_wp2_with fail
          refine K.mono ?_
          clear K
          rintro e w13 ⟨rfl, h13⟩
          go_wp2_with fail
          go_ret
          exact ⟨rfl, (g8.trans (b12.mono hz8)).trans (h13.mono (Nat.le_trans hz8 b12.size))⟩
        · go_wp2_with fail
          refine (neg_no _ hx0 qx).mono ?_
          rintro e w7 ⟨rfl, h7⟩
          go_wp2_with (go_at_call 10; refine (num_any _ _).mono ?_; rintro e w' ⟨rfl, rfl⟩)
          go_ret
          exact ⟨rfl, g7.trans (h7.mono g7.size)⟩

theorem sums_walk (xs0 : List Int) (a : Option Addr) (cap : Nat) (pos x : Int) (w0 : World) (hs : Seen w0 a xs0) (hx : All xs0) (ha : a = none → cap = 0) (hc : xs0.length ≤ cap) (hcap : cap ≤ maxLen) (hx0 : I64 x) :
    Calls Try.prog 7 #[.slice a xs0.length cap, .int .i64 pos, .int .i64 x] w0 fun e w' => e = .returned (.bool true) ∧ Below w0.heap.size w0 w' :=
  sums_short _ a cap pos x w0 xs0 rfl hs hx ha hc hcap hx0
end Go.Proofs.Ytfoknkhbcnbdhaa
