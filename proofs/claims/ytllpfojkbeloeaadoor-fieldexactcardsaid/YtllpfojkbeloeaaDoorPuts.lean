import Derived.Test.YtllpfojkbeloeaaDoorKept
namespace Go.Proofs.YtllpfojkbeloeaaDoor
open Go.RowKit Go.QK

theorem hide {p : Prop} (h : p) : Hid p := h
def getX (l : List Nat) (pos size : Int) : Nat := if placed l.length pos size then fromB ((l.drop pos.toNat).take size.toNat) else 0
def getE (n : Nat) (pos size : Int) : Nat := if placed n pos size then 0 else 4
def putE (n : Nat) (pos size : Int) (x : Nat) : Nat := if placed n pos size then if x < 256 ^ size.toNat then 0 else 23 else 4
def putL (n : Nat) (L : List Nat) (pos size : Int) (x : Nat) : List Nat := if placed n pos size then if x < 256 ^ size.toNat then wrote L pos.toNat x size.toNat else L else L
def I64 (x : Int) : Prop := -9223372036854775808 ≤ x ∧ x ≤ 9223372036854775807

theorem get_any (a : Option Addr) (c : Nat) (pos size : Int) (l : List Nat) (w : World) (hs : Bytes w a l) (hb : AllB l) (hn : l.length ≤ 1000000) (h3 : l.length ≤ c) (hp : I64 pos) :
    Calls Tryd.prog 23 #[.slice a l.length c, .int .i64 pos, .int .i64 size] w fun e w' => e = .returned (.tuple #[.int .u64 ((getX l pos size : Nat) : Int), .int .i64 ((getE l.length pos size : Nat) : Int)]) ∧ w' = w := by
  unfold getX getE
  by_cases h : placed l.length pos size
  · rw [if_pos h, if_pos h]
    obtain ⟨q1, q2, q3, q4⟩ := h
    obtain ⟨p, rfl⟩ := Int.eq_ofNat_of_zero_le q3
    obtain ⟨s, rfl⟩ := Int.eq_ofNat_of_zero_le (by omega : 0 ≤ size)
    exact get_ok a c p s l w hs hb hn (by omega) (by omega) (by omega) h3
  · rw [if_neg h, if_neg h]
    exact get_bad a l.length c pos size w hn h hp
theorem rGet_any (a : Option Addr) (c : Nat) (pos size : Int) (l : List Nat) (w : World) (hs : Bytes w a l) (hb : AllB l) (hn : l.length ≤ 1000000) (hp : I64 pos) :
    Calls Tryd.prog 52 #[.slice a l.length c, .int .i64 pos, .int .i64 size] w fun e w' => e = .returned (.tuple #[.int .u64 ((getX l pos size : Nat) : Int), .int .i64 ((getE l.length pos size : Nat) : Int)]) ∧ w' = w := by
  unfold getX getE
  by_cases h : placed l.length pos size
  · rw [if_pos h, if_pos h]
    obtain ⟨q1, q2, q3, q4⟩ := h
    obtain ⟨p, rfl⟩ := Int.eq_ofNat_of_zero_le q3
    obtain ⟨s, rfl⟩ := Int.eq_ofNat_of_zero_le (by omega : 0 ≤ size)
    exact rGet_ok a c p s l w hs hb hn (by omega) (by omega) (by omega)
  · rw [if_neg h, if_neg h]
    exact rGet_bad a l.length c pos size w hn h hp
theorem put_any (g N n c x B : Nat) (pos size : Int) (L : List Nat) (w : World) (ho : OwnB w B (.slice (some ⟨g, 0, none⟩) N c) L) (hn : n ≤ 1000000) (h3 : n ≤ c) (hL : n ≤ L.length) (hp : I64 pos) :
    Calls Tryd.prog 22 #[.slice (some ⟨g, 0, none⟩) n c, .int .i64 pos, .int .i64 size, .int .u64 (x : Int)] w fun e w' => e = .returned (.int .i64 ((putE n pos size x : Nat) : Int)) ∧ OwnB w' B (.slice (some ⟨g, 0, none⟩) N c) (putL n L pos size x) ∧ Keep (fun k => k = g) w w' := by
  unfold putE putL
  by_cases h : placed n pos size
  · rw [if_pos h, if_pos h]
    obtain ⟨q1, q2, q3, q4⟩ := h
    obtain ⟨p, rfl⟩ := Int.eq_ofNat_of_zero_le q3
    obtain ⟨s, rfl⟩ := Int.eq_ofNat_of_zero_le (by omega : 0 ≤ size)
    by_cases hx : x < 256 ^ s
    · rw [Int.toNat_natCast, Int.toNat_natCast, if_pos hx, if_pos hx]
      exact put_ok g N n c p s x B L w ho hn (by omega) (by omega) (by omega) h3 hL hx
    · rw [Int.toNat_natCast, Int.toNat_natCast, if_neg hx, if_neg hx]
      refine (put_big g 0 n c p s x w hn (by omega) (by omega) (by omega) h3 (by omega)).mono ?_
      rintro e w' ⟨rfl, rfl⟩
      exact ⟨rfl, ho, Keep.refl _ _⟩
  · rw [if_neg h, if_neg h]
    refine (put_bad _ n c pos size x w hn h hp).mono ?_
    rintro e w' ⟨rfl, rfl⟩
    exact ⟨rfl, ho, Keep.refl _ _⟩
theorem rPut_any (a : Option Addr) (c x B : Nat) (pos size : Int) (L : List Nat) (w : World) (ho : OwnB w B (.slice a L.length c) L) (hn : L.length ≤ 1000000) (hp : I64 pos) (hx64 : x < 18446744073709551616) :
    Calls Tryd.prog 53 #[.slice a L.length c, .int .i64 pos, .int .i64 size, .int .u64 (x : Int)] w fun e w' => e = .returned (.int .i64 ((putE L.length pos size x : Nat) : Int)) ∧ OwnB w' B (.slice a L.length c) (putL L.length L pos size x) ∧ Keep (fun k => (Value.slice a L.length c).ownBlock = some k) w w' := by
  unfold putE putL
  by_cases h : placed L.length pos size
  · rw [if_pos h, if_pos h]
    obtain ⟨q1, q2, q3, q4⟩ := h
    obtain ⟨p, rfl⟩ := Int.eq_ofNat_of_zero_le q3
    obtain ⟨s, rfl⟩ := Int.eq_ofNat_of_zero_le (by omega : 0 ≤ size)
    obtain ⟨g, cap, hv, _, _, _⟩ := Owns.form ho (by rw [ints_length]; omega)
    simp only [Value.slice.injEq] at hv
    obtain ⟨rfl, _, rfl⟩ := hv
    by_cases hx : x < 256 ^ s
    · rw [Int.toNat_natCast, Int.toNat_natCast, if_pos hx, if_pos hx]
      refine (rPut_ok g L.length c p s x B L w ho hn (by omega) (by omega) (by omega) (Nat.le_refl _) hx hx64).mono ?_
      rintro e w' ⟨rfl, h1, h2⟩
      exact ⟨rfl, h1, h2.mono (fun k _ q => by rw [q]; rfl)⟩
    · rw [Int.toNat_natCast, Int.toNat_natCast, if_neg hx, if_neg hx]
      have h8 : s < 8 := by
        apply Classical.byContradiction
        intro hc
        have : s = 8 := by omega
        subst this
        apply hx
        omega
      refine (rPut_big _ L.length c p s x w hn (by omega) h8 (by omega) (by omega)).mono ?_
      rintro e w' ⟨rfl, rfl⟩
      exact ⟨rfl, ho, Keep.refl _ _⟩
  · rw [if_neg h, if_neg h]
    refine (rPut_bad _ L.length c pos size x w hn h hp).mono ?_
    rintro e w' ⟨rfl, rfl⟩
    exact ⟨rfl, ho, Keep.refl _ _⟩
theorem wrote_append (l m : List Nat) (pos x : Nat) : (i : Nat) → pos + i ≤ l.length → wrote (l ++ m) pos x i = wrote l pos x i ++ m
  | 0, _ => rfl
  | i + 1, h => by
    show (wrote (l ++ m) pos x i).set (pos + i) _ = (wrote l pos x i).set (pos + i) _ ++ m
    rw [wrote_append l m pos x i (by omega), List.set_append_left _ _ (by simp; omega)]
theorem putL_append (l m : List Nat) (pos size : Int) (x : Nat) : putL l.length (l ++ m) pos size x = putL l.length l pos size x ++ m := by
  unfold putL
  by_cases h : placed l.length pos size
  · rw [if_pos h, if_pos h]
    split
    · obtain ⟨q1, q2, q3, q4⟩ := h
      exact wrote_append l m _ x _ (by omega)
    · rfl
  · rw [if_neg h, if_neg h]
theorem putL_length (n : Nat) (l : List Nat) (pos size : Int) (x : Nat) : (putL n l pos size x).length = l.length := by
  unfold putL
  split
  · split <;> simp
  · rfl
theorem putL_bytes (n : Nat) {l : List Nat} (pos size : Int) (x : Nat) (h : AllB l) : AllB (putL n l pos size x) := by
  unfold putL
  split
  · split
    · exact wrote_bytes _ _ h _
    · exact h
  · exact h

/-- A call of a script, as it is handed on. -/
abbrev opC (k : Int) (wh : Bool) (n : Nat) (i at_ size : Int) (ab : Option Addr) (lb cb : Nat) (ap : Option Addr) (lp cp : Nat) : Array Value :=
  #[.int .i64 k, .bool wh, .int .u64 (n : Int), .int .i64 i, .int .i64 at_, .int .i64 size, .slice ab lb cb, .slice ap lp cp]
/-- Block b holds a call of a script. -/
def Row8 (w : World) (b : Nat) (x0 x1 x2 x3 x4 x5 x6 x7 : Value) : Prop :=
  b < w.heap.size ∧ w.cell? ⟨b, 0, none⟩ = some x0 ∧ w.cell? ⟨b, 1, none⟩ = some x1 ∧ w.cell? ⟨b, 2, none⟩ = some x2 ∧ w.cell? ⟨b, 3, none⟩ = some x3 ∧ w.cell? ⟨b, 4, none⟩ = some x4 ∧ w.cell? ⟨b, 5, none⟩ = some x5 ∧ w.cell? ⟨b, 6, none⟩ = some x6 ∧ w.cell? ⟨b, 7, none⟩ = some x7
theorem Row8.keep {S : Nat → Prop} {w w' : World} {b : Nat} {x0 x1 x2 x3 x4 x5 x6 x7 : Value} (h : Row8 w b x0 x1 x2 x3 x4 x5 x6 x7) (hb : Keep S w w') (hn : ¬ S b) : Row8 w' b x0 x1 x2 x3 x4 x5 x6 x7 := by
  obtain ⟨z, h0, h1, h2, h3, h4, h5, h6, h7⟩ := h
  exact ⟨Nat.lt_of_lt_of_le z hb.size, (hb.cell (p := ⟨b, 0, none⟩) z hn).trans h0, (hb.cell (p := ⟨b, 1, none⟩) z hn).trans h1, (hb.cell (p := ⟨b, 2, none⟩) z hn).trans h2, (hb.cell (p := ⟨b, 3, none⟩) z hn).trans h3,
    (hb.cell (p := ⟨b, 4, none⟩) z hn).trans h4, (hb.cell (p := ⟨b, 5, none⟩) z hn).trans h5, (hb.cell (p := ⟨b, 6, none⟩) z hn).trans h6, (hb.cell (p := ⟨b, 7, none⟩) z hn).trans h7⟩
theorem Row8.below {w w' : World} {b : Nat} {x0 x1 x2 x3 x4 x5 x6 x7 : Value} (h : Row8 w b x0 x1 x2 x3 x4 x5 x6 x7) (hb : Below w.heap.size w w') : Row8 w' b x0 x1 x2 x3 x4 x5 x6 x7 := h.keep (Keep.of_below (S := fun _ => False) hb) id
theorem Row8.new (w : World) (x0 x1 x2 x3 x4 x5 x6 x7 : Value) (t : TypeId) : Row8 (w.alloc (.cells #[x0, x1, x2, x3, x4, x5, x6, x7] t)) w.heap.size x0 x1 x2 x3 x4 x5 x6 x7 := by
  refine ⟨by simp, ?_, ?_, ?_, ?_, ?_, ?_, ?_, ?_⟩ <;> simp [go_sem]

set_option maxHeartbeats 2000000 in
set_option maxRecDepth 100000 in
theorem puts_get (wh : Bool) (n : Nat) (i at_ size : Int) (ab : Option Addr) (lb : List Nat) (cb : Nat) (ap : Option Addr) (lp cp : Nat) (w : World) (hb : Bytes w ab lb) (bb : AllB lb) (hlb : lb.length ≤ 4000) (hnb : ab = none → cb = 0) (hat : I64 at_) :
    Calls Tryd.prog 39 #[.agg (opC 12 wh n i at_ size ab lb.length cb ap lp cp)] w fun e w' => e = .returned (.bool true) ∧ Below w.heap.size w w' := by
  have R0 := Row8.new w (.int .i64 12) (.bool wh) (.int .u64 (n : Int)) (.int .i64 i) (.int .i64 at_) (.int .i64 size) (.slice ab lb.length cb) (.slice ap lp cp) 69
  have HR0 := hide R0
  have B0 : Below w.heap.size w (w.alloc (.cells #[.int .i64 12, .bool wh, .int .u64 (n : Int), .int .i64 i, .int .i64 at_, .int .i64 size, .slice ab lb.length cb, .slice ap lp cp] 69)) := (Below.refl _ _).alloc (Nat.le_refl _) _
  have HB0 : Hid (Bytes _ ab lb) := Seen.below hb B0
  clear R0 hb
  go_enter Tryd.func39, Tryd.ntmps39
  go_wp2_with fail
  refine (lent_any ab lb cb _ HB0.out hnb (by omega)).mono ?_
  rintro e w1 ⟨g, c, rfl, o1, hc, hcm, b1⟩
  have R1 := Row8.below HR0.out b1
  have HB1 : Hid (Bytes w1 ab lb) := Seen.below HB0.out b1
  have BB1 : Below w.heap.size w w1 := B0.trans (b1.mono (by simp))
  have HP1 : Hid (Bytes w1 (some ⟨g, 0, none⟩) (lb ++ marks)) := Owns.seen_at o1
  have hq1 : Bytes w1 (some ⟨g, 0, none⟩) lb := by
    have := Bytes.take (Owns.seen_at o1) lb.length
    simpa using this
  have HQ1 : Hid (Bytes w1 (some ⟨g, 0, none⟩) lb) := hq1
  clear hq1
  clear HR0 HB0 o1 B0 b1
  obtain ⟨z, q0, q1, q2, q3, q4, q5, q6, q7⟩ := R1
  go_wp2_with fail
  refine (get_any (some ⟨g, 0, none⟩) c at_ size lb w1 HQ1.out bb (by omega) (by omega) hat).mono ?_
  rintro e w2 ⟨rfl, rfl⟩
  go_wp2_with fail
  refine (rGet_any ab cb at_ size lb w2 HB1.out bb (by omega) hat).mono ?_
  rintro e w3 ⟨rfl, rfl⟩
  have K1 := kept_any g lb.length c (lb ++ marks) lb ab cb w3 HP1.out (by simp [marks]) (by omega) HB1.out hnb (by omega) (bb.append marks_b) bb
  rw [decide_eq_true rfl] at K1
  have HK1 := hide K1
  clear K1 HP1 HQ1 HB1
  go_wp2_with (first | (go_at_call 17; refine (num_any _ _).mono ?_; rintro e w' ⟨rfl, rfl⟩) | (go_at_call 46; refine (Hid.out HK1).mono ?_; rintro e w4 ⟨rfl, b4⟩))
  go_ret
  exact ⟨rfl, BB1.trans (b4.mono BB1.size)⟩

set_option maxHeartbeats 2000000 in
set_option maxRecDepth 100000 in
theorem puts_put (k : Int) (hk : k ≠ 12) (wh : Bool) (n : Nat) (i at_ size : Int) (ab : Option Addr) (lb : List Nat) (cb : Nat) (ap : Option Addr) (lp cp : Nat) (w : World) (hb : Bytes w ab lb) (bb : AllB lb) (hlb : lb.length ≤ 4000) (hnb : ab = none → cb = 0) (hat : I64 at_) (hn : n < 18446744073709551616) :
    Calls Tryd.prog 39 #[.agg (opC k wh n i at_ size ab lb.length cb ap lp cp)] w fun e w' => e = .returned (.bool true) ∧ Below w.heap.size w w' := by
  have hl0 : ([] : List Nat).length + lb.length ≤ 2000000 := by simp; omega
  have dk : (k == 12) = false := by simpa using hk
  have R0 := Row8.new w (.int .i64 k) (.bool wh) (.int .u64 (n : Int)) (.int .i64 i) (.int .i64 at_) (.int .i64 size) (.slice ab lb.length cb) (.slice ap lp cp) 69
  have HR0 := hide R0
  have B0 : Below w.heap.size w (w.alloc (.cells #[.int .i64 k, .bool wh, .int .u64 (n : Int), .int .i64 i, .int .i64 at_, .int .i64 size, .slice ab lb.length cb, .slice ap lp cp] 69)) := (Below.refl _ _).alloc (Nat.le_refl _) _
  have HB0 : Hid (Bytes _ ab lb) := Seen.below hb B0
  have hz0 : ∀ o : Obj, w.heap.size < (w.alloc o).heap.size := fun o => by simp
  clear R0 hb
  go_enter Tryd.func39, Tryd.ntmps39
  go_wp2_with fail
  refine (lent_any ab lb cb _ HB0.out hnb (by omega)).mono ?_
  rintro e w1 ⟨g, c, rfl, o1, hc, hcm, b1⟩
  have R1 := Row8.below HR0.out b1
  have HB1 : Hid (Bytes w1 ab lb) := Seen.below HB0.out b1
  have hg : w.heap.size < g := Nat.lt_of_lt_of_le (hz0 _) (World.ownsRow.lt o1 g rfl).1
  have BB1 : Below w.heap.size w w1 := B0.trans (b1.mono (by simp))
  have hb1 : ∀ ad, ab = some ad → lb ≠ [] → ad.block ≠ g := by
    intro ad had hne q
    rcases HB0.out with r | ⟨b, off, r, r2, _⟩
    · cases lb with
      | nil => exact hne rfl
      | cons x l => simp [ints] at r
    · rw [had] at r
      cases r
      have := (World.ownsRow.lt o1 g rfl).1
      simp at q
      omega
  have HO1 := hide o1
  clear HR0 HB0 o1 B0 b1
  obtain ⟨z, q0, q1, q2, q3, q4, q5, q6, q7⟩ := R1
  have R1 := hide (show Row8 w1 w.heap.size _ _ _ _ _ _ _ _ from ⟨z, q0, q1, q2, q3, q4, q5, q6, q7⟩)
  go_wp2_with fail
  refine (put_any g (lb.length + 3) lb.length c n _ at_ size (lb ++ marks) w1 HO1.out (by omega) (by omega) (by simp) hat).mono ?_
  rintro e w2 ⟨rfl, o2, k2⟩
  rw [putL_append] at o2
  have R2 := Row8.keep R1.out k2 (by omega)
  have BB2 : Below w.heap.size w w2 := BB1.trans (k2.below (Nat.le_of_lt z) (fun j hj q => by omega))
  have HB2 : Hid (Bytes w2 ab lb) := by
    by_cases hne : lb = []
    · subst hne; exact .inl rfl
    · exact Seen.keep HB1.out k2 (fun ad had => hb1 ad had hne)
  have HO2 := hide o2
  clear R1 k2 o2 HB1 HO1 z q0 q1 q2 q3 q4 q5 q6 q7
  obtain ⟨z, q0, q1, q2, q3, q4, q5, q6, q7⟩ := R2
  have R2 := hide (show Row8 w2 w.heap.size _ _ _ _ _ _ _ _ from ⟨z, q0, q1, q2, q3, q4, q5, q6, q7⟩)
  go_wp2_with (at_builtin; refine appB rfl (.const (.slice none 0 0)) (.tmp 60) rfl w2.heap.size _ [] rfl (Owns.nil _ _ _ _) ab lb.length cb lb rfl rfl HB2.out hnb hl0 (Nat.le_refl _) ?_)
  intro v w3 o3 g3 _
  have b3 : Below w2.heap.size w2 w3 := (Below.refl _ _).grown g3 (Nat.le_refl _) (by nofun)
  have R3 := Row8.below R2.out b3
  have BB3 : Below w.heap.size w w3 := BB2.trans (b3.mono (Nat.le_of_lt z))
  have HO3 := hide (Owns.below HO2.out b3)
  have hg2 : g < w2.heap.size := (World.ownsRow.lt HO2.out g rfl).2
  have hg3 : ∀ j, v.ownBlock = some j → w2.heap.size ≤ j := fun j hj => (World.ownsRow.lt o3 j hj).1
  have o3' : OwnB w3 w2.heap.size v lb := by simpa using o3
  obtain ⟨a3, c3, rfl, s3, ha3, hc3, _⟩ := o3'.seen
  rw [ints_length] at hc3 hg3
  have hv : (Value.slice a3 (ints lb).length c3) = .slice a3 lb.length c3 := by rw [ints_length]
  rw [hv] at o3'
  simp only [ints_length]
  have HV3 := hide o3'
  clear R2 HO2 o3 o3' g3 b3 HB2 z q0 q1 q2 q3 q4 q5 q6 q7 hv
  obtain ⟨z, q0, q1, q2, q3, q4, q5, q6, q7⟩ := R3
  go_wp2_with fail
  refine (rPut_any a3 c3 n w2.heap.size at_ size lb w3 HV3.out (by omega) hat hn).mono ?_
  rintro e w4 ⟨rfl, o4, k4⟩
  have BB4 : Below w.heap.size w w4 := BB3.trans (k4.below (Nat.le_of_lt z) (fun j hj q => by have := hg3 j q; have := BB2.size; omega))
  have HO4 := hide (Owns.keep HO3.out k4 (fun j hj q => by have := hg3 j q; have : g = j := Option.some.inj hj; omega))
  have HP4 := hide (Owns.seen_at HO4.out)
  obtain ⟨L, hL⟩ : ∃ L, L = putL lb.length lb at_ size n := ⟨_, rfl⟩
  have bL : AllB L := by rw [hL]; exact putL_bytes _ _ _ _ bb
  have lL : L.length = lb.length := by rw [hL]; exact putL_length _ _ _ _ _
  rw [← hL] at HP4 o4
  have s4 : Bytes w4 a3 L := by
    obtain ⟨a5, c5, e5, s5, _⟩ := o4.seen
    simp only [Value.slice.injEq] at e5
    rw [e5.1]
    exact s5
  have K1 := kept_any g lb.length c (L ++ marks) L a3 c3 w4 HP4.out (by simp [marks]) (by omega) s4 ha3 (by omega) (bL.append marks_b) bL
  rw [decide_eq_true rfl, lL] at K1
  have HK1 := hide K1
  clear K1 s4 HP4 HO4 HO3 o4 k4 HV3 s3 z q0 q1 q2 q3 q4 q5 q6 q7
  go_wp2_with (first | (go_at_call 17; refine (num_any _ _).mono ?_; rintro e w' ⟨rfl, rfl⟩) | (go_at_call 46; refine (Hid.out HK1).mono ?_; rintro e w5 ⟨rfl, b5⟩))
  go_ret
  exact ⟨rfl, BB4.trans (b5.mono BB4.size)⟩

theorem puts_any (k : Int) (wh : Bool) (n : Nat) (i at_ size : Int) (ab : Option Addr) (lb : List Nat) (cb : Nat) (ap : Option Addr) (lp cp : Nat) (w : World) (hb : Bytes w ab lb) (bb : AllB lb) (hlb : lb.length ≤ 4000) (hnb : ab = none → cb = 0) (hat : I64 at_) (hn : n < 18446744073709551616) :
    Calls Tryd.prog 39 #[.agg (opC k wh n i at_ size ab lb.length cb ap lp cp)] w fun e w' => e = .returned (.bool true) ∧ Below w.heap.size w w' := by
  by_cases hk : k = 12
  · subst hk
    exact puts_get wh n i at_ size ab lb cb ap lp cp w hb bb hlb hnb hat
  · exact puts_put k hk wh n i at_ size ab lb cb ap lp cp w hb bb hlb hnb hat hn

end Go.Proofs.YtllpfojkbeloeaaDoor
