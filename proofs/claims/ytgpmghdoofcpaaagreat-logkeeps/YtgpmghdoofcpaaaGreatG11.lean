import Derived.Test.YtgpmghdoofcpaaaGreatProg
import Derived.Test.YtgpmghdoofcpaaaGreatG10
import Derived.Test.YtgpmghdoofcpaaaGreatG08
namespace Go.Proofs.YtgpmghdoofcpaaaGreat.Dv
open Go.RowKit Go.QK

theorem info5 : (Tryz.prog.info? 5).map (fun i => (i.zero, i.size, i.bytes)) = some (some (.int .u8 0), 1, 1) := by kernel_rfl
theorem info79 : (Tryz.prog.info? 116).map (fun i => (i.zero, i.size, i.bytes)) = some (some (.int .u64 0), 1, 8) := by kernel_rfl
theorem info65 : (Tryz.prog.info? 124).map (fun i => (i.size, i.bytes)) = some (2, 32) := by kernel_rfl
set_option maxRecDepth 100000 in
theorem nilEq (a : Option Addr) (l c : Nat) (w : World) : (binOp .eql 80 (.slice a l c) (.slice none 0 0)).run Tryz.prog w = .ok (.bool a.isNone) w := by
  cases a <;> rfl
set_option maxRecDepth 100000 in
theorem nilEq64 (a : Option Addr) (l c : Nat) (w : World) : (binOp .eql 62 (.slice a l c) (.slice none 0 0)).run Tryz.prog w = .ok (.bool a.isNone) w := by
  cases a <;> rfl
theorem alloc_below (w : World) (o : Obj) : Below w.heap.size w (w.alloc o) := (Below.refl _ _).alloc (Nat.le_refl _) _
theorem bnext {B : Nat} {w w1 w2 : World} (h : Below B w w1) (k : Below w1.heap.size w1 w2) (hB : B ≤ w.heap.size) : Below B w w2 := h.trans (k.mono (Nat.le_trans hB h.size))

set_option maxRecDepth 100000 in
theorem num_any (e : Int) (w : World) : Calls Tryz.prog 14 #[.int .i64 e] w fun e' w' => e' = .returned (.int .i64 e) ∧ w' = w := by
  go_enter Tryz.func14, Tryz.ntmps14
  go_wp2_with fail
  go_ret
  exact ⟨rfl, rfl⟩

def bring (x : Int) (n : Nat) : Nat := (x % n).toNat
theorem bring_lt (x : Int) (n : Nat) (h : 1 ≤ n) : bring x n < n := by
  unfold bring
  have := Int.emod_lt_of_pos x (show (0 : Int) < n by omega)
  have := Int.emod_nonneg x (show (n : Int) ≠ 0 by omega)
  omega

set_option maxRecDepth 100000 in
theorem brought_any (x : Int) (n : Nat) (w : World) (h1 : 1 ≤ n) (h2 : n ≤ 1000000) :
    Calls Tryz.prog 21 #[.int .i64 x, .int .i64 (n : Int)] w fun e w' => e = .returned (.int .i64 ((bring x n : Nat) : Int)) ∧ w' = w := by
  have hb := bring_lt x n h1
  have hn0 : ¬ ((n : Int) = 0) := by omega
  have e0 := Int.emod_nonneg x hn0
  have e1 := Int.emod_lt_of_pos x (show (0 : Int) < n by omega)
  have hbe : ((bring x n : Nat) : Int) = x % n := by unfold bring; omega
  have ht : x.tmod n = if 0 ≤ x ∨ x % n = 0 then x % n else x % n - n := by
    rw [Int.tmod_eq_emod]
    by_cases q : 0 ≤ x
    · rw [if_pos (Or.inl q), if_pos (Or.inl q)]; omega
    · by_cases r : x % n = 0
      · rw [if_pos (Or.inr (Int.dvd_of_emod_eq_zero r)), if_pos (Or.inr r)]; omega
      · rw [if_neg (by rintro (a | a); exact q a; exact r (Int.emod_eq_zero_of_dvd a)), if_neg (by rintro (a | a); exact q a; exact r a)]
        omega
  by_cases c : 0 ≤ x ∨ x % n = 0
  · rw [if_pos c] at ht
    rw [← hbe] at ht
    have g : ¬ (((bring x n : Nat) : Int) < 0) := by omega
    generalize bring x n = r at *
    clear hbe e0 e1 c
    go_enter Tryz.func21, Tryz.ntmps21
    go_wp2_with fail
    go_ret
    exact ⟨rfl, rfl⟩
  · rw [if_neg c] at ht
    rw [← hbe] at ht e0 e1
    have g : ((bring x n : Nat) : Int) - n < 0 := by omega
    generalize bring x n = r at *
    have g2 : ((r : Int) - n) + n = r := by omega
    have g3 : IntKind.i64.wrap ((r : Int) - n + n) = r := by rw [IntKind.wrap_i64]; omega
    clear hbe e0 e1 c
    go_enter Tryz.func21, Tryz.ntmps21
    go_wp2_with fail
    go_ret
    refine ⟨?_, rfl⟩
    first | rfl | simp

set_option maxRecDepth 100000 in
theorem clone_any (a : Option Addr) (l : List Nat) (cap : Nat) (w : World) (hs : Bytes w a l) (hc : l.length ≤ cap) (ha : a = none → cap = 0) (hl : l.length ≤ 5000000) :
    Calls Tryz.prog 59 #[.slice a l.length cap] w fun e w' => ∃ v, e = .returned v ∧ OwnB w' w.heap.size v l ∧ Below w.heap.size w w' := by
  cases a with
  | none =>
    have := ha rfl
    have hl0 : l = [] := List.eq_nil_of_length_eq_zero (by omega)
    subst hl0
    have E := fun w => nilEq none 0 0 w
    simp only [Option.isNone_none] at E
    go_enter Tryz.func59, Tryz.ntmps59
    go_wp2_with fail
    go_ret
    exact ⟨_, rfl, Owns.nil _ _ _ _, Below.refl _ _⟩
  | some ad =>
    have E := fun w => nilEq (some ad) l.length cap w
    simp only [Option.isNone_some] at E
    go_enter Tryz.func59, Tryz.ntmps59
    have H0 : OwnB (w.alloc (.cells #[] 5)) w.heap.size (.slice (some ⟨w.heap.size, 0, none⟩) 0 0) [] := by
      have := World.ownsRow_lit (base := w.heap.size) (e := 5) (size := 1) w #[] 0 (Nat.le_refl _) (by unfold maxLen; omega) rfl
      simpa [Owns] using this
    have HO : Hid _ := H0
    clear H0
    have HS : Hid _ := Seen.below hs ((Below.refl w.heap.size w).alloc (Nat.le_refl _) (.cells #[] 5))
    clear hs
    go_wp2_with (at_builtin; refine append_own Tryz.underlying80 info5 rfl (.tmp 5) (.tmp 6) rfl w.heap.size _ [] rfl HO.out (some ad) l.length cap (ints l) (by simp) rfl HS.out nofun ?c1 ?c2 ?c3 ?_)
    case c1 => unfold maxLen; simp; omega
    case c2 => simp; omega
    case c3 => simp
    intro v' w1 hown hg _
    have R1 : Below w.heap.size w w1 := ((Below.refl _ _).alloc (Nat.le_refl _) _).grown hg (by simp) (fun j hj => (World.ownsRow.lt HO.out j hj).1)
    have HO1 : Hid _ := hown
    clear hown hg HO HS
    go_wp2_with fail
    go_ret
    exact ⟨_, rfl, HO1.out, R1⟩

/-- Words of the program's own. -/
abbrev OwnW (w : World) (B : Nat) (v : Value) (l : List Nat) : Prop := Owns .u64 116 w B v (ints l)

set_option maxRecDepth 100000 in
theorem cloneW_any (a : Option Addr) (l : List Nat) (cap : Nat) (w : World) (hs : Seen .u64 w a (ints l)) (hc : l.length ≤ cap) (ha : a = none → cap = 0) (hl : l.length ≤ 17592186044415) :
    Calls Tryz.prog 51 #[.slice a l.length cap] w fun e w' => ∃ v, e = .returned v ∧ OwnW w' w.heap.size v l ∧ Below w.heap.size w w' := by
  cases a with
  | none =>
    have := ha rfl
    have hl0 : l = [] := List.eq_nil_of_length_eq_zero (by omega)
    subst hl0
    have E := fun w => nilEq64 none 0 0 w
    simp only [Option.isNone_none] at E
    go_enter Tryz.func51, Tryz.ntmps51
    go_wp2_with fail
    go_ret
    exact ⟨_, rfl, Owns.nil _ _ _ _, Below.refl _ _⟩
  | some ad =>
    have E := fun w => nilEq64 (some ad) l.length cap w
    simp only [Option.isNone_some] at E
    go_enter Tryz.func51, Tryz.ntmps51
    have H0 : OwnW (w.alloc (.cells #[] 116)) w.heap.size (.slice (some ⟨w.heap.size, 0, none⟩) 0 0) [] := by
      have := World.ownsRow_lit (base := w.heap.size) (e := 116) (size := 1) w #[] 0 (Nat.le_refl _) (by unfold maxLen; omega) rfl
      simpa [Owns] using this
    have HO : Hid _ := H0
    clear H0
    have HS : Hid _ := Seen.below hs ((Below.refl w.heap.size w).alloc (Nat.le_refl _) (.cells #[] 116))
    clear hs
    go_wp2_with (at_builtin; refine append_own Tryz.underlying62 info79 rfl (.tmp 5) (.tmp 6) rfl w.heap.size _ [] rfl HO.out (some ad) l.length cap (ints l) (by simp) rfl HS.out nofun ?c1 ?c2 ?c3 ?_)
    case c1 => unfold maxLen; simp; omega
    case c2 => simp; omega
    case c3 => simp
    intro v' w1 hown hg _
    have R1 : Below w.heap.size w w1 := ((Below.refl _ _).alloc (Nat.le_refl _) _).grown hg (by simp) (fun j hj => (World.ownsRow.lt HO.out j hj).1)
    have HO1 : Hid _ := hown
    clear hown hg HO HS
    go_wp2_with fail
    go_ret
    exact ⟨_, rfl, HO1.out, R1⟩

def strOf (l : List Nat) : ByteArray := (ints l).foldl (fun r n => r.push (UInt8.ofNat n.toNat)) ByteArray.empty
theorem str_fold (l : List Nat) (b : ByteArray) : ((ints l).foldl (fun r n => r.push (UInt8.ofNat n.toNat)) b).data.toList = b.data.toList ++ l.map UInt8.ofNat := by
  induction l generalizing b with
  | nil => simp
  | cons x l ih =>
    simp only [ints, List.map_cons, List.foldl_cons] at ih ⊢
    rw [ih]
    simp [ByteArray.push]
theorem str_list (l : List Nat) : (strOf l).data.toList = l.map UInt8.ofNat := by
  have := str_fold l ByteArray.empty
  simpa [strOf] using this
theorem u8_inj {x y : Nat} (hx : x < 256) (hy : y < 256) (h : UInt8.ofNat x = UInt8.ofNat y) : x = y := by
  have := congrArg UInt8.toNat h
  simpa [UInt8.toNat_ofNat, Nat.mod_eq_of_lt hx, Nat.mod_eq_of_lt hy] using this
theorem map_u8_inj : {l m : List Nat} → AllB l → AllB m → l.map UInt8.ofNat = m.map UInt8.ofNat → l = m
  | [], [], _, _, _ => rfl
  | [], _ :: _, _, _, h => by simp at h
  | _ :: _, [], _, _, h => by simp at h
  | x :: l, y :: m, hl, hm, h => by
    simp only [List.map_cons, List.cons.injEq] at h
    rw [u8_inj (hl x (by simp)) (hm y (by simp)) h.1, map_u8_inj (fun z hz => hl z (by simp [hz])) (fun z hz => hm z (by simp [hz])) h.2]
theorem str_eq {l m : List Nat} (hl : AllB l) (hm : AllB m) : ((strOf l).toList == (strOf m).toList) = decide (l = m) := by
  have e : ∀ b : ByteArray, b.toList = b.data.toList := fun b => ByteArray.toList_eq b
  rw [e, e, str_list, str_list]
  by_cases q : l = m
  · subst q; simp
  · rw [decide_eq_false q, beq_eq_false_iff_ne]
    exact fun h => q (map_u8_inj hl hm h)

theorem conv_any (a : Option Addr) (l : List Nat) (c : Nat) (w : World) (hs : Bytes w a l) : (convert 80 9 (.slice a l.length c)).run Tryz.prog w = .ok (.string (strOf l)) w := by
  rw [run_convert_bytes_string w 80 9 5 a l.length c Tryz.underlying80 Tryz.underlying5 Tryz.underlying9]
  cases a with
  | none =>
    rcases hs with h | ⟨b, off, h, _⟩
    · have : l = [] := by cases l with | nil => rfl | cons x l => simp [ints] at h
      subst this
      rfl
    · cases h
  | some ad =>
    refine run_bytesToString w ad l.length c (ints l) ?_
    have := run_loadCells_list (P := Tryz.prog) w ad ((ints l).map (Value.int .u8)) ?_
    · simpa using this
    · intro j v hj
      rcases hs with h | ⟨b, off, h, _, h3⟩
      · rw [h] at hj; simp at hj
      · cases h
        simp only [List.getElem?_map, Option.map_eq_some_iff] at hj
        obtain ⟨q, hq, rfl⟩ := hj
        obtain ⟨hjl, hq'⟩ := List.getElem?_eq_some_iff.1 hq
        rw [addr_add, h3 j hjl, hq']

set_option maxRecDepth 100000 in
theorem same_any (a b : Option Addr) (l m : List Nat) (c d : Nat) (w : World) (hl : Bytes w a l) (hm : Bytes w b m) (al : AllB l) (am : AllB m) :
    Calls Tryz.prog 34 #[.slice a l.length c, .slice b m.length d] w fun e w' => e = .returned (.bool (decide (l = m))) ∧ w' = w := by
  have e1 := conv_any a l c w hl
  have e2 := conv_any b m d w hm
  have e3 := str_eq al am
  have E3 : Hid _ := e3
  generalize strOf l = s at *
  generalize strOf m = t at *
  clear e3 hl hm
  go_enter Tryz.func34, Tryz.ntmps34
  go_wp2_with fail
  go_ret
  exact ⟨by rw [← E3.out]; rfl, rfl⟩

end Go.Proofs.YtgpmghdoofcpaaaGreat.Dv

namespace Go.Proofs.YtgpmghdoofcpaaaGreat.Dv
open Go.RowKit Go.QK

theorem hide {p : Prop} (h : p) : Hid p := h
def ptrAt (p : Nat) : Value := .pointer (some ⟨p, 0, none⟩)
theorem quo512 (p : Nat) : (p : Int).tdiv 512 = ((p / 512 : Nat) : Int) := by rw [Int.tdiv_eq_ediv_of_nonneg (by omega)]; omega

section
variable {w : World} {S : Nat → Prop} {d : Nat} {g : Dev}
set_option maxRecDepth 100000 in
theorem sectors_any (h : PDev w S d g) : Calls Tryz.prog 62 #[.pointer (some ⟨d, 0, none⟩)] w fun e w' => e = .returned (.int .i64 ((g.n : Nat) : Int)) ∧ w' = w := by
  obtain ⟨ib, ic, pv, ps, kv, to, off, hc, hb, hp, ok⟩ := h
  obtain ⟨n, n1, n2, hn⟩ := ok.size
  obtain ⟨c0, _⟩ := hc.get 0 _ rfl
  have q := quo512 g.img.length
  have hg : g.n = n := by unfold Dev.n; omega
  have q2 : g.img.length / 512 = n := by omega
  rw [q2] at q
  rw [hg]
  generalize g.img.length = m at *
  clear hn hg q2 hb hp ok hc
  go_enter Tryz.func62, Tryz.ntmps62
  go_wp2_with fail
  go_ret
  exact ⟨rfl, rfl⟩
set_option maxRecDepth 100000 in
theorem down_any (h : PDev w S d g) : Calls Tryz.prog 24 #[.pointer (some ⟨d, 0, none⟩)] w fun e w' => e = .returned (.bool g.down) ∧ w' = w := by
  obtain ⟨ib, ic, pv, ps, kv, to, off, hc, hb, hp, ok⟩ := h
  obtain ⟨c0, _⟩ := hc.get 3 _ rfl
  clear hb hp ok hc
  go_enter Tryz.func24, Tryz.ntmps24
  go_wp2_with fail
  go_ret
  exact ⟨rfl, rfl⟩
set_option maxRecDepth 100000 in
theorem calls_any (h : PDev w S d g) : Calls Tryz.prog 41 #[.pointer (some ⟨d, 0, none⟩)] w fun e w' => e = .returned (.int .i64 (g.calls : Int)) ∧ w' = w := by
  obtain ⟨ib, ic, pv, ps, kv, to, off, hc, hb, hp, ok⟩ := h
  obtain ⟨c0, _⟩ := hc.get 2 _ rfl
  clear hb hp ok hc
  go_enter Tryz.func41, Tryz.ntmps41
  go_wp2_with fail
  go_ret
  exact ⟨rfl, rfl⟩
theorem img_le {cs : Value → Value → Dev → Value → Int → Int → List Value} (h : DevAt cs w S d g) : g.img.length ≤ 4194304 := by
  obtain ⟨ib, ic, pv, ps, kv, to, off, hc, hb, hp, ok⟩ := h
  obtain ⟨n, n1, n2, hn⟩ := ok.size
  omega
set_option maxRecDepth 100000 in
theorem image_any (h : PDev w S d g) : Calls Tryz.prog 30 #[.pointer (some ⟨d, 0, none⟩)] w fun e w' => ∃ v, e = .returned v ∧ OwnB w' w.heap.size v g.img ∧ Below w.heap.size w w' := by
  have hl := img_le h
  obtain ⟨ib, ic, pv, ps, kv, to, off, hc, hb, hp, ok⟩ := h
  obtain ⟨c0, _⟩ := hc.get 0 _ rfl
  obtain ⟨a, cap, hv, hs, ha, hle, _⟩ := hb.img.seen
  rw [ints_length] at hle hv
  cases hv
  clear hb hp ok hc
  go_enter Tryz.func30, Tryz.ntmps30
  go_wp2_with fail
  refine (clone_any _ g.img ic w hs hle nofun (by omega)).mono ?_
  rintro e w1 ⟨v, rfl, ho, hb⟩
  have HO := hide ho
  clear ho
  go_wp2_with fail
  go_ret
  exact ⟨v, rfl, HO.out, hb⟩
set_option maxRecDepth 100000 in
theorem reach_any (i : Int) (h : PDev w S d g) : Calls Tryz.prog 77 #[.pointer (some ⟨d, 0, none⟩), .int .i64 i] w fun e w' => e = .returned (.int .i64 ((g.reach i : Nat) : Int)) ∧ w' = w := by
  have hsec := hide (sectors_any h)
  obtain ⟨ib, ic, pv, ps, kv, to, off, hc, hb, hp, ok⟩ := h
  obtain ⟨c3, _⟩ := hc.get 3 _ rfl
  clear hb hp ok hc
  unfold Dev.reach
  by_cases hd : g.down = true
  · rw [hd] at c3
    rw [if_pos hd]
    clear hsec
    go_enter Tryz.func77, Tryz.ntmps77
    go_wp2_with fail
    go_ret
    exact ⟨rfl, rfl⟩
  · rw [if_neg hd]
    simp only [Bool.not_eq_true] at hd
    rw [hd] at c3
    generalize g.n = n at *
    by_cases hi : i < 0
    · rw [if_pos (Or.inl hi)]
      clear hsec
      go_enter Tryz.func77, Tryz.ntmps77
      go_wp2_with fail
      go_ret
      exact ⟨rfl, rfl⟩
    · by_cases hj : (n : Int) ≤ i
      · rw [if_pos (Or.inr hj)]
        have hi' : decide (i < 0) = false := by simpa using hi
        clear hi
        go_enter Tryz.func77, Tryz.ntmps77
        go_wp2_with fail
        refine hsec.out.mono ?_
        rintro e w' ⟨rfl, rfl⟩
        go_wp2_with fail
        go_ret
        exact ⟨rfl, rfl⟩
      · rw [if_neg (by omega)]
        have hi' : decide (i < 0) = false := by simpa using hi
        have hj' : decide ((n : Int) ≤ i) = false := by simpa using hj
        clear hi hj
        go_enter Tryz.func77, Tryz.ntmps77
        go_wp2_with fail
        refine hsec.out.mono ?_
        rintro e w' ⟨rfl, rfl⟩
        go_wp2_with fail
        go_ret
        exact ⟨rfl, rfl⟩
end

set_option maxRecDepth 100000 in
/-- The image's cell of a device: what 'durable' reads. -/
theorem durable_at {w : World} {d ib m ic : Nat} (i : Nat) (c0 : w.cell? ⟨d, 0, none⟩ = some (.slice (some ⟨ib, 0, none⟩) m ic)) (hi : 512 * i + 512 ≤ m) (hm : m ≤ ic) (hl : m ≤ 4194304) :
    Calls Tryz.prog 105 #[.pointer (some ⟨d, 0, none⟩), .int .i64 (i : Int)] w fun e w' => e = .returned (.slice (some ⟨ib, 512 * i, none⟩) 512 (ic - 512 * i)) ∧ w' = w := by
  have e1 : IntKind.i64.wrap ((i : Int) * 512) = ((512 * i : Nat) : Int) := by rw [IntKind.wrap_i64]; omega
  have e2 : IntKind.i64.wrap (((i : Int) + 1) * 512) = ((512 * i + 512 : Nat) : Int) := by rw [IntKind.wrap_i64]; omega
  have e3 : IntKind.i64.wrap ((i : Int) + 1) = (i : Int) + 1 := by rw [IntKind.wrap_i64]; omega
  generalize 512 * i = u at *
  go_enter Tryz.func105, Tryz.ntmps105
  go_wp2_with fail
  go_ret
  exact ⟨by simp, rfl⟩
end Go.Proofs.YtgpmghdoofcpaaaGreat.Dv

namespace Go.Proofs.YtgpmghdoofcpaaaGreat.Dv
open Go.RowKit Go.QK

theorem quo64 (p : Nat) : (p : Int).tdiv 64 = ((p / 64 : Nat) : Int) := by rw [Int.tdiv_eq_ediv_of_nonneg (by omega)]; omega
theorem rem64 (p : Nat) : (p : Int).tmod 64 = ((p % 64 : Nat) : Int) := by rw [Int.tmod_eq_emod_of_nonneg (by omega)]; omega

theorem keptN_no {keep : List Nat} {k : Nat} (h : ¬ k / 64 < keep.length) : keptN keep k = false := by simp [keptN, h]
theorem keptN_yes {keep : List Nat} {k : Nat} (h : k / 64 < keep.length) : keptN keep k = decide (keep.getD (k / 64) 0 / 2 ^ (k % 64) % 2 = 1) := by simp [keptN, h]

theorem bit_eq (x r : Nat) (hx : x < 18446744073709551616) : (bits .and .u64 ((x : Int) / 2 ^ r) 1 == 1) = decide (x / 2 ^ r % 2 = 1) := by
  have e : (x : Int) / 2 ^ r = ((x / 2 ^ r : Nat) : Int) := by simp
  rw [e, and1_u64 _ (Nat.lt_of_le_of_lt (Nat.div_le_self _ _) hx)]
  by_cases q : x / 2 ^ r % 2 = 1
  · rw [q]; rfl
  · rw [decide_eq_false q, beq_eq_false_iff_ne]
    omega

set_option maxRecDepth 100000 in
theorem keeps_any (a : Option Addr) (keep : List Nat) (c k : Nat) (w : World) (hs : Seen .u64 w a (ints keep)) (hk : k ≤ 1000000) (hw : ∀ x ∈ keep, x < 18446744073709551616) :
    Calls Tryz.prog 107 #[.slice a keep.length c, .int .i64 (k : Int)] w fun e w' => e = .returned (.bool (keptN keep k)) ∧ w' = w := by
  have e1 := quo64 k
  have e2 := rem64 k
  have hq : k / 64 ≤ 1000000 := by omega
  have hq' : wrap64 ((k / 64 : Nat) : Int) = ((k / 64 : Nat) : Int) := by unfold wrap64; omega
  by_cases h : k / 64 < keep.length
  · rw [keptN_yes h]
    obtain ⟨b, off, rfl, hb, hc⟩ := Seen.at hs (i := k / 64) (by simpa using h)
    rw [ints_getD] at hc
    have hx : keep.getD (k / 64) 0 < 18446744073709551616 := by
      have := hw keep[k / 64] (List.getElem_mem h)
      simpa [h] using this
    have hr : k % 64 < 64 := Nat.mod_lt _ (by decide)
    have e3 := hide (bit_eq (keep.getD (k / 64) 0) (k % 64) hx)
    have h' : ((k / 64 : Nat) : Int) < (keep.length : Int) := by omega
    generalize keep.getD (k / 64) 0 = x at *
    generalize k / 64 = q at *
    generalize k % 64 = r at *
    clear hs hw
    generalize keep.length = n at *
    go_enter Tryz.func107, Tryz.ntmps107
    go_wp2_with fail
    go_ret
    exact ⟨by rw [← e3.out]; rfl, rfl⟩
  · rw [keptN_no h]
    have h' : ¬ (((k / 64 : Nat) : Int) < (keep.length : Int)) := by omega
    generalize k / 64 = q at *
    generalize keep.length = n at *
    go_enter Tryz.func107, Tryz.ntmps107
    go_wp2_with fail
    go_ret
    exact ⟨rfl, rfl⟩

/-- A loss as it is handed on. -/
def lossV (a : Option Addr) (n c : Nat) (to off : Int) : Value := .agg #[.slice a n c, .int .i64 to, .int .i64 off]

set_option maxRecDepth 100000 in
theorem leaves_any (l : Loss) (a : Option Addr) (c k : Nat) (w : World) (hs : Seen .u64 w a (ints l.keep)) (hk : k ≤ 1000000) (ok : l.Ok) :
    Calls Tryz.prog 81 #[.agg #[.slice a l.keep.length c, .int .i64 l.torn, .int .i64 l.off], .int .i64 (k : Int)] w fun e w' => e = .returned (.int .i64 ((leavesN l k : Nat) : Int)) ∧ Below w.heap.size w w' := by
  have K := hide (keeps_any a l.keep c k _ (hs.below (alloc_below w (.cells #[.slice a l.keep.length c, .int .i64 l.torn, .int .i64 l.off] 64))) hk ok.keep)
  obtain ⟨keep, to, off⟩ := l
  dsimp only at *
  unfold leavesN
  dsimp only
  cases hq : keptN keep k with
  | true =>
    rw [if_pos rfl]
    have HQ := hide hq
    clear hq
    go_enter Tryz.func81, Tryz.ntmps81
    go_wp2_with fail
    refine K.out.mono ?_
    rintro e w' ⟨rfl, rfl⟩
    rw [HQ.out]
    go_wp2_with fail
    go_ret
    exact ⟨rfl, alloc_below _ _⟩
  | false =>
    rw [if_neg (by decide)]
    have HQ := hide hq
    clear hq
    by_cases ht : (k : Int) = to
    · rw [if_pos ht]
      have ht' : ((k : Int) == to) = true := by simp [ht]
      have HT := hide ht
      clear ht
      go_enter Tryz.func81, Tryz.ntmps81
      go_wp2_with fail
      refine K.out.mono ?_
      rintro e w' ⟨rfl, rfl⟩
      rw [HQ.out]
      go_wp2_with fail
      all_goals
        go_ret
        refine ⟨?_, alloc_below _ _⟩
        show Ending.returned (Value.int IntKind.i64 _) = Ending.returned (Value.int IntKind.i64 _)
        congr 2
        first | omega | (rename_i q1 q2; revert q1; split <;> omega) | (rename_i q1; revert q1; split <;> omega)
    · rw [if_neg ht]
      have ht' : ((k : Int) == to) = false := by simpa using ht
      go_enter Tryz.func81, Tryz.ntmps81
      go_wp2_with fail
      refine K.out.mono ?_
      rintro e w' ⟨rfl, rfl⟩
      rw [HQ.out]
      go_wp2_with fail
      go_ret
      exact ⟨rfl, alloc_below _ _⟩
end Go.Proofs.YtgpmghdoofcpaaaGreat.Dv
