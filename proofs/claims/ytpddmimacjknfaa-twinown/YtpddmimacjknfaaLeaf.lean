import Derived.Test.YtpddmimacjknfaaProg
import Derived.Test.YtpddmimacjknfaaBody
namespace Go.Proofs.Ytpddmimacjknfaa
open Go.RowKit Go.QK

theorem info5 : (Try.prog.info? 5).map (fun i => (i.zero, i.size, i.bytes)) = some (some (.int .u8 0), 1, 1) := by kernel_rfl
theorem info79 : (Try.prog.info? 83).map (fun i => (i.zero, i.size, i.bytes)) = some (some (.int .u64 0), 1, 8) := by kernel_rfl
theorem info65 : (Try.prog.info? 102).map (fun i => (i.size, i.bytes)) = some (2, 32) := by kernel_rfl
set_option maxRecDepth 100000 in
theorem nilEq (a : Option Addr) (l c : Nat) (w : World) : (binOp .eql 22 (.slice a l c) (.slice none 0 0)).run Try.prog w = .ok (.bool a.isNone) w := by
  cases a <;> rfl
set_option maxRecDepth 100000 in
theorem nilEq64 (a : Option Addr) (l c : Nat) (w : World) : (binOp .eql 42 (.slice a l c) (.slice none 0 0)).run Try.prog w = .ok (.bool a.isNone) w := by
  cases a <;> rfl
theorem alloc_below (w : World) (o : Obj) : Below w.heap.size w (w.alloc o) := (Below.refl _ _).alloc (Nat.le_refl _) _
theorem bnext {B : Nat} {w w1 w2 : World} (h : Below B w w1) (k : Below w1.heap.size w1 w2) (hB : B ≤ w.heap.size) : Below B w w2 := h.trans (k.mono (Nat.le_trans hB h.size))

def bring (x : Int) (n : Nat) : Nat := (x % n).toNat
theorem bring_lt (x : Int) (n : Nat) (h : 1 ≤ n) : bring x n < n := by
  unfold bring
  have := Int.emod_lt_of_pos x (show (0 : Int) < n by omega)
  have := Int.emod_nonneg x (show (n : Int) ≠ 0 by omega)
  omega

set_option maxRecDepth 100000 in
theorem clone_any (a : Option Addr) (l : List Nat) (cap : Nat) (w : World) (hs : Bytes w a l) (hc : l.length ≤ cap) (ha : a = none → cap = 0) (hl : l.length ≤ 5000000) :
    Calls Try.prog 75 #[.slice a l.length cap] w fun e w' => ∃ v, e = .returned v ∧ OwnB w' w.heap.size v l ∧ Below w.heap.size w w' := by
  cases a with
  | none =>
    have := ha rfl
    have hl0 : l = [] := List.eq_nil_of_length_eq_zero (by omega)
    subst hl0
    have E := fun w => nilEq none 0 0 w
    simp only [Option.isNone_none] at E
    go_enter Try.func75, Try.ntmps75
    go_wp2_with fail
    go_ret
    exact ⟨_, rfl, Owns.nil _ _ _ _, Below.refl _ _⟩
  | some ad =>
    have E := fun w => nilEq (some ad) l.length cap w
    simp only [Option.isNone_some] at E
    go_enter Try.func75, Try.ntmps75
    have H0 : OwnB (w.alloc (.cells #[] 5)) w.heap.size (.slice (some ⟨w.heap.size, 0, none⟩) 0 0) [] := by
      have := World.ownsRow_lit (base := w.heap.size) (e := 5) (size := 1) w #[] 0 (Nat.le_refl _) (by unfold maxLen; omega) rfl
      simpa [Owns] using this
    have HO : Hid _ := H0
    clear H0
    have HS : Hid _ := Seen.below hs ((Below.refl w.heap.size w).alloc (Nat.le_refl _) (.cells #[] 5))
    clear hs
    go_wp2_with (at_builtin; refine append_own Try.underlying22 info5 rfl (.tmp 5) (.tmp 6) rfl w.heap.size _ [] rfl HO.out (some ad) l.length cap (ints l) (by simp) rfl HS.out nofun ?c1 ?c2 ?c3 ?_)
    case c1 => unfold maxLen; simp; omega
    case c2 => simp; omega
    case c3 => simp
    intro v' w1 hown hg _
    have R1 : Below w.heap.size w w1 := ((Below.refl _ _).alloc (Nat.le_refl _) _).grown hg (by simp) (fun j hj => (World.ownsRow.lt HO.out j hj).1)
    have HO1 : Hid _ := hown
    clear hown hg HO HS
    go_wp2_with fail
    go_ret
    exact ⟨_, rfl, HO1.out, R1⟩

/-- Words of the program's own. -/
abbrev OwnW (w : World) (B : Nat) (v : Value) (l : List Nat) : Prop := Owns .u64 83 w B v (ints l)

set_option maxRecDepth 100000 in
theorem cloneW_any (a : Option Addr) (l : List Nat) (cap : Nat) (w : World) (hs : Seen .u64 w a (ints l)) (hc : l.length ≤ cap) (ha : a = none → cap = 0) (hl : l.length ≤ 17592186044415) :
    Calls Try.prog 39 #[.slice a l.length cap] w fun e w' => ∃ v, e = .returned v ∧ OwnW w' w.heap.size v l ∧ Below w.heap.size w w' := by
  cases a with
  | none =>
    have := ha rfl
    have hl0 : l = [] := List.eq_nil_of_length_eq_zero (by omega)
    subst hl0
    have E := fun w => nilEq64 none 0 0 w
    simp only [Option.isNone_none] at E
    go_enter Try.func39, Try.ntmps39
    go_wp2_with fail
    go_ret
    exact ⟨_, rfl, Owns.nil _ _ _ _, Below.refl _ _⟩
  | some ad =>
    have E := fun w => nilEq64 (some ad) l.length cap w
    simp only [Option.isNone_some] at E
    go_enter Try.func39, Try.ntmps39
    have H0 : OwnW (w.alloc (.cells #[] 83)) w.heap.size (.slice (some ⟨w.heap.size, 0, none⟩) 0 0) [] := by
      have := World.ownsRow_lit (base := w.heap.size) (e := 83) (size := 1) w #[] 0 (Nat.le_refl _) (by unfold maxLen; omega) rfl
      simpa [Owns] using this
    have HO : Hid _ := H0
    clear H0
    have HS : Hid _ := Seen.below hs ((Below.refl w.heap.size w).alloc (Nat.le_refl _) (.cells #[] 83))
    clear hs
    go_wp2_with (at_builtin; refine append_own Try.underlying42 info79 rfl (.tmp 5) (.tmp 6) rfl w.heap.size _ [] rfl HO.out (some ad) l.length cap (ints l) (by simp) rfl HS.out nofun ?c1 ?c2 ?c3 ?_)
    case c1 => unfold maxLen; simp; omega
    case c2 => simp; omega
    case c3 => simp
    intro v' w1 hown hg _
    have R1 : Below w.heap.size w w1 := ((Below.refl _ _).alloc (Nat.le_refl _) _).grown hg (by simp) (fun j hj => (World.ownsRow.lt HO.out j hj).1)
    have HO1 : Hid _ := hown
    clear hown hg HO HS
    go_wp2_with fail
    go_ret
    exact ⟨_, rfl, HO1.out, R1⟩

set_option maxRecDepth 100000 in
theorem own_any (a : Option Addr) (l : List Nat) (cap : Nat) (w : World) (hs : Bytes w a l) (ha : a = none → cap = 0) (hl : l.length ≤ 5000000) :
    Calls Try.prog 78 #[.slice a l.length cap] w fun e w' => ∃ v, e = .returned v ∧ OwnB w' w.heap.size v l ∧ Below w.heap.size w w' := by
  go_enter Try.func78, Try.ntmps78
  go_wp2_with (at_builtin; refine append_own Try.underlying22 info5 rfl (.const (.slice none 0 0)) (.tmp 3) rfl w.heap.size _ [] rfl (Owns.nil _ _ _ _) a l.length cap (ints l) (by simp) rfl hs ha ?c1 ?c2 (Nat.le_refl _) ?_)
  case c1 => unfold maxLen; simp; omega
  case c2 => simp; omega
  intro v' w1 hown hg _
  have R1 : Below w.heap.size w w1 := (Below.refl _ _).grown hg (Nat.le_refl _) (by nofun)
  have HO1 : Hid _ := hown
  clear hown hg hs
  go_wp2_with fail
  go_ret
  exact ⟨_, rfl, HO1.out, R1⟩

/-! Strings of bytes: 'string(a) == string(b)'. -/
def strOf (l : List Nat) : ByteArray := (ints l).foldl (fun r n => r.push (UInt8.ofNat n.toNat)) ByteArray.empty
theorem str_fold (l : List Nat) (b : ByteArray) : ((ints l).foldl (fun r n => r.push (UInt8.ofNat n.toNat)) b).data.toList = b.data.toList ++ l.map UInt8.ofNat := by
  induction l generalizing b with
  | nil => simp
  | cons x l ih =>
    simp only [ints, List.map_cons, List.foldl_cons] at ih ⊢
    rw [ih]
    simp [ByteArray.push]
theorem str_list (l : List Nat) : (strOf l).data.toList = l.map UInt8.ofNat := by
  have := str_fold l ByteArray.empty
  simpa [strOf] using this
theorem u8_inj {x y : Nat} (hx : x < 256) (hy : y < 256) (h : UInt8.ofNat x = UInt8.ofNat y) : x = y := by
  have := congrArg UInt8.toNat h
  simpa [UInt8.toNat_ofNat, Nat.mod_eq_of_lt hx, Nat.mod_eq_of_lt hy] using this
theorem map_u8_inj : {l m : List Nat} → AllB l → AllB m → l.map UInt8.ofNat = m.map UInt8.ofNat → l = m
  | [], [], _, _, _ => rfl
  | [], _ :: _, _, _, h => by simp at h
  | _ :: _, [], _, _, h => by simp at h
  | x :: l, y :: m, hl, hm, h => by
    simp only [List.map_cons, List.cons.injEq] at h
    rw [u8_inj (hl x (by simp)) (hm y (by simp)) h.1, map_u8_inj (fun z hz => hl z (by simp [hz])) (fun z hz => hm z (by simp [hz])) h.2]
theorem str_eq {l m : List Nat} (hl : AllB l) (hm : AllB m) : ((strOf l).toList == (strOf m).toList) = decide (l = m) := by
  have e : ∀ b : ByteArray, b.toList = b.data.toList := fun b => ByteArray.toList_eq b
  rw [e, e, str_list, str_list]
  by_cases q : l = m
  · subst q; simp
  · rw [decide_eq_false q, beq_eq_false_iff_ne]
    exact fun h => q (map_u8_inj hl hm h)

theorem conv_any (a : Option Addr) (l : List Nat) (c : Nat) (w : World) (hs : Bytes w a l) : (convert 22 9 (.slice a l.length c)).run Try.prog w = .ok (.string (strOf l)) w := by
  rw [run_convert_bytes_string w 22 9 5 a l.length c Try.underlying22 Try.underlying5 Try.underlying9]
  cases a with
  | none =>
    rcases hs with h | ⟨b, off, h, _⟩
    · have : l = [] := by cases l with | nil => rfl | cons x l => simp [ints] at h
      subst this
      rfl
    · cases h
  | some ad =>
    refine run_bytesToString w ad l.length c (ints l) ?_
    have := run_loadCells_list (P := Try.prog) w ad ((ints l).map (Value.int .u8)) ?_
    · simpa using this
    · intro j v hj
      rcases hs with h | ⟨b, off, h, _, h3⟩
      · rw [h] at hj; simp at hj
      · cases h
        simp only [List.getElem?_map, Option.map_eq_some_iff] at hj
        obtain ⟨q, hq, rfl⟩ := hj
        obtain ⟨hjl, hq'⟩ := List.getElem?_eq_some_iff.1 hq
        rw [addr_add, h3 j hjl, hq']

end Go.Proofs.Ytpddmimacjknfaa
