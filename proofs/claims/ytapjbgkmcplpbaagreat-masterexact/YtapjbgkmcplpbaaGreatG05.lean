import Derived.Test.YtapjbgkmcplpbaaGreatProg
import Derived.Test.YtapjbgkmcplpbaaGreatBody
import Derived.Deep.RegionHeld
namespace Go.Proofs.YtapjbgkmcplpbaaGreat
open Go.RowKit Go.QK

theorem info5 : (Tryz.prog.info? 5).map (fun i => (i.zero, i.size, i.bytes)) = some (some (.int .u8 0), 1, 1) := by kernel_rfl
theorem info79 : (Tryz.prog.info? 80).map (fun i => (i.zero, i.size, i.bytes)) = some (some (.int .u64 0), 1, 8) := by kernel_rfl
theorem info65 : (Tryz.prog.info? 98).map (fun i => (i.size, i.bytes)) = some (2, 32) := by kernel_rfl
set_option maxRecDepth 100000 in
theorem nilEq (a : Option Addr) (l c : Nat) (w : World) : (binOp .eql 34 (.slice a l c) (.slice none 0 0)).run Tryz.prog w = .ok (.bool a.isNone) w := by
  cases a <;> rfl
set_option maxRecDepth 100000 in
theorem nilEq64 (a : Option Addr) (l c : Nat) (w : World) : (binOp .eql 31 (.slice a l c) (.slice none 0 0)).run Tryz.prog w = .ok (.bool a.isNone) w := by
  cases a <;> rfl
theorem alloc_below (w : World) (o : Obj) : Below w.heap.size w (w.alloc o) := (Below.refl _ _).alloc (Nat.le_refl _) _
theorem bnext {B : Nat} {w w1 w2 : World} (h : Below B w w1) (k : Below w1.heap.size w1 w2) (hB : B ≤ w.heap.size) : Below B w w2 := h.trans (k.mono (Nat.le_trans hB h.size))

set_option maxRecDepth 100000 in
theorem num_any (e : Int) (w : World) : Calls Tryz.prog 12 #[.int .i64 e] w fun e' w' => e' = .returned (.int .i64 e) ∧ w' = w := by
  go_enter Tryz.func12, Tryz.ntmps12
  go_wp2_with fail
  go_ret
  exact ⟨rfl, rfl⟩

def bring (x : Int) (n : Nat) : Nat := (x % n).toNat
theorem bring_lt (x : Int) (n : Nat) (h : 1 ≤ n) : bring x n < n := by
  unfold bring
  have := Int.emod_lt_of_pos x (show (0 : Int) < n by omega)
  have := Int.emod_nonneg x (show (n : Int) ≠ 0 by omega)
  omega

set_option maxRecDepth 100000 in
theorem clone_any (a : Option Addr) (l : List Nat) (cap : Nat) (w : World) (hs : Bytes w a l) (hc : l.length ≤ cap) (ha : a = none → cap = 0) (hl : l.length ≤ 5000000) :
    Calls Tryz.prog 66 #[.slice a l.length cap] w fun e w' => ∃ v, e = .returned v ∧ OwnB w' w.heap.size v l ∧ Below w.heap.size w w' := by
  cases a with
  | none =>
    have := ha rfl
    have hl0 : l = [] := List.eq_nil_of_length_eq_zero (by omega)
    subst hl0
    have E := fun w => nilEq none 0 0 w
    simp only [Option.isNone_none] at E
    go_enter Tryz.func66, Tryz.ntmps66
    go_wp2_with fail
    go_ret
    exact ⟨_, rfl, Owns.nil _ _ _ _, Below.refl _ _⟩
  | some ad =>
    have E := fun w => nilEq (some ad) l.length cap w
    simp only [Option.isNone_some] at E
    go_enter Tryz.func66, Tryz.ntmps66
    have H0 : OwnB (w.alloc (.cells #[] 5)) w.heap.size (.slice (some ⟨w.heap.size, 0, none⟩) 0 0) [] := by
      have := World.ownsRow_lit (base := w.heap.size) (e := 5) (size := 1) w #[] 0 (Nat.le_refl _) (by unfold maxLen; omega) rfl
      simpa [Owns] using this
    have HO : Hid _ := H0
    clear H0
    have HS : Hid _ := Seen.below hs ((Below.refl w.heap.size w).alloc (Nat.le_refl _) (.cells #[] 5))
    clear hs
    go_wp2_with (at_builtin; refine append_own Tryz.underlying34 info5 rfl (.tmp 5) (.tmp 6) rfl w.heap.size _ [] rfl HO.out (some ad) l.length cap (ints l) (by simp) rfl HS.out nofun ?c1 ?c2 ?c3 ?_)
    case c1 => unfold maxLen; simp; omega
    case c2 => simp; omega
    case c3 => simp
    intro v' w1 hown hg _
    have R1 : Below w.heap.size w w1 := ((Below.refl _ _).alloc (Nat.le_refl _) _).grown hg (by simp) (fun j hj => (World.ownsRow.lt HO.out j hj).1)
    have HO1 : Hid _ := hown
    clear hown hg HO HS
    go_wp2_with fail
    go_ret
    exact ⟨_, rfl, HO1.out, R1⟩

/-- Words of the program's own. -/
abbrev OwnW (w : World) (B : Nat) (v : Value) (l : List Nat) : Prop := Owns .u64 80 w B v (ints l)

set_option maxRecDepth 100000 in
theorem cloneW_any (a : Option Addr) (l : List Nat) (cap : Nat) (w : World) (hs : Seen .u64 w a (ints l)) (hc : l.length ≤ cap) (ha : a = none → cap = 0) (hl : l.length ≤ 17592186044415) :
    Calls Tryz.prog 56 #[.slice a l.length cap] w fun e w' => ∃ v, e = .returned v ∧ OwnW w' w.heap.size v l ∧ Below w.heap.size w w' := by
  cases a with
  | none =>
    have := ha rfl
    have hl0 : l = [] := List.eq_nil_of_length_eq_zero (by omega)
    subst hl0
    have E := fun w => nilEq64 none 0 0 w
    simp only [Option.isNone_none] at E
    go_enter Tryz.func56, Tryz.ntmps56
    go_wp2_with fail
    go_ret
    exact ⟨_, rfl, Owns.nil _ _ _ _, Below.refl _ _⟩
  | some ad =>
    have E := fun w => nilEq64 (some ad) l.length cap w
    simp only [Option.isNone_some] at E
    go_enter Tryz.func56, Tryz.ntmps56
    have H0 : OwnW (w.alloc (.cells #[] 80)) w.heap.size (.slice (some ⟨w.heap.size, 0, none⟩) 0 0) [] := by
      have := World.ownsRow_lit (base := w.heap.size) (e := 80) (size := 1) w #[] 0 (Nat.le_refl _) (by unfold maxLen; omega) rfl
      simpa [Owns] using this
    have HO : Hid _ := H0
    clear H0
    have HS : Hid _ := Seen.below hs ((Below.refl w.heap.size w).alloc (Nat.le_refl _) (.cells #[] 80))
    clear hs
    go_wp2_with (at_builtin; refine append_own Tryz.underlying31 info79 rfl (.tmp 5) (.tmp 6) rfl w.heap.size _ [] rfl HO.out (some ad) l.length cap (ints l) (by simp) rfl HS.out nofun ?c1 ?c2 ?c3 ?_)
    case c1 => unfold maxLen; simp; omega
    case c2 => simp; omega
    case c3 => simp
    intro v' w1 hown hg _
    have R1 : Below w.heap.size w w1 := ((Below.refl _ _).alloc (Nat.le_refl _) _).grown hg (by simp) (fun j hj => (World.ownsRow.lt HO.out j hj).1)
    have HO1 : Hid _ := hown
    clear hown hg HO HS
    go_wp2_with fail
    go_ret
    exact ⟨_, rfl, HO1.out, R1⟩

set_option maxRecDepth 100000 in
theorem own_any (a : Option Addr) (l : List Nat) (cap : Nat) (w : World) (hs : Bytes w a l) (ha : a = none → cap = 0) (hl : l.length ≤ 5000000) :
    Calls Tryz.prog 67 #[.slice a l.length cap] w fun e w' => ∃ v, e = .returned v ∧ OwnB w' w.heap.size v l ∧ Below w.heap.size w w' := by
  go_enter Tryz.func67, Tryz.ntmps67
  go_wp2_with (at_builtin; refine append_own Tryz.underlying34 info5 rfl (.const (.slice none 0 0)) (.tmp 3) rfl w.heap.size _ [] rfl (Owns.nil _ _ _ _) a l.length cap (ints l) (by simp) rfl hs ha ?c1 ?c2 (Nat.le_refl _) ?_)
  case c1 => unfold maxLen; simp; omega
  case c2 => simp; omega
  intro v' w1 hown hg _
  have R1 : Below w.heap.size w w1 := (Below.refl _ _).grown hg (Nat.le_refl _) (by nofun)
  have HO1 : Hid _ := hown
  clear hown hg hs
  go_wp2_with fail
  go_ret
  exact ⟨_, rfl, HO1.out, R1⟩

/-! Strings of bytes: 'string(a) == string(b)'. -/
def strOf (l : List Nat) : ByteArray := (ints l).foldl (fun r n => r.push (UInt8.ofNat n.toNat)) ByteArray.empty
theorem str_fold (l : List Nat) (b : ByteArray) : ((ints l).foldl (fun r n => r.push (UInt8.ofNat n.toNat)) b).data.toList = b.data.toList ++ l.map UInt8.ofNat := by
  induction l generalizing b with
  | nil => simp
  | cons x l ih =>
    simp only [ints, List.map_cons, List.foldl_cons] at ih ⊢
    rw [ih]
    simp [ByteArray.push]
theorem str_list (l : List Nat) : (strOf l).data.toList = l.map UInt8.ofNat := by
  have := str_fold l ByteArray.empty
  simpa [strOf] using this
theorem u8_inj {x y : Nat} (hx : x < 256) (hy : y < 256) (h : UInt8.ofNat x = UInt8.ofNat y) : x = y := by
  have := congrArg UInt8.toNat h
  simpa [UInt8.toNat_ofNat, Nat.mod_eq_of_lt hx, Nat.mod_eq_of_lt hy] using this
theorem map_u8_inj : {l m : List Nat} → AllB l → AllB m → l.map UInt8.ofNat = m.map UInt8.ofNat → l = m
  | [], [], _, _, _ => rfl
  | [], _ :: _, _, _, h => by simp at h
  | _ :: _, [], _, _, h => by simp at h
  | x :: l, y :: m, hl, hm, h => by
    simp only [List.map_cons, List.cons.injEq] at h
    rw [u8_inj (hl x (by simp)) (hm y (by simp)) h.1, map_u8_inj (fun z hz => hl z (by simp [hz])) (fun z hz => hm z (by simp [hz])) h.2]
theorem str_eq {l m : List Nat} (hl : AllB l) (hm : AllB m) : ((strOf l).toList == (strOf m).toList) = decide (l = m) := by
  have e : ∀ b : ByteArray, b.toList = b.data.toList := fun b => ByteArray.toList_eq b
  rw [e, e, str_list, str_list]
  by_cases q : l = m
  · subst q; simp
  · rw [decide_eq_false q, beq_eq_false_iff_ne]
    exact fun h => q (map_u8_inj hl hm h)

theorem conv_any (a : Option Addr) (l : List Nat) (c : Nat) (w : World) (hs : Bytes w a l) : (convert 34 9 (.slice a l.length c)).run Tryz.prog w = .ok (.string (strOf l)) w := by
  rw [run_convert_bytes_string w 34 9 5 a l.length c Tryz.underlying34 Tryz.underlying5 Tryz.underlying9]
  cases a with
  | none =>
    rcases hs with h | ⟨b, off, h, _⟩
    · have : l = [] := by cases l with | nil => rfl | cons x l => simp [ints] at h
      subst this
      rfl
    · cases h
  | some ad =>
    refine run_bytesToString w ad l.length c (ints l) ?_
    have := run_loadCells_list (P := Tryz.prog) w ad ((ints l).map (Value.int .u8)) ?_
    · simpa using this
    · intro j v hj
      rcases hs with h | ⟨b, off, h, _, h3⟩
      · rw [h] at hj; simp at hj
      · cases h
        simp only [List.getElem?_map, Option.map_eq_some_iff] at hj
        obtain ⟨q, hq, rfl⟩ := hj
        obtain ⟨hjl, hq'⟩ := List.getElem?_eq_some_iff.1 hq
        rw [addr_add, h3 j hjl, hq']

end Go.Proofs.YtapjbgkmcplpbaaGreat

namespace Go.QK
section
variable {P : Program} {ops : Array Oper} {Q : Exit → Act → World → Prop} {md : Region.Mode} {S : World → Prop}

/-- 'wpAnyH_take' at an operation that is carried out, with the slot that it writes named outright. -/
theorem take_at (i : Nat) (d : Option Nat) {oi : Oper} {v : Value} {fuel : Nat} {listed : Array Bool} {t : Array Value} {w : World} (hi : ops[i]? = some oi) (hd : oi.dst = d)
    (hs : Region.noSelect ops = true) (hf : Region.free md ops listed i = true) (hr : (Region.ready md ops listed).contains i = true)
    (hQ : ∀ c a w, Q (.panic c) (a.put d v) w → Q (.panic c) a w)
    (hy : Region.wanted oi (yielded ops t) = true ∧ ∀ w, S w → (execOp (Act.eval { tmps := t, defers := [] }) oi).run P w = .ok (.value v) w) (hS : S w)
    (h : wpAnyH P md ops Q S fuel (listed.setIfInBounds i true) (Act.put { tmps := t, defers := [] } d v) w) : wpAnyH P md ops Q S (fuel + 1) listed { tmps := t, defers := [] } w := by
  subst hd
  exact wpAnyH_take hi hs hf hr hQ (Or.inl hy) hS h

/-- The same at one whose guard says no. -/
theorem pass_at (i : Nat) (d : Option Nat) {oi : Oper} {fuel : Nat} {listed : Array Bool} {t : Array Value} {w : World} (hi : ops[i]? = some oi) (hd : oi.dst = d)
    (hs : Region.noSelect ops = true) (hf : Region.free md ops listed i = true) (hr : (Region.ready md ops listed).contains i = true)
    (hQ : ∀ c a w, Q (.panic c) (a.put d undef) w → Q (.panic c) a w)
    (hy : Region.wanted oi (yielded ops t) = false) (hS : S w)
    (h : wpAnyH P md ops Q S fuel (listed.setIfInBounds i true) (Act.put { tmps := t, defers := [] } d undef) w) : wpAnyH P md ops Q S (fuel + 1) listed { tmps := t, defers := [] } w := by
  subst hd
  exact wpAnyH_take hi hs hf hr hQ (Or.inr ⟨hy, rfl⟩) hS h
end
end Go.QK

namespace Go.Proofs.YtapjbgkmcplpbaaGreat
open Go.RowKit Go.QK

theorem hide {p : Prop} (h : p) : Hid p := h
def ptrAt (p : Nat) : Value := .pointer (some ⟨p, 0, none⟩)
theorem quo512 (p : Nat) : (p : Int).tdiv 512 = ((p / 512 : Nat) : Int) := by rw [Int.tdiv_eq_ediv_of_nonneg (by omega)]; omega

section
variable {w : World} {S : Nat → Prop} {d : Nat} {g : Dev}
set_option maxRecDepth 100000 in
theorem sectors_any (h : PDev w S d g) : Calls Tryz.prog 70 #[.pointer (some ⟨d, 0, none⟩)] w fun e w' => e = .returned (.int .i64 ((g.n : Nat) : Int)) ∧ w' = w := by
  obtain ⟨ib, ic, pv, ps, kv, to, off, hc, hb, hp, ok⟩ := h
  obtain ⟨n, n1, n2, hn⟩ := ok.size
  obtain ⟨c0, _⟩ := hc.get 0 _ rfl
  have q := quo512 g.img.length
  have hg : g.n = n := by unfold Dev.n; omega
  have q2 : g.img.length / 512 = n := by omega
  rw [q2] at q
  rw [hg]
  generalize g.img.length = m at *
  clear hn hg q2 hb hp ok hc
  go_enter Tryz.func70, Tryz.ntmps70
  go_wp2_with fail
  go_ret
  exact ⟨rfl, rfl⟩
set_option maxRecDepth 100000 in
theorem down_any (h : PDev w S d g) : Calls Tryz.prog 35 #[.pointer (some ⟨d, 0, none⟩)] w fun e w' => e = .returned (.bool g.down) ∧ w' = w := by
  obtain ⟨ib, ic, pv, ps, kv, to, off, hc, hb, hp, ok⟩ := h
  obtain ⟨c0, _⟩ := hc.get 3 _ rfl
  clear hb hp ok hc
  go_enter Tryz.func35, Tryz.ntmps35
  go_wp2_with fail
  go_ret
  exact ⟨rfl, rfl⟩
set_option maxRecDepth 100000 in
theorem calls_any (h : PDev w S d g) : Calls Tryz.prog 37 #[.pointer (some ⟨d, 0, none⟩)] w fun e w' => e = .returned (.int .i64 (g.calls : Int)) ∧ w' = w := by
  obtain ⟨ib, ic, pv, ps, kv, to, off, hc, hb, hp, ok⟩ := h
  obtain ⟨c0, _⟩ := hc.get 2 _ rfl
  clear hb hp ok hc
  go_enter Tryz.func37, Tryz.ntmps37
  go_wp2_with fail
  go_ret
  exact ⟨rfl, rfl⟩
theorem img_le {cs : Value → Value → Dev → Value → Int → Int → List Value} (h : DevAt cs w S d g) : g.img.length ≤ 4194304 := by
  obtain ⟨ib, ic, pv, ps, kv, to, off, hc, hb, hp, ok⟩ := h
  obtain ⟨n, n1, n2, hn⟩ := ok.size
  omega
set_option maxRecDepth 100000 in
theorem image_any (h : PDev w S d g) : Calls Tryz.prog 39 #[.pointer (some ⟨d, 0, none⟩)] w fun e w' => ∃ v, e = .returned v ∧ OwnB w' w.heap.size v g.img ∧ Below w.heap.size w w' := by
  have hl := img_le h
  obtain ⟨ib, ic, pv, ps, kv, to, off, hc, hb, hp, ok⟩ := h
  obtain ⟨c0, _⟩ := hc.get 0 _ rfl
  obtain ⟨a, cap, hv, hs, ha, hle, _⟩ := hb.img.seen
  rw [ints_length] at hle hv
  cases hv
  clear hb hp ok hc
  go_enter Tryz.func39, Tryz.ntmps39
  go_wp2_with fail
  refine (clone_any _ g.img ic w hs hle nofun (by omega)).mono ?_
  rintro e w1 ⟨v, rfl, ho, hb⟩
  have HO := hide ho
  clear ho
  go_wp2_with fail
  go_ret
  exact ⟨v, rfl, HO.out, hb⟩
set_option maxRecDepth 100000 in
theorem reach_any (i : Int) (h : PDev w S d g) : Calls Tryz.prog 91 #[.pointer (some ⟨d, 0, none⟩), .int .i64 i] w fun e w' => e = .returned (.int .i64 ((g.reach i : Nat) : Int)) ∧ w' = w := by
  have hsec := hide (sectors_any h)
  obtain ⟨ib, ic, pv, ps, kv, to, off, hc, hb, hp, ok⟩ := h
  obtain ⟨c3, _⟩ := hc.get 3 _ rfl
  clear hb hp ok hc
  unfold Dev.reach
  by_cases hd : g.down = true
  · rw [hd] at c3
    rw [if_pos hd]
    clear hsec
    go_enter Tryz.func91, Tryz.ntmps91
    go_wp2_with fail
    go_ret
    exact ⟨rfl, rfl⟩
  · rw [if_neg hd]
    simp only [Bool.not_eq_true] at hd
    rw [hd] at c3
    generalize g.n = n at *
    by_cases hi : i < 0
    · rw [if_pos (Or.inl hi)]
      clear hsec
      go_enter Tryz.func91, Tryz.ntmps91
      go_wp2_with fail
      go_ret
      exact ⟨rfl, rfl⟩
    · by_cases hj : (n : Int) ≤ i
      · rw [if_pos (Or.inr hj)]
        have hi' : decide (i < 0) = false := by simpa using hi
        clear hi
        go_enter Tryz.func91, Tryz.ntmps91
        go_wp2_with fail
        refine hsec.out.mono ?_
        rintro e w' ⟨rfl, rfl⟩
        go_wp2_with fail
        go_ret
        exact ⟨rfl, rfl⟩
      · rw [if_neg (by omega)]
        have hi' : decide (i < 0) = false := by simpa using hi
        have hj' : decide ((n : Int) ≤ i) = false := by simpa using hj
        clear hi hj
        go_enter Tryz.func91, Tryz.ntmps91
        go_wp2_with fail
        refine hsec.out.mono ?_
        rintro e w' ⟨rfl, rfl⟩
        go_wp2_with fail
        go_ret
        exact ⟨rfl, rfl⟩
end

set_option maxRecDepth 100000 in
/-- The image's cell of a device: what 'durable' reads. -/
theorem durable_at {w : World} {d ib m ic : Nat} (i : Nat) (c0 : w.cell? ⟨d, 0, none⟩ = some (.slice (some ⟨ib, 0, none⟩) m ic)) (hi : 512 * i + 512 ≤ m) (hm : m ≤ ic) (hl : m ≤ 4194304) :
    Calls Tryz.prog 79 #[.pointer (some ⟨d, 0, none⟩), .int .i64 (i : Int)] w fun e w' => e = .returned (.slice (some ⟨ib, 512 * i, none⟩) 512 (ic - 512 * i)) ∧ w' = w := by
  have e1 : IntKind.i64.wrap ((i : Int) * 512) = ((512 * i : Nat) : Int) := by rw [IntKind.wrap_i64]; omega
  have e2 : IntKind.i64.wrap (((i : Int) + 1) * 512) = ((512 * i + 512 : Nat) : Int) := by rw [IntKind.wrap_i64]; omega
  have e3 : IntKind.i64.wrap ((i : Int) + 1) = (i : Int) + 1 := by rw [IntKind.wrap_i64]; omega
  generalize 512 * i = u at *
  go_enter Tryz.func79, Tryz.ntmps79
  go_wp2_with fail
  go_ret
  exact ⟨by simp, rfl⟩
end Go.Proofs.YtapjbgkmcplpbaaGreat
