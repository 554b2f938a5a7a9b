import Derived.Test.YtgpmghdoofcpaaaGreatRead
import Derived.Deep.QuietTactic
import Derived.BigQuiet
namespace Go.Proofs.YtgpmghdoofcpaaaGreat
open Go.RowKit Go.QK

/-- A reader: its block, its bytes, where it stands, its fault. -/
def Rd (w : World) (p : Nat) (a : Option Addr) (c : Nat) (l : List Nat) (pos e : Nat) : Prop :=
  Cells w p [.slice a l.length c, .int .i64 (pos : Int), .int .i64 (e : Int)] ∧ Bytes w a l ∧ l.length ≤ c ∧ (a = none → c = 0) ∧ c ≤ maxLen ∧ l.length ≤ 140737488355328 ∧ pos ≤ l.length ∧ AllB l ∧ (∀ ad, a = some ad → ad.block ≠ p)

theorem Rd.keep {S : Nat → Prop} {w w' : World} {p : Nat} {a : Option Addr} {c : Nat} {l : List Nat} {pos e : Nat} (h : Rd w p a c l pos e) (hk : Keep S w w') (hp : ¬ S p) (ha : ∀ ad, a = some ad → ¬ S ad.block) : Rd w' p a c l pos e :=
  ⟨h.1.keep hk hp, Seen.keep h.2.1 hk ha, h.2.2⟩
theorem Rd.below {w w' : World} {p : Nat} {a : Option Addr} {c : Nat} {l : List Nat} {pos e : Nat} (h : Rd w p a c l pos e) (hk : Below w.heap.size w w') : Rd w' p a c l pos e :=
  h.keep (Keep.of_below (S := fun _ => False) hk) id (fun _ _ => id)
/-- Its place or its fault is written. -/
theorem Rd.fault {w : World} {p : Nat} {a : Option Addr} {c : Nat} {l : List Nat} {pos e : Nat} (h : Rd w p a c l pos e) (e' : Nat) : Rd (w.setCell ⟨p, 2, none⟩ (.int .i64 (e' : Int))) p a c l pos e' := by
  obtain ⟨h1, h2, h3, h4, h5, h6, h7, h8, h9⟩ := h
  refine ⟨h1.stored (j := 2) (by simp) _, ?_, h3, h4, h5, h6, h7, h8, h9⟩
  exact Seen.keep h2 ((Keep.refl (fun k => k = p) w).setCell (fun _ => rfl) _) (fun ad q => h9 ad q)
theorem Rd.stand {w : World} {p : Nat} {a : Option Addr} {c : Nat} {l : List Nat} {pos e : Nat} (h : Rd w p a c l pos e) (pos' : Nat) (hp : pos' ≤ l.length) : Rd (w.setCell ⟨p, 1, none⟩ (.int .i64 (pos' : Int))) p a c l pos' e := by
  obtain ⟨h1, h2, h3, h4, h5, h6, h7, h8, h9⟩ := h
  refine ⟨h1.stored (j := 1) (by simp) _, ?_, h3, h4, h5, h6, hp, h8, h9⟩
  exact Seen.keep h2 ((Keep.refl (fun k => k = p) w).setCell (fun _ => rfl) _) (fun ad q => h9 ad q)

set_option maxRecDepth 100000 in
theorem newReader_any (a : Option Addr) (l : List Nat) (cap : Nat) (w : World) (hs : Bytes w a l) (hc : l.length ≤ cap) (ha : a = none → cap = 0) (hl : l.length ≤ 140737488355328) (hb : AllB l) :
    Calls Tryz.prog 70 #[.slice a l.length cap] w fun e w' => ∃ p a' c', e = .returned (.pointer (some ⟨p, 0, none⟩)) ∧ w.heap.size ≤ p ∧ (∀ ad, a' = some ad → w.heap.size ≤ ad.block) ∧ Rd w' p a' c' l 0 0 ∧ Below w.heap.size w w' := by
  go_enter Tryz.func70, Tryz.ntmps70
  go_wp2_with fail
  refine (clone_any a l cap _ hs hc ha hl).mono ?_
  rintro e w1 ⟨v, rfl, o, b⟩
  obtain ⟨a', c', rfl, s', ha', hc', hm'⟩ := o.seen
  rw [ints_length] at hc'
  have hblk : ∀ ad, a' = some ad → w.heap.size ≤ ad.block ∧ ad.block < w1.heap.size := by
    intro ad q
    subst q
    have hf : (Value.slice (some ad) (ints l).length c').ownBlock = some ad.block := rfl
    exact World.ownsRow.lt o _ hf
  have HR : Hid (Rd (w1.alloc (.cells #[.slice a' l.length c', .int .i64 0, .int .i64 0] 165)) w1.heap.size a' c' l 0 0) :=
    ⟨Cells.new _ _ _, Seen.below s' ((Below.refl _ _).alloc (Nat.le_refl _) _), hc', ha', hm', hl, Nat.zero_le _, hb, fun ad q => by have := hblk ad q; omega⟩
  have hsz := b.size
  have HB : Hid (Below w.heap.size w (w1.alloc (.cells #[.slice a' l.length c', .int .i64 0, .int .i64 0] 165))) := b.alloc hsz _
  clear o s' ha' hc' hm' hs hc ha hl
  rw [ints_length]
  go_wp2_with fail
  go_ret
  exact ⟨_, a', c', rfl, hsz, fun ad q => (hblk ad q).1, HR.out, HB.out⟩

/-- What U answers, and how the reader then stands. -/
def uV (most : Nat) (l : List Nat) (pos e : Nat) : Nat := if e ≠ 0 ∨ rdE (l.drop pos) ≠ 0 ∨ most < rdX (l.drop pos) then 0 else rdX (l.drop pos)
def uP (most : Nat) (l : List Nat) (pos e : Nat) : Nat := if e ≠ 0 ∨ rdE (l.drop pos) ≠ 0 ∨ most < rdX (l.drop pos) then pos else pos + rdN (l.drop pos)
def uE (most : Nat) (l : List Nat) (pos e : Nat) : Nat := if e ≠ 0 then e else if rdE (l.drop pos) ≠ 0 then rdE (l.drop pos) else if most < rdX (l.drop pos) then 23 else 0

theorem keepDrew (w : World) (n p j : Nat) (u : Value) : Keep (fun k => k = p) w ((w.drewN n).setCell ⟨p, j, none⟩ u) := by
  have h : Keep (fun k => k = p) w (w.drewN n) := ⟨rfl, rfl, rfl, Nat.le_refl _, fun _ _ _ => rfl⟩
  exact h.setCell (fun _ => rfl) _
theorem errNe (e : Nat) (h : e ≠ 0) : ¬ ((e : Int) = 0) := by omega

set_option maxHeartbeats 1000000 in
set_option maxRecDepth 100000 in
theorem readU_bad (most : Nat) (p : Nat) (a : Option Addr) (c : Nat) (l : List Nat) (pos e : Nat) (w : World) (h : Rd w p a c l pos e) (he : e ≠ 0) :
    Calls Tryz.prog 93 #[.pointer (some ⟨p, 0, none⟩), .int .u64 (most : Int)] w fun e w' => e = .returned (.int .u64 0) ∧ w' = w := by
  obtain ⟨h1, _⟩ := h
  obtain ⟨c2, _⟩ := h1.get 2 _ rfl
  have hne := errNe e he
  clear h1
  go_enter Tryz.func93, Tryz.ntmps93
  go_wp2_with fail
  go_ret
  exact ⟨rfl, rfl⟩

set_option maxHeartbeats 1000000 in
set_option maxRecDepth 100000 in
theorem readU_fault (most : Nat) (p : Nat) (a : Option Addr) (c : Nat) (l : List Nat) (pos : Nat) (w : World) (h : Rd w p a c l pos 0) (he : rdE (l.drop pos) ≠ 0) :
    Calls Tryz.prog 93 #[.pointer (some ⟨p, 0, none⟩), .int .u64 (most : Int)] w fun e w' => e = .returned (.int .u64 0) ∧ Rd w' p a c l pos (rdE (l.drop pos)) ∧ Keep (fun k => k = p) w w' := by
  have h0 := h
  obtain ⟨h1, h2, h3, h4, h5, h6, h7, h8, h9⟩ := h
  obtain ⟨c0, _⟩ := h1.get 0 _ rfl
  obtain ⟨c1, _⟩ := h1.get 1 _ rfl
  obtain ⟨c2, f2⟩ := h1.get 2 _ rfl
  have hdl : (l.drop pos).length = l.length - pos := by simp
  have sl := fun w => slice_from (P := Tryz.prog) (t := 80) (e := 5) Tryz.underlying80 (fun _ => by kernel_rfl) a l.length c pos w h7 h3
  have hfst := fun n => first_any (l.drop pos) (dropA a c pos) (c - pos) (w.drewN n) (h2.drop pos h3) (by omega) (by omega) (by unfold maxLen at *; omega)
  rw [hdl] at hfst
  have hfv : firstV (l.drop pos) (dropA a c pos) (c - pos) = .slice none 0 0 := by unfold firstV; rw [if_neg he]
  rw [hfv] at hfst
  have hne := errNe _ he
  have HR := fun n => Rd.fault (w := w.drewN n) h0 (rdE (l.drop pos))
  generalize rdE (l.drop pos) = re at *
  have HH : Hid _ := HR
  clear HR h0 h1 h2 h4 h8 h9
  go_enter Tryz.func93, Tryz.ntmps93
  go_wp2_with fail
  go_quiet (exact Calls.quiet_of_same (hfst _))
  go_wp2_with fail
  go_ret
  exact ⟨rfl, HH.out _, keepDrew _ _ _ _ _⟩

set_option maxHeartbeats 1000000 in
set_option maxRecDepth 100000 in
theorem readU_ok (most : Nat) (p : Nat) (a : Option Addr) (c : Nat) (l : List Nat) (pos : Nat) (w : World) (h : Rd w p a c l pos 0) (he : rdE (l.drop pos) = 0) :
    Calls Tryz.prog 93 #[.pointer (some ⟨p, 0, none⟩), .int .u64 (most : Int)] w fun e w' =>
      if most < rdX (l.drop pos) then e = .returned (.int .u64 0) ∧ Rd w' p a c l pos 23 ∧ Keep (fun k => k = p) w w'
      else e = .returned (.int .u64 ((rdX (l.drop pos) : Nat) : Int)) ∧ Rd w' p a c l (pos + rdN (l.drop pos)) 0 ∧ Keep (fun k => k = p) w w' := by
  have h0 := h
  obtain ⟨h1, h2, h3, h4, h5, h6, h7, h8, h9⟩ := h
  obtain ⟨c0, _⟩ := h1.get 0 _ rfl
  obtain ⟨c1, f1⟩ := h1.get 1 _ rfl
  obtain ⟨c2, f2⟩ := h1.get 2 _ rfl
  have hdl : (l.drop pos).length = l.length - pos := by simp
  have sl := fun w => slice_from (P := Tryz.prog) (t := 80) (e := 5) Tryz.underlying80 (fun _ => by kernel_rfl) a l.length c pos w h7 h3
  have hfst := fun n => first_any (l.drop pos) (dropA a c pos) (c - pos) (w.drewN n) (h2.drop pos h3) (by omega) (by omega) (by unfold maxLen at *; omega)
  rw [hdl] at hfst
  have hfv : firstV (l.drop pos) (dropA a c pos) (c - pos) = .slice (dropA a c pos) (rdN (l.drop pos)) (c - pos) := by unfold firstV; rw [if_pos he]
  obtain ⟨g1, g2, g3, g4, g5, g6, g7⟩ := rd_good (h8.drop pos) (by rw [rd_parts, he] : rd (l.drop pos) = (0, rdX (l.drop pos), rdN (l.drop pos)))
  have hvl : ((l.drop pos).take (rdN (l.drop pos))).length = rdN (l.drop pos) := by rw [List.length_take, Nat.min_eq_left g4]
  have hval := fun n => value_any ((l.drop pos).take (rdN (l.drop pos))) (dropA a c pos) (c - pos) (w.drewN n) ((h2.drop pos h3).take _) (by omega) ((h8.drop pos).take _) (by omega)
  rw [hvl, ← g7] at hval
  rw [hfv, he] at hfst
  have HR := fun n => Rd.fault (w := w.drewN n) h0 23
  have HS := fun n => Rd.stand (w := w.drewN n) h0 (pos + rdN (l.drop pos)) (by omega)
  have hlen : pos + rdN (l.drop pos) ≤ 140737488355328 := by omega
  generalize rdX (l.drop pos) = x at *
  generalize rdN (l.drop pos) = n at *
  have HH : Hid _ := HR
  have HK : Hid _ := HS
  have HV : Hid _ := hval
  clear HR HS h0 h1 h2 h4 h8 h9 g1 g2 g3 g4 g6 g7 hvl hfv hval hdl he
  by_cases hm : most < x
  · simp only [if_pos hm]
    go_enter Tryz.func93, Tryz.ntmps93
    go_wp2_with fail
    go_quiet (exact Calls.quiet_of_same (hfst _))
    go_wp2_with fail
    refine (HV.out _).mono ?_
    rintro e w' ⟨rfl, rfl⟩
    go_wp2_with fail
    go_ret
    exact ⟨rfl, HH.out _, keepDrew _ _ _ _ _⟩
  · simp only [if_neg hm]
    go_enter Tryz.func93, Tryz.ntmps93
    go_wp2_with fail
    go_quiet (exact Calls.quiet_of_same (hfst _))
    go_wp2_with fail
    refine (HV.out _).mono ?_
    rintro e w' ⟨rfl, rfl⟩
    go_wp2_with fail
    go_ret
    exact ⟨rfl, HK.out _, keepDrew _ _ _ _ _⟩

theorem readU_any (most : Nat) (p : Nat) (a : Option Addr) (c : Nat) (l : List Nat) (pos e : Nat) (w : World) (h : Rd w p a c l pos e) :
    Calls Tryz.prog 93 #[.pointer (some ⟨p, 0, none⟩), .int .u64 (most : Int)] w fun x w' =>
      x = .returned (.int .u64 ((uV most l pos e : Nat) : Int)) ∧ Rd w' p a c l (uP most l pos e) (uE most l pos e) ∧ Keep (fun k => k = p) w w' := by
  unfold uV uP uE
  by_cases he : e = 0
  · subst he
    by_cases hr : rdE (l.drop pos) = 0
    · refine (readU_ok most p a c l pos w h hr).mono ?_
      intro x w' q
      by_cases hm : most < rdX (l.drop pos)
      · rw [if_pos hm] at q
        simpa [hr, hm] using q
      · rw [if_neg hm] at q
        simpa [hr, hm] using q
    · refine (readU_fault most p a c l pos w h hr).mono ?_
      intro x w' q
      simpa [hr] using q
  · refine (readU_bad most p a c l pos e w h he).mono ?_
    rintro x w' ⟨rfl, rfl⟩
    refine ⟨by simp [he], by simpa [he] using h, Keep.refl _ _⟩

theorem uV_lt (most : Nat) (l : List Nat) (pos e : Nat) (hb : AllB l) : uV most l pos e < 18446744073709551616 := by
  unfold uV
  split
  · decide
  · rename_i q
    have hE : rdE (l.drop pos) = 0 := by omega
    exact (rd_good (hb.drop pos) (by rw [rd_parts, hE] : rd (l.drop pos) = (0, rdX (l.drop pos), rdN (l.drop pos)))).2.2.2.2.1

set_option maxRecDepth 100000 in
theorem readS_any (p : Nat) (a : Option Addr) (c : Nat) (l : List Nat) (pos e : Nat) (w : World) (h : Rd w p a c l pos e) :
    Calls Tryz.prog 97 #[.pointer (some ⟨p, 0, none⟩)] w fun x w' =>
      x = .returned (.int .i64 (uns (uV 18446744073709551615 l pos e))) ∧ Rd w' p a c l (uP 18446744073709551615 l pos e) (uE 18446744073709551615 l pos e) ∧ Keep (fun k => k = p) w w' := by
  have hb : AllB l := h.2.2.2.2.2.2.2.1
  have hv := uV_lt 18446744073709551615 l pos e hb
  have hu := readU_any 18446744073709551615 p a c l pos e w h
  have hf := fun w => unfold_any _ w hv
  generalize uV 18446744073709551615 l pos e = x at *
  generalize uP 18446744073709551615 l pos e = y at *
  generalize uE 18446744073709551615 l pos e = z at *
  go_enter Tryz.func97, Tryz.ntmps97
  go_wp2_with fail
  refine hu.mono ?_
  rintro q w1 ⟨rfl, r1, r2⟩
  go_wp2_with fail
  refine (hf _).mono ?_
  rintro e w' ⟨rfl, rfl⟩
  go_wp2_with fail
  go_ret
  exact ⟨rfl, r1, r2⟩

/-- End, Fault. -/
def endE (l : List Nat) (pos e : Nat) : Nat := if e = 0 ∧ pos < l.length then 21 else e
def faultP (pos e : Nat) : Nat := if e = 0 then 0 else pos

set_option maxHeartbeats 1000000 in
set_option maxRecDepth 100000 in
theorem end_any (p : Nat) (a : Option Addr) (c : Nat) (l : List Nat) (pos e : Nat) (w : World) (h : Rd w p a c l pos e) :
    Calls Tryz.prog 73 #[.pointer (some ⟨p, 0, none⟩)] w fun x w' => x = .returned (.tuple #[]) ∧ Rd w' p a c l pos (endE l pos e) ∧ Keep (fun k => k = p) w w' := by
  have h0 := h
  obtain ⟨h1, h2, h3, h4, h5, h6, h7, h8, h9⟩ := h
  obtain ⟨c0, _⟩ := h1.get 0 _ rfl
  obtain ⟨c1, f1⟩ := h1.get 1 _ rfl
  obtain ⟨c2, f2⟩ := h1.get 2 _ rfl
  have HR := fun n => Rd.fault (w := w.drewN n) h0 21
  have HR0 := fun n => (Rd.keep (w' := w.drewN n) h0 (S := fun _ => False) ⟨rfl, rfl, rfl, Nat.le_refl _, fun _ _ _ => rfl⟩ id (fun _ _ => id))
  have HH : Hid _ := HR
  have HI : Hid _ := HR0
  clear HR HR0 h0 h1 h2 h4 h8 h9
  unfold endE
  by_cases he : e = 0
  · subst he
    have g0 : ((0 : Nat) : Int) = 0 := rfl
    rw [g0] at c2
    by_cases hp : pos < l.length
    · have hp1 : (pos : Int) < (l.length : Int) := by omega
      rw [if_pos ⟨rfl, hp⟩]
      go_enter Tryz.func73, Tryz.ntmps73
      go_wp2_with fail
      go_quiet (fail)
      go_wp2_with fail
      go_end0
      exact ⟨rfl, HH.out _, keepDrew _ _ _ _ _⟩
    · have hp1 : decide ((pos : Int) < (l.length : Int)) = false := by simp; omega
      rw [if_neg (by omega)]
      go_enter Tryz.func73, Tryz.ntmps73
      go_wp2_with fail
      go_quiet (fail)
      go_wp2_with fail
      go_end0
      exact ⟨rfl, HI.out _, ⟨rfl, rfl, rfl, Nat.le_refl _, fun _ _ _ => rfl⟩⟩
  · have he1 : ((e : Int) == 0) = false := by simp; omega
    rw [if_neg (by omega)]
    go_enter Tryz.func73, Tryz.ntmps73
    go_wp2_with fail
    go_quiet (fail)
    go_wp2_with fail
    go_end0
    exact ⟨rfl, HI.out _, ⟨rfl, rfl, rfl, Nat.le_refl _, fun _ _ _ => rfl⟩⟩

set_option maxHeartbeats 1000000 in
set_option maxRecDepth 100000 in
theorem fault_any (p : Nat) (a : Option Addr) (c : Nat) (l : List Nat) (pos e : Nat) (w : World) (h : Rd w p a c l pos e) :
    Calls Tryz.prog 74 #[.pointer (some ⟨p, 0, none⟩)] w fun x w' => x = .returned (.tuple #[.int .i64 ((faultP pos e : Nat) : Int), .int .i64 (e : Int)]) ∧ Below w.heap.size w w' := by
  obtain ⟨h1, h2, h3, h4, h5, h6, h7, h8, h9⟩ := h
  obtain ⟨c1, f1⟩ := h1.get 1 _ rfl
  obtain ⟨c2, f2⟩ := h1.get 2 _ rfl
  unfold faultP
  clear h1 h2
  by_cases he : e = 0
  · subst he
    have g0 : ((0 : Nat) : Int) = 0 := rfl
    rw [g0] at c2
    rw [if_pos rfl]
    go_enter Tryz.func74, Tryz.ntmps74
    go_wp2_with fail
    exact bodyPost_ret (v := .tuple #[.int .i64 0, .int .i64 0]) (by simp [results, Tryz.results74, go_sem]) rfl ⟨rfl, Below.refl _ _⟩
  · have he1 := errNe e he
    rw [if_neg he]
    go_enter Tryz.func74, Tryz.ntmps74
    go_wp2_with fail
    go_quiet (fail)
    go_wp2_with fail
    exact bodyPost_ret (v := .tuple #[.int .i64 (pos : Int), .int .i64 (e : Int)]) (by simp [results, Tryz.results74, go_sem]) rfl ⟨rfl, ⟨rfl, rfl, rfl, Nat.le_refl _, fun _ _ => rfl⟩⟩
end Go.Proofs.YtgpmghdoofcpaaaGreat

namespace Go.Proofs.YtgpmghdoofcpaaaGreat
open Go.RowKit Go.QK

/-! Strings of bytes: 'string(a) == string(b)'. -/
def strOf (l : List Nat) : ByteArray := (ints l).foldl (fun r n => r.push (UInt8.ofNat n.toNat)) ByteArray.empty
theorem str_fold (l : List Nat) (b : ByteArray) : ((ints l).foldl (fun r n => r.push (UInt8.ofNat n.toNat)) b).data.toList = b.data.toList ++ l.map UInt8.ofNat := by
  induction l generalizing b with
  | nil => simp
  | cons x l ih =>
    simp only [ints, List.map_cons, List.foldl_cons] at ih ⊢
    rw [ih]
    simp [ByteArray.push]
theorem str_list (l : List Nat) : (strOf l).data.toList = l.map UInt8.ofNat := by
  have := str_fold l ByteArray.empty
  simpa [strOf] using this
theorem u8_inj {x y : Nat} (hx : x < 256) (hy : y < 256) (h : UInt8.ofNat x = UInt8.ofNat y) : x = y := by
  have := congrArg UInt8.toNat h
  simpa [UInt8.toNat_ofNat, Nat.mod_eq_of_lt hx, Nat.mod_eq_of_lt hy] using this
theorem map_u8_inj : {l m : List Nat} → AllB l → AllB m → l.map UInt8.ofNat = m.map UInt8.ofNat → l = m
  | [], [], _, _, _ => rfl
  | [], _ :: _, _, _, h => by simp at h
  | _ :: _, [], _, _, h => by simp at h
  | x :: l, y :: m, hl, hm, h => by
    simp only [List.map_cons, List.cons.injEq] at h
    rw [u8_inj (hl x (by simp)) (hm y (by simp)) h.1, map_u8_inj (fun z hz => hl z (by simp [hz])) (fun z hz => hm z (by simp [hz])) h.2]
theorem str_eq {l m : List Nat} (hl : AllB l) (hm : AllB m) : ((strOf l).toList == (strOf m).toList) = decide (l = m) := by
  have e : ∀ b : ByteArray, b.toList = b.data.toList := fun b => ByteArray.toList_eq b
  rw [e, e, str_list, str_list]
  by_cases q : l = m
  · subst q; simp
  · rw [decide_eq_false q, beq_eq_false_iff_ne]
    exact fun h => q (map_u8_inj hl hm h)

theorem conv_any (a : Option Addr) (l : List Nat) (c : Nat) (w : World) (hs : Bytes w a l) : (convert 80 9 (.slice a l.length c)).run Tryz.prog w = .ok (.string (strOf l)) w := by
  rw [run_convert_bytes_string w 80 9 5 a l.length c Tryz.underlying80 Tryz.underlying5 Tryz.underlying9]
  cases a with
  | none =>
    rcases hs with h | ⟨b, off, h, _⟩
    · have : l = [] := by cases l with | nil => rfl | cons x l => simp [ints] at h
      subst this
      rfl
    · cases h
  | some ad =>
    refine run_bytesToString w ad l.length c (ints l) ?_
    have := run_loadCells_list (P := Tryz.prog) w ad ((ints l).map (Value.int .u8)) ?_
    · simpa using this
    · intro j v hj
      rcases hs with h | ⟨b, off, h, _, h3⟩
      · rw [h] at hj; simp at hj
      · cases h
        simp only [List.getElem?_map, Option.map_eq_some_iff] at hj
        obtain ⟨q, hq, rfl⟩ := hj
        obtain ⟨hjl, hq'⟩ := List.getElem?_eq_some_iff.1 hq
        rw [addr_add, h3 j hjl, hq']

set_option maxRecDepth 100000 in
theorem same_any (a b : Option Addr) (l m : List Nat) (c d : Nat) (w : World) (hl : Bytes w a l) (hm : Bytes w b m) (al : AllB l) (am : AllB m) :
    Calls Tryz.prog 34 #[.slice a l.length c, .slice b m.length d] w fun e w' => e = .returned (.bool (decide (l = m))) ∧ w' = w := by
  have e1 := conv_any a l c w hl
  have e2 := conv_any b m d w hm
  have e3 := str_eq al am
  have E3 : Hid _ := e3
  generalize strOf l = s at *
  generalize strOf m = t at *
  clear e3 hl hm
  go_enter Tryz.func34, Tryz.ntmps34
  go_wp2_with fail
  go_ret
  exact ⟨by rw [← E3.out]; rfl, rfl⟩

/-! The checksum. -/

theorem tabAt_lt : ∀ i : Nat, i < 16 → tabAt i < 4294967296 := by
  have : ∀ i : Fin 16, tabAt i.1 < 4294967296 := by decide
  exact fun i h => this ⟨i, h⟩

/-- A list of lists of bytes: what its elements are, and lead to. -/
def Parts (w : World) (a : Option Addr) (ps : List (Value × List Nat)) : Prop :=
  ps = [] ∨ ∃ b off, a = some ⟨b, off, none⟩ ∧ b < w.heap.size ∧ ∀ i (h : i < ps.length), w.cell? ⟨b, off + i, none⟩ = some ps[i].1 ∧ (∃ ai ci, ps[i].1 = .slice ai ps[i].2.length ci ∧ Bytes w ai ps[i].2 ∧ AllB ps[i].2 ∧ ps[i].2.length ≤ maxLen)

def joined (ps : List (Value × List Nat)) : List Nat := ps.flatMap (·.2)
theorem joined_take_succ (ps : List (Value × List Nat)) (k : Nat) (h : k < ps.length) : joined (ps.take (k + 1)) = joined (ps.take k) ++ ps[k].2 := by
  rw [List.take_succ_eq_append_getElem h]
  unfold joined
  rw [List.flatMap_append]
  simp only [List.flatMap_cons, List.flatMap_nil, List.append_nil]

/-- May bytes stand there? -/
abbrev placed (n : Nat) (pos size : Int) : Prop := 1 ≤ size ∧ size ≤ 8 ∧ 0 ≤ pos ∧ pos + size ≤ n

theorem slice_mid (b off n c pos size : Nat) (w : World) (h1 : 1 ≤ size) (h2 : pos + size ≤ n) (h3 : n ≤ c) :
    (Instr.slice 80 (.slice (some ⟨b, off, none⟩) n c) (some (.int .i64 (pos : Int))) (some (.int .i64 ((pos : Int) + (size : Int)))) none).run Tryz.prog w = .ok (.slice (some ⟨b, off + pos, none⟩) size (c - pos)) w := by
  have q' : ¬ pos = c := by omega
  have e : ((pos : Int) + (size : Int)).toNat = pos + size := by omega
  have e2 : pos + size - pos = size := by omega
  go_simp
  rw [if_pos (by omega), if_neg (by omega)]

theorem div_cast (x k : Nat) : (x : Int) / 2 ^ k = ((x / 2 ^ k : Nat) : Int) := by simp
theorem ints_set (l : List Nat) (j y : Nat) : ints (l.set j y) = (ints l).set j (y : Int) := by simp [ints, List.map_set]
/-- The bytes of x, laid one by one. -/
def wrote (L : List Nat) (pos x : Nat) : Nat → List Nat
  | 0 => L
  | i + 1 => (wrote L pos x i).set (pos + i) (QK.byteOf x i)
@[simp] theorem wrote_length (L : List Nat) (pos x : Nat) : (i : Nat) → (wrote L pos x i).length = L.length
  | 0 => rfl
  | i + 1 => by simp [wrote, wrote_length L pos x i]
theorem wrote_bytes {L : List Nat} (pos x : Nat) (h : AllB L) : (i : Nat) → AllB (wrote L pos x i)
  | 0 => h
  | i + 1 => by
    intro y hy
    rcases List.mem_or_eq_of_mem_set hy with q | q
    · exact wrote_bytes pos x h i y q
    · rw [q]; exact Nat.mod_lt _ (by decide)

set_option maxRecDepth 100000 in
theorem num_any (x : Int) (w : World) : Calls Tryz.prog 14 #[.int .i64 x] w fun e w' => e = .returned (.int .i64 x) ∧ w' = w := by
  go_enter Tryz.func14, Tryz.ntmps14
  go_wp2
  go_ret
  exact ⟨rfl, rfl⟩
end Go.Proofs.YtgpmghdoofcpaaaGreat
