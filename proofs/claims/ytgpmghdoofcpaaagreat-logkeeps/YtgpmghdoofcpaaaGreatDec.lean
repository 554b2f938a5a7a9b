import Derived.Test.YtgpmghdoofcpaaaGreatG08
import Derived.Test.YtgpmghdoofcpaaaGreatG06
import Derived.Test.YtgpmghdoofcpaaaGreatG07
import Derived.Deep.DeepCutAuto
namespace Go.Proofs.YtgpmghdoofcpaaaGreat
open Go.RowKit Go.QK

/-! What is read, in plain numbers. -/

structure RS where
  pos : Nat
  e : Nat
abbrev RM (α : Type) : Type := List Nat → RS → α × RS
def pureM {α : Type} (a : α) : RM α := fun _ s => (a, s)
def bindM {α β : Type} (f : RM α) (g : α → RM β) : RM β := fun l s => g (f l s).1 l (f l s).2
def uM (most : Nat) : RM Nat := fun l s => (uV most l s.pos s.e, ⟨uP most l s.pos s.e, uE most l s.pos s.e⟩)
def takeM : RM Nat := uM 2147483647
def signM : RM Int := bindM (uM 18446744073709551615) (fun n => pureM (uns n))
def slotM : RM (Nat × Nat) := bindM takeM fun a => bindM takeM fun b => pureM (a, b)
def liveOf (a b c : Nat) : LiveM := ⟨a, b, decide (c = 1), decide (c = 2)⟩
def liveM : RM LiveM := bindM takeM fun a => bindM takeM fun b => bindM (uM 2) fun c => pureM (liveOf a b c)
def dirtyM : RM DirtyM := bindM takeM fun a => bindM takeM fun b => pureM ⟨a, b⟩
def repM {α : Type} (f : RM α) : Nat → RM (List α)
  | 0 => pureM []
  | n + 1 => bindM (repM f n) fun xs => bindM f fun x => pureM (xs ++ [x])
def pointsM : RM (Nat × List LiveM × List DirtyM) :=
  bindM (uM 2147483648) fun nx => bindM (uM 32) fun n => bindM (repM liveM n) fun ls => bindM (uM 16) fun m => bindM (repM dirtyM m) fun ds => pureM (nx, ls, ds)
def zeroR : RecM := ⟨0, 0, 0, 0, 0, 0, 0, 0, 0, 0, 0, 0, 0, 0, [], [], 0⟩
def condM (b : Bool) (f : RecM → RM RecM) (r : RecM) : RM RecM := bif b then f r else pureM r
def readM (k : Int) : RM RecM :=
  bindM (condM (hTx k) (fun r => bindM takeM fun n => pureM { r with tx := n }) { zeroR with kind := k }) fun r =>
  bindM (condM (hPrev k) (fun r => bindM takeM fun n => pureM { r with prev := n }) r) fun r =>
  bindM (condM (hCtr k) (fun r => bindM slotM fun a => bindM slotM fun b => bindM takeM fun n => pureM { r with wp := a.1, wi := a.2, sp := b.1, si := b.2, id := n }) r) fun r =>
  bindM (condM (hFirst k) (fun r => bindM takeM fun n => bindM signM fun lo => bindM signM fun hi => bindM signM fun v => pureM { r with grp := n, lo := lo, hi := hi, val := v }) r) fun r =>
  bindM (condM (hDelta k) (fun r => bindM signM fun n => pureM { r with delta := n }) r) fun r =>
  condM (hPts k) (fun r => bindM pointsM fun p => pureM { r with next := p.1, live := p.2.1, dirty := p.2.2 }) r
/-- The kind, or its fault. -/
def kindM (l : List Nat) : (Nat × Nat) × RS :=
  let q := uM 18446744073709551615 l ⟨0, 0⟩
  (if q.2.e ≠ 0 then (0, q.2.e) else if 1 ≤ q.1 ∧ q.1 ≤ 8 then (q.1, 0) else (0, 70), q.2)
def restM (l : List Nat) (k : Nat) (s : RS) : RecM × Nat :=
  let q := readM k l s
  let e := endE l q.2.pos q.2.e
  if e ≠ 0 then (zeroR, e) else if chkE q.1 ≠ 0 then (zeroR, chkE q.1) else (q.1, 0)
def decM (l : List Nat) : RecM × Nat := if (kindM l).1.2 ≠ 0 then (zeroR, (kindM l).1.2) else restM l (kindM l).1.1 (kindM l).2

abbrev Rds (w : World) (p : Nat) (a : Option Addr) (c : Nat) (l : List Nat) (s : RS) : Prop := Rd w p a c l s.pos s.e

theorem readU_s (most : Nat) (p : Nat) (a : Option Addr) (c : Nat) (l : List Nat) (s : RS) (w : World) (h : Rds w p a c l s) :
    Calls Tryz.prog 93 #[.pointer (some ⟨p, 0, none⟩), .int .u64 (most : Int)] w fun x w' => x = .returned (.int .u64 (((uM most l s).1 : Nat) : Int)) ∧ Rds w' p a c l (uM most l s).2 ∧ Keep (fun k => k = p) w w' :=
  readU_any most p a c l s.pos s.e w h
theorem readS_s (p : Nat) (a : Option Addr) (c : Nat) (l : List Nat) (s : RS) (w : World) (h : Rds w p a c l s) :
    Calls Tryz.prog 97 #[.pointer (some ⟨p, 0, none⟩)] w fun x w' => x = .returned (.int .i64 (signM l s).1) ∧ Rds w' p a c l (signM l s).2 ∧ Keep (fun k => k = p) w w' :=
  readS_any p a c l s.pos s.e w h
theorem uM_le (most : Nat) (l : List Nat) (s : RS) : (uM most l s).1 ≤ most := by
  show uV most l s.pos s.e ≤ most
  unfold uV
  split <;> omega

set_option maxRecDepth 100000
theorem take_s (p : Nat) (a : Option Addr) (c : Nat) (l : List Nat) (s : RS) (w : World) (h : Rds w p a c l s) :
    Calls Tryz.prog 95 #[.pointer (some ⟨p, 0, none⟩)] w fun x w' => x = .returned (.int .i64 (((takeM l s).1 : Nat) : Int)) ∧ Rds w' p a c l (takeM l s).2 ∧ Keep (fun k => k = p) w w' := by
  have f := readU_s 2147483647 p a c l s w h
  have hle := uM_le 2147483647 l s
  unfold takeM
  generalize uM 2147483647 l s = q at *
  obtain ⟨n, s'⟩ := q
  simp only at *
  have e1 : IntKind.i64.wrap (n : Int) = (n : Int) := by rw [IntKind.wrap_i64]; omega
  have F := hide f
  clear f h
  go_enter Tryz.func95, Tryz.ntmps95
  go_wp2_with fail
  refine F.out.mono ?_
  rintro e w1 ⟨rfl, h1, k1⟩
  have H := hide h1
  clear h1
  go_wp2_with fail
  go_ret
  exact ⟨rfl, H.out, k1⟩

/-- What a reader lies in. -/
def rS (p : Nat) (a : Option Addr) (l : List Nat) (k : Nat) : Prop := k = p ∨ (l ≠ [] ∧ ∃ ad, a = some ad ∧ ad.block = k)
theorem Rd.keepS {S : Nat → Prop} {w w' : World} {p : Nat} {a : Option Addr} {c : Nat} {l : List Nat} {pos e : Nat} (h : Rd w p a c l pos e) (hk : Keep S w w') (hS : ∀ k, S k → ¬ rS p a l k) : Rd w' p a c l pos e := by
  refine ⟨h.1.keep hk (fun q => hS p q (.inl rfl)), ?_, h.2.2⟩
  by_cases hl : l = []
  · exact .inl (by rw [hl]; rfl)
  · exact Seen.keep h.2.1 hk (fun ad q s => hS _ s (.inr ⟨hl, ad, q, rfl⟩))
theorem Rd.old {w : World} {p : Nat} {a : Option Addr} {c : Nat} {l : List Nat} {pos e : Nat} (h : Rd w p a c l pos e) : ∀ k, rS p a l k → k < w.heap.size := by
  rintro k (rfl | ⟨hl, ad, rfl, rfl⟩)
  · exact h.1.1
  · have hb : 0 < l.length := List.length_pos_iff.2 hl
    obtain ⟨b, off, q, hlt, _⟩ := Bytes.at h.2.1 hb
    cases q
    exact hlt
/-- How a row of reads stands. -/
structure RSt (w : World) (p : Nat) (a : Option Addr) (c : Nat) (l : List Nat) (wi : World) (s : RS) : Prop where
  rd : Rds wi p a c l s
  keep : Keep (fun k => k = p) w wi
  old : ∀ k, rS p a l k → k < w.heap.size
section
variable {w wi w' : World} {p : Nat} {a : Option Addr} {c : Nat} {l : List Nat} {s s' : RS}
theorem RSt.start (h : Rds w p a c l s) : RSt w p a c l w s := ⟨h, Keep.refl _ _, Rd.old h⟩
theorem RSt.next (h : RSt w p a c l wi s) (k : RSt wi p a c l w' s') : RSt w p a c l w' s' := ⟨k.rd, h.keep.trans k.keep (fun _ _ q => q), h.old⟩
theorem RSt.below (h : RSt w p a c l wi s) (k : Below wi.heap.size wi w') : RSt w p a c l w' s := ⟨Rd.below h.rd k, h.keep.then_below k, h.old⟩
theorem RSt.touch {S : Nat → Prop} (h : RSt w p a c l wi s) (k : Keep S wi w') (hS : ∀ k, S k → w.heap.size ≤ k) : RSt w p a c l w' s := by
  have hn : ∀ k, S k → ¬ rS p a l k := fun k q r => by have := hS k q; have := h.old k r; omega
  refine ⟨Rd.keepS h.rd k hn, ?_, h.old⟩
  exact h.keep.trans (k.mono (T := fun k => w.heap.size ≤ k) (fun j _ q => hS j q)) (fun j hj q => by omega)
theorem RSt.store (h : RSt w p a c l wi s) {b j : Nat} (hb : w.heap.size ≤ b) (u : Value) : RSt w p a c l (wi.setCell ⟨b, j, none⟩ u) s :=
  h.touch (S := fun k => k = b) ((Keep.refl (fun k => k = b) wi).setCell (fun _ => rfl) u) (fun k q => by omega)
theorem RSt.ne (h : RSt w p a c l wi s) {b : Nat} (hb : w.heap.size ≤ b) : ¬ b = p := fun q => by have := h.old p (.inl rfl); omega
theorem RSt.size (h : RSt w p a c l wi s) : w.heap.size ≤ wi.heap.size := h.keep.size
end
theorem RSt.of {w w' : World} {p : Nat} {a : Option Addr} {c : Nat} {l : List Nat} {s s' : RS} (h : Rds w p a c l s) (r : Rds w' p a c l s') (k : Keep (fun k => k = p) w w') : RSt w p a c l w' s' := ⟨r, k, Rd.old h⟩

theorem take_r (p : Nat) (a : Option Addr) (c : Nat) (l : List Nat) (s : RS) (w : World) (h : Rds w p a c l s) :
    Calls Tryz.prog 95 #[.pointer (some ⟨p, 0, none⟩)] w fun x w' => x = .returned (.int .i64 (((takeM l s).1 : Nat) : Int)) ∧ RSt w p a c l w' (takeM l s).2 :=
  (take_s p a c l s w h).mono (fun _ _ q => ⟨q.1, RSt.of h q.2.1 q.2.2⟩)
theorem readU_r (most : Nat) (p : Nat) (a : Option Addr) (c : Nat) (l : List Nat) (s : RS) (w : World) (h : Rds w p a c l s) :
    Calls Tryz.prog 93 #[.pointer (some ⟨p, 0, none⟩), .int .u64 (most : Int)] w fun x w' => x = .returned (.int .u64 (((uM most l s).1 : Nat) : Int)) ∧ RSt w p a c l w' (uM most l s).2 :=
  (readU_s most p a c l s w h).mono (fun _ _ q => ⟨q.1, RSt.of h q.2.1 q.2.2⟩)
theorem readS_r (p : Nat) (a : Option Addr) (c : Nat) (l : List Nat) (s : RS) (w : World) (h : Rds w p a c l s) :
    Calls Tryz.prog 97 #[.pointer (some ⟨p, 0, none⟩)] w fun x w' => x = .returned (.int .i64 (signM l s).1) ∧ RSt w p a c l w' (signM l s).2 :=
  (readS_s p a c l s w h).mono (fun _ _ q => ⟨q.1, RSt.of h q.2.1 q.2.2⟩)

theorem readSlot_s (p : Nat) (a : Option Addr) (c : Nat) (l : List Nat) (s : RS) (w : World) (h : Rds w p a c l s) :
    Calls Tryz.prog 96 #[.pointer (some ⟨p, 0, none⟩)] w fun x w' => x = .returned (.agg #[.int .i64 (((slotM l s).1.1 : Nat) : Int), .int .i64 (((slotM l s).1.2 : Nat) : Int)]) ∧ RSt w p a c l w' (slotM l s).2 := by
  have st0 := (RSt.start h).below (alloc_below w (.cells #[.int .i64 0, .int .i64 0] 34))
  have C0 := Cells.new w #[.int .i64 0, .int .i64 0] 34
  generalize hw0 : w.alloc (.cells #[.int .i64 0, .int .i64 0] 34) = w0 at *
  have f1 := take_s p a c l s w0 st0.rd
  have f2 := fun w' h => take_s p a c l (takeM l s).2 w' h
  simp only [slotM, bindM, pureM]
  generalize takeM l s = q1 at *
  obtain ⟨n1, s1⟩ := q1
  simp only at *
  generalize takeM l s1 = q2 at *
  obtain ⟨n2, s2⟩ := q2
  simp only at *
  have F1 := hide f1
  have F2 := hide f2
  have ST0 := hide st0
  clear f1 f2 h st0
  go_enter Tryz.func96, Tryz.ntmps96
  go_wp2_with fail
  refine F1.out.mono ?_
  rintro e w1 ⟨rfl, h1, k1⟩
  have C1 := C0.keep k1 (ST0.out.ne (Nat.le_refl _))
  have ST1 := hide (ST0.out.next (RSt.of ST0.out.rd h1 k1))
  clear C0 k1 hw0 F1 ST0 h1
  go_wp2_with fail
  refine (F2.out _ ST1.out.rd).mono ?_
  rintro e w2 ⟨rfl, h2, k2⟩
  have C2 := C1.keep k2 (ST1.out.ne (Nat.le_refl _))
  have ST2 := hide (ST1.out.next (RSt.of ST1.out.rd h2 k2))
  obtain ⟨c0, g0⟩ := C2.get 0 _ rfl
  obtain ⟨c1, g1⟩ := C2.get 1 _ rfl
  have ST3 := hide ((ST2.out.store (b := w.heap.size) (j := 0) (Nat.le_refl _) (.int .i64 n1)).store (b := w.heap.size) (j := 1) (Nat.le_refl _) (.int .i64 n2))
  have C3 := (C2.stored (j := 0) (by simp) (.int .i64 n1)).stored (j := 1) (by simp) (.int .i64 n2)
  obtain ⟨y0, _⟩ := C3.get 0 _ rfl
  obtain ⟨y1, _⟩ := C3.get 1 _ rfl
  clear C1 C2 C3 k2 F2 ST1 ST2 h2
  go_wp2_with fail
  exact bodyPost_ret (v := .agg #[.int .i64 n1, .int .i64 n2]) (by simp [results, Tryz.results96, go_sem, y0, y1]) rfl ⟨rfl, ST3.out⟩

theorem readLive_s (p : Nat) (a : Option Addr) (c : Nat) (l : List Nat) (s : RS) (w : World) (h : Rds w p a c l s) :
    Calls Tryz.prog 116 #[.pointer (some ⟨p, 0, none⟩)] w fun x w' => x = .returned (.agg (liveC (liveM l s).1).toArray) ∧ RSt w p a c l w' (liveM l s).2 := by
  have st0 := (RSt.start h).below (alloc_below w (.cells #[.int .i64 0, .int .i64 0, .bool false, .bool false] 55))
  have C0 := Cells.new w #[.int .i64 0, .int .i64 0, .bool false, .bool false] 55
  generalize hw0 : w.alloc (.cells #[.int .i64 0, .int .i64 0, .bool false, .bool false] 55) = w0 at *
  have f1 := take_r p a c l s w0 st0.rd
  have f2 := fun w' h => take_r p a c l (takeM l s).2 w' h
  have f3 := fun w' h => readU_r 2 p a c l (takeM l (takeM l s).2).2 w' h
  simp only [liveM, bindM, pureM]
  generalize takeM l s = q1 at *
  obtain ⟨n1, s1⟩ := q1
  simp only at *
  generalize takeM l s1 = q2 at *
  obtain ⟨n2, s2⟩ := q2
  simp only at *
  generalize uM 2 l s2 = q3 at *
  obtain ⟨n3, s3⟩ := q3
  simp only at *
  have F1 := hide f1
  have F2 := hide f2
  have F3 := hide f3
  have ST0 := hide st0
  clear f1 f2 f3 h st0
  have E1 := hide (show ((n3 : Int) == 1) = decide (n3 = 1) by by_cases q : n3 = 1 <;> simp [q]; omega)
  have E2 := hide (show ((n3 : Int) == 2) = decide (n3 = 2) by by_cases q : n3 = 2 <;> simp [q]; omega)
  go_enter Tryz.func116, Tryz.ntmps116
  go_wp2_with fail
  refine F1.out.mono ?_
  rintro e w1 ⟨rfl, r1⟩
  have C1 := C0.keep r1.keep (ST0.out.ne (Nat.le_refl _))
  have ST1 := hide (ST0.out.next r1)
  clear C0 r1 hw0 F1 ST0
  go_wp2_with fail
  refine (F2.out _ ST1.out.rd).mono ?_
  rintro e w2 ⟨rfl, r2⟩
  have C2 := C1.keep r2.keep (ST1.out.ne (Nat.le_refl _))
  have ST2 := ST1.out.next r2
  have D2 := Cells.new w2 #[.int .i64 n1, .int .i64 n2, .bool false, .bool false] 55
  have C3 := C2.below (alloc_below w2 (.cells #[.int .i64 n1, .int .i64 n2, .bool false, .bool false] 55))
  have ST3 := ST2.below (alloc_below w2 (.cells #[.int .i64 n1, .int .i64 n2, .bool false, .bool false] 55))
  have le2 := ST2.size
  have ne2 : w.heap.size ≠ w2.heap.size := by have := C2.1; omega
  generalize hw3 : w2.alloc (.cells #[.int .i64 n1, .int .i64 n2, .bool false, .bool false] 55) = w3 at *
  have ST3 := hide ST3
  have HW3 := hide hw3
  clear C1 C2 r2 F2 ST1 ST2 hw3
  go_upto_region 2 with fail
  rw [HW3.out]
  generalize w2.heap.size = b2 at *
  clear HW3
  go_wp2_with fail
  refine (F3.out _ ST3.out.rd).mono ?_
  rintro e w4 ⟨rfl, r4⟩
  have C4 := C3.keep r4.keep (ST3.out.ne (Nat.le_refl _))
  have D4 := D2.keep r4.keep (ST3.out.ne le2)
  have ST4 := ST3.out.next r4
  obtain ⟨c0, g0⟩ := C4.get 0 _ rfl
  obtain ⟨c1, g1⟩ := C4.get 1 _ rfl
  obtain ⟨c2, g2⟩ := C4.get 2 _ rfl
  obtain ⟨c3, g3⟩ := C4.get 3 _ rfl
  obtain ⟨d0, m0⟩ := D4.get 0 _ rfl
  obtain ⟨d1, m1⟩ := D4.get 1 _ rfl
  obtain ⟨d2, m2⟩ := D4.get 2 _ rfl
  obtain ⟨d3, m3⟩ := D4.get 3 _ rfl
  clear C3 D2 r4 ST3 F3
  have C5 := (((((C4.other (g := b2) (j := 2) (y := .bool ((n3 : Int) == 1)) (by omega)).other (g := b2) (j := 3) (y := .bool ((n3 : Int) == 2)) (by omega)).stored (j := 0) (by simp) (.int .i64 n1)).stored (j := 1) (by simp) (.int .i64 n2)).stored (j := 2) (by simp) (.bool ((n3 : Int) == 1))).stored (j := 3) (by simp) (.bool ((n3 : Int) == 2))
  have ST5 := hide ((((((ST4.store (b := b2) (j := 2) le2 (.bool ((n3 : Int) == 1))).store (b := b2) (j := 3) le2 (.bool ((n3 : Int) == 2))).store (b := w.heap.size) (j := 0) (Nat.le_refl _) (.int .i64 n1)).store (b := w.heap.size) (j := 1) (Nat.le_refl _) (.int .i64 n2)).store (b := w.heap.size) (j := 2) (Nat.le_refl _) (.bool ((n3 : Int) == 1))).store (b := w.heap.size) (j := 3) (Nat.le_refl _) (.bool ((n3 : Int) == 2)))
  obtain ⟨y0, _⟩ := C5.get 0 _ rfl
  obtain ⟨y1, _⟩ := C5.get 1 _ rfl
  obtain ⟨y2, _⟩ := C5.get 2 _ rfl
  obtain ⟨y3, _⟩ := C5.get 3 _ rfl
  clear C5 C4 D4 ST4
  go_wp2_with fail
  refine bodyPost_ret (v := .agg #[.int .i64 n1, .int .i64 n2, .bool ((n3 : Int) == 1), .bool ((n3 : Int) == 2)]) (by simp only [results, Tryz.results116]; simp [go_sem, y0, y1, y2, y3]) rfl ⟨?_, ST5.out⟩
  simp only [liveC, liveOf]
  rw [← E1.out, ← E2.out]

theorem faultP_any (p : Nat) (a : Option Addr) (c : Nat) (l : List Nat) (s : RS) (w : World) (h : Rds w p a c l s) :
    Calls Tryz.prog 74 #[.pointer (some ⟨p, 0, none⟩)] w fun x w' => x = .returned (.tuple #[.int .i64 ((faultP s.pos s.e : Nat) : Int), .int .i64 (s.e : Int)]) ∧ RSt w p a c l w' s :=
  (fault_any p a c l s.pos s.e w h).mono (fun _ _ q => ⟨q.1, (RSt.start h).below q.2⟩)
theorem end_r (p : Nat) (a : Option Addr) (c : Nat) (l : List Nat) (s : RS) (w : World) (h : Rds w p a c l s) :
    Calls Tryz.prog 73 #[.pointer (some ⟨p, 0, none⟩)] w fun x w' => x = .returned (.tuple #[]) ∧ RSt w p a c l w' ⟨s.pos, endE l s.pos s.e⟩ :=
  (end_any p a c l s.pos s.e w h).mono (fun _ _ q => ⟨q.1, RSt.of h (s' := ⟨s.pos, endE l s.pos s.e⟩) q.2.1 q.2.2⟩)

theorem readKind_s (p : Nat) (a : Option Addr) (c : Nat) (l : List Nat) (w : World) (h : Rds w p a c l ⟨0, 0⟩) :
    Calls Tryz.prog 71 #[.pointer (some ⟨p, 0, none⟩)] w fun x w' => x = .returned (.tuple #[.int .i64 (((kindM l).1.1 : Nat) : Int), .int .i64 (((kindM l).1.2 : Nat) : Int)]) ∧ RSt w p a c l w' (kindM l).2 := by
  have f1 := readU_r 18446744073709551615 p a c l ⟨0, 0⟩ w h
  unfold kindM
  generalize uM 18446744073709551615 l ⟨0, 0⟩ = q1 at *
  obtain ⟨n, s1⟩ := q1
  obtain ⟨pos, e⟩ := s1
  simp only at *
  have f2 := fun w' h => faultP_any p a c l ⟨pos, e⟩ w' h
  have f3 := fun w' => fromU_any 1 n 8 w'
  simp only at f2
  generalize faultP pos e = fp at *
  have F1 := hide f1
  have F2 := hide f2
  clear f1 f2 h
  by_cases he : e = 0
  · have e0 : ¬ (e ≠ 0) := by omega
    rw [if_neg e0]
    by_cases hn : 1 ≤ n ∧ n ≤ 8
    · have hf : fromB 1 n 8 = true := by unfold fromB; simp; omega
      have e1 : IntKind.i64.wrap (n : Int) = (n : Int) := by rw [IntKind.wrap_i64]; omega
      rw [if_pos hn]
      rw [hf] at f3
      subst he
      have hz : ((0 : Nat) : Int) = 0 := rfl
      go_enter Tryz.func71, Tryz.ntmps71
      go_wp2_with fail
      refine F1.out.mono ?_
      rintro e w1 ⟨rfl, r1⟩
      have ST1 := hide r1
      clear r1 F1
      go_wp2_with fail
      refine (F2.out _ ST1.out.rd).mono ?_
      rintro e w2 ⟨rfl, r2⟩
      have ST2 := hide (ST1.out.next r2)
      clear r2 F2 ST1
      go_wp2_with fail
      refine (f3 _).mono ?_
      rintro e w' ⟨rfl, rfl⟩
      go_wp2_with fail
      exact bodyPost_ret (v := .tuple #[.int .i64 n, .int .i64 0]) (by simp [results, Tryz.results71, go_sem]) rfl ⟨rfl, ST2.out⟩
    · have hf : fromB 1 n 8 = false := by
        have : ¬ (fromB 1 n 8 = true) := by unfold fromB; simp; omega
        simpa using this
      rw [if_neg hn]
      rw [hf] at f3
      subst he
      have hz : ((0 : Nat) : Int) = 0 := rfl
      go_enter Tryz.func71, Tryz.ntmps71
      go_wp2_with fail
      refine F1.out.mono ?_
      rintro e w1 ⟨rfl, r1⟩
      have ST1 := hide r1
      clear r1 F1
      go_wp2_with fail
      refine (F2.out _ ST1.out.rd).mono ?_
      rintro e w2 ⟨rfl, r2⟩
      have ST2 := hide (ST1.out.next r2)
      clear r2 F2 ST1
      go_wp2_with fail
      refine (f3 _).mono ?_
      rintro e w' ⟨rfl, rfl⟩
      go_wp2_with fail
      exact bodyPost_ret (v := .tuple #[.int .i64 0, .int .i64 70]) (by simp [results, Tryz.results71, go_sem]) rfl ⟨rfl, ST2.out⟩
  · rw [if_pos he]
    have he1 : ¬ ((e : Int) = 0) := by omega
    go_enter Tryz.func71, Tryz.ntmps71
    go_wp2_with fail
    refine F1.out.mono ?_
    rintro _ w1 ⟨rfl, r1⟩
    have ST1 := hide r1
    clear r1 F1
    go_wp2_with fail
    refine (F2.out _ ST1.out.rd).mono ?_
    rintro _ w2 ⟨rfl, r2⟩
    have ST2 := hide (ST1.out.next r2)
    clear r2 F2 ST1
    go_wp2_with fail
    exact bodyPost_ret (v := .tuple #[.int .i64 0, .int .i64 e]) (by simp [results, Tryz.results71, go_sem]) rfl ⟨rfl, ST2.out⟩
end Go.Proofs.YtgpmghdoofcpaaaGreat
