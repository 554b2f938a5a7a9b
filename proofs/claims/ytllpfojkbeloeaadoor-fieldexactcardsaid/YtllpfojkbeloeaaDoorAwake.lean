import Derived.Test.YtllpfojkbeloeaaDoorFixed
namespace Go.Proofs.YtllpfojkbeloeaaDoor
open Go.RowKit Go.QK

/-- A literal of bytes. -/
theorem lit_own (w : World) (l : List Nat) (hl : l.length ≤ 1000) : OwnB (w.alloc (.cells ((ints l).map (Value.int .u8)).toArray 5)) w.heap.size (.slice (some ⟨w.heap.size, 0, none⟩) l.length l.length) l := by
  have := World.ownsRow_lit (base := w.heap.size) (e := 5) (size := 1) w ((ints l).map (Value.int .u8)).toArray l.length (Nat.le_refl _) (by unfold maxLen; omega) (by simp)
  simpa [Owns] using this
theorem form300 : form 300 = [172, 2] := by rw [form_big (by decide), form_small (by decide)]
theorem form1 : form 1 = [1] := form_small (by decide)
theorem alloc_below (w : World) (o : Obj) : Below w.heap.size w (w.alloc o) := (Below.refl _ _).alloc (Nat.le_refl _) _
theorem bnext {B : Nat} {w w1 w2 : World} (h : Below B w w1) (k : Below w1.heap.size w1 w2) (hB : B ≤ w.heap.size) : Below B w w2 := h.trans (k.mono (Nat.le_trans hB h.size))
theorem bkeep {B : Nat} {S : Nat → Prop} {w w1 w2 : World} (h : Below B w w1) (k : Keep S w1 w2) (hB : B ≤ w.heap.size) (hS : ∀ j, S j → B ≤ j) : Below B w w2 :=
  h.trans (k.below (Nat.le_trans hB h.size) (fun j hj q => by have := hS j q; omega))
theorem Tab.under {B : Nat} {w w' : World} (h : Tab w) (k : Below B w w') (hB : 0 < B) : Tab w' :=
  ⟨Nat.lt_of_lt_of_le h.1 k.size, fun i hi => (k.cell (p := ⟨0, i, none⟩) hB).trans (h.2 i hi)⟩

/-- A reader's blocks lie apart from a writer's. -/
theorem Rd.aside {w w' : World} {B P p : Nat} {v : Value} {a : Option Addr} {c : Nat} {l : List Nat} {pos e : Nat} (h : Rd w p a c l pos e) (hk : Keep (wS P v) w w') (hp : B < p) (ha : ∀ ad, a = some ad → B < ad.block) (hB : P ≤ B)
    (hv : ∀ g, v.ownBlock = some g → g ≠ p ∧ ∀ ad, a = some ad → g ≠ ad.block) : Rd w' p a c l pos e := by
  refine h.keep hk ?_ ?_
  · rintro (q | q)
    · omega
    · exact (hv p q).1 rfl
  · intro ad had
    rintro (q | q)
    · have := ha ad had; omega
    · exact (hv _ q).2 ad had rfl
theorem Rd.lt {w : World} {p : Nat} {a : Option Addr} {c : Nat} {l : List Nat} {pos e : Nat} (h : Rd w p a c l pos e) : p < w.heap.size ∧ (0 < l.length → ∀ ad, a = some ad → ad.block < w.heap.size) := by
  refine ⟨h.1.1, fun hl ad had => ?_⟩
  rcases h.2.1 with q | ⟨b, off, q, hb, _⟩
  · have := congrArg List.length q
    simp at this
    subst this
    simp at hl
  · rw [had] at q
    cases q
    exact hb

/-- An element of a list of lists of bytes. -/
def Part (w : World) (p : Value × List Nat) : Prop := ∃ ai ci, p.1 = .slice ai p.2.length ci ∧ Bytes w ai p.2 ∧ AllB p.2 ∧ p.2.length ≤ maxLen
theorem Part.below {w w' : World} {p : Value × List Nat} (h : Part w p) (k : Below w.heap.size w w') : Part w' p := by
  obtain ⟨ai, ci, h1, h2, h3⟩ := h
  exact ⟨ai, ci, h1, Seen.below h2 k, h3⟩
theorem Parts.lit (w : World) (ps : List (Value × List Nat)) (h : ∀ p ∈ ps, Part w p) : Parts (w.alloc (.cells (ps.map (·.1)).toArray 29)) (some ⟨w.heap.size, 0, none⟩) ps := by
  refine .inr ⟨w.heap.size, 0, rfl, by simp, fun i hi => ⟨?_, ?_⟩⟩
  · rw [Nat.zero_add, World.cell?_alloc_new]
    simp [hi]
  · exact (h _ (List.getElem_mem hi)).below (alloc_below _ _)
/-! A literal of bytes by a conversion of a constant: a row of its own, with the conversion's mark behind it. -/
theorem cell?_freeze (w : World) (a b : Addr) (n : Nat) : (w.freeze a n).cell? b = w.cell? b := by
  unfold World.freeze
  split
  · rfl
  · unfold World.cell?
    simp only [Array.getElem?_modify]
    by_cases q : a.block = b.block
    · rw [if_pos q]
      cases hh : w.heap[b.block]? with
      | none => rfl
      | some o => cases o <;> rfl
    · rw [if_neg q]
theorem freeze_block (w : World) (a : Addr) (n k : Nat) (h : a.block ≠ k) : (w.freeze a n).heap[k]? = w.heap[k]? := by
  unfold World.freeze
  split
  · rfl
  · simp only [Array.getElem?_modify]
    rw [if_neg h]
theorem freeze_size (w : World) (a : Addr) (n : Nat) : (w.freeze a n).heap.size = w.heap.size := by
  unfold World.freeze
  split
  · rfl
  · simp
def marked (w : World) (cs : Array Value) : World := (w.alloc (.cells cs 5)).freeze ⟨w.heap.size, cs.size, none⟩ 1
theorem marked_size (w : World) (cs : Array Value) : (marked w cs).heap.size = w.heap.size + 1 := by
  unfold marked
  rw [freeze_size]
  simp
theorem marked_below (w : World) (cs : Array Value) : Below w.heap.size w (marked w cs) := by
  have h := alloc_below w (.cells cs 5)
  have e : ∀ a, ((w.alloc (.cells cs 5)).freeze a 1).os = w.os ∧ ((w.alloc (.cells cs 5)).freeze a 1).tape = w.tape ∧ ((w.alloc (.cells cs 5)).freeze a 1).output = w.output := fun a => ⟨h.os, h.tape, h.output⟩
  refine ⟨(e _).1, (e _).2.1, (e _).2.2, by rw [marked_size]; omega, fun k hk => ?_⟩
  unfold marked
  rw [freeze_block _ _ _ _ (by show w.heap.size ≠ k; omega)]
  exact h.block k hk
theorem marked_bytes (w : World) (l : List Nat) : Bytes (marked w ((ints l).map (Value.int .u8)).toArray) (some ⟨w.heap.size, 0, none⟩) l := by
  refine .inr ⟨w.heap.size, 0, rfl, by rw [marked_size]; omega, fun i hi => ?_⟩
  unfold marked
  rw [cell?_freeze, Nat.zero_add, World.cell?_alloc_new]
  simp at hi
  simp [hi]
theorem conv_lit (w : World) (cs : Array Value) (n : Nat) : (convert 29 29 (.slice (some ⟨w.heap.size, 0, none⟩) n n)).run Tryd.prog (w.alloc (.cells cs 5)) = .ok (.slice (some ⟨w.heap.size, 0, none⟩) n n) (marked w cs) := by
  have hsh : (w.alloc (.cells cs 5)).shape? w.heap.size = some (5, cs.size) := by
    simp [World.shape?, World.alloc, -World.alloc_eq]
  simp [convert, run_underlying Tryd.underlying29, run_underlying Tryd.underlying5, markStringish, hsh, marked, Result.andThen, -World.alloc_eq]
theorem allB_of {l : List Nat} (h : l.all (fun x => decide (x < 256)) = true) : AllB l := by
  intro x hx
  simpa using List.all_eq_true.1 h x hx
theorem le_maxLen {n : Nat} (h : n.ble 1000000 = true) : n ≤ maxLen := by
  have := Nat.le_of_ble_eq_true h
  unfold maxLen
  omega
theorem uA1 : uV 300 [172, 2, 1, 128] 0 0 = 300 ∧ uP 300 [172, 2, 1, 128] 0 0 = 2 ∧ uE 300 [172, 2, 1, 128] 0 0 = 0 := by decide
theorem uA2 : uV 18446744073709551615 [172, 2, 1, 128] 2 0 = 1 ∧ uP 18446744073709551615 [172, 2, 1, 128] 2 0 = 3 ∧ uE 18446744073709551615 [172, 2, 1, 128] 2 0 = 0 := by decide
theorem uA3 : uV 5 [172, 2, 1, 128] 3 0 = 0 ∧ uP 5 [172, 2, 1, 128] 3 0 = 3 ∧ uE 5 [172, 2, 1, 128] 3 0 = 20 := by decide
theorem sumA : sumOf [49, 50, 51, 52, 53, 54, 55, 56, 57] = 3421780262 := by decide +kernel

set_option maxHeartbeats 2000000 in
set_option maxRecDepth 100000 in
theorem awake_any (w : World) (ht : Tab w) : Calls Tryd.prog 8 #[] w fun e w' => e = .returned (.bool true) ∧ Below w.heap.size w w' := by
  obtain ⟨B, hB⟩ : ∃ B, B = w.heap.size := ⟨_, rfl⟩
  have hB0 : 0 < B := by have := ht.1; omega
  have HT : Hid (Tab w) := ht
  clear ht
  go_enter Tryd.func8, Tryd.ntmps8
  go_wp2_with fail
  refine (newWriter_any _).mono ?_
  rintro e w1 ⟨rfl, hw1⟩
  have B1 : Below B w w1 := by rw [hw1, hB]; exact alloc_below _ _
  have hlt1 : B < w1.heap.size := by rw [hw1]; simp; omega
  have W1 : Wr w1 B B (.slice none 0 0) [] := by
    rw [hw1, hB]
    exact ⟨Cells.new _ _ _, Owns.nil _ _ _ _, nofun, Nat.le_refl _⟩
  rw [← hB]
  clear hw1
  have HW1 : Hid (Wr w1 B B (.slice none 0 0) []) := W1
  have HE : Hid (B = w.heap.size) := hB
  clear W1 hB
  go_wp2_with fail
  have L1 : OwnB (w1.alloc (.cells #[.int .u8 172, .int .u8 2, .int .u8 1, .int .u8 128] 5)) w1.heap.size (.slice (some ⟨w1.heap.size, 0, none⟩) 4 4) [172, 2, 1, 128] := lit_own w1 [172, 2, 1, 128] (by decide)
  refine (newReader_any _ [172, 2, 1, 128] 4 _ (Owns.seen_at L1) (by decide) nofun (by decide) (by unfold AllB; decide)).mono ?_
  rintro e w2 ⟨p, a, c, rfl, hp, ha, hr, hb⟩
  have B2 : Below w1.heap.size w1 w2 := bnext (alloc_below _ _) hb (Nat.le_refl _)
  have HW2 : Hid (Wr w2 B B (.slice none 0 0) []) := HW1.out.below B2
  have hlt2 := hr.lt.1
  have hlt3 := hr.lt.2 (by decide)
  simp only [World.size_alloc] at hp ha
  have B02 : Below B w w2 := bnext B1 B2 (by have := HE.out; omega)
  have HR2 : Hid (Rd w2 p a c [172, 2, 1, 128] 0 0) := hr
  clear HW1 hb L1 hr B1 B2
  go_wp2_with fail
  have K : Calls Tryd.prog 10 #[.pointer (some ⟨B, 0, none⟩), .int .u64 300] w2 fun e w' => ∃ v', e = .returned (.tuple #[]) ∧ Wr w' B B v' ([] ++ form 300) ∧ Keep (wS B (.slice none 0 0)) w2 w' ∧ moved w2 (.slice none 0 0) v' :=
    writeU_any 300 _ _ _ [] _ (by decide) HW2.out (by decide)
  rw [form300] at K
  refine K.mono ?_
  rintro e w3 ⟨v3, rfl, W3, K3, M3⟩
  have R3 := Rd.aside HR2.out K3 (B := B) (by omega) (fun ad q => by have := ha ad q; omega) (Nat.le_refl _) nofun
  have B3 : Below B w w3 := bkeep B02 K3 (by have := HE.out; omega) (fun j q => (HW2.out.lt j q).1)
  have hv3 : ∀ g, v3.ownBlock = some g → w2.heap.size ≤ g := by
    intro g q
    rcases M3 with e | ⟨g', e, hg⟩
    · rw [e] at q; cases q
    · rw [e] at q; cases q; exact hg
  have HW3 : Hid (Wr w3 B B v3 [172, 2]) := W3
  have HR3 : Hid (Rd w3 p a c [172, 2, 1, 128] 0 0) := R3
  clear K HW2 HR2 W3 R3 K3 M3 B02
  go_wp2_with fail
  have K : Calls Tryd.prog 12 #[.pointer (some ⟨B, 0, none⟩), .int .i64 (-1)] w3 fun e w' => ∃ v', e = .returned (.tuple #[]) ∧ Wr w' B B v' ([172, 2] ++ form 1) ∧ Keep (wS B v3) w3 w' ∧ moved w3 v3 v' :=
    writeS_any (-1) _ _ _ [172, 2] _ (by decide) (by decide) HW3.out (by decide)
  rw [form1] at K
  refine K.mono ?_
  rintro e w4 ⟨v4, rfl, W4, K4, M4⟩
  have R4 := Rd.aside HR3.out K4 (B := B) (by omega) (fun ad q => by have := ha ad q; omega) (Nat.le_refl _) (fun g q => ⟨by have := hv3 g q; omega, fun ad had => by have := hv3 g q; have := hlt3 ad had; omega⟩)
  have B4 : Below B w w4 := bkeep B3 K4 (by have := HE.out; omega) (fun j q => (HW3.out.lt j q).1)
  have HW4 : Hid (Wr w4 B B v4 [172, 2, 1]) := W4
  have HR4 : Hid (Rd w4 p a c [172, 2, 1, 128] 0 0) := R4
  clear K HW3 HR3 W4 R4 K4 M4 B3 hv3
  go_wp2_with fail
  refine (out_any _ _ _ _ _ HW4.out (by decide)).mono ?_
  rintro e w5 ⟨v5, rfl, o5, b5⟩
  obtain ⟨a5, c5, rfl, s5, _⟩ := o5.seen
  have HR5 : Hid (Rd w5 p a c [172, 2, 1, 128] 0 0) := HR4.out.below b5
  have B5 : Below B w w5 := bnext B4 b5 (by have := HE.out; omega)
  have S5 : Hid (Bytes w5 a5 [172, 2, 1]) := s5
  clear o5 s5 b5 HW4 HR4 B4
  go_wp2_with fail
  have L2 : OwnB (w5.alloc (.cells #[.int .u8 172, .int .u8 2, .int .u8 1] 5)) w5.heap.size (.slice (some ⟨w5.heap.size, 0, none⟩) 3 3) [172, 2, 1] := lit_own w5 [172, 2, 1] (by decide)
  refine (same_any _ _ [172, 2, 1] [172, 2, 1] _ _ _ (Seen.below S5.out (alloc_below _ _)) (Owns.seen_at L2) (by unfold AllB; decide) (by unfold AllB; decide)).mono ?_
  rintro e w' ⟨rfl, rfl⟩
  obtain ⟨w6, hw6⟩ : ∃ w6, w6 = w5.alloc (.cells #[.int .u8 172, .int .u8 2, .int .u8 1] 5) := ⟨_, rfl⟩
  rw [← hw6]
  have HR6 : Hid (Rd w6 p a c [172, 2, 1, 128] 0 0) := by rw [hw6]; exact HR5.out.below (alloc_below _ _)
  have B6 : Below B w w6 := by rw [hw6]; exact bnext B5 (alloc_below _ _) (by have := HE.out; omega)
  have ed : decide ([172, 2, 1] = [172, 2, 1]) = true := by decide
  rw [ed]
  clear hw6 L2 S5 HR5 B5 ed
  go_wp2_with fail
  have K := readU_any 300 p a c [172, 2, 1, 128] 0 0 w6 HR6.out
  rw [uA1.1, uA1.2.1, uA1.2.2] at K
  refine K.mono ?_
  rintro e w7 ⟨rfl, R7, K7⟩
  have B7 : Below B w w7 := bkeep B6 K7 (by have := HE.out; omega) (fun j q => by have : j = p := q; omega)
  have HR7 : Hid (Rd w7 p a c [172, 2, 1, 128] 2 0) := R7
  clear K R7 K7 HR6 B6
  go_wp2_with fail
  have K := readS_any p a c [172, 2, 1, 128] 2 0 w7 HR7.out
  rw [uA2.1, uA2.2.1, uA2.2.2] at K
  refine K.mono ?_
  rintro e w8 ⟨rfl, R8, K8⟩
  have B8 : Below B w w8 := bkeep B7 K8 (by have := HE.out; omega) (fun j q => by have : j = p := q; omega)
  have HR8 : Hid (Rd w8 p a c [172, 2, 1, 128] 3 0) := R8
  have eu : uns 1 = -1 := by decide
  rw [eu]
  clear K R8 K8 HR7 B7 eu
  go_wp2_with fail
  have K := readU_any 5 p a c [172, 2, 1, 128] 3 0 w8 HR8.out
  rw [uA3.1, uA3.2.1, uA3.2.2] at K
  refine K.mono ?_
  rintro e w9 ⟨rfl, R9, K9⟩
  have B9 : Below B w w9 := bkeep B8 K9 (by have := HE.out; omega) (fun j q => by have : j = p := q; omega)
  have HR9 : Hid (Rd w9 p a c [172, 2, 1, 128] 3 20) := R9
  clear K R9 K9 HR8 B8
  go_wp2_with fail
  refine (fault_any p a c _ 3 20 w9 HR9.out).mono ?_
  rintro e wa ⟨rfl, ba⟩
  have Ba : Below B w wa := bnext B9 ba (by have := HE.out; omega)
  have ef : faultP 3 20 = 3 := by decide
  rw [ef]
  clear ba HR9 B9 ef
  go_wp2_with fail
  have L3 : OwnB (wa.alloc (.cells #[.int .u8 1, .int .u8 2, .int .u8 3] 5)) wa.heap.size (.slice (some ⟨wa.heap.size, 0, none⟩) 3 3) [1, 2, 3] := lit_own wa [1, 2, 3] (by decide)
  have K := put_ok wa.heap.size 3 3 3 1 2 258 wa.heap.size [1, 2, 3] _ L3 (by decide) (by decide) (by decide) (by decide) (by decide) (by decide) (by decide)
  have ew : wrote [1, 2, 3] 1 258 2 = [1, 2, 1] := by decide
  rw [ew] at K
  refine K.mono ?_
  rintro e wb ⟨rfl, o, kb⟩
  have hla := Ba.size
  have kb2 : Below wa.heap.size wa wb := bkeep (alloc_below _ _) kb (Nat.le_refl _) (fun j q => by have : j = wa.heap.size := q; omega)
  have Bb : Below B w wb := bnext Ba kb2 (by have := HE.out; omega)
  have HO : Hid (OwnB wb wa.heap.size (.slice (some ⟨wa.heap.size, 0, none⟩) 3 3) [1, 2, 1]) := o
  clear K L3 ew o kb kb2 Ba
  go_wp2_with fail
  have K := get_ok (some ⟨wa.heap.size, 0, none⟩) 3 0 2 [1, 2, 1] wb (Owns.seen_at HO.out) (by unfold AllB; decide) (by decide) (by decide) (by decide) (by decide) (by decide)
  have eg : fromB (([1, 2, 1].drop 0).take 2) = 513 := by decide
  rw [eg] at K
  refine K.mono ?_
  rintro e w' ⟨rfl, rfl⟩
  clear K eg
  go_wp2_with (go_at_call 17; refine (num_any _ _).mono ?_; rintro e w' ⟨rfl, rfl⟩)
  have L4 : OwnB (w'.alloc (.cells #[.int .u8 1, .int .u8 2, .int .u8 1] 5)) w'.heap.size (.slice (some ⟨w'.heap.size, 0, none⟩) 3 3) [1, 2, 1] := lit_own w' [1, 2, 1] (by decide)
  refine (same_any _ _ [1, 2, 1] [1, 2, 1] _ _ _ (Seen.below (Owns.seen_at HO.out) (alloc_below _ _)) (Owns.seen_at L4) (by unfold AllB; decide) (by unfold AllB; decide)).mono ?_
  rintro e w'' ⟨rfl, rfl⟩
  obtain ⟨wc, hwc⟩ : ∃ wc, wc = w'.alloc (.cells #[.int .u8 1, .int .u8 2, .int .u8 1] 5) := ⟨_, rfl⟩
  rw [← hwc]
  have Bc : Below B w wc := by rw [hwc]; exact bnext Bb (alloc_below _ _) (by have := HE.out; omega)
  have ed : decide ([1, 2, 1] = [1, 2, 1]) = true := by decide
  rw [ed]
  clear hwc L4 HO Bb ed
  have cv1 := fun w => conv_lit w #[.int .u8 49, .int .u8 50, .int .u8 51, .int .u8 52] 4
  have cv2 := fun w => conv_lit w #[.int .u8 53, .int .u8 54, .int .u8 55, .int .u8 56, .int .u8 57] 5
  go_wp2_with fail
  clear cv1 cv2
  have M1 : Bytes (marked wc #[.int .u8 49, .int .u8 50, .int .u8 51, .int .u8 52]) (some ⟨wc.heap.size, 0, none⟩) [49, 50, 51, 52] := marked_bytes wc [49, 50, 51, 52]
  have A1 := marked_below wc #[.int .u8 49, .int .u8 50, .int .u8 51, .int .u8 52]
  generalize marked wc #[.int .u8 49, .int .u8 50, .int .u8 51, .int .u8 52] = wd at *
  have M2 : Bytes (marked wd #[.int .u8 53, .int .u8 54, .int .u8 55, .int .u8 56, .int .u8 57]) (some ⟨wd.heap.size, 0, none⟩) [53, 54, 55, 56, 57] := marked_bytes wd [53, 54, 55, 56, 57]
  have A2 := marked_below wd #[.int .u8 53, .int .u8 54, .int .u8 55, .int .u8 56, .int .u8 57]
  generalize marked wd #[.int .u8 53, .int .u8 54, .int .u8 55, .int .u8 56, .int .u8 57] = we at *
  have P1 : Parts (we.alloc (.cells #[.slice (some ⟨wc.heap.size, 0, none⟩) 4 4, .slice (some ⟨wd.heap.size, 0, none⟩) 5 5] 29)) (some ⟨we.heap.size, 0, none⟩) [(.slice (some ⟨wc.heap.size, 0, none⟩) 4 4, [49, 50, 51, 52]), (.slice (some ⟨wd.heap.size, 0, none⟩) 5 5, [53, 54, 55, 56, 57])] := by
    refine Parts.lit we _ ?_
    intro q hq
    simp only [List.mem_cons, List.mem_nil_iff, or_false] at hq
    rcases hq with rfl | rfl
    · exact ⟨_, _, rfl, Seen.below M1 A2, allB_of rfl, le_maxLen rfl⟩
    · exact ⟨_, _, rfl, M2, allB_of rfl, le_maxLen rfl⟩
  have hE := HE.out
  have Be : Below B w we := bnext (bnext Bc A1 (by omega)) A2 (by omega)
  have Bf := bnext Be (alloc_below we (.cells #[.slice (some ⟨wc.heap.size, 0, none⟩) 4 4, .slice (some ⟨wd.heap.size, 0, none⟩) 5 5] 29)) (by omega)
  have K := sum_any _ _ 2 _ (Tab.under HT.out Bf hB0) P1 (le_maxLen rfl) (allB_of rfl)
  have ej : joined [((.slice (some ⟨wc.heap.size, 0, none⟩) 4 4 : Value), [49, 50, 51, 52]), (.slice (some ⟨wd.heap.size, 0, none⟩) 5 5, [53, 54, 55, 56, 57])] = [49, 50, 51, 52, 53, 54, 55, 56, 57] := rfl
  rw [ej, sumA] at K
  refine K.mono ?_
  rintro e w'' ⟨rfl, rfl⟩
  go_wp2_with fail
  go_ret
  exact ⟨rfl, hE ▸ Bf⟩
end Go.Proofs.YtllpfojkbeloeaaDoor
