import Derived.Test.YtapjbgkmcplpbaaGreatG02
namespace Go.QK
open Go.RowKit

/-! The slots of chapter 4, in plain numbers. -/

/-- Byte j of a number. -/
def byteOf (m j : Nat) : Nat := m / 2 ^ (8 * j) % 256
def bytesOf (n m : Nat) : List Nat := (List.range n).map (byteOf m)
@[simp] theorem bytesOf_length (n m : Nat) : (bytesOf n m).length = n := by simp [bytesOf]
theorem bytesOf_succ (n m : Nat) : bytesOf (n + 1) m = m % 256 :: bytesOf n (m / 256) := by
  unfold bytesOf
  rw [List.range_succ_eq_map]
  simp only [List.map_cons, List.map_map]
  congr 1
  · simp [byteOf]
  · apply List.map_congr_left
    intro j _
    show byteOf m (j + 1) = byteOf (m / 256) j
    unfold byteOf
    rw [Nat.div_div_eq_div_mul, show 2 ^ (8 * (j + 1)) = 256 * 2 ^ (8 * j) by rw [show 8 * (j + 1) = 8 + 8 * j by omega, Nat.pow_add]]
theorem bytesOf_allB (n m : Nat) : AllB (bytesOf n m) := by
  intro x hx
  obtain ⟨j, _, rfl⟩ := List.mem_map.1 hx
  exact Nat.mod_lt _ (by decide)

def fromB : List Nat → Nat
  | [] => 0
  | b :: l => b + 256 * fromB l
theorem fromB_append : (l r : List Nat) → fromB (l ++ r) = fromB l + 256 ^ l.length * fromB r
  | [], r => by simp [fromB]
  | x :: l, r => by
    simp only [List.cons_append, fromB, List.length_cons, Nat.pow_succ]
    rw [fromB_append l r, Nat.mul_add, ← Nat.mul_assoc, Nat.mul_comm 256 (256 ^ l.length)]
    omega
theorem fromB_lt : (l : List Nat) → AllB l → fromB l < 256 ^ l.length
  | [], _ => by simp [fromB]
  | x :: l, h => by
    have := fromB_lt l (fun y hy => h y (by simp [hy]))
    have := h x (by simp)
    simp only [fromB, List.length_cons, Nat.pow_succ]
    omega
theorem fromB_take_succ (l : List Nat) (i : Nat) (h : i < l.length) : fromB (l.take (i + 1)) = fromB (l.take i) + 256 ^ i * l.getD i 0 := by
  rw [List.take_succ_eq_append_getElem h, fromB_append]
  simp [fromB, h, Nat.le_of_lt h]
theorem fromB_bytesOf : (k n : Nat) → fromB (bytesOf k n) = n % 256 ^ k
  | 0, n => by simp [bytesOf, fromB, Nat.mod_one]
  | k + 1, n => by
    rw [bytesOf_succ, fromB, fromB_bytesOf k, Nat.pow_succ, Nat.mul_comm (256 ^ k), Nat.mod_mul]
theorem fromB_zero (k : Nat) : fromB (List.replicate k 0) = 0 := by
  induction k with
  | zero => rfl
  | succ k ih => simp [List.replicate_succ, fromB, ih]

/-- The bytes of x, laid one by one. -/
def wrote (L : List Nat) (pos x : Nat) : Nat → List Nat
  | 0 => L
  | i + 1 => (wrote L pos x i).set (pos + i) (byteOf x i)
@[simp] theorem wrote_length (L : List Nat) (pos x : Nat) : (i : Nat) → (wrote L pos x i).length = L.length
  | 0 => rfl
  | i + 1 => by simp [wrote, wrote_length L pos x i]
theorem ints_set' (l : List Nat) (i x : Nat) : ints (l.set i x) = (ints l).set i (x : Int) := by simp [ints, List.map_set]
theorem bytesOf_snoc (i x : Nat) : bytesOf (i + 1) x = bytesOf i x ++ [byteOf x i] := by simp [bytesOf, List.range_succ]
theorem wrote_behind (A : List Nat) (n x : Nat) : (i : Nat) → i ≤ n → wrote (A ++ List.replicate n 0) A.length x i = (A ++ bytesOf i x) ++ List.replicate (n - i) 0
  | 0, _ => by simp [wrote, bytesOf]
  | i + 1, h => by
    rw [wrote, wrote_behind A n x i (by omega), List.set_append_right _ _ (by simp)]
    obtain ⟨m, hm⟩ : ∃ m, n - i = m + 1 := ⟨n - i - 1, by omega⟩
    rw [hm, show n - (i + 1) = m by omega, List.replicate_succ]
    simp [bytesOf_snoc]

structure Slot where
  stamp : Nat
  pages : Nat
  log : Nat
  frames : Nat
  point : Nat
def Slot.none : Slot := ⟨0, 0, 0, 0, 0⟩
/-- All of them fit their bytes. -/
structure Slot.Fit (s : Slot) : Prop where
  stamp : s.stamp < 18446744073709551616
  pages : s.pages < 256
  log : s.log < 65536
  frames : s.frames < 256
  point : s.point < 4294967296
def headB (s : Slot) : List Nat := [77] ++ bytesOf 8 s.stamp ++ bytesOf 1 s.pages ++ bytesOf 2 s.log ++ bytesOf 1 s.frames ++ bytesOf 4 s.point
def slotB (s : Slot) : List Nat := headB s ++ List.replicate 494 0 ++ [s.stamp % 256]
@[simp] theorem headB_length (s : Slot) : (headB s).length = 17 := by simp [headB]
@[simp] theorem slotB_length (s : Slot) : (slotB s).length = 512 := by simp only [slotB, List.length_append, List.length_replicate, headB_length, List.length_cons, List.length_nil]
theorem slotB_allB (s : Slot) : AllB (slotB s) := by
  have z : ∀ n, AllB (List.replicate n 0) := fun n x hx => by rw [List.eq_of_mem_replicate hx]; decide
  have o : ∀ n, n < 256 → AllB [n] := fun n h x hx => by simp at hx; omega
  exact ((((((o 77 (by decide)).append (bytesOf_allB _ _)).append (bytesOf_allB _ _)).append (bytesOf_allB _ _)).append (bytesOf_allB _ _)).append (bytesOf_allB _ _)).append (z _) |>.append (o _ (Nat.mod_lt _ (by decide)))
/-- How the program lays one. -/
def laidB (s : Slot) : List Nat :=
  let b := wrote (wrote (wrote (wrote (wrote ((List.replicate 512 0).set 0 77) 1 s.stamp 8) 9 s.pages 1) 10 s.log 2) 12 s.frames 1) 13 s.point 4
  b.set 511 (b.getD 1 0)
def laid1 (s : Slot) : List Nat := wrote ((List.replicate 512 0).set 0 77) 1 s.stamp 8
def laid2 (s : Slot) : List Nat := wrote (laid1 s) 9 s.pages 1
def laid3 (s : Slot) : List Nat := wrote (laid2 s) 10 s.log 2
def laid4 (s : Slot) : List Nat := wrote (laid3 s) 12 s.frames 1
def laid5 (s : Slot) : List Nat := wrote (laid4 s) 13 s.point 4
theorem laid5_eq (s : Slot) : laid5 s = headB s ++ List.replicate 495 0 := by
  unfold laid5 laid4 laid3 laid2 laid1
  have e0 : (List.replicate 512 0).set 0 77 = [77] ++ List.replicate 511 0 := by rw [show 512 = 511 + 1 from rfl, List.replicate_succ]; rfl
  rw [e0]
  have e1 := wrote_behind [77] 511 s.stamp 8 (by omega)
  rw [show [77].length = 1 from rfl] at e1
  rw [e1]
  have e2 := wrote_behind ([77] ++ bytesOf 8 s.stamp) (511 - 8) s.pages 1 (by omega)
  rw [show ([77] ++ bytesOf 8 s.stamp : List Nat).length = 9 by simp] at e2
  rw [e2]
  have e3 := wrote_behind ([77] ++ bytesOf 8 s.stamp ++ bytesOf 1 s.pages) (511 - 8 - 1) s.log 2 (by omega)
  rw [show ([77] ++ bytesOf 8 s.stamp ++ bytesOf 1 s.pages : List Nat).length = 10 by simp] at e3
  rw [e3]
  have e4 := wrote_behind ([77] ++ bytesOf 8 s.stamp ++ bytesOf 1 s.pages ++ bytesOf 2 s.log) (511 - 8 - 1 - 2) s.frames 1 (by omega)
  rw [show ([77] ++ bytesOf 8 s.stamp ++ bytesOf 1 s.pages ++ bytesOf 2 s.log : List Nat).length = 12 by simp] at e4
  rw [e4]
  have e5 := wrote_behind ([77] ++ bytesOf 8 s.stamp ++ bytesOf 1 s.pages ++ bytesOf 2 s.log ++ bytesOf 1 s.frames) (511 - 8 - 1 - 2 - 1) s.point 4 (by omega)
  rw [show ([77] ++ bytesOf 8 s.stamp ++ bytesOf 1 s.pages ++ bytesOf 2 s.log ++ bytesOf 1 s.frames : List Nat).length = 13 by simp] at e5
  rw [e5]
  rfl
theorem laid5_length (s : Slot) : (laid5 s).length = 512 := by rw [laid5_eq, List.length_append, List.length_replicate, headB_length]
theorem laid5_one (s : Slot) : (laid5 s).getD 1 0 = s.stamp % 256 := by
  rw [laid5_eq]
  show byteOf s.stamp 0 = _
  simp [byteOf]
theorem laid5_set (s : Slot) : (laid5 s).set 511 (s.stamp % 256) = slotB s := by
  rw [laid5_eq, List.set_append_right _ _ (by rw [headB_length]; omega), headB_length, show 495 = 494 + 1 from rfl, ← List.replicate_append_replicate, List.set_append_right _ _ (by rw [List.length_replicate]; omega), List.length_replicate]
  unfold slotB
  rw [List.append_assoc]
  rfl
theorem laid5_allB (s : Slot) : AllB (laid5 s) := by
  intro x hx
  rw [laid5_eq] at hx
  have := slotB_allB s
  rcases List.mem_append.1 hx with q | q
  · exact this x (List.mem_append_left _ (List.mem_append_left _ q))
  · rw [List.eq_of_mem_replicate q]; decide

/-- The slot that these bytes would be. -/
def apartB (l : List Nat) : Slot := ⟨fromB ((l.drop 1).take 8), fromB ((l.drop 9).take 1), fromB ((l.drop 10).take 2), fromB ((l.drop 12).take 1), fromB ((l.drop 13).take 4)⟩
theorem piece_lt {l : List Nat} (h : AllB l) (a n : Nat) : fromB ((l.drop a).take n) < 256 ^ n := by
  refine Nat.lt_of_lt_of_le (fromB_lt _ ((h.drop a).take n)) (Nat.pow_le_pow_right (by decide) (by simp; omega))
theorem apartB_fit {l : List Nat} (h : AllB l) : (apartB l).Fit := by
  refine ⟨?_, ?_, ?_, ?_, ?_⟩
  · exact piece_lt h 1 8
  · exact piece_lt h 9 1
  · exact piece_lt h 10 2
  · exact piece_lt h 12 1
  · exact piece_lt h 13 4
theorem apartB_slotB {s : Slot} (h : s.Fit) : apartB (slotB s) = s := by
  have e1 : ((slotB s).drop 1).take 8 = bytesOf 8 s.stamp := rfl
  have e2 : ((slotB s).drop 9).take 1 = bytesOf 1 s.pages := rfl
  have e3 : ((slotB s).drop 10).take 2 = bytesOf 2 s.log := rfl
  have e4 : ((slotB s).drop 12).take 1 = bytesOf 1 s.frames := rfl
  have e5 : ((slotB s).drop 13).take 4 = bytesOf 4 s.point := rfl
  unfold apartB
  rw [e1, e2, e3, e4, e5]
  simp only [fromB_bytesOf]
  obtain ⟨h1, h2, h3, h4, h5⟩ := h
  rw [Nat.mod_eq_of_lt (show s.stamp < 256 ^ 8 from h1), Nat.mod_eq_of_lt (show s.pages < 256 ^ 1 from h2), Nat.mod_eq_of_lt (show s.log < 256 ^ 2 from h3), Nat.mod_eq_of_lt (show s.frames < 256 ^ 1 from h4), Nat.mod_eq_of_lt (show s.point < 256 ^ 4 from h5)]

/-! Shapes. -/
abbrev mayN (p l f : Int) : Prop := 2 ≤ p ∧ p ≤ 64 ∧ 4 ≤ l ∧ l ≤ 4096 ∧ 2 ≤ f ∧ f ≤ 16
def needN (p l f : Int) : Int := if mayN p l f then 5 + 2 * p + l else 0
def mayE (p l f : Int) : Nat := if mayN p l f then 0 else 2
abbrev fitsN (p l f n : Int) : Prop := mayN p l f ∧ 5 + 2 * p + l = n

/-- May the slot stand in sector i of a disk of n? -/
abbrev Slot.stands (s : Slot) (i n : Nat) : Prop := 1 ≤ s.stamp ∧ s.stamp ≤ 4611686018427387904 ∧ s.stamp % 2 = i ∧ fitsN s.pages s.log s.frames n ∧ s.point ≤ 2147483647
theorem Slot.stands.fit {s : Slot} {i n : Nat} (h : s.stands i n) : s.Fit := by
  obtain ⟨h1, h2, h3, ⟨h4, h4'⟩, h5⟩ := h
  unfold mayN at h4
  exact ⟨by omega, by omega, by omega, by omega, by omega⟩
/-- What the sector i of a disk of n says. -/
def readB (b : List Nat) (i n : Nat) : Slot := if (apartB b).stands i n ∧ slotB (apartB b) = b then apartB b else Slot.none
theorem readB_slotB {s : Slot} {i n : Nat} (h : s.stands i n) : readB (slotB s) i n = s := by
  unfold readB
  rw [apartB_slotB h.fit, if_pos ⟨h, rfl⟩]
theorem readB_or (b : List Nat) (i n : Nat) : readB b i n = Slot.none ∨ ((readB b i n).stands i n ∧ slotB (readB b i n) = b) := by
  unfold readB
  split
  · rename_i h
    exact .inr h
  · exact .inl rfl
theorem readB_zero_iff (b : List Nat) (i n : Nat) : (readB b i n).stamp = 0 ↔ readB b i n = Slot.none := by
  rcases readB_or b i n with h | ⟨h, _⟩
  · rw [h]; exact ⟨fun _ => rfl, fun _ => rfl⟩
  · refine ⟨fun q => ?_, fun q => by rw [q]; rfl⟩
    have := h.1
    omega

/-! The master of a disk. -/
def Dev.slot (g : Dev) (i : Nat) : Slot := if i < g.n then readB (g.content i) i g.n else Slot.none
def Dev.master (g : Dev) : Slot := if (g.slot 0).stamp < (g.slot 1).stamp then g.slot 1 else g.slot 0
theorem Dev.slot_or (g : Dev) (i : Nat) : g.slot i = Slot.none ∨ ((g.slot i).stands i g.n ∧ slotB (g.slot i) = g.content i ∧ i < g.n) := by
  unfold Dev.slot
  split
  · rename_i h
    rcases readB_or (g.content i) i g.n with q | q
    · exact .inl q
    · exact .inr ⟨q.1, q.2, h⟩
  · exact .inl rfl
theorem Dev.master_or (g : Dev) : g.master = Slot.none ∨ ∃ i, i < 2 ∧ g.master = g.slot i ∧ (g.slot i).stands i g.n := by
  unfold Dev.master
  split
  · rcases g.slot_or 1 with q | q
    · exact .inl q
    · exact .inr ⟨1, by omega, rfl, q.1⟩
  · rcases g.slot_or 0 with q | q
    · exact .inl q
    · exact .inr ⟨0, by omega, rfl, q.1⟩
theorem Dev.master_zero_iff (g : Dev) : g.master.stamp = 0 ↔ g.master = Slot.none := by
  rcases g.master_or with h | ⟨i, _, h1, h2⟩
  · rw [h]; exact ⟨fun _ => rfl, fun _ => rfl⟩
  · refine ⟨fun q => ?_, fun q => by rw [q]; rfl⟩
    have := h2.1
    rw [← h1] at this
    omega
def Dev.putE (g : Dev) (i : Int) (b : List Nat) : Nat := if g.writeE i b.length ≠ 0 then g.writeE i b.length else (g.write i b).syncE
def Dev.putD (g : Dev) (i : Int) (b : List Nat) : Dev := if g.writeE i b.length ≠ 0 then g.write i b else (g.write i b).sync
def Dev.openE (g : Dev) : Nat := if g.down = true then 40 else if g.master.stamp = 0 then 50 else 0
def Dev.openS (g : Dev) : Slot := if g.down = true then Slot.none else g.master
def Slot.next (s : Slot) (lsn : Int) : Slot := { s with stamp := s.stamp + 1, point := lsn.toNat }
abbrev lsnN (lsn : Int) : Prop := 0 ≤ lsn ∧ lsn ≤ 2147483647
def Dev.pointE (g : Dev) (lsn : Int) : Nat := if ¬ lsnN lsn then 4 else if g.openE ≠ 0 then g.openE else if g.master.stamp = 4611686018427387904 then 6 else g.putE ((g.master.next lsn).stamp % 2 : Nat) (slotB (g.master.next lsn))
def Dev.pointD (g : Dev) (lsn : Int) : Dev := if ¬ lsnN lsn then g else if g.openE ≠ 0 then g else if g.master.stamp = 4611686018427387904 then g else g.putD ((g.master.next lsn).stamp % 2 : Nat) (slotB (g.master.next lsn))
def zerosB : List Nat := List.replicate 512 0
def firstS (p l f : Int) : Slot := ⟨1, p.toNat, l.toNat, f.toNat, 0⟩
def Dev.formatE (g : Dev) (p l f : Int) : Nat := if ¬ fitsN p l f g.n then 2 else if g.putE 0 zerosB ≠ 0 then g.putE 0 zerosB else (g.putD 0 zerosB).putE 1 (slotB (firstS p l f))
def Dev.formatD (g : Dev) (p l f : Int) : Dev := if ¬ fitsN p l f g.n then g else if g.putE 0 zerosB ≠ 0 then g.putD 0 zerosB else (g.putD 0 zerosB).putD 1 (slotB (firstS p l f))
end Go.QK
