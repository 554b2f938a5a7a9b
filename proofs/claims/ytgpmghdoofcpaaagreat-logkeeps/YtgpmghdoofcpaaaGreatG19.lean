import Derived.Test.YtgpmghdoofcpaaaGreatDec
import Derived.Test.YtgpmghdoofcpaaaGreatG18
import Derived.Recover
import Derived.Deep.QuietTactic
import Derived.BigQuiet
namespace Go.Proofs.YtgpmghdoofcpaaaGreat.Lg
open Go.RowKit Go.QK

/-! The log of chapter 6, in plain numbers. -/

/-- A number in k bytes, the lowest first. -/
def numB (n k : Nat) : List Nat := (List.range k).map fun i => n / 256 ^ i % 256
theorem numB_length (n k : Nat) : (numB n k).length = k := by simp [numB]
theorem numB_succ (n k : Nat) : numB n (k + 1) = numB n k ++ [n / 256 ^ k % 256] := by simp [numB, List.range_succ]
theorem numB_all (n k : Nat) : AllB (numB n k) := by
  intro x hx
  simp only [numB, List.mem_map] at hx
  obtain ⟨i, _, rfl⟩ := hx
  exact Nat.mod_lt _ (by decide)
/-- Record s's sector, but for the record's bytes, of which there are n. -/
def frameB (s n : Nat) : List Nat := (splice (splice (zerosB.set 0 108) 1 (numB s 4)) 5 (numB n 2)).set 511 165
def filledB (s : Nat) (b : List Nat) : List Nat := splice (frameB s b.length) 7 b
theorem zerosB_length : zerosB.length = 512 := List.length_replicate
theorem zerosB_all : AllB zerosB := by
  intro x hx
  have := List.eq_of_mem_replicate hx
  omega
theorem AllB.set' {l : List Nat} (h : AllB l) (i y : Nat) (hy : y < 256) : AllB (l.set i y) := by
  intro x hx
  rcases List.mem_or_eq_of_mem_set hx with q | q
  · exact h x q
  · omega
theorem frameB_length (s n : Nat) : (frameB s n).length = 512 := by
  unfold frameB
  rw [List.length_set, length_splice _ _ _ (by rw [length_splice _ _ _ (by simp [numB_length, zerosB_length])]; simp [numB_length, zerosB_length]), length_splice _ _ _ (by simp [numB_length, zerosB_length]), List.length_set, zerosB_length]
theorem frameB_all (s n : Nat) : AllB (frameB s n) := by
  unfold frameB
  refine AllB.set' (AllB.splice (AllB.splice (AllB.set' zerosB_all _ _ (by decide)) (numB_all _ _) _) (numB_all _ _) _) _ _ (by decide)
theorem filledB_length {s : Nat} {b : List Nat} (h : b.length ≤ 505) : (filledB s b).length = 512 := by
  unfold filledB
  rw [length_splice _ _ _ (by rw [frameB_length]; omega), frameB_length]
theorem filledB_all {s : Nat} {b : List Nat} (h : AllB b) : AllB (filledB s b) := (frameB_all _ _).splice h _

/-- How many bytes the record would have whose sector this is. -/
def szB (x : List Nat) : Nat := x.getD 5 0 + 256 * x.getD 6 0
def itsB (n i : Nat) : Bool := decide (7 ≤ i) && decide (i < 7 + n)
/-- Is the sector record s's? -/
def isRec (s : Nat) (x : List Nat) : Bool :=
  decide (1 ≤ szB x) && decide (szB x ≤ 502) && (List.range 512).all fun i => itsB (szB x) i || x.getD i 0 == (frameB s (szB x)).getD i 0
def bytesAt (x : List Nat) : List Nat := (x.drop 7).take (szB x)
def wl (s : Nat) (r : RecM) : RecM := { r with lsn := (s : Int) }
def apE (s : Nat) (b : List Nat) : Nat := if (decM b).2 ≠ 0 then (decM b).2 else chkE (wl s (decM b).1)
def apR (s : Nat) (b : List Nat) : RecM := if apE s b = 0 then wl s (decM b).1 else zeroR

/-- The records that are there, from record s on in k sectors; and the one that has no sense (0: none). -/
def findM (f : Nat → List Nat) : Nat → Nat → List (List Nat) × Nat
  | 0, _ => ([], 0)
  | k + 1, s => if isRec s (f s) = true then (if apE s (bytesAt (f s)) = 0 then (bytesAt (f s) :: (findM f k (s + 1)).1, (findM f k (s + 1)).2) else ([], s)) else ([], 0)

/-- What is wiped: the device, whether any was, the error. -/
def wipeM (first : Nat) : Nat → Nat → Dev → Bool → Dev × Bool × Nat
  | 0, _, g, q => (g, q, 0)
  | k + 1, s, g, q =>
    if g.content (first + s - 1) = zerosB then wipeM first k (s + 1) g q
    else if g.writeE ((first + s - 1 : Nat) : Int) 512 ≠ 0 then (g.write ((first + s - 1 : Nat) : Int) zerosB, true, g.writeE ((first + s - 1 : Nat) : Int) 512)
    else wipeM first k (s + 1) (g.write ((first + s - 1 : Nat) : Int) zerosB) true

def settleE (g : Dev) : Nat := if g.down = true then 40 else if g.pend = [] then 0 else g.syncE
def settleD (g : Dev) : Dev := if g.down = true then g else if g.pend = [] then g else g.sync
def fnd (g : Dev) (first count : Nat) : List (List Nat) × Nat := findM (fun s => g.content (first + s - 1)) count 1
def wiped (g : Dev) (first count n : Nat) : Dev × Bool × Nat := wipeM first (count - n) (n + 1) g false
def wipeE (g : Dev) (first count n : Nat) : Nat := if (wiped g first count n).2.2 ≠ 0 then (wiped g first count n).2.2 else if (wiped g first count n).2.1 = true then (wiped g first count n).1.syncE else 0
def wipeD (g : Dev) (first count n : Nat) : Dev := if (wiped g first count n).2.2 ≠ 0 then (wiped g first count n).1 else if (wiped g first count n).2.1 = true then (wiped g first count n).1.sync else (wiped g first count n).1
def placeOk (g : Dev) (first count : Int) : Prop := 0 ≤ first ∧ 1 ≤ count ∧ count ≤ (g.n : Int) - first
/-- Open's error, its place, the device behind it, the records. -/
def openE (g : Dev) (f c : Nat) : Nat := if settleE g ≠ 0 then settleE g else if (fnd (settleD g) f c).2 ≠ 0 then 60 else wipeE (settleD g) f c (fnd (settleD g) f c).1.length
def openAt (g : Dev) (f c : Nat) : Nat := if settleE g ≠ 0 then 0 else (fnd (settleD g) f c).2
def openD (g : Dev) (f c : Nat) : Dev := if settleE g ≠ 0 then settleD g else if (fnd (settleD g) f c).2 ≠ 0 then settleD g else wipeD (settleD g) f c (fnd (settleD g) f c).1.length
def openR (g : Dev) (f c : Nat) : List (List Nat) := (fnd (settleD g) f c).1

structure LogM where
  first : Nat
  count : Nat
  recs : List (List Nat)
  forced : Nat
  ended : Bool
/-- Writing the records s .. s + k - 1. -/
def putM (first : Nat) (rs : List (List Nat)) : Nat → Nat → Dev → Dev × Nat
  | 0, _, g => (g, 0)
  | k + 1, s, g =>
    if g.writeE ((first + s - 1 : Nat) : Int) 512 ≠ 0 then (g.write ((first + s - 1 : Nat) : Int) (filledB s (rs.getD (s - 1) [])), g.writeE ((first + s - 1 : Nat) : Int) 512)
    else putM first rs k (s + 1) (g.write ((first + s - 1 : Nat) : Int) (filledB s (rs.getD (s - 1) [])))
def wrM (m : LogM) (n : Nat) (g : Dev) : Dev × Nat := putM m.first m.recs (n - m.forced) (m.forced + 1) g
def wrE (m : LogM) (n : Nat) (g : Dev) : Nat := if (wrM m n g).2 ≠ 0 then (wrM m n g).2 else (wrM m n g).1.syncE
def wrD (m : LogM) (n : Nat) (g : Dev) : Dev := if (wrM m n g).2 ≠ 0 then (wrM m n g).1 else (wrM m n g).1.sync
end Go.Proofs.YtgpmghdoofcpaaaGreat.Lg

namespace Go.Proofs.YtgpmghdoofcpaaaGreat.Lg
open Go.RowKit Go.QK
open Dv (hide bnext alloc_below load_arr store_arr slice_arr wp_load_arr wp_store_arr neq_arr)

/-- How a call ends that may give up: by a panic of the package's own. -/
def stopV (at_ e : Nat) : Value := .iface 146 (.agg #[.int .i64 (at_ : Int), .int .i64 (e : Int)])
def pan (at_ e : Nat) : List PanicEntry := [{ v := stopV at_ e, recovered := false }]

set_option maxRecDepth 100000 in
theorem giveUp_any (at_ e : Nat) (w : World) : Calls Tryz.prog 61 #[.int .i64 (at_ : Int), .int .i64 (e : Int)] w fun x w' => x = .panicked (pan at_ e) ∧ w' = w := by
  go_enter Tryz.func61, Tryz.ntmps61
  go_wp2_with fail
  exact ⟨rfl, rfl, rfl⟩
set_option maxRecDepth 100000 in
theorem must_no (e : Nat) (h : e ≠ 0) (w : World) : Calls Tryz.prog 84 #[.int .i64 (e : Int)] w fun x w' => x = .panicked (pan 0 e) ∧ w' = w := by
  have G := hide (giveUp_any 0 e w)
  have h' : ((e : Int) == 0) = false := by simpa using h
  have h2 : ((e : Int) != 0) = true := by simpa using h
  clear h
  go_enter Tryz.func84, Tryz.ntmps84
  go_wp2_with fail
  refine G.out.mono ?_
  rintro x w1 ⟨rfl, rfl⟩
  exact ⟨rfl, rfl, rfl⟩
set_option maxRecDepth 100000 in
theorem must_ok (w : World) : Calls Tryz.prog 84 #[.int .i64 0] w fun x w' => x = .returned (.tuple #[]) ∧ w' = w := by
  go_enter Tryz.func84, Tryz.ntmps84
  go_wp2_with fail
  go_end0
  exact ⟨rfl, rfl⟩
/-- An error: a Fault of this call at this place with the number e. -/
def ErrAt (w : World) (v : Value) (call : ByteArray) (at_ : Int) (e : Int) : Prop := ∃ b, v = .iface 139 (.pointer (some ⟨b, 0, none⟩)) ∧ Cells w b [.string call, .int .i64 at_, .iface 47 (.int .i64 e)]
set_option maxRecDepth 100000 in
theorem fault_any (call : ByteArray) (at_ e : Int) (w : World) : Calls Tryz.prog 55 #[.string call, .int .i64 at_, .int .i64 e] w fun x w' => ∃ v, x = .returned v ∧ ErrAt w' v call at_ e ∧ Below w.heap.size w w' := by
  go_enter Tryz.func55, Tryz.ntmps55
  go_wp2_with fail
  go_ret
  exact ⟨_, rfl, ⟨_, rfl, Cells.new w #[.string call, .int .i64 at_, .iface 47 (.int .i64 e)] 141⟩, alloc_below _ _⟩
theorem assert_stop (a b : Value) (w : World) : (Instr.typeAssert (.iface 146 (.agg #[a, b])) 20 146 true).run Tryz.prog w = .ok (.tuple #[.agg #[a, b], .bool true]) w := by
  unfold Instr.typeAssert
  simp [run_underlying Tryz.underlying146]
set_option maxRecDepth 100000 in
theorem asFault_any (call : ByteArray) (at_ e : Nat) (w : World) : Calls Tryz.prog 57 #[.string call, stopV at_ e] w fun x w' => ∃ v, x = .returned v ∧ ErrAt w' v call at_ e ∧ Below w.heap.size w w' := by
  have A := fun (a b : Value) (w : World) => assert_stop a b w
  have C0 := Cells.new w #[.int .i64 (at_ : Int), .int .i64 (e : Int)] 146
  have B0 := alloc_below w (.cells #[.int .i64 (at_ : Int), .int .i64 (e : Int)] 146)
  have F := fun w => fault_any call at_ e w
  unfold stopV
  go_enter Tryz.func57, Tryz.ntmps57
  go_wp2_with fail
  refine (F _).mono ?_
  rintro x w1 ⟨v, rfl, h1, h2⟩
  go_wp2_with fail
  go_ret
  exact ⟨_, rfl, h1, bnext B0 h2 (Nat.le_refl _)⟩
end Go.Proofs.YtgpmghdoofcpaaaGreat.Lg

namespace Go.Proofs.YtgpmghdoofcpaaaGreat.Lg
open Go.RowKit Go.QK
open Dv (hide bnext alloc_below load_arr store_arr slice_arr wp_load_arr wp_store_arr neq_arr)

theorem splice_snoc (L : List Nat) (off : Nat) (c : List Nat) (y : Nat) (h : off + c.length < L.length) : (splice L off c).set (off + c.length) y = splice L off (c ++ [y]) := by
  have ht : (L.take off).length = off := by simp; omega
  unfold splice
  rw [List.set_append_right _ _ (by omega), ht, Nat.add_sub_cancel_left, List.set_append_right _ _ (Nat.le_refl _), Nat.sub_self, List.append_assoc]
  congr 2
  have hd : L.drop (off + c.length) = L[off + c.length] :: L.drop (off + c.length + 1) := List.drop_eq_getElem_cons h
  rw [hd, List.set_cons_zero, List.length_append, ← Nat.add_assoc]
  rfl
theorem splice_nil (L : List Nat) (off : Nat) : splice L off [] = L := by simp [splice]
theorem div256 (n j : Nat) : ((n : Int) / 2 ^ (8 * j) % 256) = ((n / 256 ^ j % 256 : Nat) : Int) := by
  have e : (256 : Nat) ^ j = 2 ^ (8 * j) := by rw [Nat.pow_mul]
  rw [e, Int.natCast_emod, Int.natCast_ediv, Int.natCast_pow]
  rfl

set_option maxRecDepth 100000 in
set_option maxHeartbeats 1000000 in
theorem lay_any (g off k c n : Nat) (L : List Nat) (w : World) (hA : Arr w 150 g L) (hL : L.length = 512) (hk : off + k ≤ 512) (hk7 : k ≤ 7) (_hn : n ≤ 1000000) :
    Calls Tryz.prog 109 #[.slice (some ⟨g, off, none⟩) k c, .int .i64 (n : Int)] w fun e w' => e = .returned (.tuple #[]) ∧ Arr w' 150 g (splice L off (numB n k)) ∧ Keep (fun b => b = g) w w' := by
  have HL := hide hL
  clear hL
  go_enter Tryz.func109, Tryz.ntmps109
  go_wp2_with fail
  go_loopw [7] (fun i wr => ∃ j : Nat, i = .int .i64 (j : Int) ∧ j ≤ k ∧ Arr wr 150 g (splice L off (numB n j)) ∧ Keep (fun b => b = g) w wr) (fun i _ => (k + 1 - (intOf i).toNat))
  case atStart => exact ⟨0, rfl, Nat.zero_le _, by rw [show numB n 0 = [] from rfl, splice_nil]; exact hA, Keep.refl _ _⟩
  case round =>
    obtain ⟨j, rfl, hjk, hA', hK⟩ := hrel
    have HA := hide hA'
    have HK := hide hK
    clear hA hA' hK
    by_cases hlt : j < k
    · have hd : decide ((j : Int) < (k : Int)) = true := by simp; omega
      have hlen : (splice L off (numB n j)).length = 512 := by rw [length_splice _ _ _ (by rw [numB_length, HL.out]; omega), HL.out]
      have hfz := HA.out.frozen (off + j)
      have hcl := HA.out.cell (off + j) (by omega)
      go_wp2_with fail
      go_roundw
      case rel =>
        refine ⟨j + 1, by go_num, hlt, ?_, HK.out.setCell (fun _ => rfl) _⟩
        rw [div256, numB_succ, ← splice_snoc _ _ _ _ (by rw [numB_length, HL.out]; omega), numB_length]
        exact HA.out.set (off + j) _
      case measure => simp [intOf]; omega
    · have hd : decide ((j : Int) < (k : Int)) = false := by simp; omega
      obtain rfl : j = k := by omega
      go_wp2_with fail
      go_end0
      exact ⟨rfl, HA.out, HK.out⟩

set_option maxRecDepth 100000 in
set_option maxHeartbeats 1000000 in
theorem frame_any (s n : Nat) (w : World) (hs : s ≤ 1000000) (hn : n ≤ 1000000) :
    Calls Tryz.prog 87 #[.int .i64 (s : Int), .int .i64 (n : Int)] w fun e w' => e = .returned (.agg (bytesV (frameB s n))) ∧ Below w.heap.size w w' := by
  have Z := Dv.zero_run
  have hz0 : (bytesV zerosB)[0]? = some (.int .u8 0) := by kernel_rfl
  obtain ⟨w3, hw3⟩ : ∃ w3, w3 = ((w.alloc (.cells (bytesV zerosB) 150)).alloc (.cells ((bytesV zerosB).setIfInBounds 0 (.int .u8 108)) 150)) := ⟨_, rfl⟩
  have z3 : w3.heap.size = w.heap.size + 2 := by rw [hw3]; simp
  have b3 : Below w.heap.size w w3 := by rw [hw3]; exact ((Below.refl _ w).alloc (Nat.le_refl _) _).alloc (by simp) _
  have a3 : Arr w3 150 w.heap.size zerosB := by
    rw [hw3]; exact (Arr.new w 150 zerosB).below (alloc_below _ _)
  have d3 : Arr w3 150 (w.heap.size + 1) (zerosB.set 0 108) := by
    have e : bytesV (zerosB.set 0 108) = (bytesV zerosB).setIfInBounds 0 (.int .u8 108) := by
      simp [bytesV, ints_set', List.map_set]
    have := Arr.new (w.alloc (.cells (bytesV zerosB) 150)) 150 (zerosB.set 0 108)
    rw [e, World.size_alloc] at this
    rw [hw3]; exact this
  have HW3 := hide hw3
  clear hw3
  have L0 : (zerosB.set 0 108).length = 512 := by rw [List.length_set, zerosB_length]
  have K1 := hide (lay_any (w.heap.size + 1) 1 4 511 s (zerosB.set 0 108) w3 d3 L0 (by omega) (by omega) hs)
  have A3 := hide a3
  clear a3 d3
  go_enter Tryz.func87, Tryz.ntmps87
  go_wp2_with fail
  rw [← HW3.out]
  refine K1.out.mono ?_
  rintro e w4 ⟨rfl, d4, k4⟩
  have a4 := hide (A3.out.keep k4 (by omega))
  have b4 : Below w.heap.size w w4 := b3.trans (k4.below (by omega) (fun k hk => by omega))
  have z4 := k4.size
  rw [z3] at z4
  have l4 : (splice (zerosB.set 0 108) 1 (numB s 4)).length = 512 := by rw [length_splice _ _ _ (by rw [numB_length, L0]; omega)]; exact L0
  have K2 := hide (lay_any (w.heap.size + 1) 5 2 507 n _ w4 d4 l4 (by omega) (by omega) hn)
  clear K1 d4 k4 A3 HW3 b3 z3
  go_wp2_with fail
  refine K2.out.mono ?_
  rintro e w5 ⟨rfl, d5, k5⟩
  have a5 := a4.out.keep k5 (by omega)
  have b5 : Below w.heap.size w w5 := b4.trans (k5.below (by omega) (fun k hk => by omega))
  have z5 := Nat.le_trans z4 k5.size
  have l5 : (splice (splice (zerosB.set 0 108) 1 (numB s 4)) 5 (numB n 2)).length = 512 := by rw [length_splice _ _ _ (by rw [numB_length, l4]; omega)]; exact l4
  have y2 := d5.cell 511 (by omega)
  have y3 := d5.frozen 511
  have D9 : Arr (w5.setCell ⟨w.heap.size + 1, 511, none⟩ (.int .u8 165)) 150 (w.heap.size + 1) _ := d5.set 511 165
  have efr : (splice (splice (zerosB.set 0 108) 1 (numB s 4)) 5 (numB n 2)).set 511 165 = frameB s n := rfl
  rw [efr] at D9
  generalize (((splice (splice (zerosB.set 0 108) 1 (numB s 4)) 5 (numB n 2)).getD 511 0 : Nat) : Int) = old at y2
  have A9 := a5.keep (Keep.setCell (Keep.refl (fun k => k = w.heap.size + 1) w5) (g := w.heap.size + 1) (j := 511) (fun _ => rfl) (.int .u8 165)) (by omega)
  have B9 : Below w.heap.size w (w5.setCell ⟨w.heap.size + 1, 511, none⟩ (.int .u8 165)) := b5.trans (((Keep.refl (fun k => k = w.heap.size + 1) w5).setCell (g := w.heap.size + 1) (j := 511) (fun _ => rfl) (.int .u8 165)).below (by omega) (fun k hk => by omega))
  have HD := hide D9
  have HB := hide B9
  obtain ⟨w9, X9, h9, k9⟩ := Dv.cells_arr (M := frameB s n) A9 zerosB_length (frameB_length s n)
  clear K2 d5 k5 a4 b4 z4 l4 l5 L0 D9 A9 B9 a5 efr
  go_wp2_with fail
  refine wp_load_arr (.tmp 5) (by rfl) (w.heap.size + 1) (by rfl) (frameB s n) HD.out (frameB_length s n) ?_
  have L9 := load_arr h9 (frameB_length s n)
  have B9 := hide (HB.out.trans (k9.below (by simp; omega) (fun k hk => by omega)))
  clear HB HD k9 h9
  go_wp2_with fail
  refine bodyPost_ret (v := .agg (bytesV (frameB s n))) ?_ rfl ⟨rfl, B9.out⟩
  simp only [Instr.loadAt, Instr.sureAddr, Sem.run_bind, Sem.run_pure, Result.andThen] at L9
  simp [results, Tryz.results87, asAddr, L9]
theorem wraps_i64 (n : Int) (h₀ : 0 ≤ n) (h₁ : n < 2 ^ 63) : IntKind.i64.wrap n = n := by rw [IntKind.wrap_i64]; omega
theorem or_join8 (x y : Nat) (hx : x < 256) (hy : y < 256) : bits BinOp.or IntKind.i64 (x : Int) ((y : Int) * 256) = ((x + 256 * y : Nat) : Int) := by
  have e := bits_or_nat .i64 63 (by decide) wraps_i64 x (y * 256) (by omega) (by omega)
  rw [show ((y : Int) * 256) = ((y * 256 : Nat) : Int) by omega, e]
  congr 1
  rw [Nat.or_comm, Nat.mul_comm, show (256 : Nat) = 2 ^ 8 from rfl, ← Nat.two_pow_add_eq_or_of_lt (show x < 2 ^ 8 from hx), Nat.add_comm]
set_option maxRecDepth 100000 in
set_option maxHeartbeats 1000000 in
theorem size_any (g : Nat) (L : List Nat) (w : World) (hA : Arr w 150 g L) (hL : L.length = 512) (hb : AllB L) :
    Calls Tryz.prog 86 #[.pointer (some ⟨g, 0, none⟩)] w fun e w' => e = .returned (.int .i64 ((szB L : Nat) : Int)) ∧ Below w.heap.size w w' := by
  have c5 := hA.cell 5 (by omega)
  have c6 := hA.cell 6 (by omega)
  have h5 : L.getD 5 0 < 256 := hb _ (by rw [List.getD_eq_getElem?_getD, List.getElem?_eq_getElem (by omega)]; exact List.getElem_mem _)
  have h6 : L.getD 6 0 < 256 := hb _ (by rw [List.getD_eq_getElem?_getD, List.getElem?_eq_getElem (by omega)]; exact List.getElem_mem _)
  unfold szB
  generalize L.getD 5 0 = x at *
  generalize L.getD 6 0 = y at *
  clear hA hL hb
  go_enter Tryz.func86, Tryz.ntmps86
  go_wp2_with fail
  go_quiet (fail)
  have e : bits BinOp.or IntKind.i64 (x : Int) ((y : Int) * 256) = ((x + 256 * y : Nat) : Int) := or_join8 x y h5 h6
  rw [e]
  clear e
  go_wp2_with fail
  go_ret
  exact ⟨rfl, below_drewN (Below.refl _ _) _⟩
end Go.Proofs.YtgpmghdoofcpaaaGreat.Lg
