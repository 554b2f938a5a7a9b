import Derived.Test.YtakjpljpdlhicaaDoorKit
import Derived.Test.YtakjpljpdlhicaaDoorCrc
import Derived.Test.YtakjpljpdlhicaaDoorForms
import Derived.Laws.Bits64b
import Derived.Laws.BitsLemmas
import Derived.Laws.BytesString
namespace Go.QK
open Go.RowKit

/-! What a call may have touched: the blocks of S, and new ones. -/

structure Keep (S : Nat → Prop) (w w' : World) : Prop where
  os : w'.os = w.os
  tape : w'.tape = w.tape
  output : w'.output = w.output
  size : w.heap.size ≤ w'.heap.size
  block : ∀ k, k < w.heap.size → ¬ S k → w'.heap[k]? = w.heap[k]?

section
variable {S T : Nat → Prop} {w w0 w1 w' : World}

theorem Keep.refl (S : Nat → Prop) (w : World) : Keep S w w := ⟨rfl, rfl, rfl, Nat.le_refl _, fun _ _ _ => rfl⟩
theorem Keep.mono (h : Keep S w w') (q : ∀ k, k < w.heap.size → S k → T k) : Keep T w w' := ⟨h.os, h.tape, h.output, h.size, fun k hk hn => h.block k hk (fun s => hn (q k hk s))⟩
theorem Keep.of_below (h : Below w.heap.size w w') : Keep S w w' := ⟨h.os, h.tape, h.output, h.size, fun k hk _ => h.block k hk⟩
theorem Keep.below {B : Nat} (h : Keep S w w') (hB : B ≤ w.heap.size) (q : ∀ k, k < B → ¬ S k) : Below B w w' := ⟨h.os, h.tape, h.output, h.size, fun k hk => h.block k (Nat.lt_of_lt_of_le hk hB) (q k hk)⟩
theorem Keep.trans (h : Keep S w0 w) (k : Keep T w w') (q : ∀ j, j < w0.heap.size → T j → S j) : Keep S w0 w' :=
  ⟨k.os.trans h.os, k.tape.trans h.tape, k.output.trans h.output, Nat.le_trans h.size k.size, fun j hj hn => (k.block j (Nat.lt_of_lt_of_le hj h.size) (fun s => hn (q j hj s))).trans (h.block j hj hn)⟩
theorem Keep.then_below (h : Keep S w0 w) (k : Below w.heap.size w w') : Keep S w0 w' := h.trans (Keep.of_below (S := fun _ => False) k) (fun _ _ f => f.elim)
theorem Keep.drew (h : Keep S w0 w) : Keep S w0 w.drew := ⟨h.os, h.tape, h.output, h.size, h.block⟩
theorem Keep.undrew (h : Keep S w0.drew w) : Keep S w0 w := ⟨h.os, h.tape, h.output, h.size, h.block⟩
theorem Keep.alloc (h : Keep S w0 w) (o : Obj) : Keep S w0 (w.alloc o) := h.then_below ((Below.refl _ _).alloc (Nat.le_refl _) _)
theorem Keep.setCell (h : Keep S w0 w) {g j : Nat} (hs : g < w0.heap.size → S g) (u : Value) : Keep S w0 (w.setCell ⟨g, j, none⟩ u) :=
  ⟨h.os, h.tape, h.output, by simpa using h.size, fun k hk hn => (Below.heap_setCell w ⟨g, j, none⟩ u k (by intro e; subst e; exact hn (hs hk))).trans (h.block k hk hn)⟩
theorem Keep.grown {row : Option Nat} (h : Keep S w0 w) (hg : w.grownBy w' row) (hs : ∀ g, row = some g → g < w0.heap.size → S g) : Keep S w0 w' := by
  have e : Below 0 w w' := (Below.refl 0 w).grown hg (Nat.zero_le _) (fun _ _ => Nat.zero_le _)
  refine ⟨e.os.trans h.os, e.tape.trans h.tape, e.output.trans h.output, Nat.le_trans h.size e.size, fun k hk hn => ?_⟩
  refine Eq.trans ?_ (h.block k hk hn)
  have q : World.grownBy w w' row := hg
  exact q.block k (Nat.lt_of_lt_of_le hk h.size) (fun r => hn (hs k r.symm hk))
theorem Keep.cell (h : Keep S w w') {p : Addr} (hp : p.block < w.heap.size) (hn : ¬ S p.block) : w'.cell? p = w.cell? p := World.cell?_of_block (w := w) (h.block p.block hp hn)
theorem Keep.frozen (h : Keep S w w') {p : Addr} (hp : p.block < w.heap.size) (hn : ¬ S p.block) : w'.frozen? p = w.frozen? p := World.frozen?_of_block (w := w) (h.block p.block hp hn)

theorem Seen.keep {k : IntKind} {a : Option Addr} {xs : List Int} (h : Seen k w a xs) (hb : Keep S w w') (hn : ∀ ad, a = some ad → ¬ S ad.block) : Seen k w' a xs := by
  rcases h with h | ⟨b, off, ha, hlt, hc⟩
  · exact .inl h
  · exact .inr ⟨b, off, ha, Nat.lt_of_lt_of_le hlt hb.size, fun i hi => (hb.cell (p := ⟨b, off + i, none⟩) hlt (by have := hn _ ha; exact this)).trans (hc i hi)⟩
theorem Owns.keep {k : IntKind} {e : TypeId} {B : Nat} {v : Value} {xs : List Int} (h : Owns k e w B v xs) (hb : Keep S w w') (hn : ∀ g, v.ownBlock = some g → ¬ S g) : Owns k e w' B v xs := by
  refine ⟨h.1, ?_⟩
  rcases h.2 with q | ⟨g, cap, cur, q, hbg, hg, rest⟩
  · exact .inl q
  · have hlt := (World.ownsRow.lt h g (by rw [q]; rfl)).2
    exact .inr ⟨g, cap, cur, q, hbg, (hb.block g hlt (hn g (by rw [q]; rfl))).trans hg, rest⟩
theorem Cells.keep {b : Nat} {cs : List Value} (h : Cells w b cs) (hb : Keep S w w') (hn : ¬ S b) : Cells w' b cs :=
  ⟨Nat.lt_of_lt_of_le h.1 hb.size, fun j hj => ⟨(hb.cell (p := ⟨b, j, none⟩) h.1 hn).trans (h.2 j hj).1, (hb.frozen (p := ⟨b, j, none⟩) h.1 hn).trans (h.2 j hj).2⟩⟩
end

/-! Bytes. -/

def ints (l : List Nat) : List Int := l.map (fun n : Nat => (n : Int))
@[simp] theorem ints_length (l : List Nat) : (ints l).length = l.length := by simp [ints]
@[simp] theorem ints_nil : ints [] = [] := rfl
theorem ints_append (l m : List Nat) : ints (l ++ m) = ints l ++ ints m := by simp [ints]
theorem ints_take (l : List Nat) (n : Nat) : ints (l.take n) = (ints l).take n := by simp [ints]
theorem ints_drop (l : List Nat) (n : Nat) : ints (l.drop n) = (ints l).drop n := by simp [ints]
theorem ints_getD (l : List Nat) (i : Nat) (h : i < (ints l).length) : (ints l)[i] = ((l.getD i 0 : Nat) : Int) := by
  have h' : i < l.length := by simpa using h
  simp [ints, h']
/-- All of them are bytes. -/
def AllB (l : List Nat) : Prop := ∀ x ∈ l, x < 256
theorem AllB.nil : AllB [] := nofun
theorem AllB.append {l m : List Nat} (h : AllB l) (k : AllB m) : AllB (l ++ m) := fun x hx => (List.mem_append.1 hx).elim (h x) (k x)
theorem AllB.take {l : List Nat} (h : AllB l) (n : Nat) : AllB (l.take n) := fun x hx => h x (List.mem_of_mem_take hx)
theorem AllB.drop {l : List Nat} (h : AllB l) (n : Nat) : AllB (l.drop n) := fun x hx => h x (List.mem_of_mem_drop hx)
theorem AllB.get {l : List Nat} (h : AllB l) (i : Nat) : l.getD i 0 < 256 := by
  by_cases q : i < l.length
  · have := h l[i] (List.getElem_mem q)
    simpa [q] using this
  · simp [List.getElem?_eq_none (Nat.le_of_not_lt q)]
theorem AllB.form (n : Nat) : AllB (form n) := (form_ok n).bytes

/-- The bytes that a slice leads to. -/
abbrev Bytes (w : World) (a : Option Addr) (l : List Nat) : Prop := Seen .u8 w a (ints l)
/-- Bytes of the program's own. -/
abbrev OwnB (w : World) (B : Nat) (v : Value) (l : List Nat) : Prop := Owns .u8 5 w B v (ints l)
theorem Bytes.at {w : World} {a : Option Addr} {l : List Nat} (h : Bytes w a l) {i : Nat} (hi : i < l.length) : ∃ b off, a = some ⟨b, off, none⟩ ∧ b < w.heap.size ∧ w.cell? ⟨b, off + i, none⟩ = some (.int .u8 ((l.getD i 0 : Nat) : Int)) := by
  obtain ⟨b, off, h1, h2, h3⟩ := Seen.at h (i := i) (by simpa using hi)
  rw [ints_getD] at h3
  exact ⟨b, off, h1, h2, h3⟩
theorem Bytes.take {w : World} {a : Option Addr} {l : List Nat} (h : Bytes w a l) (n : Nat) : Bytes w a (l.take n) := by
  have := Seen.take h n
  rwa [← ints_take] at this
theorem Bytes.drop {w : World} {a : Option Addr} {l : List Nat} {cap : Nat} (h : Bytes w a l) (n : Nat) (hc : l.length ≤ cap) : Bytes w (dropA a cap n) (l.drop n) := by
  have := Seen.drop h n (by simpa using hc)
  rwa [← ints_drop] at this

/-! The machine's operations on bits, in plain numbers. -/

theorem bits_and_nat (k : IntKind) (j : Nat) (hj : j ≤ k.bits) (hk : ∀ n : Int, 0 ≤ n → n < 2 ^ j → k.wrap n = n) (a b : Nat) (ha : a < 2 ^ j) (hb : b < 2 ^ j) :
    bits .and k a b = ((a &&& b : Nat) : Int) := (bits_nat k j hj hk a b ha hb).1
theorem bits_or_nat (k : IntKind) (j : Nat) (hj : j ≤ k.bits) (hk : ∀ n : Int, 0 ≤ n → n < 2 ^ j → k.wrap n = n) (a b : Nat) (ha : a < 2 ^ j) (hb : b < 2 ^ j) :
    bits .or k a b = ((a ||| b : Nat) : Int) := (bits_nat k j hj hk a b ha hb).2
theorem bits_xor_nat (k : IntKind) (j : Nat) (hj : j ≤ k.bits) (hk : ∀ n : Int, 0 ≤ n → n < 2 ^ j → k.wrap n = n) (a b : Nat) (ha : a < 2 ^ j) (hb : b < 2 ^ j) :
    bits .xor k a b = ((a ^^^ b : Nat) : Int) := by
  have hp : 2 ^ j ≤ 2 ^ k.bits := Nat.pow_le_pow_right (by decide) hj
  have ha' : a % 2 ^ k.bits = a := Nat.mod_eq_of_lt (Nat.lt_of_lt_of_le ha hp)
  have hb' : b % 2 ^ k.bits = b := Nat.mod_eq_of_lt (Nat.lt_of_lt_of_le hb hp)
  simp only [bits, BitVec.ofInt_natCast, BitVec.toNat_xor, BitVec.toNat_ofNat, ha', hb']
  have h := Nat.xor_lt_two_pow ha hb
  exact hk _ (Int.natCast_nonneg _) (by exact_mod_cast h)
theorem wraps_u32 (n : Int) (h₀ : 0 ≤ n) (h₁ : n < 2 ^ 32) : IntKind.u32.wrap n = n := by rw [IntKind.wrap_u32]; omega
theorem wraps_u64 (n : Int) (h₀ : 0 ≤ n) (h₁ : n < 2 ^ 64) : IntKind.u64.wrap n = n := by rw [IntKind.wrap_u64]; omega
theorem xor_u32 (a b : Nat) (ha : a < 4294967296) (hb : b < 4294967296) : bits .xor .u32 a b = ((a ^^^ b : Nat) : Int) := bits_xor_nat .u32 32 (by decide) wraps_u32 a b ha hb
theorem xor_u8 (a b : Nat) (ha : a < 256) (hb : b < 256) : bits .xor .u8 a b = ((a ^^^ b : Nat) : Int) := bits_xor_nat .u8 8 (by decide) wraps_u8 a b ha hb
theorem and15_u32 (a : Nat) (ha : a < 4294967296) : bits .and .u32 a 15 = ((a % 16 : Nat) : Int) := by
  have := bits_and_nat .u32 32 (by decide) wraps_u32 a 15 ha (by decide)
  rw [show a &&& 15 = a % 16 from Nat.and_two_pow_sub_one_eq_mod a 4] at this
  exact this
theorem and1_u32 (a : Nat) (ha : a < 4294967296) : bits .and .u32 a 1 = ((a % 2 : Nat) : Int) := by
  have := bits_and_nat .u32 32 (by decide) wraps_u32 a 1 ha (by decide)
  rw [show a &&& 1 = a % 2 from Nat.and_two_pow_sub_one_eq_mod a 1] at this
  exact this
theorem and1_u64 (a : Nat) (ha : a < 18446744073709551616) : bits .and .u64 a 1 = ((a % 2 : Nat) : Int) := by
  have := bits_and_nat .u64 64 (by decide) wraps_u64 a 1 ha (by decide)
  rw [show a &&& 1 = a % 2 from Nat.and_two_pow_sub_one_eq_mod a 1] at this
  exact this
/-- 'byte(n) | 128'. -/
theorem or128_u8 (n : Nat) : bits .or .u8 ((n % 256 : Nat) : Int) 128 = ((n % 128 + 128 : Nat) : Int) := by
  have := bits_or_nat .u8 8 (by decide) wraps_u8 (n % 256) 128 (Nat.mod_lt _ (by decide)) (by decide)
  have e : n % 256 ||| 128 = n % 128 + 128 := by
    have h : ∀ b : Fin 256, b.1 ||| 128 = b.1 % 128 + 128 := by decide +kernel
    rw [h ⟨n % 256, Nat.mod_lt _ (by decide)⟩]
    show n % 256 % 128 + 128 = _
    omega
  rw [e] at this
  exact this
/-- 'b &^ 128'. -/
theorem andNot128_u8 (b : Nat) (h : b < 256) : bits .andNot .u8 (b : Int) 128 = ((b % 128 : Nat) : Int) := by
  have hh : ∀ b : Fin 256, bits .andNot .u8 ((b.1 : Nat) : Int) 128 = ((b.1 % 128 : Nat) : Int) := by decide +kernel
  exact hh ⟨b, h⟩
/-- 'n | x << k', where n is below 2^k. -/
theorem or_join_u64 (n x k : Nat) (hn : n < 2 ^ k) (h : n + 2 ^ k * x < 18446744073709551616) : bits .or .u64 (n : Int) ((2 ^ k * x : Nat) : Int) = ((n + 2 ^ k * x : Nat) : Int) := by
  rw [bits_or_u64_nat _ _ (by omega) (by omega), Nat.or_comm, ← Nat.two_pow_add_eq_or_of_lt hn, Nat.add_comm]
theorem not_u64 (n : Nat) (h : n < 18446744073709551616) : bits .xor .u64 18446744073709551615 (n : Int) = ((18446744073709551615 - n : Nat) : Int) := by
  have := bits_xor_nat .u64 64 (by decide) wraps_u64 18446744073709551615 n (by decide) h
  rw [show (18446744073709551615 : Nat) ^^^ n = 18446744073709551615 - n from ?_] at this
  · exact this
  · apply Nat.eq_of_testBit_eq
    intro i
    have e : 18446744073709551615 - n = 2 ^ 64 - (n + 1) := by omega
    rw [e, Nat.testBit_two_pow_sub_succ (by exact h), Nat.testBit_xor, show (18446744073709551615 : Nat) = 2 ^ 64 - 1 by decide, Nat.testBit_two_pow_sub_one]
    by_cases q : i < 64
    · simp [q]
    · have : n.testBit i = false := Nat.testBit_lt_two_pow (Nat.lt_of_lt_of_le (show n < 2 ^ 64 from h) (Nat.pow_le_pow_right (by decide) (by omega)))
      simp [q, this]
theorem not_u32 (n : Nat) (h : n < 4294967296) : bits .xor .u32 4294967295 (n : Int) = ((4294967295 ^^^ n : Nat) : Int) := xor_u32 4294967295 n (by decide) h
theorem not_i64 (n : Int) (h1 : -9223372036854775808 ≤ n) (h2 : n ≤ 9223372036854775807) : bits .xor .i64 (-1) n = -n - 1 := by
  show IntKind.i64.wrap ((BitVec.ofInt 64 (-1) ^^^ BitVec.ofInt 64 n).toNat : Int) = _
  rw [show BitVec.ofInt 64 (-1) = BitVec.allOnes 64 by decide, BitVec.allOnes_xor, BitVec.toNat_not, BitVec.toNat_ofInt, IntKind.wrap_i64]
  omega

/-! The table. -/
def Tab (w : World) : Prop := 2 < w.heap.size ∧ ∀ i, i < 16 → w.cell? ⟨2, i, none⟩ = some (.int .u32 ((tabAt i : Nat) : Int))
theorem Tab.keep {S : Nat → Prop} {w w' : World} (h : Tab w) (hk : Keep S w w') (hn : ¬ S 2) : Tab w' :=
  ⟨Nat.lt_of_lt_of_le h.1 hk.size, fun i hi => (hk.cell (p := ⟨2, i, none⟩) h.1 hn).trans (h.2 i hi)⟩
theorem Tab.below {w w' : World} (h : Tab w) (hk : Below w.heap.size w w') : Tab w' := h.keep (Keep.of_below (S := fun _ => False) hk) id
end Go.QK
