import Derived.Test.YtgpmghdoofcpaaaGreatKit
import Derived.Test.YtgpmghdoofcpaaaGreatCrc
import Derived.Laws.Bits64b
import Derived.Laws.BitsLemmas
import Derived.Laws.BytesString
namespace Go.QK

/-! Forms of numbers, in plain numbers. -/

/-- With so much fuel. -/
def formF : Nat → Nat → List Nat
  | 0, n => [n]
  | k + 1, n => if n < 128 then [n] else (n % 128 + 128) :: formF k (n / 128)
def form (n : Nat) : List Nat := formF n n
theorem formF_eq : (k m n : Nat) → n ≤ k → n ≤ m → formF k n = formF m n
  | 0, 0, _, _, _ => rfl
  | 0, m + 1, n, h, _ => by
    obtain rfl : n = 0 := by omega
    rw [formF, formF, if_pos (by omega)]
  | k + 1, 0, n, _, h => by
    obtain rfl : n = 0 := by omega
    rw [formF, formF, if_pos (by omega)]
  | k + 1, m + 1, n, h1, h2 => by
    rw [formF, formF]
    by_cases q : n < 128
    · rw [if_pos q, if_pos q]
    · rw [if_neg q, if_neg q, formF_eq k m (n / 128) (by omega) (by omega)]
theorem form_small {n : Nat} (h : n < 128) : form n = [n] := by
  unfold form
  cases n with
  | zero => rfl
  | succ n => rw [formF, if_pos h]
theorem form_big {n : Nat} (h : ¬ n < 128) : form n = (n % 128 + 128) :: form (n / 128) := by
  obtain ⟨k, rfl⟩ : ∃ k, n = k + 1 := ⟨n - 1, by omega⟩
  unfold form
  rw [formF, if_neg h, formF_eq k ((k + 1) / 128) _ (by omega) (Nat.le_refl _)]

def dec : List Nat → Nat
  | [] => 0
  | b :: l => b % 128 + 128 * dec l

def okForm : List Nat → Prop
  | [] => False
  | [x] => x < 128
  | x :: y :: l => 128 ≤ x ∧ x < 256 ∧ okForm (y :: l) ∧ dec (y :: l) ≠ 0

theorem okForm_cons {x : Nat} {l : List Nat} (h1 : 128 ≤ x) (h2 : x < 256) (h3 : okForm l) (h4 : dec l ≠ 0) : okForm (x :: l) := by
  cases l with
  | nil => exact absurd h3 id
  | cons y l => exact ⟨h1, h2, h3, h4⟩

theorem dec_form_to : (k n : Nat) → n ≤ k → dec (form n) = n
  | 0, n, h => by
    rw [form_small (by omega)]
    simp [dec, Nat.mod_eq_of_lt (show n < 128 by omega)]
  | k + 1, n, _ => by
    by_cases h : n < 128
    · rw [form_small h]; simp [dec, Nat.mod_eq_of_lt h]
    · rw [form_big h]
      simp only [dec]
      rw [dec_form_to k (n / 128) (by omega)]
      omega
theorem dec_form (n : Nat) : dec (form n) = n := dec_form_to n n (Nat.le_refl _)
theorem form_ok_to : (k n : Nat) → n ≤ k → okForm (form n)
  | 0, n, h => by
    rw [form_small (by omega)]
    show n < 128
    omega
  | k + 1, n, _ => by
    by_cases h : n < 128
    · rw [form_small h]; exact h
    · rw [form_big h]
      refine okForm_cons (by omega) (by omega) (form_ok_to k (n / 128) (by omega)) ?_
      rw [dec_form]
      omega
theorem form_ok (n : Nat) : okForm (form n) := form_ok_to n n (Nat.le_refl _)
theorem form_dec : (l : List Nat) → okForm l → form (dec l) = l
  | [], h => absurd h id
  | [x], h => by
    have h : x < 128 := h
    simp only [dec]
    rw [Nat.mod_eq_of_lt h]
    exact form_small h
  | x :: y :: l, h => by
    obtain ⟨h1, h2, h3, h4⟩ := h
    have q := form_dec (y :: l) h3
    rw [show dec (x :: y :: l) = x % 128 + 128 * dec (y :: l) from rfl, form_big (by omega)]
    rw [show (x % 128 + 128 * dec (y :: l)) / 128 = dec (y :: l) by omega, q]
    congr 1
    omega
theorem okForm.ne {l : List Nat} (h : okForm l) : l ≠ [] := by rintro rfl; exact h
theorem okForm.bytes : {l : List Nat} → okForm l → ∀ x ∈ l, x < 256
  | [], h => absurd h id
  | [x], h => by intro y hy; have h : x < 128 := h; simp at hy; omega
  | x :: y :: l, h => by
    intro z hz
    rcases List.mem_cons.1 hz with rfl | hz
    · exact h.2.1
    · exact okForm.bytes h.2.2.1 z hz

/-- How many bytes from 128 on it begins with. -/
def lead : List Nat → Nat
  | [] => 0
  | b :: l => if 128 ≤ b then lead l + 1 else 0
theorem lead_le : (l : List Nat) → lead l ≤ l.length
  | [] => Nat.le_refl _
  | b :: l => by
    simp only [lead, List.length_cons]
    split
    · have := lead_le l; omega
    · omega
theorem lead_before : (l : List Nat) → (i : Nat) → i < lead l → 128 ≤ l.getD i 0
  | [], i, h => by simp [lead] at h
  | b :: l, i, h => by
    simp only [lead] at h
    split at h
    · cases i with
      | zero => simpa
      | succ i => simpa using lead_before l i (by omega)
    · omega
theorem lead_at : (l : List Nat) → lead l < l.length → l.getD (lead l) 0 < 128
  | [], h => by simp [lead] at h
  | b :: l, h => by
    simp only [lead] at h ⊢
    split at h
    · rename_i q
      rw [if_pos q]
      simpa using lead_at l (by simpa using h)
    · rename_i q
      rw [if_neg q]
      simpa using q
theorem lead_eq (l : List Nat) (k : Nat) (h : ∀ i, i < k → 128 ≤ l.getD i 0) (hk : k < l.length) (hq : l.getD k 0 < 128) : lead l = k := by
  rcases Nat.lt_trichotomy (lead l) k with q | q | q
  · have a := h _ q
    have b := lead_at l (by omega)
    omega
  · exact q
  · have := lead_before l k q
    omega
theorem lead_ok : (l r : List Nat) → okForm l → lead (l ++ r) + 1 = l.length
  | [], _, h => absurd h id
  | [x], r, h => by
    have h : x < 128 := h
    simp [lead]
    exact h
  | x :: y :: l, r, h => by
    have q := lead_ok (y :: l) r h.2.2.1
    simp only [List.cons_append, List.length_cons] at q ⊢
    rw [lead, if_pos h.1]
    omega
theorem lead_cut : (l : List Nat) → okForm l → lead l.dropLast = l.length - 1
  | [], h => absurd h id
  | [x], _ => rfl
  | x :: y :: l, h => by
    have q := lead_cut (y :: l) h.2.2.1
    rw [List.dropLast_cons_cons, lead, if_pos h.1, q]
    simp

theorem dec_last : (l : List Nat) → okForm l → l.getD (l.length - 1) 0 * 128 ^ (l.length - 1) ≤ dec l ∧ (1 < l.length → l.getD (l.length - 1) 0 ≠ 0)
  | [], h => absurd h id
  | [x], h => by
    have h : x < 128 := h
    simp [dec]
    omega
  | x :: y :: l, h => by
    obtain ⟨h1, h2⟩ := dec_last (y :: l) h.2.2.1
    simp only [List.length_cons, Nat.add_sub_cancel] at h1 h2 ⊢
    rw [List.getD_cons_succ]
    refine ⟨?_, fun _ => ?_⟩
    · rw [Nat.pow_succ, show dec (x :: y :: l) = x % 128 + 128 * dec (y :: l) from rfl, ← Nat.mul_assoc]
      omega
    · cases l with
      | nil =>
        have q := h.2.2.2
        have p : y < 128 := h.2.2.1
        simp [dec] at q ⊢
        omega
      | cons z l => exact h2 (by simp)

theorem form_length {l : List Nat} (h : okForm l) (hd : dec l < 18446744073709551616) : l.length ≤ 10 ∧ (l.length = 10 → l.getD 9 0 ≤ 1) := by
  obtain ⟨h1, h2⟩ := dec_last l h
  refine ⟨?_, fun q => ?_⟩
  · by_cases q : l.length ≤ 10
    · exact q
    · exfalso
      have h2 := h2 (by omega)
      have h3 : 128 ^ 10 ≤ 128 ^ (l.length - 1) := Nat.pow_le_pow_right (by decide) (by omega)
      have h4 : 1 * 128 ^ (l.length - 1) ≤ l.getD (l.length - 1) 0 * 128 ^ (l.length - 1) := Nat.mul_le_mul_right _ (by omega)
      have : (128 : Nat) ^ 10 = 1180591620717411303424 := by decide
      omega
  · rw [q] at h1
    simp only [Nat.add_one_sub_one] at h1
    have : (128 : Nat) ^ 9 = 9223372036854775808 := by decide
    omega

/-- What a reader finds: its fault or 0, the number, how many bytes it has. -/
def rd (b : List Nat) : Nat × Nat × Nat :=
  if 10 ≤ lead b then (22, 0, 0)
  else if lead b = b.length then (20, 0, 0)
  else if lead b ≠ 0 ∧ b.getD (lead b) 0 = 0 ∨ lead b = 9 ∧ 1 < b.getD (lead b) 0 then (22, 0, 0)
  else (0, dec (b.take (lead b + 1)), lead b + 1)

theorem getD_append_left {l r : List Nat} {i : Nat} (h : i < l.length) : (l ++ r).getD i 0 = l.getD i 0 := by
  simp [List.getD_eq_getElem?_getD, List.getElem?_append_left h]

theorem rd_ok {l : List Nat} (r : List Nat) (h : okForm l) (hd : dec l < 18446744073709551616) : rd (l ++ r) = (0, dec l, l.length) := by
  have h1 := lead_ok l r h
  obtain ⟨h2, h3⟩ := form_length h hd
  obtain ⟨h4, h5⟩ := dec_last l h
  have e : lead (l ++ r) = l.length - 1 := by omega
  have hpos : 0 < l.length := List.length_pos_iff.2 h.ne
  have e2 : (l ++ r).getD (lead (l ++ r)) 0 = l.getD (l.length - 1) 0 := by rw [e]; exact getD_append_left (by omega)
  unfold rd
  rw [if_neg (by omega), if_neg (by simp; omega), if_neg ?_, h1]
  · simp
  · rw [e2]
    rintro (⟨q, q'⟩ | ⟨q, q'⟩)
    · exact h5 (by omega) q'
    · have hl : l.length = 10 := by omega
      have := h3 hl
      rw [hl] at q'
      simp only [Nat.add_one_sub_one] at q'
      omega
theorem rd_form {n : Nat} (r : List Nat) (h : n < 18446744073709551616) : rd (form n ++ r) = (0, n, (form n).length) := by
  have := rd_ok r (form_ok n) (by rw [dec_form]; exact h)
  rwa [dec_form] at this
theorem form_len {n : Nat} (h : n < 18446744073709551616) : 0 < (form n).length ∧ (form n).length ≤ 10 :=
  ⟨List.length_pos_iff.2 (form_ok n).ne, (form_length (form_ok n) (by rw [dec_form]; exact h)).1⟩
theorem rd_cut {n : Nat} (h : n < 18446744073709551616) : rd (form n).dropLast = (20, 0, 0) := by
  have h1 := lead_cut _ (form_ok n)
  have h2 := form_len h
  unfold rd
  rw [h1, if_neg (by omega), if_pos (by simp)]

theorem dec_lt : (l : List Nat) → dec l < 128 ^ l.length
  | [] => by simp [dec]
  | x :: l => by
    have := dec_lt l
    simp only [dec, List.length_cons, Nat.pow_succ]
    omega
theorem dec_append : (l r : List Nat) → dec (l ++ r) = dec l + 128 ^ l.length * dec r
  | [], r => by simp [dec]
  | x :: l, r => by
    simp only [List.cons_append, dec, List.length_cons, Nat.pow_succ]
    rw [dec_append l r, Nat.mul_add, ← Nat.mul_assoc, Nat.mul_comm 128 (128 ^ l.length)]
    omega
theorem dec_take_succ (l : List Nat) (i : Nat) (h : i < l.length) : dec (l.take (i + 1)) = dec (l.take i) + 128 ^ i * (l.getD i 0 % 128) := by
  rw [List.take_succ_eq_append_getElem h, dec_append]
  simp [dec, h, Nat.le_of_lt h]
theorem dec_drop (l : List Nat) (i : Nat) (h : i < l.length) : dec (l.drop i) = l.getD i 0 % 128 + 128 * dec (l.drop (i + 1)) := by
  rw [List.drop_eq_getElem_cons h]
  simp [dec, h]
theorem dec_drop_le (l : List Nat) (i : Nat) : dec (l.drop i) ≤ dec l := by
  have h := dec_append (l.take i) (l.drop i)
  rw [List.take_append_drop] at h
  have : 1 * dec (l.drop i) ≤ 128 ^ (l.take i).length * dec (l.drop i) := Nat.mul_le_mul_right _ (Nat.pow_pos (by decide))
  omega

theorem lead_form : (b : List Nat) → (∀ x ∈ b, x < 256) → lead b < b.length → (lead b = 0 ∨ b.getD (lead b) 0 ≠ 0) →
    okForm (b.take (lead b + 1)) ∧ (b.getD (lead b) 0 ≠ 0 → dec (b.take (lead b + 1)) ≠ 0)
  | [], _, h, _ => by simp [lead] at h
  | x :: b, hb, h, h0 => by
    by_cases q : 128 ≤ x
    · have e : lead (x :: b) = lead b + 1 := by rw [lead, if_pos q]
      rw [e] at h h0 ⊢
      simp only [List.getD_cons_succ, List.take_succ_cons] at h0 ⊢
      have h0 : b.getD (lead b) 0 ≠ 0 := by rcases h0 with h0 | h0; omega; exact h0
      obtain ⟨h1, h2⟩ := lead_form b (fun y hy => hb y (by simp [hy])) (by simpa using h) (.inr h0)
      have h3 := h2 h0
      refine ⟨okForm_cons q (hb x (by simp)) h1 h3, fun _ => ?_⟩
      simp only [dec]
      omega
    · have e : lead (x :: b) = 0 := by rw [lead, if_neg q]
      rw [e]
      refine ⟨?_, ?_⟩
      · simp [okForm]; omega
      · simp [dec]; omega

/-- A good reading: the bytes are the one form of the number. -/
theorem rd_good {b : List Nat} (hb : ∀ x ∈ b, x < 256) {x c : Nat} (h : rd b = (0, x, c)) :
    c = lead b + 1 ∧ 0 < c ∧ c ≤ 10 ∧ c ≤ b.length ∧ x < 18446744073709551616 ∧ form x = b.take c ∧ x = dec (b.take c) := by
  unfold rd at h
  have hl := lead_le b
  split at h
  · simp at h
  · split at h
    · simp at h
    · split at h
      · simp at h
      · rename_i g1 g2 g3
        simp only [Prod.mk.injEq, true_and] at h
        obtain ⟨rfl, rfl⟩ := h
        have hlt : lead b < b.length := by omega
        obtain ⟨k1, k2⟩ := lead_form b hb hlt (by omega)
        refine ⟨rfl, by omega, by omega, by omega, ?_, form_dec _ k1, rfl⟩
        have hat := lead_at b hlt
        rw [dec_take_succ b _ hlt, Nat.mod_eq_of_lt hat]
        have hd := dec_lt (b.take (lead b))
        rw [List.length_take, Nat.min_eq_left hl] at hd
        by_cases q9 : lead b = 9
        · rw [q9] at hd g3 ⊢
          have : (128 : Nat) ^ 9 = 9223372036854775808 := by decide
          have : b.getD 9 0 ≤ 1 := by omega
          omega
        · have hp : 128 ^ lead b ≤ 128 ^ 8 := Nat.pow_le_pow_right (by decide) (by omega)
          have hm : 128 ^ lead b * b.getD (lead b) 0 ≤ 128 ^ lead b * 127 := Nat.mul_le_mul_left _ (by omega)
          have : (128 : Nat) ^ 8 = 72057594037927936 := by decide
          omega

/-! Numbers with a sign. -/

def sgn (n : Int) : Nat := if 0 ≤ n then (2 * n).toNat else (-2 * n - 1).toNat
def uns (n : Nat) : Int := if n % 2 = 0 then (n / 2 : Nat) else -((n / 2 : Nat) : Int) - 1
theorem uns_sgn (n : Int) : uns (sgn n) = n := by
  unfold uns sgn
  split <;> split <;> omega
theorem sgn_uns (n : Nat) : sgn (uns n) = n := by
  unfold uns sgn
  split <;> split <;> omega
theorem sgn_lt {n : Int} (h1 : -9223372036854775808 ≤ n) (h2 : n ≤ 9223372036854775807) : sgn n < 18446744073709551616 := by
  unfold sgn
  split <;> omega
theorem uns_range {n : Nat} (h : n < 18446744073709551616) : -9223372036854775808 ≤ uns n ∧ uns n ≤ 9223372036854775807 := by
  unfold uns
  split <;> omega

end Go.QK

namespace Go.QK
open Go.RowKit

/-! What a call may have touched: the blocks of S, and new ones. -/

structure Keep (S : Nat → Prop) (w w' : World) : Prop where
  os : w'.os = w.os
  tape : w'.tape = w.tape
  output : w'.output = w.output
  size : w.heap.size ≤ w'.heap.size
  block : ∀ k, k < w.heap.size → ¬ S k → w'.heap[k]? = w.heap[k]?

section
variable {S T : Nat → Prop} {w w0 w1 w' : World}

theorem Keep.refl (S : Nat → Prop) (w : World) : Keep S w w := ⟨rfl, rfl, rfl, Nat.le_refl _, fun _ _ _ => rfl⟩
theorem Keep.mono (h : Keep S w w') (q : ∀ k, k < w.heap.size → S k → T k) : Keep T w w' := ⟨h.os, h.tape, h.output, h.size, fun k hk hn => h.block k hk (fun s => hn (q k hk s))⟩
theorem Keep.of_below (h : Below w.heap.size w w') : Keep S w w' := ⟨h.os, h.tape, h.output, h.size, fun k hk _ => h.block k hk⟩
theorem Keep.below {B : Nat} (h : Keep S w w') (hB : B ≤ w.heap.size) (q : ∀ k, k < B → ¬ S k) : Below B w w' := ⟨h.os, h.tape, h.output, h.size, fun k hk => h.block k (Nat.lt_of_lt_of_le hk hB) (q k hk)⟩
theorem Keep.trans (h : Keep S w0 w) (k : Keep T w w') (q : ∀ j, j < w0.heap.size → T j → S j) : Keep S w0 w' :=
  ⟨k.os.trans h.os, k.tape.trans h.tape, k.output.trans h.output, Nat.le_trans h.size k.size, fun j hj hn => (k.block j (Nat.lt_of_lt_of_le hj h.size) (fun s => hn (q j hj s))).trans (h.block j hj hn)⟩
theorem Keep.then_below (h : Keep S w0 w) (k : Below w.heap.size w w') : Keep S w0 w' := h.trans (Keep.of_below (S := fun _ => False) k) (fun _ _ f => f.elim)
theorem Keep.drew (h : Keep S w0 w) : Keep S w0 w.drew := ⟨h.os, h.tape, h.output, h.size, h.block⟩
theorem Keep.undrew (h : Keep S w0.drew w) : Keep S w0 w := ⟨h.os, h.tape, h.output, h.size, h.block⟩
theorem Keep.alloc (h : Keep S w0 w) (o : Obj) : Keep S w0 (w.alloc o) := h.then_below ((Below.refl _ _).alloc (Nat.le_refl _) _)
theorem Keep.setCell (h : Keep S w0 w) {g j : Nat} (hs : g < w0.heap.size → S g) (u : Value) : Keep S w0 (w.setCell ⟨g, j, none⟩ u) :=
  ⟨h.os, h.tape, h.output, by simpa using h.size, fun k hk hn => (Below.heap_setCell w ⟨g, j, none⟩ u k (by intro e; subst e; exact hn (hs hk))).trans (h.block k hk hn)⟩
theorem Keep.grown {row : Option Nat} (h : Keep S w0 w) (hg : w.grownBy w' row) (hs : ∀ g, row = some g → g < w0.heap.size → S g) : Keep S w0 w' := by
  have e : Below 0 w w' := (Below.refl 0 w).grown hg (Nat.zero_le _) (fun _ _ => Nat.zero_le _)
  refine ⟨e.os.trans h.os, e.tape.trans h.tape, e.output.trans h.output, Nat.le_trans h.size e.size, fun k hk hn => ?_⟩
  refine Eq.trans ?_ (h.block k hk hn)
  have q : World.grownBy w w' row := hg
  exact q.block k (Nat.lt_of_lt_of_le hk h.size) (fun r => hn (hs k r.symm hk))
theorem Keep.cell (h : Keep S w w') {p : Addr} (hp : p.block < w.heap.size) (hn : ¬ S p.block) : w'.cell? p = w.cell? p := World.cell?_of_block (w := w) (h.block p.block hp hn)
theorem Keep.frozen (h : Keep S w w') {p : Addr} (hp : p.block < w.heap.size) (hn : ¬ S p.block) : w'.frozen? p = w.frozen? p := World.frozen?_of_block (w := w) (h.block p.block hp hn)

theorem Seen.keep {k : IntKind} {a : Option Addr} {xs : List Int} (h : Seen k w a xs) (hb : Keep S w w') (hn : ∀ ad, a = some ad → ¬ S ad.block) : Seen k w' a xs := by
  rcases h with h | ⟨b, off, ha, hlt, hc⟩
  · exact .inl h
  · exact .inr ⟨b, off, ha, Nat.lt_of_lt_of_le hlt hb.size, fun i hi => (hb.cell (p := ⟨b, off + i, none⟩) hlt (by have := hn _ ha; exact this)).trans (hc i hi)⟩
theorem Owns.keep {k : IntKind} {e : TypeId} {B : Nat} {v : Value} {xs : List Int} (h : Owns k e w B v xs) (hb : Keep S w w') (hn : ∀ g, v.ownBlock = some g → ¬ S g) : Owns k e w' B v xs := by
  refine ⟨h.1, ?_⟩
  rcases h.2 with q | ⟨g, cap, cur, q, hbg, hg, rest⟩
  · exact .inl q
  · have hlt := (World.ownsRow.lt h g (by rw [q]; rfl)).2
    exact .inr ⟨g, cap, cur, q, hbg, (hb.block g hlt (hn g (by rw [q]; rfl))).trans hg, rest⟩
theorem Cells.keep {b : Nat} {cs : List Value} (h : Cells w b cs) (hb : Keep S w w') (hn : ¬ S b) : Cells w' b cs :=
  ⟨Nat.lt_of_lt_of_le h.1 hb.size, fun j hj => ⟨(hb.cell (p := ⟨b, j, none⟩) h.1 hn).trans (h.2 j hj).1, (hb.frozen (p := ⟨b, j, none⟩) h.1 hn).trans (h.2 j hj).2⟩⟩
end

/-! Bytes. -/

def ints (l : List Nat) : List Int := l.map (fun n : Nat => (n : Int))
@[simp] theorem ints_length (l : List Nat) : (ints l).length = l.length := by simp [ints]
@[simp] theorem ints_nil : ints [] = [] := rfl
theorem ints_append (l m : List Nat) : ints (l ++ m) = ints l ++ ints m := by simp [ints]
theorem ints_take (l : List Nat) (n : Nat) : ints (l.take n) = (ints l).take n := by simp [ints]
theorem ints_drop (l : List Nat) (n : Nat) : ints (l.drop n) = (ints l).drop n := by simp [ints]
theorem ints_getD (l : List Nat) (i : Nat) (h : i < (ints l).length) : (ints l)[i] = ((l.getD i 0 : Nat) : Int) := by
  have h' : i < l.length := by simpa using h
  simp [ints, h']
theorem ints_ne {l : List Nat} (h : ints l ≠ []) : l ≠ [] := fun q => h (by rw [q]; rfl)
theorem Seen.keep' {S : Nat → Prop} {w w' : World} {k : IntKind} {a : Option Addr} {xs : List Int} (h : Seen k w a xs) (hb : Keep S w w') (hn : xs ≠ [] → ∀ ad, a = some ad → ¬ S ad.block) : Seen k w' a xs := by
  by_cases hx : xs = []
  · exact .inl hx
  · exact h.keep hb (hn hx)
/-- All of them are bytes. -/
def AllB (l : List Nat) : Prop := ∀ x ∈ l, x < 256
theorem AllB.nil : AllB [] := nofun
theorem AllB.append {l m : List Nat} (h : AllB l) (k : AllB m) : AllB (l ++ m) := fun x hx => (List.mem_append.1 hx).elim (h x) (k x)
theorem AllB.take {l : List Nat} (h : AllB l) (n : Nat) : AllB (l.take n) := fun x hx => h x (List.mem_of_mem_take hx)
theorem AllB.drop {l : List Nat} (h : AllB l) (n : Nat) : AllB (l.drop n) := fun x hx => h x (List.mem_of_mem_drop hx)
theorem AllB.get {l : List Nat} (h : AllB l) (i : Nat) : l.getD i 0 < 256 := by
  by_cases q : i < l.length
  · have := h l[i] (List.getElem_mem q)
    simpa [q] using this
  · simp [List.getElem?_eq_none (Nat.le_of_not_lt q)]
theorem AllB.form (n : Nat) : AllB (form n) := (form_ok n).bytes

/-- The bytes that a slice leads to. -/
abbrev Bytes (w : World) (a : Option Addr) (l : List Nat) : Prop := Seen .u8 w a (ints l)
/-- Bytes of the program's own. -/
abbrev OwnB (w : World) (B : Nat) (v : Value) (l : List Nat) : Prop := Owns .u8 5 w B v (ints l)
theorem Bytes.at {w : World} {a : Option Addr} {l : List Nat} (h : Bytes w a l) {i : Nat} (hi : i < l.length) : ∃ b off, a = some ⟨b, off, none⟩ ∧ b < w.heap.size ∧ w.cell? ⟨b, off + i, none⟩ = some (.int .u8 ((l.getD i 0 : Nat) : Int)) := by
  obtain ⟨b, off, h1, h2, h3⟩ := Seen.at h (i := i) (by simpa using hi)
  rw [ints_getD] at h3
  exact ⟨b, off, h1, h2, h3⟩
theorem Bytes.take {w : World} {a : Option Addr} {l : List Nat} (h : Bytes w a l) (n : Nat) : Bytes w a (l.take n) := by
  have := Seen.take h n
  rwa [← ints_take] at this
theorem Bytes.drop {w : World} {a : Option Addr} {l : List Nat} {cap : Nat} (h : Bytes w a l) (n : Nat) (hc : l.length ≤ cap) : Bytes w (dropA a cap n) (l.drop n) := by
  have := Seen.drop h n (by simpa using hc)
  rwa [← ints_drop] at this

/-! The machine's operations on bits, in plain numbers. -/

theorem bits_and_nat (k : IntKind) (j : Nat) (hj : j ≤ k.bits) (hk : ∀ n : Int, 0 ≤ n → n < 2 ^ j → k.wrap n = n) (a b : Nat) (ha : a < 2 ^ j) (hb : b < 2 ^ j) :
    bits .and k a b = ((a &&& b : Nat) : Int) := (bits_nat k j hj hk a b ha hb).1
theorem bits_or_nat (k : IntKind) (j : Nat) (hj : j ≤ k.bits) (hk : ∀ n : Int, 0 ≤ n → n < 2 ^ j → k.wrap n = n) (a b : Nat) (ha : a < 2 ^ j) (hb : b < 2 ^ j) :
    bits .or k a b = ((a ||| b : Nat) : Int) := (bits_nat k j hj hk a b ha hb).2
theorem bits_xor_nat (k : IntKind) (j : Nat) (hj : j ≤ k.bits) (hk : ∀ n : Int, 0 ≤ n → n < 2 ^ j → k.wrap n = n) (a b : Nat) (ha : a < 2 ^ j) (hb : b < 2 ^ j) :
    bits .xor k a b = ((a ^^^ b : Nat) : Int) := by
  have hp : 2 ^ j ≤ 2 ^ k.bits := Nat.pow_le_pow_right (by decide) hj
  have ha' : a % 2 ^ k.bits = a := Nat.mod_eq_of_lt (Nat.lt_of_lt_of_le ha hp)
  have hb' : b % 2 ^ k.bits = b := Nat.mod_eq_of_lt (Nat.lt_of_lt_of_le hb hp)
  simp only [bits, BitVec.ofInt_natCast, BitVec.toNat_xor, BitVec.toNat_ofNat, ha', hb']
  have h := Nat.xor_lt_two_pow ha hb
  exact hk _ (Int.natCast_nonneg _) (by exact_mod_cast h)
theorem wraps_u32 (n : Int) (h₀ : 0 ≤ n) (h₁ : n < 2 ^ 32) : IntKind.u32.wrap n = n := by rw [IntKind.wrap_u32]; omega
theorem wraps_u64 (n : Int) (h₀ : 0 ≤ n) (h₁ : n < 2 ^ 64) : IntKind.u64.wrap n = n := by rw [IntKind.wrap_u64]; omega
theorem xor_u32 (a b : Nat) (ha : a < 4294967296) (hb : b < 4294967296) : bits .xor .u32 a b = ((a ^^^ b : Nat) : Int) := bits_xor_nat .u32 32 (by decide) wraps_u32 a b ha hb
theorem xor_u8 (a b : Nat) (ha : a < 256) (hb : b < 256) : bits .xor .u8 a b = ((a ^^^ b : Nat) : Int) := bits_xor_nat .u8 8 (by decide) wraps_u8 a b ha hb
theorem and15_u32 (a : Nat) (ha : a < 4294967296) : bits .and .u32 a 15 = ((a % 16 : Nat) : Int) := by
  have := bits_and_nat .u32 32 (by decide) wraps_u32 a 15 ha (by decide)
  rw [show a &&& 15 = a % 16 from Nat.and_two_pow_sub_one_eq_mod a 4] at this
  exact this
theorem and1_u32 (a : Nat) (ha : a < 4294967296) : bits .and .u32 a 1 = ((a % 2 : Nat) : Int) := by
  have := bits_and_nat .u32 32 (by decide) wraps_u32 a 1 ha (by decide)
  rw [show a &&& 1 = a % 2 from Nat.and_two_pow_sub_one_eq_mod a 1] at this
  exact this
theorem and1_u64 (a : Nat) (ha : a < 18446744073709551616) : bits .and .u64 a 1 = ((a % 2 : Nat) : Int) := by
  have := bits_and_nat .u64 64 (by decide) wraps_u64 a 1 ha (by decide)
  rw [show a &&& 1 = a % 2 from Nat.and_two_pow_sub_one_eq_mod a 1] at this
  exact this
/-- 'byte(n) | 128'. -/
theorem or128_u8 (n : Nat) : bits .or .u8 ((n % 256 : Nat) : Int) 128 = ((n % 128 + 128 : Nat) : Int) := by
  have := bits_or_nat .u8 8 (by decide) wraps_u8 (n % 256) 128 (Nat.mod_lt _ (by decide)) (by decide)
  have e : n % 256 ||| 128 = n % 128 + 128 := by
    have h : ∀ b : Fin 256, b.1 ||| 128 = b.1 % 128 + 128 := by decide +kernel
    rw [h ⟨n % 256, Nat.mod_lt _ (by decide)⟩]
    show n % 256 % 128 + 128 = _
    omega
  rw [e] at this
  exact this
/-- 'b &^ 128'. -/
theorem andNot128_u8 (b : Nat) (h : b < 256) : bits .andNot .u8 (b : Int) 128 = ((b % 128 : Nat) : Int) := by
  have hh : ∀ b : Fin 256, bits .andNot .u8 ((b.1 : Nat) : Int) 128 = ((b.1 % 128 : Nat) : Int) := by decide +kernel
  exact hh ⟨b, h⟩
/-- 'n | x << k', where n is below 2^k. -/
theorem or_join_u64 (n x k : Nat) (hn : n < 2 ^ k) (h : n + 2 ^ k * x < 18446744073709551616) : bits .or .u64 (n : Int) ((2 ^ k * x : Nat) : Int) = ((n + 2 ^ k * x : Nat) : Int) := by
  rw [bits_or_u64_nat _ _ (by omega) (by omega), Nat.or_comm, ← Nat.two_pow_add_eq_or_of_lt hn, Nat.add_comm]
theorem not_u64 (n : Nat) (h : n < 18446744073709551616) : bits .xor .u64 18446744073709551615 (n : Int) = ((18446744073709551615 - n : Nat) : Int) := by
  have := bits_xor_nat .u64 64 (by decide) wraps_u64 18446744073709551615 n (by decide) h
  rw [show (18446744073709551615 : Nat) ^^^ n = 18446744073709551615 - n from ?_] at this
  · exact this
  · apply Nat.eq_of_testBit_eq
    intro i
    have e : 18446744073709551615 - n = 2 ^ 64 - (n + 1) := by omega
    rw [e, Nat.testBit_two_pow_sub_succ (by exact h), Nat.testBit_xor, show (18446744073709551615 : Nat) = 2 ^ 64 - 1 by decide, Nat.testBit_two_pow_sub_one]
    by_cases q : i < 64
    · simp [q]
    · have : n.testBit i = false := Nat.testBit_lt_two_pow (Nat.lt_of_lt_of_le (show n < 2 ^ 64 from h) (Nat.pow_le_pow_right (by decide) (by omega)))
      simp [q, this]
theorem not_u32 (n : Nat) (h : n < 4294967296) : bits .xor .u32 4294967295 (n : Int) = ((4294967295 ^^^ n : Nat) : Int) := xor_u32 4294967295 n (by decide) h
theorem not_i64 (n : Int) (h1 : -9223372036854775808 ≤ n) (h2 : n ≤ 9223372036854775807) : bits .xor .i64 (-1) n = -n - 1 := by
  show IntKind.i64.wrap ((BitVec.ofInt 64 (-1) ^^^ BitVec.ofInt 64 n).toNat : Int) = _
  rw [show BitVec.ofInt 64 (-1) = BitVec.allOnes 64 by decide, BitVec.allOnes_xor, BitVec.toNat_not, BitVec.toNat_ofInt, IntKind.wrap_i64]
  omega

/-! The table. -/
def Tab (w : World) : Prop := 0 < w.heap.size ∧ ∀ i, i < 16 → w.cell? ⟨0, i, none⟩ = some (.int .u32 ((tabAt i : Nat) : Int))
theorem Tab.keep {S : Nat → Prop} {w w' : World} (h : Tab w) (hk : Keep S w w') (hn : ¬ S 0) : Tab w' :=
  ⟨Nat.lt_of_lt_of_le h.1 hk.size, fun i hi => (hk.cell (p := ⟨0, i, none⟩) h.1 hn).trans (h.2 i hi)⟩
theorem Tab.below {w w' : World} (h : Tab w) (hk : Below w.heap.size w w') : Tab w' := h.keep (Keep.of_below (S := fun _ => False) hk) id
end Go.QK
