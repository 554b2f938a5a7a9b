namespace Go.QK

/-! Forms of numbers, in plain numbers. -/

/-- With so much fuel. -/
def formF : Nat → Nat → List Nat
  | 0, n => [n]
  | k + 1, n => if n < 128 then [n] else (n % 128 + 128) :: formF k (n / 128)
def form (n : Nat) : List Nat := formF n n
theorem formF_eq : (k m n : Nat) → n ≤ k → n ≤ m → formF k n = formF m n
  | 0, 0, _, _, _ => rfl
  | 0, m + 1, n, h, _ => by
    obtain rfl : n = 0 := by omega
    rw [formF, formF, if_pos (by omega)]
  | k + 1, 0, n, _, h => by
    obtain rfl : n = 0 := by omega
    rw [formF, formF, if_pos (by omega)]
  | k + 1, m + 1, n, h1, h2 => by
    rw [formF, formF]
    by_cases q : n < 128
    · rw [if_pos q, if_pos q]
    · rw [if_neg q, if_neg q, formF_eq k m (n / 128) (by omega) (by omega)]
theorem form_small {n : Nat} (h : n < 128) : form n = [n] := by
  unfold form
  cases n with
  | zero => rfl
  | succ n => rw [formF, if_pos h]
theorem form_big {n : Nat} (h : ¬ n < 128) : form n = (n % 128 + 128) :: form (n / 128) := by
  obtain ⟨k, rfl⟩ : ∃ k, n = k + 1 := ⟨n - 1, by omega⟩
  unfold form
  rw [formF, if_neg h, formF_eq k ((k + 1) / 128) _ (by omega) (Nat.le_refl _)]

def dec : List Nat → Nat
  | [] => 0
  | b :: l => b % 128 + 128 * dec l

def okForm : List Nat → Prop
  | [] => False
  | [x] => x < 128
  | x :: y :: l => 128 ≤ x ∧ x < 256 ∧ okForm (y :: l) ∧ dec (y :: l) ≠ 0

theorem okForm_cons {x : Nat} {l : List Nat} (h1 : 128 ≤ x) (h2 : x < 256) (h3 : okForm l) (h4 : dec l ≠ 0) : okForm (x :: l) := by
  cases l with
  | nil => exact absurd h3 id
  | cons y l => exact ⟨h1, h2, h3, h4⟩

theorem dec_form_to : (k n : Nat) → n ≤ k → dec (form n) = n
  | 0, n, h => by
    rw [form_small (by omega)]
    simp [dec, Nat.mod_eq_of_lt (show n < 128 by omega)]
  | k + 1, n, _ => by
    by_cases h : n < 128
    · rw [form_small h]; simp [dec, Nat.mod_eq_of_lt h]
    · rw [form_big h]
      simp only [dec]
      rw [dec_form_to k (n / 128) (by omega)]
      omega
theorem dec_form (n : Nat) : dec (form n) = n := dec_form_to n n (Nat.le_refl _)
theorem form_ok_to : (k n : Nat) → n ≤ k → okForm (form n)
  | 0, n, h => by
    rw [form_small (by omega)]
    show n < 128
    omega
  | k + 1, n, _ => by
    by_cases h : n < 128
    · rw [form_small h]; exact h
    · rw [form_big h]
      refine okForm_cons (by omega) (by omega) (form_ok_to k (n / 128) (by omega)) ?_
      rw [dec_form]
      omega
theorem form_ok (n : Nat) : okForm (form n) := form_ok_to n n (Nat.le_refl _)
theorem form_dec : (l : List Nat) → okForm l → form (dec l) = l
  | [], h => absurd h id
  | [x], h => by
    have h : x < 128 := h
    simp only [dec]
    rw [Nat.mod_eq_of_lt h]
    exact form_small h
  | x :: y :: l, h => by
    obtain ⟨h1, h2, h3, h4⟩ := h
    have q := form_dec (y :: l) h3
    rw [show dec (x :: y :: l) = x % 128 + 128 * dec (y :: l) from rfl, form_big (by omega)]
    rw [show (x % 128 + 128 * dec (y :: l)) / 128 = dec (y :: l) by omega, q]
    congr 1
    omega
theorem okForm.ne {l : List Nat} (h : okForm l) : l ≠ [] := by rintro rfl; exact h
theorem okForm.bytes : {l : List Nat} → okForm l → ∀ x ∈ l, x < 256
  | [], h => absurd h id
  | [x], h => by intro y hy; have h : x < 128 := h; simp at hy; omega
  | x :: y :: l, h => by
    intro z hz
    rcases List.mem_cons.1 hz with rfl | hz
    · exact h.2.1
    · exact okForm.bytes h.2.2.1 z hz

/-- How many bytes from 128 on it begins with. -/
def lead : List Nat → Nat
  | [] => 0
  | b :: l => if 128 ≤ b then lead l + 1 else 0
theorem lead_le : (l : List Nat) → lead l ≤ l.length
  | [] => Nat.le_refl _
  | b :: l => by
    simp only [lead, List.length_cons]
    split
    · have := lead_le l; omega
    · omega
theorem lead_before : (l : List Nat) → (i : Nat) → i < lead l → 128 ≤ l.getD i 0
  | [], i, h => by simp [lead] at h
  | b :: l, i, h => by
    simp only [lead] at h
    split at h
    · cases i with
      | zero => simpa
      | succ i => simpa using lead_before l i (by omega)
    · omega
theorem lead_at : (l : List Nat) → lead l < l.length → l.getD (lead l) 0 < 128
  | [], h => by simp [lead] at h
  | b :: l, h => by
    simp only [lead] at h ⊢
    split at h
    · rename_i q
      rw [if_pos q]
      simpa using lead_at l (by simpa using h)
    · rename_i q
      rw [if_neg q]
      simpa using q
theorem lead_eq (l : List Nat) (k : Nat) (h : ∀ i, i < k → 128 ≤ l.getD i 0) (hk : k < l.length) (hq : l.getD k 0 < 128) : lead l = k := by
  rcases Nat.lt_trichotomy (lead l) k with q | q | q
  · have a := h _ q
    have b := lead_at l (by omega)
    omega
  · exact q
  · have := lead_before l k q
    omega
theorem lead_ok : (l r : List Nat) → okForm l → lead (l ++ r) + 1 = l.length
  | [], _, h => absurd h id
  | [x], r, h => by
    have h : x < 128 := h
    simp [lead]
    exact h
  | x :: y :: l, r, h => by
    have q := lead_ok (y :: l) r h.2.2.1
    simp only [List.cons_append, List.length_cons] at q ⊢
    rw [lead, if_pos h.1]
    omega
theorem lead_cut : (l : List Nat) → okForm l → lead l.dropLast = l.length - 1
  | [], h => absurd h id
  | [x], _ => rfl
  | x :: y :: l, h => by
    have q := lead_cut (y :: l) h.2.2.1
    rw [List.dropLast_cons_cons, lead, if_pos h.1, q]
    simp

theorem dec_last : (l : List Nat) → okForm l → l.getD (l.length - 1) 0 * 128 ^ (l.length - 1) ≤ dec l ∧ (1 < l.length → l.getD (l.length - 1) 0 ≠ 0)
  | [], h => absurd h id
  | [x], h => by
    have h : x < 128 := h
    simp [dec]
    omega
  | x :: y :: l, h => by
    obtain ⟨h1, h2⟩ := dec_last (y :: l) h.2.2.1
    simp only [List.length_cons, Nat.add_sub_cancel] at h1 h2 ⊢
    rw [List.getD_cons_succ]
    refine ⟨?_, fun _ => ?_⟩
    · rw [Nat.pow_succ, show dec (x :: y :: l) = x % 128 + 128 * dec (y :: l) from rfl, ← Nat.mul_assoc]
      omega
    · cases l with
      | nil =>
        have q := h.2.2.2
        have p : y < 128 := h.2.2.1
        simp [dec] at q ⊢
        omega
      | cons z l => exact h2 (by simp)

theorem form_length {l : List Nat} (h : okForm l) (hd : dec l < 18446744073709551616) : l.length ≤ 10 ∧ (l.length = 10 → l.getD 9 0 ≤ 1) := by
  obtain ⟨h1, h2⟩ := dec_last l h
  refine ⟨?_, fun q => ?_⟩
  · by_cases q : l.length ≤ 10
    · exact q
    · exfalso
      have h2 := h2 (by omega)
      have h3 : 128 ^ 10 ≤ 128 ^ (l.length - 1) := Nat.pow_le_pow_right (by decide) (by omega)
      have h4 : 1 * 128 ^ (l.length - 1) ≤ l.getD (l.length - 1) 0 * 128 ^ (l.length - 1) := Nat.mul_le_mul_right _ (by omega)
      have : (128 : Nat) ^ 10 = 1180591620717411303424 := by decide
      omega
  · rw [q] at h1
    simp only [Nat.add_one_sub_one] at h1
    have : (128 : Nat) ^ 9 = 9223372036854775808 := by decide
    omega

/-- What a reader finds: its fault or 0, the number, how many bytes it has. -/
def rd (b : List Nat) : Nat × Nat × Nat :=
  if 10 ≤ lead b then (22, 0, 0)
  else if lead b = b.length then (20, 0, 0)
  else if lead b ≠ 0 ∧ b.getD (lead b) 0 = 0 ∨ lead b = 9 ∧ 1 < b.getD (lead b) 0 then (22, 0, 0)
  else (0, dec (b.take (lead b + 1)), lead b + 1)

theorem getD_append_left {l r : List Nat} {i : Nat} (h : i < l.length) : (l ++ r).getD i 0 = l.getD i 0 := by
  simp [List.getD_eq_getElem?_getD, List.getElem?_append_left h]

theorem rd_ok {l : List Nat} (r : List Nat) (h : okForm l) (hd : dec l < 18446744073709551616) : rd (l ++ r) = (0, dec l, l.length) := by
  have h1 := lead_ok l r h
  obtain ⟨h2, h3⟩ := form_length h hd
  obtain ⟨h4, h5⟩ := dec_last l h
  have e : lead (l ++ r) = l.length - 1 := by omega
  have hpos : 0 < l.length := List.length_pos_iff.2 h.ne
  have e2 : (l ++ r).getD (lead (l ++ r)) 0 = l.getD (l.length - 1) 0 := by rw [e]; exact getD_append_left (by omega)
  unfold rd
  rw [if_neg (by omega), if_neg (by simp; omega), if_neg ?_, h1]
  · simp
  · rw [e2]
    rintro (⟨q, q'⟩ | ⟨q, q'⟩)
    · exact h5 (by omega) q'
    · have hl : l.length = 10 := by omega
      have := h3 hl
      rw [hl] at q'
      simp only [Nat.add_one_sub_one] at q'
      omega
theorem rd_form {n : Nat} (r : List Nat) (h : n < 18446744073709551616) : rd (form n ++ r) = (0, n, (form n).length) := by
  have := rd_ok r (form_ok n) (by rw [dec_form]; exact h)
  rwa [dec_form] at this
theorem form_len {n : Nat} (h : n < 18446744073709551616) : 0 < (form n).length ∧ (form n).length ≤ 10 :=
  ⟨List.length_pos_iff.2 (form_ok n).ne, (form_length (form_ok n) (by rw [dec_form]; exact h)).1⟩
theorem rd_cut {n : Nat} (h : n < 18446744073709551616) : rd (form n).dropLast = (20, 0, 0) := by
  have h1 := lead_cut _ (form_ok n)
  have h2 := form_len h
  unfold rd
  rw [h1, if_neg (by omega), if_pos (by simp)]

theorem dec_lt : (l : List Nat) → dec l < 128 ^ l.length
  | [] => by simp [dec]
  | x :: l => by
    have := dec_lt l
    simp only [dec, List.length_cons, Nat.pow_succ]
    omega
theorem dec_append : (l r : List Nat) → dec (l ++ r) = dec l + 128 ^ l.length * dec r
  | [], r => by simp [dec]
  | x :: l, r => by
    simp only [List.cons_append, dec, List.length_cons, Nat.pow_succ]
    rw [dec_append l r, Nat.mul_add, ← Nat.mul_assoc, Nat.mul_comm 128 (128 ^ l.length)]
    omega
theorem dec_take_succ (l : List Nat) (i : Nat) (h : i < l.length) : dec (l.take (i + 1)) = dec (l.take i) + 128 ^ i * (l.getD i 0 % 128) := by
  rw [List.take_succ_eq_append_getElem h, dec_append]
  simp [dec, h, Nat.le_of_lt h]
theorem dec_drop (l : List Nat) (i : Nat) (h : i < l.length) : dec (l.drop i) = l.getD i 0 % 128 + 128 * dec (l.drop (i + 1)) := by
  rw [List.drop_eq_getElem_cons h]
  simp [dec, h]
theorem dec_drop_le (l : List Nat) (i : Nat) : dec (l.drop i) ≤ dec l := by
  have h := dec_append (l.take i) (l.drop i)
  rw [List.take_append_drop] at h
  have : 1 * dec (l.drop i) ≤ 128 ^ (l.take i).length * dec (l.drop i) := Nat.mul_le_mul_right _ (Nat.pow_pos (by decide))
  omega

theorem lead_form : (b : List Nat) → (∀ x ∈ b, x < 256) → lead b < b.length → (lead b = 0 ∨ b.getD (lead b) 0 ≠ 0) →
    okForm (b.take (lead b + 1)) ∧ (b.getD (lead b) 0 ≠ 0 → dec (b.take (lead b + 1)) ≠ 0)
  | [], _, h, _ => by simp [lead] at h
  | x :: b, hb, h, h0 => by
    by_cases q : 128 ≤ x
    · have e : lead (x :: b) = lead b + 1 := by rw [lead, if_pos q]
      rw [e] at h h0 ⊢
      simp only [List.getD_cons_succ, List.take_succ_cons] at h0 ⊢
      have h0 : b.getD (lead b) 0 ≠ 0 := by rcases h0 with h0 | h0; omega; exact h0
      obtain ⟨h1, h2⟩ := lead_form b (fun y hy => hb y (by simp [hy])) (by simpa using h) (.inr h0)
      have h3 := h2 h0
      refine ⟨okForm_cons q (hb x (by simp)) h1 h3, fun _ => ?_⟩
      simp only [dec]
      omega
    · have e : lead (x :: b) = 0 := by rw [lead, if_neg q]
      rw [e]
      refine ⟨?_, ?_⟩
      · simp [okForm]; omega
      · simp [dec]; omega

/-- A good reading: the bytes are the one form of the number. -/
theorem rd_good {b : List Nat} (hb : ∀ x ∈ b, x < 256) {x c : Nat} (h : rd b = (0, x, c)) :
    c = lead b + 1 ∧ 0 < c ∧ c ≤ 10 ∧ c ≤ b.length ∧ x < 18446744073709551616 ∧ form x = b.take c ∧ x = dec (b.take c) := by
  unfold rd at h
  have hl := lead_le b
  split at h
  · simp at h
  · split at h
    · simp at h
    · split at h
      · simp at h
      · rename_i g1 g2 g3
        simp only [Prod.mk.injEq, true_and] at h
        obtain ⟨rfl, rfl⟩ := h
        have hlt : lead b < b.length := by omega
        obtain ⟨k1, k2⟩ := lead_form b hb hlt (by omega)
        refine ⟨rfl, by omega, by omega, by omega, ?_, form_dec _ k1, rfl⟩
        have hat := lead_at b hlt
        rw [dec_take_succ b _ hlt, Nat.mod_eq_of_lt hat]
        have hd := dec_lt (b.take (lead b))
        rw [List.length_take, Nat.min_eq_left hl] at hd
        by_cases q9 : lead b = 9
        · rw [q9] at hd g3 ⊢
          have : (128 : Nat) ^ 9 = 9223372036854775808 := by decide
          have : b.getD 9 0 ≤ 1 := by omega
          omega
        · have hp : 128 ^ lead b ≤ 128 ^ 8 := Nat.pow_le_pow_right (by decide) (by omega)
          have hm : 128 ^ lead b * b.getD (lead b) 0 ≤ 128 ^ lead b * 127 := Nat.mul_le_mul_left _ (by omega)
          have : (128 : Nat) ^ 8 = 72057594037927936 := by decide
          omega

/-! Numbers with a sign. -/

def sgn (n : Int) : Nat := if 0 ≤ n then (2 * n).toNat else (-2 * n - 1).toNat
def uns (n : Nat) : Int := if n % 2 = 0 then (n / 2 : Nat) else -((n / 2 : Nat) : Int) - 1
theorem uns_sgn (n : Int) : uns (sgn n) = n := by
  unfold uns sgn
  split <;> split <;> omega
theorem sgn_uns (n : Nat) : sgn (uns n) = n := by
  unfold uns sgn
  split <;> split <;> omega
theorem sgn_lt {n : Int} (h1 : -9223372036854775808 ≤ n) (h2 : n ≤ 9223372036854775807) : sgn n < 18446744073709551616 := by
  unfold sgn
  split <;> omega
theorem uns_range {n : Nat} (h : n < 18446744073709551616) : -9223372036854775808 ≤ uns n ∧ uns n ≤ 9223372036854775807 := by
  unfold uns
  split <;> omega

end Go.QK
