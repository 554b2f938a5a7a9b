namespace Go.QK

/-! The checksum, in plain numbers. -/

theorem xor_four (a b c d : Nat) : (a ^^^ b) ^^^ (c ^^^ d) = (a ^^^ c) ^^^ (b ^^^ d) := by
  apply Nat.eq_of_testBit_eq
  intro i
  simp only [Nat.testBit_xor]
  cases a.testBit i <;> cases b.testBit i <;> cases c.testBit i <;> cases d.testBit i <;> rfl
theorem xor_half (a b : Nat) : (a ^^^ b) / 2 = a / 2 ^^^ b / 2 := by have := Nat.xor_div_two_pow (a := a) (b := b) (n := 1); simpa using this
theorem xor_low (a b : Nat) : (a ^^^ b) % 2 = (a % 2 ^^^ b % 2) := by have := Nat.xor_mod_two_pow (a := a) (b := b) (n := 1); simpa using this
theorem xor_eq_zero {a b : Nat} (h : a ^^^ b = 0) : a = b := by
  have : (a ^^^ b) ^^^ b = 0 ^^^ b := by rw [h]
  rw [Nat.xor_assoc, Nat.xor_self, Nat.xor_zero, Nat.zero_xor] at this
  exact this
theorem xor_ne {a c : Nat} (h : c ≠ 0) : a ^^^ c ≠ a := by
  intro q
  apply h
  have : a ^^^ (a ^^^ c) = a ^^^ a := by rw [q]
  rwa [← Nat.xor_assoc, Nat.xor_self, Nat.zero_xor] at this
/-- Upper and lower part. -/
theorem xor_parts (k x y : Nat) (h : y < 2 ^ k) : x * 2 ^ k ^^^ y = x * 2 ^ k + y := by
  apply Nat.eq_of_testBit_eq
  intro i
  rw [Nat.testBit_xor, Nat.mul_comm, Nat.testBit_two_pow_mul, Nat.testBit_two_pow_mul_add _ h]
  by_cases q : i < k
  · simp [q, Nat.not_le.2 q]
  · have q' : y.testBit i = false := Nat.testBit_lt_two_pow (Nat.lt_of_lt_of_le h (Nat.pow_le_pow_right (by decide) (by omega)))
    simp [q, q', Nat.le_of_not_lt q]

def poly : Nat := 3988292384
/-- One bit of the register. -/
def B1 (r : Nat) : Nat := r / 2 ^^^ (if r % 2 = 1 then poly else 0)
def Bn : Nat → Nat → Nat
  | 0, r => r
  | k + 1, r => Bn k (B1 r)

theorem B1_xor (a b : Nat) : B1 (a ^^^ b) = B1 a ^^^ B1 b := by
  unfold B1
  rw [xor_half, xor_low, xor_four]
  congr 1
  rcases Nat.mod_two_eq_zero_or_one a with p | p <;> rcases Nat.mod_two_eq_zero_or_one b with q | q <;> simp [p, q]
theorem Bn_xor : (k a b : Nat) → Bn k (a ^^^ b) = Bn k a ^^^ Bn k b
  | 0, _, _ => rfl
  | k + 1, a, b => by simp only [Bn]; rw [B1_xor, Bn_xor k]
theorem Bn_add : (j k r : Nat) → Bn (j + k) r = Bn k (Bn j r)
  | 0, k, _ => by simp [Bn]
  | j + 1, k, r => by rw [Nat.succ_add]; simp only [Bn]; exact Bn_add j k _
theorem B1_lt {r : Nat} (h : r < 4294967296) : B1 r < 4294967296 := by
  unfold B1
  refine Nat.xor_lt_two_pow (n := 32) (by omega) ?_
  split <;> simp [poly]
theorem Bn_lt : (k r : Nat) → r < 4294967296 → Bn k r < 4294967296
  | 0, _, h => h
  | k + 1, _, h => Bn_lt k _ (B1_lt h)
theorem B1_zero : B1 0 = 0 := rfl
theorem Bn_zero : (k : Nat) → Bn k 0 = 0
  | 0 => rfl
  | k + 1 => by simp only [Bn]; rw [B1_zero, Bn_zero k]
theorem B1_ne {r : Nat} (h : r < 4294967296) (h0 : r ≠ 0) : B1 r ≠ 0 := by
  intro q
  unfold B1 at q
  have q := xor_eq_zero q
  split at q <;> simp [poly] at q <;> omega
theorem Bn_ne : (k r : Nat) → r < 4294967296 → r ≠ 0 → Bn k r ≠ 0
  | 0, _, _, h0 => h0
  | k + 1, _, h, h0 => Bn_ne k _ (B1_lt h) (B1_ne h h0)
theorem B1_double (x : Nat) : B1 (2 * x) = x := by simp [B1]
theorem Bn_shift : (k x : Nat) → Bn k (x * 2 ^ k) = x
  | 0, x => by simp [Bn]
  | k + 1, x => by
    simp only [Bn]
    rw [show x * 2 ^ (k + 1) = 2 * (x * 2 ^ k) by rw [Nat.pow_succ]; ac_rfl, B1_double, Bn_shift k]

/-- A byte. -/
def S8 (r b : Nat) : Nat := Bn 8 (r ^^^ b)
def crc (r : Nat) (l : List Nat) : Nat := l.foldl S8 r
@[simp] theorem crc_nil (r : Nat) : crc r [] = r := rfl
@[simp] theorem crc_cons (r b : Nat) (l : List Nat) : crc r (b :: l) = crc (S8 r b) l := rfl
theorem crc_append (r : Nat) (l m : List Nat) : crc r (l ++ m) = crc (crc r l) m := by simp [crc]
theorem S8_lt {r b : Nat} (h : r < 4294967296) (hb : b < 256) : S8 r b < 4294967296 :=
  Bn_lt _ _ (Nat.xor_lt_two_pow (n := 32) (by omega) (by omega))
theorem crc_lt : (l : List Nat) → (r : Nat) → r < 4294967296 → (∀ x ∈ l, x < 256) → crc r l < 4294967296
  | [], _, h, _ => h
  | b :: l, r, h, hl => crc_lt l _ (S8_lt h (hl b (by simp))) (fun x hx => hl x (by simp [hx]))

theorem crc_xor : (a b : List Nat) → (r s : Nat) → a.length = b.length → crc (r ^^^ s) (List.zipWith (· ^^^ ·) a b) = crc r a ^^^ crc s b
  | [], [], _, _, _ => rfl
  | x :: a, y :: b, r, s, h => by
    simp only [List.zipWith_cons_cons, crc_cons]
    rw [show S8 (r ^^^ s) (x ^^^ y) = S8 r x ^^^ S8 s y by unfold S8; rw [xor_four, Bn_xor]]
    exact crc_xor a b _ _ (by simpa using h)
  | [], _ :: _, _, _, h => by simp at h
  | _ :: _, [], _, _, h => by simp at h

/-- Byte j of a number. -/
def byteOf (m j : Nat) : Nat := m / 2 ^ (8 * j) % 256
/-- The first n bytes of a number. -/
def bytesOf (n m : Nat) : List Nat := (List.range n).map (byteOf m)
@[simp] theorem bytesOf_length (n m : Nat) : (bytesOf n m).length = n := by simp [bytesOf]
theorem bytesOf_succ (n m : Nat) : bytesOf (n + 1) m = m % 256 :: bytesOf n (m / 256) := by
  unfold bytesOf
  rw [List.range_succ_eq_map]
  simp only [List.map_cons, List.map_map]
  congr 1
  · simp [byteOf]
  · apply List.map_congr_left
    intro j _
    show byteOf m (j + 1) = byteOf (m / 256) j
    unfold byteOf
    rw [Nat.div_div_eq_div_mul, show 2 ^ (8 * (j + 1)) = 256 * 2 ^ (8 * j) by rw [show 8 * (j + 1) = 8 + 8 * j by omega, Nat.pow_add]]
theorem byteOf_xor (a b j : Nat) : byteOf (a ^^^ b) j = byteOf a j ^^^ byteOf b j := by
  unfold byteOf
  rw [Nat.xor_div_two_pow]
  exact Nat.xor_mod_two_pow (n := 8)
theorem byteOf_pow (p j : Nat) : byteOf (2 ^ p) j = if j = p / 8 then 2 ^ (p % 8) else 0 := by
  unfold byteOf
  by_cases h : 8 * j ≤ p
  · rw [Nat.pow_div h (by decide)]
    by_cases q : j = p / 8
    · rw [if_pos q, show p - 8 * j = p % 8 by omega]
      exact Nat.mod_eq_of_lt (show _ < 2 ^ 8 from Nat.pow_lt_pow_right (by decide) (by omega))
    · rw [if_neg q, show p - 8 * j = 8 + (p - 8 * j - 8) by omega, Nat.pow_add]
      simp
  · rw [Nat.div_eq_of_lt (Nat.pow_lt_pow_right (by decide) (by omega)), if_neg (by omega)]
    
theorem crc_bytes : (n m r : Nat) → m < 2 ^ (8 * n) → crc r (bytesOf n m) = Bn (8 * n) (r ^^^ m)
  | 0, m, r, h => by
    obtain rfl : m = 0 := by simpa using h
    simp [bytesOf, Bn]
  | n + 1, m, r, h => by
    rw [bytesOf_succ, crc_cons, crc_bytes n (m / 256) _ ?_, show 8 * (n + 1) = 8 + 8 * n by omega, Bn_add]
    · congr 1
      have e : r ^^^ m = (r ^^^ m % 256) ^^^ (m / 256 * 2 ^ 8) := by
        have p := xor_parts 8 (m / 256) (m % 256) (Nat.mod_lt _ (by decide))
        rw [show m / 256 * 2 ^ 8 + m % 256 = m by omega] at p
        rw [Nat.xor_assoc, Nat.xor_comm (m % 256), p]
      rw [e, Bn_xor, Bn_shift, S8]
    · rw [show 8 * (n + 1) = 8 * n + 8 by omega, Nat.pow_add] at h
      exact Nat.div_lt_of_lt_mul (by omega)

/-- P2.11: some bits within 32 that stand together. -/
theorem crc_burst (n at_ mask : Nat) (h : at_ + 32 ≤ 8 * n) (hm : mask < 4294967296) (h0 : mask ≠ 0) : crc 0 (bytesOf n (mask * 2 ^ at_)) ≠ 0 := by
  rw [crc_bytes]
  · rw [Nat.zero_xor, show 8 * n = at_ + (8 * n - at_) by omega, Bn_add, Bn_shift]
    exact Bn_ne _ _ hm h0
  · refine Nat.lt_of_lt_of_le (Nat.mul_lt_mul_of_pos_right (show mask < 2 ^ 32 from hm) (Nat.two_pow_pos _)) ?_
    rw [← Nat.pow_add]
    exact Nat.pow_le_pow_right (by decide) (by omega)

/-- Four bits at a time, by a table. -/
def tab : List Nat := [0x00000000, 0x1db71064, 0x3b6e20c8, 0x26d930ac, 0x76dc4190, 0x6b6b51f4, 0x4db26158, 0x5005713c, 0xedb88320, 0xf00f9344, 0xd6d6a3e8, 0xcb61b38c, 0x9b64c2b0, 0x86d3d2d4, 0xa00ae278, 0xbdbdf21c]
def tabAt (i : Nat) : Nat := tab.getD i 0
theorem tab_low : ∀ i : Fin 16, Bn 4 i.1 = tabAt i.1 := by decide
theorem four (r : Nat) : r / 16 ^^^ tabAt (r % 16) = Bn 4 r := by
  have p := xor_parts 4 (r / 16) (r % 16) (Nat.mod_lt _ (by decide))
  rw [show r / 16 * 2 ^ 4 + r % 16 = r by omega] at p
  rw [← tab_low ⟨r % 16, Nat.mod_lt _ (by decide)⟩]
  conv => rhs; rw [← p]
  rw [Bn_xor, Bn_shift]
theorem S8_four (r b : Nat) : Bn 4 (Bn 4 (r ^^^ b)) = S8 r b := by rw [← Bn_add]; rfl

/-- The checksum. -/
def sumOf (l : List Nat) : Nat := 4294967295 ^^^ crc 4294967295 l
theorem sumOf_lt (l : List Nat) (h : ∀ x ∈ l, x < 256) : sumOf l < 4294967296 := Nat.xor_lt_two_pow (n := 32) (by omega) (crc_lt l _ (by omega) h)
theorem xor_cancel (m a b c : Nat) : m ^^^ (a ^^^ b ^^^ c) = m ^^^ a ^^^ (m ^^^ b) ^^^ (m ^^^ c) := by
  apply Nat.eq_of_testBit_eq
  intro i
  simp only [Nat.testBit_xor]
  cases a.testBit i <;> cases b.testBit i <;> cases c.testBit i <;> cases m.testBit i <;> rfl
theorem zip_zero : (l : List Nat) → List.zipWith (· ^^^ ·) l (List.replicate l.length 0) = l
  | [] => rfl
  | x :: l => by simp [List.replicate_succ, zip_zero l]
theorem sum_three (a b : List Nat) (h : a.length = b.length) :
    sumOf (List.zipWith (· ^^^ ·) a b) = sumOf a ^^^ sumOf b ^^^ sumOf (List.replicate a.length 0) := by
  unfold sumOf
  rw [← xor_cancel]
  congr 1
  rw [← crc_xor a b _ _ h, ← crc_xor _ _ _ _ (by simp [h])]
  congr 1
  rw [show a.length = (List.zipWith (· ^^^ ·) a b).length by simp [h], zip_zero]
theorem sum_burst (x d : List Nat) (n at_ mask : Nat) (hx : x.length = n) (hd : d = bytesOf n (mask * 2 ^ at_)) (h : at_ + 32 ≤ 8 * n) (hm : mask < 4294967296) (h0 : mask ≠ 0) :
    sumOf (List.zipWith (· ^^^ ·) x d) ≠ sumOf x := by
  unfold sumOf
  intro q
  have q1 : ∀ u v : Nat, 4294967295 ^^^ u = 4294967295 ^^^ v → u = v := by
    intro u v e
    have : 4294967295 ^^^ (4294967295 ^^^ u) = 4294967295 ^^^ (4294967295 ^^^ v) := by rw [e]
    simpa [← Nat.xor_assoc] using this
  have q := q1 _ _ q
  have e := crc_xor x d 4294967295 0 (by rw [hd]; simp [hx])
  rw [Nat.xor_zero, q] at e
  refine xor_ne (crc_burst n at_ mask h hm h0) ?_ (a := crc 4294967295 x)
  rw [hd] at e
  exact e.symm

/-! Bits that are turned one by one. -/

def turned (x : List Nat) (m : Nat) : List Nat := List.zipWith (· ^^^ ·) x (bytesOf x.length m)
@[simp] theorem turned_length (x : List Nat) (m : Nat) : (turned x m).length = x.length := by simp [turned]
theorem turned_get (x : List Nat) (m j : Nat) (h : j < x.length) : (turned x m).getD j 0 = x.getD j 0 ^^^ byteOf m j := by
  simp [turned, bytesOf, h]
theorem turned_zero (x : List Nat) : turned x 0 = x := by
  unfold turned
  have : bytesOf x.length 0 = List.replicate x.length 0 := by
    refine List.eq_replicate_iff.2 ⟨by simp, fun b hb => ?_⟩
    obtain ⟨j, _, rfl⟩ := List.mem_map.1 hb
    simp [byteOf]
  rw [this, zip_zero]
theorem ext_getD {a b : List Nat} (h : a.length = b.length) (q : ∀ j, j < a.length → a.getD j 0 = b.getD j 0) : a = b := by
  apply List.ext_getElem h
  intro j h1 h2
  have := q j h1
  simpa [h1, h2] using this
theorem turned_step (x : List Nat) (m p : Nat) (h : p / 8 < x.length) :
    turned x (m ^^^ 2 ^ p) = (turned x m).set (p / 8) ((turned x m).getD (p / 8) 0 ^^^ 2 ^ (p % 8)) := by
  apply ext_getD (by simp)
  intro j hj
  have hj : j < x.length := by simpa using hj
  rw [turned_get _ _ _ hj, byteOf_xor, byteOf_pow, turned_get _ _ _ h]
  by_cases q : j = p / 8
  · subst q
    rw [if_pos rfl]
    simp [h, Nat.xor_assoc]
  · rw [if_neg q, Nat.xor_zero]
    have : ((turned x m).set (p / 8) (x.getD (p / 8) 0 ^^^ byteOf m (p / 8) ^^^ 2 ^ (p % 8))).getD j 0 = (turned x m).getD j 0 := by
      simp only [List.getD_eq_getElem?_getD]
      rw [List.getElem?_set_ne (by omega)]
    rw [this, turned_get _ _ _ hj]
theorem mask_step (mask i at_ : Nat) : mask % 2 ^ (i + 1) * 2 ^ at_ = if mask / 2 ^ i % 2 = 1 then (mask % 2 ^ i * 2 ^ at_) ^^^ 2 ^ (at_ + i) else mask % 2 ^ i * 2 ^ at_ := by
  have h := Nat.mod_pow_succ (x := mask) (b := 2) (k := i)
  rw [h]
  rcases Nat.mod_two_eq_zero_or_one (mask / 2 ^ i) with q | q
  · rw [q, if_neg (by decide)]; simp
  · rw [q, if_pos rfl]
    have p := xor_parts i 1 (mask % 2 ^ i) (Nat.mod_lt _ (Nat.two_pow_pos i))
    rw [Nat.mul_one, Nat.add_comm, ← Nat.one_mul (2 ^ i), Nat.one_mul (2 ^ i)]
    rw [Nat.one_mul] at p
    rw [← p]
    have e := Nat.shiftLeft_xor_distrib (a := 2 ^ i) (b := mask % 2 ^ i) (i := at_)
    simp only [Nat.shiftLeft_eq] at e
    rw [e, ← Nat.pow_add, Nat.add_comm i, Nat.xor_comm]
theorem turned_bytes {x : List Nat} (m : Nat) (h : ∀ b ∈ x, b < 256) : ∀ b ∈ turned x m, b < 256 := by
  intro b hb
  obtain ⟨j, hj, rfl⟩ := List.getElem_of_mem hb
  have hj' : j < x.length := by simpa using hj
  have e := turned_get x m j hj'
  have e : (turned x m)[j] = x[j] ^^^ byteOf m j := by simpa [hj, hj'] using e
  rw [e]
  exact Nat.xor_lt_two_pow (n := 8) (h _ (List.getElem_mem hj')) (Nat.mod_lt _ (by decide))
theorem sum_turned (x : List Nat) (at_ mask : Nat) (h : at_ + 32 ≤ 8 * x.length) (hm : mask < 4294967296) (h0 : mask ≠ 0) : sumOf (turned x (mask * 2 ^ at_)) ≠ sumOf x :=
  sum_burst x _ x.length at_ mask rfl rfl h hm h0

/-! Numbers of a fixed size. -/

def fromB : List Nat → Nat
  | [] => 0
  | b :: l => b + 256 * fromB l
theorem fromB_append : (l r : List Nat) → fromB (l ++ r) = fromB l + 256 ^ l.length * fromB r
  | [], r => by simp [fromB]
  | x :: l, r => by
    simp only [List.cons_append, fromB, List.length_cons, Nat.pow_succ]
    rw [fromB_append l r, Nat.mul_add, ← Nat.mul_assoc, Nat.mul_comm 256 (256 ^ l.length)]
    omega
theorem fromB_lt : (l : List Nat) → (∀ x ∈ l, x < 256) → fromB l < 256 ^ l.length
  | [], _ => by simp [fromB]
  | x :: l, h => by
    have := fromB_lt l (fun y hy => h y (by simp [hy]))
    have := h x (by simp)
    simp only [fromB, List.length_cons, Nat.pow_succ]
    omega
theorem fromB_take_succ (l : List Nat) (i : Nat) (h : i < l.length) : fromB (l.take (i + 1)) = fromB (l.take i) + 256 ^ i * l.getD i 0 := by
  rw [List.take_succ_eq_append_getElem h, fromB_append]
  simp [fromB, h, Nat.le_of_lt h]
theorem fromB_drop (l : List Nat) (i : Nat) (h : i < l.length) : fromB (l.drop i) = l.getD i 0 + 256 * fromB (l.drop (i + 1)) := by
  rw [List.drop_eq_getElem_cons h]
  simp [fromB, h]
theorem fromB_bytesOf : (k n : Nat) → fromB (bytesOf k n) = n % 256 ^ k
  | 0, n => by simp [bytesOf, fromB, Nat.mod_one]
  | k + 1, n => by
    rw [bytesOf_succ, fromB, fromB_bytesOf k, Nat.pow_succ, Nat.mul_comm (256 ^ k), Nat.mod_mul]
theorem fromB_zero (k : Nat) : fromB (List.replicate k 0) = 0 := by
  induction k with
  | zero => rfl
  | succ k ih => simp [List.replicate_succ, fromB, ih]
theorem bytesOf_lt (n m : Nat) : ∀ x ∈ bytesOf n m, x < 256 := by
  intro x hx
  obtain ⟨j, _, rfl⟩ := List.mem_map.1 hx
  exact Nat.mod_lt _ (by decide)

end Go.QK
