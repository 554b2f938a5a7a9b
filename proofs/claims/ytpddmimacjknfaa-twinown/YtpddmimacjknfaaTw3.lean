import Derived.Test.YtpddmimacjknfaaTw2
namespace Go.Proofs.Ytpddmimacjknfaa
open Go.RowKit Go.QK
set_option maxRecDepth 100000

theorem div256 (n j : Nat) : ((n : Int) / 2 ^ (8 * j) % 256) = ((n / 256 ^ j % 256 : Nat) : Int) := by
  have e : (256 : Nat) ^ j = 2 ^ (8 * j) := by rw [Nat.pow_mul]
  rw [e, Int.natCast_emod, Int.natCast_ediv, Int.natCast_pow]
  rfl
/-- A marker's first j bytes. -/
def mkP (h : Nat) : Nat → List Nat
  | 0 => zerosB
  | j + 1 => (mkP h j).set j (h / 256 ^ j % 256)
theorem mkP_length (h : Nat) : (j : Nat) → (mkP h j).length = 512
  | 0 => zerosB_length
  | j + 1 => by unfold mkP; rw [List.length_set, mkP_length h j]
theorem mkP_mkB (h st : Nat) : (mkP h 4).set 511 st = mkB h st := by
  unfold mkB
  show (((((zerosB.set 0 (h / 256 ^ 0 % 256)).set 1 (h / 256 ^ 1 % 256)).set 2 (h / 256 ^ 2 % 256)).set 3 (h / 256 ^ 3 % 256)).set 511 st) = _
  have e0 : (256 : Nat) ^ 0 = 1 := by decide
  have e1 : (256 : Nat) ^ 1 = 256 := by decide
  have e2 : (256 : Nat) ^ 2 = 65536 := by decide
  have e3 : (256 : Nat) ^ 3 = 16777216 := by decide
  rw [e0, e1, e2, e3, Nat.div_one]
set_option maxHeartbeats 2000000 in
theorem markerOf_any (h st : Nat) (w : World) :
    Calls Try.prog 34 #[.int .i64 (h : Int), .int .u8 (st : Int)] w fun e w' => e = .returned (.agg (bytesV (mkB h st))) ∧ Below w.heap.size w w' := by
  have Z := zero_run
  obtain ⟨w1, hw1⟩ : ∃ w1, w1 = w.alloc (.cells (bytesV zerosB) 76) := ⟨_, rfl⟩
  have b1 : Below w.heap.size w w1 := by rw [hw1]; exact alloc_below _ _
  have a1 : Arr w1 76 w.heap.size zerosB := by rw [hw1]; exact Arr.new w 76 zerosB
  have z1 : w1.heap.size = w.heap.size + 1 := by rw [hw1]; simp
  obtain ⟨w2, hw2⟩ : ∃ w2, w2 = w1.alloc (.cells (bytesV zerosB) 76) := ⟨_, rfl⟩
  have b2 : Below w1.heap.size w1 w2 := by rw [hw2]; exact alloc_below _ _
  have a2 : Arr w2 76 w1.heap.size zerosB := by rw [hw2]; exact Arr.new w1 76 zerosB
  have z2 : w2.heap.size = w.heap.size + 2 := by rw [hw2]; simp; omega
  have a3 := a1.below b2
  have B2 := hide (bnext b1 b2 (Nat.le_refl _))
  have HW1 := hide hw1
  have HW2 := hide hw2
  obtain ⟨p, hp⟩ : ∃ p, p = w.heap.size := ⟨_, rfl⟩
  obtain ⟨q, hq⟩ : ∃ q, q = w.heap.size + 1 := ⟨_, rfl⟩
  have hpq : p ≠ q := by omega
  rw [← hp] at a3
  rw [z1, ← hq] at a2
  have A2 := hide a2
  have A3 := hide a3
  have HP := hide hp
  have HQ := hide hq
  clear hw1 hw2 b1 b2 a1 a2 a3 hp hq
  go_enter Try.func34, Try.ntmps34
  go_upto_region 1 with fail
  rw [← HW1.out, ← HP.out]
  go_upto_region 2 with fail
  rw [← HW2.out, ← HQ.out]
  clear HW1 HW2
  go_wp2_with fail
  go_loopw [7] (fun i wr => ∃ j : Nat, i = .int .i64 (j : Int) ∧ j ≤ 4 ∧ Arr wr 76 q (mkP h j) ∧ Keep (fun b => b = q) w2 wr) (fun i _ => (5 - (intOf i).toNat))
  case atStart => exact ⟨0, rfl, Nat.zero_le _, A2.out, Keep.refl _ _⟩
  case round =>
    obtain ⟨j, rfl, hj, hA, hK⟩ := hrel
    have HA := hide hA
    have HK := hide hK
    have hlen := mkP_length h j
    clear hA hK
    by_cases hlt : j < 4
    · have hd : decide ((j : Int) < 4) = true := by simp; omega
      have hfz := HA.out.frozen j
      have hcl := HA.out.cell j (by omega)
      go_wp2_with fail
      go_roundw
      case rel =>
        refine ⟨j + 1, by go_num, hlt, ?_, HK.out.setCell (fun _ => rfl) _⟩
        rw [div256]
        exact HA.out.set j _
      case measure => simp [intOf]; omega
    · have hd : decide ((j : Int) < 4) = false := by simp; omega
      obtain rfl : j = 4 := by omega
      have hfz := HA.out.frozen 511
      have hcl := HA.out.cell 511 (by omega)
      have a5 := HA.out.set 511 st
      have k5 := HK.out.setCell (g := q) (j := 511) (fun _ => rfl) (.int .u8 (st : Int))
      rw [mkP_mkB] at a5
      have k3 := A3.out.keep k5 hpq
      have A5 := hide a5
      have K5 := hide k5
      have K3 := hide k3
      clear a5 k5 k3 HA HK A3 A2
      go_wp2_with fail
      refine wp_load_arr (.tmp 5) (by rfl) q (by rfl) (mkB h st) A5.out (mkB_length _ _) ?_
      obtain ⟨w9, X9, a9, k9⟩ := cells_arr (M := mkB h st) K3.out zerosB_length (mkB_length _ _)
      have L9 := load_arr a9 (mkB_length h st)
      have B9 := hide (B2.out.trans ((K5.out.mono (T := fun b => b = p ∨ b = q) (fun _ _ r => .inr r)).trans k9 (fun _ _ r => .inl r) |>.below (by omega) (fun k hk r => by have := HP.out; have := HQ.out; omega)))
      clear K3 A5 K5 hfz hcl a9 k9
      go_wp2_with fail
      refine bodyPost_ret (v := .agg (bytesV (mkB h st))) ?_ rfl ⟨rfl, B9.out⟩
      simp only [Instr.loadAt, Instr.sureAddr, Sem.run_bind, Sem.run_pure, Result.andThen] at L9
      simp [results, Try.results34, asAddr, L9]

/-- The number of a marker's first j bytes. -/
def homeP (x : List Nat) : Nat → Nat
  | 0 => 0
  | j + 1 => homeP x j + 2 ^ (8 * j) * x.getD j 0
theorem homeP_four (x : List Nat) : homeP x 4 = homeN x := by
  show 0 + 2 ^ (8 * 0) * x.getD 0 0 + 2 ^ (8 * 1) * x.getD 1 0 + 2 ^ (8 * 2) * x.getD 2 0 + 2 ^ (8 * 3) * x.getD 3 0 = _
  unfold homeN
  omega
theorem homeP_lt (x : List Nat) (hx : AllB x) : (j : Nat) → homeP x j < 2 ^ (8 * j)
  | 0 => by show 0 < 2 ^ 0; decide
  | j + 1 => by
    have ih := homeP_lt x hx j
    have hb := hx.get j
    have e : (2 : Nat) ^ (8 * (j + 1)) = 2 ^ (8 * j) * 256 := by rw [Nat.mul_add, Nat.pow_add]
    unfold homeP
    rw [e]
    have : 2 ^ (8 * j) * x.getD j 0 ≤ 2 ^ (8 * j) * 255 := Nat.mul_le_mul_left _ (by omega)
    omega
theorem or_join (n x k : Nat) (hn : n < 2 ^ k) (h : n + 2 ^ k * x < 2 ^ 62) : bits .or .i64 (n : Int) ((2 ^ k * x : Nat) : Int) = ((n + 2 ^ k * x : Nat) : Int) := by
  have := (bits_nat .i64 62 (by decide) (fun z h0 h1 => by rw [IntKind.wrap_i64]; omega) n (2 ^ k * x) (by omega) (by omega)).2
  rw [this, Nat.or_comm, ← Nat.two_pow_add_eq_or_of_lt hn, Nat.add_comm]
set_option maxHeartbeats 2000000 in
theorem home_any (x : List Nat) (w : World) (hl : x.length = 512) (hb : AllB x) :
    Calls Try.prog 42 #[.agg (bytesV x)] w fun e w' => e = .returned (.int .i64 ((homeN x : Nat) : Int)) ∧ Below w.heap.size w w' := by
  obtain ⟨w1, hw1⟩ : ∃ w1, w1 = w.alloc (.cells (bytesV x) 76) := ⟨_, rfl⟩
  have b1 : Below w.heap.size w w1 := by rw [hw1]; exact alloc_below _ _
  have a1 : Arr w1 76 w.heap.size x := by rw [hw1]; exact Arr.new w 76 x
  have HW1 := hide hw1
  have B1 := hide b1
  have A1 := hide a1
  clear hw1 b1 a1
  go_enter Try.func42, Try.ntmps42
  go_upto_region 1 with fail
  rw [← HW1.out]
  clear HW1
  go_wp2_with fail
  go_loopw [3, 5] (fun n i wr => ∃ j : Nat, i = .int .i64 (j : Int) ∧ j ≤ 4 ∧ n = .int .i64 ((homeP x j : Nat) : Int) ∧ wr = w1) (fun _ i _ => (5 - (intOf i).toNat))
  case atStart => exact ⟨0, rfl, Nat.zero_le _, rfl, rfl⟩
  case round =>
    obtain ⟨j, rfl, hj, rfl, rfl⟩ := hrel
    by_cases hlt : j < 4
    · have hd : decide ((j : Int) < 4) = true := by simp; omega
      have hcl := A1.out.cell j (by omega)
      have h1 := homeP_lt x hb j
      have h2 := homeP_lt x hb (j + 1)
      have h3 : (2 : Nat) ^ (8 * (j + 1)) ≤ 2 ^ 32 := Nat.pow_le_pow_right (by decide) (by omega)
      have hstep : homeP x (j + 1) = homeP x j + 2 ^ (8 * j) * x.getD j 0 := rfl
      have hx := hb.get j
      generalize x.getD j 0 = y at *
      generalize homeP x j = n at *
      have h4 : (2 : Nat) ^ 32 = 4294967296 := by decide
      have h5 : (2 : Nat) ^ 62 = 4611686018427387904 := by decide
      have hj2 := or_join n y (8 * j) h1 (by rw [h5]; omega)
      have q : ((y : Int) * 2 ^ (8 * j)) = ((2 ^ (8 * j) * y : Nat) : Int) := by
        rw [Int.natCast_mul, Int.mul_comm]
        simp
      have eW : IntKind.i64.wrap ((y : Int) * 2 ^ (8 * j)) = ((2 ^ (8 * j) * y : Nat) : Int) := by
        rw [q]
        generalize 2 ^ (8 * j) * y = z at *
        rw [IntKind.wrap_i64]
        omega
      have e3 : bits .or .i64 (n : Int) (IntKind.i64.wrap ((y : Int) * 2 ^ (8 * j))) = ((homeP x (j + 1) : Nat) : Int) := by
        rw [eW, hstep, hj2]
      rw [IntWalk.i64_left] at e3
      have e2 : IntKind.i64.wrap (y : Int) = (y : Int) := wrap_small _ (by omega)
      have E3 := hide e3
      clear e3 h1 h2 h3 hstep h4 h5 hj2 q eW
      go_wp2_with fail
      refine ⟨⟨j + 1, by go_num, by omega, ?_, trivial⟩, by simp [intOf]; omega⟩
      exact congrArg (Value.int .i64) E3.out
    · have hd : decide ((j : Int) < 4) = false := by simp; omega
      obtain rfl : j = 4 := by omega
      rw [homeP_four]
      go_wp2_with fail
      go_ret
      exact ⟨rfl, B1.out⟩
end Go.Proofs.Ytpddmimacjknfaa
