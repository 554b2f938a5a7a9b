import Derived.Test.YtakjpljpdlhicaaDoorPg24
namespace Go.Proofs.YtakjpljpdlhicaaDoor
open Go.RowKit Go.QK Go.Pg
set_option maxRecDepth 100000
/-! The document's own reading. -/
set_option maxHeartbeats 2000000 in
theorem rget_any (a : Option Addr) (c pos size : Nat) (l : List Nat) (w : World) (hs : Bytes w a l) (hb : AllB l) (hl : l.length ≤ 1000000) (h8 : size ≤ 8) (h2 : pos + size ≤ l.length) :
    Calls Tryd.prog 59 #[.slice a l.length c, .int .i64 (pos : Int), .int .i64 (size : Int)] w fun e w' => e = .returned (.int .u64 ((QK.fromB ((l.drop pos).take size) : Nat) : Int)) ∧ w' = w := by
  obtain ⟨m, hm⟩ : ∃ m, m = (l.drop pos).take size := ⟨_, rfl⟩
  have hml : m.length = size := by rw [hm]; simp; omega
  have hmb : AllB m := by rw [hm]; exact (hb.drop _).take _
  have hget : ∀ j, j < size → ∃ b off, a = some ⟨b, off, none⟩ ∧ b < w.heap.size ∧ w.cell? ⟨b, off + (pos + j), none⟩ = some (.int .u8 ((m.getD j 0 : Nat) : Int)) := by
    intro j hj
    obtain ⟨b, off, h1, h3, h4⟩ := hs.at (i := pos + j) (by omega)
    refine ⟨b, off, h1, h3, ?_⟩
    rw [h4, hm]
    simp [hj, List.getElem?_drop]
  rw [← hm]
  have HG := hide hget
  have HML := hide hml
  clear hget hs hb hm hml
  have e0 : IntKind.i64.wrap ((size : Int) - 1) = (size : Int) - 1 := by rw [IntKind.wrap_i64]; omega
  go_enter Tryd.func59, Tryd.ntmps59
  go_wp2_with fail
  go_loopw [7, 8] (fun n i ws => ∃ (k : Nat) (z : Int), i = .int .i64 z ∧ z = (k : Int) - 1 ∧ k ≤ size ∧ n = .int .u64 ((QK.fromB (m.drop k) : Nat) : Int) ∧ ws = w) (fun _ i _ => (intOf i + 1).toNat)
  case atStart => exact ⟨size, _, rfl, rfl, Nat.le_refl _, by rw [List.drop_of_length_le (by rw [HML.out]; exact Nat.le_refl _)]; rfl, rfl⟩
  case round =>
    obtain ⟨k, z, rfl, hz, hk, rfl, rfl⟩ := hrel
    cases k with
    | zero =>
      obtain rfl : z = -1 := by omega
      rw [List.drop_zero]
      clear hz
      go_wp2_with fail
      go_ret
      exact ⟨rfl, rfl⟩
    | succ j =>
      obtain rfl : z = (j : Int) := by omega
      obtain ⟨b, off, rfl, hbl, hc⟩ := HG.out j (by omega)
      have hd := fromB_drop m j (by rw [HML.out]; omega)
      have hlt := fromB_lt (m.drop (j + 1)) (hmb.drop _)
      rw [List.length_drop, HML.out] at hlt
      have hp : 256 ^ (size - (j + 1)) ≤ 256 ^ 7 := Nat.pow_le_pow_right (by decide) (by omega)
      have hc7 : (256 : Nat) ^ 7 = 72057594037927936 := by decide
      have hx := hmb.get j
      generalize QK.fromB (m.drop (j + 1)) = n at *
      generalize hN : QK.fromB (m.drop j) = n1 at *
      generalize m.getD j 0 = x at *
      have e1 : IntKind.u64.wrap ((n : Int) * 256) = ((256 * n : Nat) : Int) := by rw [IntKind.wrap_u64]; omega
      have e1b : IntKind.u64.wrap ((n : Int) * 2 ^ 8) = ((256 * n : Nat) : Int) := by rw [IntKind.wrap_u64]; omega
      have e2 : IntKind.u64.wrap (x : Int) = (x : Int) := by rw [IntKind.wrap_u64]; omega
      obtain ⟨nn, hnn⟩ : ∃ nn, nn = 256 * n := ⟨_, rfl⟩
      rw [← hnn] at e1 e1b
      have e3 : bits .or .u64 (nn : Int) (x : Int) = (n1 : Int) := by
        have q := or_join_u64 x n 8 (by omega) (by omega)
        have q2 := bits_or_u64_nat nn x (by omega) (by omega)
        have q3 := bits_or_u64_nat x (2 ^ 8 * n) (by omega) (by omega)
        rw [q2, Nat.or_comm]
        rw [q3] at q
        have : nn = 2 ^ 8 * n := by omega
        rw [this, q]
        congr 1
        omega
      have e4 : IntKind.i64.wrap ((pos : Int) + (j : Int)) = ((pos + j : Nat) : Int) := by rw [IntKind.wrap_i64]; omega
      have e5 : IntKind.i64.wrap ((j : Int) - 1) = (j : Int) - 1 := by rw [IntKind.wrap_i64]; omega
      obtain ⟨pj, hpj⟩ : ∃ pj, pj = pos + j := ⟨_, rfl⟩
      rw [← hpj] at hc e4
      have hpl : pj < l.length := by omega
      have HN := hide hN
      clear hd hlt hp hc7 hN hnn hpj hz
      go_wp2_with fail
      go_roundw
      case rel => exact ⟨j, _, rfl, rfl, by omega, by rw [HN.out], trivial⟩
      case measure => simp [intOf]
set_option maxHeartbeats 2000000 in
theorem rzeros_any (a : Option Addr) (c : Nat) (l : List Nat) (from_ : Nat) (w : World) (hs : Bytes w a l) (hb : AllB l) (hl : l.length ≤ 1000000) (hf : from_ ≤ l.length) :
    Calls Tryd.prog 58 #[.slice a l.length c, .int .i64 (from_ : Int)] w fun e w' => e = .returned (.bool (allZ (l.drop from_))) ∧ w' = w := by
  go_enter Tryd.func58, Tryd.ntmps58
  go_wp2_with fail
  go_loopw [5] (fun i ws => ∃ k : Nat, i = .int .i64 (k : Int) ∧ from_ ≤ k ∧ k ≤ l.length ∧ allZ ((l.drop from_).take (k - from_)) = true ∧ ws = w) (fun i _ => l.length - (intOf i).toNat)
  case atStart => exact ⟨from_, rfl, Nat.le_refl _, hf, by rw [Nat.sub_self]; rfl, rfl⟩
  case round =>
    obtain ⟨k, rfl, hfk, hk, hz, rfl⟩ := hrel
    by_cases hlt : k < l.length
    · obtain ⟨b, off, rfl, hbl, hc⟩ := hs.at hlt
      have hg : (l.drop from_).getD (k - from_) 0 = l.getD k 0 := by
        simp only [List.getD_eq_getElem?_getD, List.getElem?_drop]
        congr 2
        omega
      have hz1 := allZ_take hz (by simp; omega)
      have HF := hide (allZ_take_false (l := l.drop from_) (k := k - from_))
      rw [hg] at hz1 HF
      have hx := hb.get k
      generalize l.getD k 0 = x at *
      by_cases h0 : x = 0
      · subst h0
        have hkk : k - from_ + 1 = k + 1 - from_ := by omega
        rw [hkk] at hz1
        have HZ := hide hz1
        clear hz1 hz HF hg hkk
        go_wp2_with fail
        go_roundw
        case rel => exact ⟨k + 1, by go_num, by omega, by omega, by rw [HZ.out]; rfl, trivial⟩
        case measure => simp [intOf]; omega
      · have hd : ((x : Int) != 0) = true := by simp; omega
        have HE := hide (HF.out h0)
        clear hz1 hz HF hg
        go_wp2_with fail
        go_ret
        exact ⟨by rw [HE.out]; rfl, rfl⟩
    · obtain rfl : k = l.length := by omega
      rw [List.take_of_length_le (by simp)] at hz
      have HE := hide hz
      clear hz
      go_wp2_with fail
      go_ret
      exact ⟨by rw [HE.out]; rfl, rfl⟩
set_option maxHeartbeats 2000000 in
theorem faultOf_any (ck : CtrM) (w : World) : Calls Tryd.prog 63 #[.agg #[.int .i64 ck.id, .int .i64 ck.grp, .int .i64 ck.lo, .int .i64 ck.hi, .int .i64 ck.val]] w fun e w' => e = .returned (.int .i64 (ctrE ck)) ∧ Below w.heap.size w w' := by
  obtain ⟨id, grp, lo, hi, val⟩ := ck
  obtain ⟨RES, hres⟩ : ∃ r, r = ctrE ⟨id, grp, lo, hi, val⟩ := ⟨_, rfl⟩
  rw [← hres]
  unfold ctrE at hres
  by_cases h1 : id < 1
  · have d1 : decide (id < 1) = true := by simp [h1]
    have HV := hide (show RES = 23 by rw [hres]; exact if_neg (by simp [okN]; omega))
    clear hres
    go_enter Tryd.func63, Tryd.ntmps63
    go_wp2_with fail
    go_ret
    exact ⟨by rw [HV.out]; rfl, alloc_below _ _⟩
  have d1 : decide (id < 1) = false := by simp [h1]
  by_cases h2 : 1048576 < id
  · have d2 : decide (1048576 < id) = true := by simp [h2]
    have HV := hide (show RES = 23 by rw [hres]; exact if_neg (by simp [okN]; omega))
    clear hres
    go_enter Tryd.func63, Tryd.ntmps63
    go_wp2_with fail
    go_ret
    exact ⟨by rw [HV.out]; rfl, alloc_below _ _⟩
  have d2 : decide (1048576 < id) = false := by simp [h2]
  by_cases h3 : grp < 1
  · have d3 : decide (grp < 1) = true := by simp [h3]
    have HV := hide (show RES = 23 by rw [hres]; exact if_neg (by simp [okN]; omega))
    clear hres
    go_enter Tryd.func63, Tryd.ntmps63
    go_wp2_with fail
    go_ret
    exact ⟨by rw [HV.out]; rfl, alloc_below _ _⟩
  have d3 : decide (grp < 1) = false := by simp [h3]
  by_cases h4 : 1048576 < grp
  · have d4 : decide (1048576 < grp) = true := by simp [h4]
    have HV := hide (show RES = 23 by rw [hres]; exact if_neg (by simp [okN]; omega))
    clear hres
    go_enter Tryd.func63, Tryd.ntmps63
    go_wp2_with fail
    go_ret
    exact ⟨by rw [HV.out]; rfl, alloc_below _ _⟩
  have d4 : decide (1048576 < grp) = false := by simp [h4]
  have hok : (okN id && okN grp) = true := by simp [okN]; omega
  simp only [hok, if_true] at hres
  by_cases h5 : hi < lo
  · have d5 : decide (hi < lo) = true := by simp [h5]
    have HV := hide (show RES = 11 by rw [hres, if_pos h5])
    clear hres
    go_enter Tryd.func63, Tryd.ntmps63
    go_wp2_with fail
    go_ret
    exact ⟨by rw [HV.out]; rfl, alloc_below _ _⟩
  · have d5 : decide (hi < lo) = false := by simp [h5]
    have HV := hide (show RES = 0 by rw [hres, if_neg h5])
    clear hres
    go_enter Tryd.func63, Tryd.ntmps63
    go_wp2_with fail
    go_ret
    exact ⟨by rw [HV.out]; rfl, alloc_below _ _⟩
theorem B1_step (r : Nat) : B1 r = if r % 2 = 1 then r / 2 ^^^ poly else r / 2 := by
  unfold B1
  split <;> simp
theorem hollow_take (l : List Nat) (hl : l.length = 1024) (k : Nat) (hk : k < 1024) : (hollow l).take (k + 1) = (hollow l).take k ++ [if 12 ≤ k ∧ k < 16 then 0 else l.getD k 0] := by
  have h1 := hollow_length l hl
  rw [List.take_succ_eq_append_getElem (by omega), ← hollow_getD l hl k]
  congr 2
  simp [h1, hk]
set_option maxHeartbeats 4000000 in
theorem rsum_any (a : Option Addr) (c : Nat) (l : List Nat) (w : World) (hs : Bytes w a l) (hb : AllB l) (hl : l.length = 1024) :
    Calls Tryd.prog 39 #[.slice a 1024 c] w fun e w' => e = .returned (.int .u32 ((psum l : Nat) : Int)) ∧ w' = w := by
  have hhb := hollow_bytes hb
  have hsz : ∀ k, crc 4294967295 ((hollow l).take k) < 4294967296 := fun k => crc_lt _ _ (by decide) (hhb.take k)
  have HE := hide (show psum l = 4294967295 ^^^ crc 4294967295 (hollow l) from rfl)
  have HHL := hide (hollow_length l hl)
  go_enter Tryd.func39, Tryd.ntmps39
  go_wp2_with fail
  go_loopw [3, 4] (fun r i ws => ∃ k : Nat, i = .int .i64 (k : Int) ∧ k ≤ 1024 ∧ r = .int .u32 ((crc 4294967295 ((hollow l).take k) : Nat) : Int) ∧ ws = w) (fun _ i _ => 1024 - (intOf i).toNat)
  case atStart => exact ⟨0, rfl, Nat.zero_le _, rfl, rfl⟩
  case round =>
    obtain ⟨k, rfl, hk, rfl, rfl⟩ := hrel
    by_cases hlt : k < 1024
    · obtain ⟨b, off, rfl, hbl, hc⟩ := hs.at (i := k) (by omega)
      have hx := hb.get k
      have ht := hollow_take l hl k hlt
      have hr := hsz k
      have d0 : decide ((k : Int) < 1024) = true := by simp; omega
      have hstep : ∀ y, (if 12 ≤ k ∧ k < 16 then 0 else l.getD k 0) = y → crc 4294967295 ((hollow l).take (k + 1)) = Bn 8 (crc 4294967295 ((hollow l).take k) ^^^ y) := by
        intro y hy
        rw [ht, hy, crc_append]
        rfl
      generalize l.getD k 0 = x at *
      generalize crc 4294967295 ((hollow l).take k) = r at *
      have HST := hide hstep
      clear ht hstep
      by_cases hin : 12 ≤ k ∧ k < 16
      · have d1 : decide (12 ≤ (k : Int)) = true := by simp; omega
        have d2 : decide ((k : Int) ≥ 12) = true := by simp; omega
        have d3 : decide ((k : Int) < 16) = true := by simp; omega
        have HS := hide (HST.out 0 (if_pos hin))
        rw [Nat.xor_zero] at HS
        have z0 : IntKind.u32.wrap 0 = 0 := by decide
        have z1 : bits .xor .u32 (r : Int) 0 = (r : Int) := by have q := xor_u32 r 0 hr (by decide); rw [Nat.xor_zero] at q; exact q
        go_wp2_with fail
        go_loopw [3, 6] (fun rv i ws => ∃ j : Nat, i = .int .i64 (j : Int) ∧ j ≤ 8 ∧ rv = .int .u32 ((Bn j r : Nat) : Int) ∧ ws = wr) (fun _ i _ => 8 - (intOf i).toNat)
        case atStart => exact ⟨0, rfl, Nat.zero_le _, rfl, rfl⟩
        case round =>
          obtain ⟨j, rfl, hj, rfl, hwr⟩ := hrel
          subst hwr
          by_cases hj8 : j < 8
          · have f0 : decide ((j : Int) < 8) = true := by simp; omega
            have hbl : Bn j r < 4294967296 := Bn_lt j _ (by omega)
            have hB : Bn (j + 1) r = B1 (Bn j r) := by rw [Bn_add]; rfl
            rw [B1_step] at hB
            generalize Bn j r = s at *
            have f1 := and1_u32 s hbl
            obtain ⟨lo1, hlo1⟩ : ∃ t, t = s % 2 := ⟨_, rfl⟩
            rw [← hlo1] at f1 hB
            obtain ⟨hf, hhf⟩ : ∃ t, t = s / 2 := ⟨_, rfl⟩
            have f2 : (s : Int) / 2 = (hf : Int) := by omega
            have f2b : (s : Int) / 2 ^ 1 = (hf : Int) := by omega
            rw [← hhf] at hB
            by_cases ho : lo1 = 1
            · rw [if_pos ho] at hB
              subst ho
              obtain ⟨nx, hnx⟩ : ∃ t, t = hf ^^^ poly := ⟨_, rfl⟩
              have f3 : bits .xor .u32 (hf : Int) 3988292384 = (nx : Int) := by have q := xor_u32 hf poly (by omega) (by decide); rw [← hnx] at q; exact q
              rw [← hnx] at hB
              have HB := hide hB
              clear hB hlo1 hhf hnx
              go_wp2_with fail
              go_roundw
              case rel => exact ⟨j + 1, by go_num, by omega, by rw [HB.out], trivial⟩
              case measure => simp [intOf]; omega
            · rw [if_neg ho] at hB
              obtain rfl : lo1 = 0 := by omega
              have HB := hide hB
              clear hB hlo1 hhf
              go_wp2_with fail
              go_roundw
              case rel => exact ⟨j + 1, by go_num, by omega, by rw [HB.out], trivial⟩
              case measure => simp [intOf]; omega
          · obtain rfl : j = 8 := by omega
            go_wp2_with fail
            go_roundw
            case rel => exact ⟨k + 1, by go_num, by omega, by rw [HS.out], trivial⟩
            case measure => simp [intOf]; omega
      · have HS := hide (HST.out x (if_neg hin))
        have x1 : IntKind.u32.wrap (x : Int) = (x : Int) := by rw [IntKind.wrap_u32]; omega
        obtain ⟨r1, hr1⟩ : ∃ r1, r1 = r ^^^ x := ⟨_, rfl⟩
        have x2 : bits .xor .u32 (r : Int) (x : Int) = (r1 : Int) := by rw [xor_u32 r x hr (by omega), hr1]
        have hr1l : r1 < 4294967296 := by rw [hr1]; exact Nat.xor_lt_two_pow (n := 32) (by omega) (by omega)
        rw [← hr1] at HS
        clear hr1
        by_cases h12 : 12 ≤ k
        · have d1 : decide (12 ≤ (k : Int)) = true := by simp; omega
          have d2 : decide ((k : Int) ≥ 12) = true := by simp; omega
          have d3 : decide ((k : Int) < 16) = false := by simp; omega
          go_wp2_with fail
          go_loopw [3, 6] (fun rv i ws => ∃ j : Nat, i = .int .i64 (j : Int) ∧ j ≤ 8 ∧ rv = .int .u32 ((Bn j r1 : Nat) : Int) ∧ ws = wr) (fun _ i _ => 8 - (intOf i).toNat)
          case atStart => exact ⟨0, rfl, Nat.zero_le _, rfl, rfl⟩
          case round =>
            obtain ⟨j, rfl, hj, rfl, hwr⟩ := hrel
            subst hwr
            by_cases hj8 : j < 8
            · have f0 : decide ((j : Int) < 8) = true := by simp; omega
              have hbl : Bn j r1 < 4294967296 := Bn_lt j _ (by omega)
              have hB : Bn (j + 1) r1 = B1 (Bn j r1) := by rw [Bn_add]; rfl
              rw [B1_step] at hB
              generalize Bn j r1 = s at *
              have f1 := and1_u32 s hbl
              obtain ⟨lo1, hlo1⟩ : ∃ t, t = s % 2 := ⟨_, rfl⟩
              rw [← hlo1] at f1 hB
              obtain ⟨hf, hhf⟩ : ∃ t, t = s / 2 := ⟨_, rfl⟩
              have f2 : (s : Int) / 2 = (hf : Int) := by omega
              have f2b : (s : Int) / 2 ^ 1 = (hf : Int) := by omega
              rw [← hhf] at hB
              by_cases ho : lo1 = 1
              · rw [if_pos ho] at hB
                subst ho
                obtain ⟨nx, hnx⟩ : ∃ t, t = hf ^^^ poly := ⟨_, rfl⟩
                have f3 : bits .xor .u32 (hf : Int) 3988292384 = (nx : Int) := by have q := xor_u32 hf poly (by omega) (by decide); rw [← hnx] at q; exact q
                rw [← hnx] at hB
                have HB := hide hB
                clear hB hlo1 hhf hnx
                go_wp2_with fail
                go_roundw
                case rel => exact ⟨j + 1, by go_num, by omega, by rw [HB.out], trivial⟩
                case measure => simp [intOf]; omega
              · rw [if_neg ho] at hB
                obtain rfl : lo1 = 0 := by omega
                have HB := hide hB
                clear hB hlo1 hhf
                go_wp2_with fail
                go_roundw
                case rel => exact ⟨j + 1, by go_num, by omega, by rw [HB.out], trivial⟩
                case measure => simp [intOf]; omega
            · obtain rfl : j = 8 := by omega
              go_wp2_with fail
              go_roundw
              case rel => exact ⟨k + 1, by go_num, by omega, by rw [HS.out], trivial⟩
              case measure => simp [intOf]; omega
        · have d1 : decide (12 ≤ (k : Int)) = false := by simp; omega
          have d2 : decide ((k : Int) ≥ 12) = false := by simp; omega
          go_wp2_with fail
          go_loopw [3, 6] (fun rv i ws => ∃ j : Nat, i = .int .i64 (j : Int) ∧ j ≤ 8 ∧ rv = .int .u32 ((Bn j r1 : Nat) : Int) ∧ ws = wr) (fun _ i _ => 8 - (intOf i).toNat)
          case atStart => exact ⟨0, rfl, Nat.zero_le _, rfl, rfl⟩
          case round =>
            obtain ⟨j, rfl, hj, rfl, hwr⟩ := hrel
            subst hwr
            by_cases hj8 : j < 8
            · have f0 : decide ((j : Int) < 8) = true := by simp; omega
              have hbl : Bn j r1 < 4294967296 := Bn_lt j _ (by omega)
              have hB : Bn (j + 1) r1 = B1 (Bn j r1) := by rw [Bn_add]; rfl
              rw [B1_step] at hB
              generalize Bn j r1 = s at *
              have f1 := and1_u32 s hbl
              obtain ⟨lo1, hlo1⟩ : ∃ t, t = s % 2 := ⟨_, rfl⟩
              rw [← hlo1] at f1 hB
              obtain ⟨hf, hhf⟩ : ∃ t, t = s / 2 := ⟨_, rfl⟩
              have f2 : (s : Int) / 2 = (hf : Int) := by omega
              have f2b : (s : Int) / 2 ^ 1 = (hf : Int) := by omega
              rw [← hhf] at hB
              by_cases ho : lo1 = 1
              · rw [if_pos ho] at hB
                subst ho
                obtain ⟨nx, hnx⟩ : ∃ t, t = hf ^^^ poly := ⟨_, rfl⟩
                have f3 : bits .xor .u32 (hf : Int) 3988292384 = (nx : Int) := by have q := xor_u32 hf poly (by omega) (by decide); rw [← hnx] at q; exact q
                rw [← hnx] at hB
                have HB := hide hB
                clear hB hlo1 hhf hnx
                go_wp2_with fail
                go_roundw
                case rel => exact ⟨j + 1, by go_num, by omega, by rw [HB.out], trivial⟩
                case measure => simp [intOf]; omega
              · rw [if_neg ho] at hB
                obtain rfl : lo1 = 0 := by omega
                have HB := hide hB
                clear hB hlo1 hhf
                go_wp2_with fail
                go_roundw
                case rel => exact ⟨j + 1, by go_num, by omega, by rw [HB.out], trivial⟩
                case measure => simp [intOf]; omega
            · obtain rfl : j = 8 := by omega
              go_wp2_with fail
              go_roundw
              case rel => exact ⟨k + 1, by go_num, by omega, by rw [HS.out], trivial⟩
              case measure => simp [intOf]; omega
    · obtain rfl : k = 1024 := by omega
      rw [List.take_of_length_le (by rw [HHL.out]; exact Nat.le_refl _)]
      have hend : crc 4294967295 (hollow l) < 4294967296 := crc_lt _ _ (by decide) hhb
      have e1 : bits .xor .u32 IntKind.u32.max ((crc 4294967295 (hollow l) : Nat) : Int) = ((psum l : Nat) : Int) := not_u32 _ hend
      have hsg : IntKind.u32.signed = false := rfl
      have E1 := hide e1
      clear e1
      go_wp2_with fail
      go_ret
      exact ⟨by rw [← E1.out]; rfl, rfl⟩
end Go.Proofs.YtakjpljpdlhicaaDoor
