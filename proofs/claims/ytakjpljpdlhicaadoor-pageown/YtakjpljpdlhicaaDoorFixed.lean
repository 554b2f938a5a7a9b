import Derived.Test.YtakjpljpdlhicaaDoorProg
import Derived.Test.YtakjpljpdlhicaaDoorMem
import Derived.Deep.QuietTactic
import Derived.BigQuiet
namespace Go.Proofs.YtakjpljpdlhicaaDoor
open Go.RowKit Go.QK

/-! Strings of bytes: 'string(a) == string(b)'. -/
def strOf (l : List Nat) : ByteArray := (ints l).foldl (fun r n => r.push (UInt8.ofNat n.toNat)) ByteArray.empty
theorem str_fold (l : List Nat) (b : ByteArray) : ((ints l).foldl (fun r n => r.push (UInt8.ofNat n.toNat)) b).data.toList = b.data.toList ++ l.map UInt8.ofNat := by
  induction l generalizing b with
  | nil => simp
  | cons x l ih =>
    simp only [ints, List.map_cons, List.foldl_cons] at ih ⊢
    rw [ih]
    simp [ByteArray.push]
theorem str_list (l : List Nat) : (strOf l).data.toList = l.map UInt8.ofNat := by
  have := str_fold l ByteArray.empty
  simpa [strOf] using this
theorem u8_inj {x y : Nat} (hx : x < 256) (hy : y < 256) (h : UInt8.ofNat x = UInt8.ofNat y) : x = y := by
  have := congrArg UInt8.toNat h
  simpa [UInt8.toNat_ofNat, Nat.mod_eq_of_lt hx, Nat.mod_eq_of_lt hy] using this
theorem map_u8_inj : {l m : List Nat} → AllB l → AllB m → l.map UInt8.ofNat = m.map UInt8.ofNat → l = m
  | [], [], _, _, _ => rfl
  | [], _ :: _, _, _, h => by simp at h
  | _ :: _, [], _, _, h => by simp at h
  | x :: l, y :: m, hl, hm, h => by
    simp only [List.map_cons, List.cons.injEq] at h
    rw [u8_inj (hl x (by simp)) (hm y (by simp)) h.1, map_u8_inj (fun z hz => hl z (by simp [hz])) (fun z hz => hm z (by simp [hz])) h.2]
theorem str_eq {l m : List Nat} (hl : AllB l) (hm : AllB m) : ((strOf l).toList == (strOf m).toList) = decide (l = m) := by
  have e : ∀ b : ByteArray, b.toList = b.data.toList := fun b => ByteArray.toList_eq b
  rw [e, e, str_list, str_list]
  by_cases q : l = m
  · subst q; simp
  · rw [decide_eq_false q, beq_eq_false_iff_ne]
    exact fun h => q (map_u8_inj hl hm h)

theorem conv_any (a : Option Addr) (l : List Nat) (c : Nat) (w : World) (hs : Bytes w a l) : (convert 22 9 (.slice a l.length c)).run Tryd.prog w = .ok (.string (strOf l)) w := by
  rw [run_convert_bytes_string w 22 9 5 a l.length c Tryd.underlying22 Tryd.underlying5 Tryd.underlying9]
  cases a with
  | none =>
    rcases hs with h | ⟨b, off, h, _⟩
    · have : l = [] := by cases l with | nil => rfl | cons x l => simp [ints] at h
      subst this
      rfl
    · cases h
  | some ad =>
    refine run_bytesToString w ad l.length c (ints l) ?_
    have := run_loadCells_list (P := Tryd.prog) w ad ((ints l).map (Value.int .u8)) ?_
    · simpa using this
    · intro j v hj
      rcases hs with h | ⟨b, off, h, _, h3⟩
      · rw [h] at hj; simp at hj
      · cases h
        simp only [List.getElem?_map, Option.map_eq_some_iff] at hj
        obtain ⟨q, hq, rfl⟩ := hj
        obtain ⟨hjl, hq'⟩ := List.getElem?_eq_some_iff.1 hq
        rw [addr_add, h3 j hjl, hq']

theorem tabAt_lt : ∀ i : Nat, i < 16 → tabAt i < 4294967296 := by
  have : ∀ i : Fin 16, tabAt i.1 < 4294967296 := by decide
  exact fun i h => this ⟨i, h⟩

set_option maxRecDepth 100000 in
theorem shiftFour_any (r : Nat) (w : World) (ht : Tab w) (hr : r < 4294967296) :
    Calls Tryd.prog 61 #[.int .u32 (r : Int)] w fun e w' => e = .returned (.int .u32 ((Bn 4 r : Nat) : Int)) ∧ w' = w := by
  obtain ⟨i, hi⟩ : ∃ i, i = r % 16 := ⟨_, rfl⟩
  obtain ⟨h, hh⟩ : ∃ h, h = r / 16 := ⟨_, rfl⟩
  obtain ⟨x, hx⟩ : ∃ x, x = Bn 4 r := ⟨_, rfl⟩
  have hi16 : i < 16 := by omega
  have hc := ht.2 i hi16
  have e1 : bits .and .u32 (r : Int) 15 = (i : Int) := by rw [and15_u32 r hr, hi]
  have e2 : (r : Int) / 16 = (h : Int) := by omega
  have e3 : bits .xor .u32 (h : Int) ((tabAt i : Nat) : Int) = (x : Int) := by
    rw [xor_u32 h (tabAt i) (by omega) (tabAt_lt i hi16), hx, ← four r, hi, hh]
  rw [← hx]
  clear hi hh hx
  generalize tabAt i = ti at *
  go_enter Tryd.func61, Tryd.ntmps61
  go_wp2_with fail
  go_ret
  exact ⟨rfl, rfl⟩

/-- A list of lists of bytes: what its elements are, and lead to. -/
def Parts (w : World) (a : Option Addr) (ps : List (Value × List Nat)) : Prop :=
  ps = [] ∨ ∃ b off, a = some ⟨b, off, none⟩ ∧ b < w.heap.size ∧ ∀ i (h : i < ps.length), w.cell? ⟨b, off + i, none⟩ = some ps[i].1 ∧ (∃ ai ci, ps[i].1 = .slice ai ps[i].2.length ci ∧ Bytes w ai ps[i].2 ∧ AllB ps[i].2 ∧ ps[i].2.length ≤ maxLen)

def joined (ps : List (Value × List Nat)) : List Nat := ps.flatMap (·.2)
theorem joined_take_succ (ps : List (Value × List Nat)) (k : Nat) (h : k < ps.length) : joined (ps.take (k + 1)) = joined (ps.take k) ++ ps[k].2 := by
  rw [List.take_succ_eq_append_getElem h]
  unfold joined
  rw [List.flatMap_append]
  simp only [List.flatMap_cons, List.flatMap_nil, List.append_nil]

set_option maxHeartbeats 1000000 in
set_option maxRecDepth 100000 in
theorem sum_any (ps : List (Value × List Nat)) (a : Option Addr) (c : Nat) (w : World) (ht : Tab w) (hp : Parts w a ps) (hl : ps.length ≤ maxLen) (hall : AllB (joined ps)) :
    Calls Tryd.prog 49 #[.slice a ps.length c] w fun e w' => e = .returned (.int .u32 ((sumOf (joined ps) : Nat) : Int)) ∧ w' = w := by
  unfold maxLen at hl
  have hsz : ∀ k j (hk : k < ps.length), crc 4294967295 (joined (ps.take k) ++ ps[k].2.take j) < 4294967296 := by
    intro k j hk
    refine crc_lt _ _ (by decide) ?_
    intro x hx
    refine hall x ?_
    rcases List.mem_append.1 hx with q | q
    · simp only [joined, List.mem_flatMap] at q ⊢
      obtain ⟨y, hy, hxy⟩ := q
      exact ⟨y, List.mem_of_mem_take hy, hxy⟩
    · simp only [joined, List.mem_flatMap]
      exact ⟨_, List.getElem_mem hk, List.mem_of_mem_take q⟩
  have hend : crc 4294967295 (joined ps) < 4294967296 := crc_lt _ _ (by decide) hall
  go_enter Tryd.func49, Tryd.ntmps49
  go_wp2_with fail
  go_loopw [3, 10] (fun r i wr => ∃ k : Nat, i = .int .i64 (k : Int) ∧ k ≤ ps.length ∧ r = .int .u32 ((crc 4294967295 (joined (ps.take k)) : Nat) : Int) ∧ wr = w) (fun _ i _ => ps.length - (intOf i).toNat)
  case atStart => exact ⟨0, rfl, Nat.zero_le _, rfl, rfl⟩
  case round =>
    obtain ⟨k, rfl, hk, rfl, rfl⟩ := hrel
    by_cases hlt : k < ps.length
    · rcases hp with hp | ⟨b, off, rfl, hb, hp⟩
      · simp [hp] at hlt
      · obtain ⟨hc, ai, ci, hv, hbs, hba, hml⟩ := hp k hlt
        have HJ : Hid _ := joined_take_succ ps k hlt
        have hz := fun j => hsz k j hlt
        rw [hv] at hc
        generalize ps[k].2 = m at *
        unfold maxLen at hml
        have e0 : crc 4294967295 (joined (ps.take k)) = crc 4294967295 (joined (ps.take k) ++ m.take 0) := by simp
        clear hp hsz hv
        go_wp2_with fail
        go_loopw [3, 16] (fun r i ws => ∃ j : Nat, i = .int .i64 (j : Int) ∧ j ≤ m.length ∧ r = .int .u32 ((crc 4294967295 (joined (ps.take k) ++ m.take j) : Nat) : Int) ∧ ws = wr) (fun _ i _ => m.length - (intOf i).toNat)
        case atStart => exact ⟨0, rfl, Nat.zero_le _, by rw [← e0], rfl⟩
        case round =>
          obtain ⟨j, rfl, hj, rfl, rfl⟩ := hrel
          by_cases hjl : j < m.length
          · obtain ⟨b2, off2, rfl, hb2, hc2⟩ := hbs.at hjl
            have hx := hba.get j
            have hr := hz j
            have hs8 : crc 4294967295 (joined (ps.take k) ++ m.take (j + 1)) = Bn 4 (Bn 4 (crc 4294967295 (joined (ps.take k) ++ m.take j) ^^^ m.getD j 0)) := by
              rw [S8_four, List.take_succ_eq_append_getElem hjl, ← List.append_assoc, crc_append]
              simp [hjl]
            have HS : Hid _ := hs8
            clear hs8
            generalize m.getD j 0 = x at *
            generalize crc 4294967295 (joined (ps.take k) ++ m.take j) = r at *
            have e1 : IntKind.u32.wrap (x : Int) = (x : Int) := by rw [IntKind.wrap_u32]; omega
            obtain ⟨y, hy⟩ : ∃ y, y = r ^^^ x := ⟨_, rfl⟩
            have e2 : bits .xor .u32 (r : Int) (x : Int) = (y : Int) := by rw [xor_u32 r x hr (by omega), hy]
            have hyl : y < 4294967296 := by rw [hy]; exact Nat.xor_lt_two_pow (n := 32) (by omega) (by omega)
            rw [← hy] at HS
            clear hy
            go_wp2_with fail
            refine (shiftFour_any y _ ht hyl).mono ?_
            rintro e w' ⟨rfl, rfl⟩
            go_wp2_with fail
            refine (shiftFour_any _ _ ht (Bn_lt 4 _ hyl)).mono ?_
            rintro e w' ⟨rfl, rfl⟩
            go_wp2_with fail
            go_roundw
            case rel => exact ⟨j + 1, by go_num, by omega, by rw [HS.out], trivial⟩
            case measure => simp [intOf]; omega
          · obtain rfl : j = m.length := by omega
            rw [List.take_length]
            go_wp2_with fail
            go_roundw
            case rel => exact ⟨k + 1, by go_num, by omega, by rw [HJ.out], trivial⟩
            case measure => simp [intOf]; omega
    · obtain rfl : k = ps.length := by omega
      rw [List.take_length]
      have hsg : IntKind.u32.signed = false := rfl
      have e1 : bits .xor .u32 IntKind.u32.max ((crc 4294967295 (joined ps) : Nat) : Int) = ((sumOf (joined ps) : Nat) : Int) := not_u32 _ hend
      have E1 : Hid _ := e1
      clear e1
      go_wp2_with fail
      go_ret
      exact ⟨by rw [← E1.out]; rfl, rfl⟩

/-! Numbers of a fixed size. -/

/-- May bytes stand there? -/
abbrev placed (n : Nat) (pos size : Int) : Prop := 1 ≤ size ∧ size ≤ 8 ∧ 0 ≤ pos ∧ pos + size ≤ n

theorem slice_mid (b off n c pos size : Nat) (w : World) (h1 : 1 ≤ size) (h2 : pos + size ≤ n) (h3 : n ≤ c) :
    (Instr.slice 22 (.slice (some ⟨b, off, none⟩) n c) (some (.int .i64 (pos : Int))) (some (.int .i64 ((pos : Int) + (size : Int)))) none).run Tryd.prog w = .ok (.slice (some ⟨b, off + pos, none⟩) size (c - pos)) w := by
  have q' : ¬ pos = c := by omega
  have e : ((pos : Int) + (size : Int)).toNat = pos + size := by omega
  have e2 : pos + size - pos = size := by omega
  go_simp
  rw [if_pos (by omega), if_neg (by omega)]

set_option maxRecDepth 100000 in
theorem placeOf_bad (a : Option Addr) (n c : Nat) (pos size : Int) (w : World) (hn : n ≤ 1000000) (h : ¬ placed n pos size) (h1 : -9223372036854775808 ≤ pos ∧ pos ≤ 9223372036854775807) :
    Calls Tryd.prog 64 #[.slice a n c, .int .i64 pos, .int .i64 size] w fun e w' => e = .returned (.tuple #[.slice none 0 0, .int .i64 4]) ∧ w' = w := by
  unfold placed at h
  have HH : Hid (¬ (1 ≤ size ∧ size ≤ 8 ∧ 0 ≤ pos ∧ pos + size ≤ n)) := h
  clear h
  go_enter Tryd.func64, Tryd.ntmps64
  go_wp2_with fail
  all_goals first
    | (exfalso; have hbad := HH.out; simp at *; omega)
    | (refine bodyPost_ret (v := .tuple #[.slice none 0 0, .int .i64 4]) (by simp [results, Tryd.results64, go_sem]) rfl ⟨rfl, rfl⟩)

set_option maxHeartbeats 1000000 in
set_option maxRecDepth 100000 in
theorem placeOf_ok (b off n c pos size : Nat) (w : World) (hn : n ≤ 1000000) (h1 : 1 ≤ size) (h8 : size ≤ 8) (h2 : pos + size ≤ n) (h3 : n ≤ c) :
    Calls Tryd.prog 64 #[.slice (some ⟨b, off, none⟩) n c, .int .i64 (pos : Int), .int .i64 (size : Int)] w fun e w' => e = .returned (.tuple #[.slice (some ⟨b, off + pos, none⟩) size (c - pos), .int .i64 0]) ∧ w' = w := by
  have sl := fun w => slice_mid b off n c pos size w h1 h2 h3
  have g1 : ¬ (size : Int) < 1 := by omega
  have g2 : ¬ (8 : Int) < (size : Int) := by omega
  have g3 : ¬ (pos : Int) < 0 := by omega
  have g4 : ¬ (n : Int) - (size : Int) < (pos : Int) := by omega
  go_enter Tryd.func64, Tryd.ntmps64
  go_wp2_with fail
  all_goals first
    | (exfalso; simp at *; omega)
    | (refine bodyPost_ret (v := .tuple #[.slice (some ⟨b, off + pos, none⟩) size (c - pos), .int .i64 0]) (by simp [results, Tryd.results64, go_sem]) rfl ⟨rfl, rfl⟩)

theorem div_cast (x k : Nat) : (x : Int) / 2 ^ k = ((x / 2 ^ k : Nat) : Int) := by simp
theorem ints_set (l : List Nat) (j y : Nat) : ints (l.set j y) = (ints l).set j (y : Int) := by simp [ints, List.map_set]
/-- The bytes of x, laid one by one. -/
def wrote (L : List Nat) (pos x : Nat) : Nat → List Nat
  | 0 => L
  | i + 1 => (wrote L pos x i).set (pos + i) (QK.byteOf x i)
@[simp] theorem wrote_length (L : List Nat) (pos x : Nat) : (i : Nat) → (wrote L pos x i).length = L.length
  | 0 => rfl
  | i + 1 => by simp [wrote, wrote_length L pos x i]
theorem wrote_bytes {L : List Nat} (pos x : Nat) (h : AllB L) : (i : Nat) → AllB (wrote L pos x i)
  | 0 => h
  | i + 1 => by
    intro y hy
    rcases List.mem_or_eq_of_mem_set hy with q | q
    · exact wrote_bytes pos x h i y q
    · rw [q]; exact Nat.mod_lt _ (by decide)

set_option maxRecDepth 100000 in
theorem put_bad (a : Option Addr) (n c : Nat) (pos size : Int) (x : Nat) (w : World) (hn : n ≤ 1000000) (h : ¬ placed n pos size) (h1 : -9223372036854775808 ≤ pos ∧ pos ≤ 9223372036854775807) :
    Calls Tryd.prog 62 #[.slice a n c, .int .i64 pos, .int .i64 size, .int .u64 (x : Int)] w fun e w' => e = .returned (.int .i64 4) ∧ w' = w := by
  go_enter Tryd.func62, Tryd.ntmps62
  go_wp2_with fail
  refine (placeOf_bad a n c pos size w hn h h1).mono ?_
  rintro e w' ⟨rfl, rfl⟩
  go_wp2_with fail
  go_ret
  exact ⟨rfl, rfl⟩

set_option maxHeartbeats 1000000 in
set_option maxRecDepth 100000 in
theorem put_big (b off n c pos size x : Nat) (w : World) (hn : n ≤ 1000000) (h1 : 1 ≤ size) (h8 : size ≤ 8) (h2 : pos + size ≤ n) (h3 : n ≤ c) (hx : 256 ^ size ≤ x) :
    Calls Tryd.prog 62 #[.slice (some ⟨b, off, none⟩) n c, .int .i64 (pos : Int), .int .i64 (size : Int), .int .u64 (x : Int)] w fun e w' => e = .returned (.int .i64 23) ∧ w' = w := by
  have hq : 0 < x / 2 ^ (8 * size) := by
    rw [Nat.pow_mul]
    exact Nat.div_pos hx (Nat.pow_pos (by decide))
  have hd : ((x : Int) / 2 ^ (8 * size) != 0) = true := by
    rw [div_cast]
    generalize x / 2 ^ (8 * size) = q at hq
    simp
    omega
  go_enter Tryd.func62, Tryd.ntmps62
  go_wp2_with fail
  refine (placeOf_ok b off n c pos size w hn h1 h8 h2 h3).mono ?_
  rintro e w' ⟨rfl, rfl⟩
  go_wp2_with fail
  go_ret
  exact ⟨rfl, rfl⟩

set_option maxHeartbeats 1000000 in
set_option maxRecDepth 100000 in
theorem put_ok (g N n c pos size x B : Nat) (L : List Nat) (w : World) (ho : OwnB w B (.slice (some ⟨g, 0, none⟩) N c) L) (hn : n ≤ 1000000) (h1 : 1 ≤ size) (h8 : size ≤ 8) (h2 : pos + size ≤ n) (h3 : n ≤ c) (hL : n ≤ L.length) (hx : x < 256 ^ size) :
    Calls Tryd.prog 62 #[.slice (some ⟨g, 0, none⟩) n c, .int .i64 (pos : Int), .int .i64 (size : Int), .int .u64 (x : Int)] w fun e w' => e = .returned (.int .i64 0) ∧ OwnB w' B (.slice (some ⟨g, 0, none⟩) N c) (wrote L pos x size) ∧ Keep (fun k => k = g) w w' := by
  have hq : x / 2 ^ (8 * size) = 0 := by
    rw [Nat.pow_mul]
    exact Nat.div_eq_of_lt hx
  have hd : ((x : Int) / 2 ^ (8 * size) != 0) = false := by rw [div_cast, hq]; rfl
  have hp := placeOf_ok g 0 n c pos size w hn h1 h8 h2 h3
  rw [Nat.zero_add] at hp
  clear hq hx
  go_enter Tryd.func62, Tryd.ntmps62
  go_wp2_with fail
  refine hp.mono ?_
  rintro e w' ⟨rfl, rfl⟩
  clear hp
  go_wp2_with fail
  go_loopw [29] (fun i ws => ∃ k : Nat, i = .int .i64 (k : Int) ∧ k ≤ size ∧ OwnB ws B (.slice (some ⟨g, 0, none⟩) N c) (wrote L pos x k) ∧ Keep (fun k => k = g) w' ws) (fun i _ => size - (intOf i).toNat)
  case atStart => exact ⟨0, rfl, Nat.zero_le _, ho, Keep.refl _ _⟩
  case round =>
    obtain ⟨k, rfl, hk, hown, hkeep⟩ := hrel
    by_cases hlt : k < size
    · have hin : pos + k < (ints (wrote L pos x k)).length := by simp; omega
      have hfz := Owns.frozen hown (pos + k)
      obtain ⟨b1, off1, hab, _, hcell⟩ := Seen.at (Owns.seen_at hown) hin
      simp only [Option.some.injEq, Addr.mk.injEq] at hab
      obtain ⟨rfl, rfl, _⟩ := hab
      rw [Nat.zero_add] at hcell
      generalize (ints (wrote L pos x k))[pos + k] = old at *
      obtain ⟨y, hy⟩ : ∃ y, y = QK.byteOf x k := ⟨_, rfl⟩
      have e1 : IntKind.u8.wrap ((x : Int) / 2 ^ (8 * k)) = (y : Int) := by
        rw [IntKind.wrap_u8, div_cast, hy]
        unfold QK.byteOf
        simp
      have hst := Owns.stored hown (pos + k) (y : Int)
      rw [← ints_set] at hst
      have HS : Hid (OwnB (wr.setCell ⟨g, pos + k, none⟩ (.int .u8 (y : Int))) B (.slice (some ⟨g, 0, none⟩) N c) (wrote L pos x (k + 1))) := by unfold Hid; rw [wrote, ← hy]; exact hst
      have HK : Hid (Keep (fun k => k = g) w' (wr.setCell ⟨g, pos + k, none⟩ (.int .u8 (y : Int)))) := hkeep.setCell (fun _ => rfl) _
      clear hst hy hown hkeep hin
      go_wp2_with fail
      go_roundw
      case rel => exact ⟨k + 1, by go_num, by omega, HS.out, HK.out⟩
      case measure => simp [intOf]; omega
    · obtain rfl : k = size := by omega
      go_wp2_with fail
      go_ret
      exact ⟨rfl, hown, hkeep⟩

set_option maxRecDepth 100000 in
theorem get_bad (a : Option Addr) (n c : Nat) (pos size : Int) (w : World) (hn : n ≤ 1000000) (h : ¬ placed n pos size) (h1 : -9223372036854775808 ≤ pos ∧ pos ≤ 9223372036854775807) :
    Calls Tryd.prog 60 #[.slice a n c, .int .i64 pos, .int .i64 size] w fun e w' => e = .returned (.tuple #[.int .u64 0, .int .i64 4]) ∧ w' = w := by
  go_enter Tryd.func60, Tryd.ntmps60
  go_wp2_with fail
  refine (placeOf_bad a n c pos size w hn h h1).mono ?_
  rintro e w' ⟨rfl, rfl⟩
  go_wp2_with fail
  exact bodyPost_ret (v := .tuple #[.int .u64 0, .int .i64 4]) (by simp [results, Tryd.results60, go_sem]) rfl ⟨rfl, rfl⟩

set_option maxHeartbeats 1000000 in
set_option maxRecDepth 100000 in
theorem get_ok (a : Option Addr) (c pos size : Nat) (l : List Nat) (w : World) (hs : Bytes w a l) (hb : AllB l) (hn : l.length ≤ 1000000) (h1 : 1 ≤ size) (h8 : size ≤ 8) (h2 : pos + size ≤ l.length) (h3 : l.length ≤ c) :
    Calls Tryd.prog 60 #[.slice a l.length c, .int .i64 (pos : Int), .int .i64 (size : Int)] w fun e w' => e = .returned (.tuple #[.int .u64 ((fromB ((l.drop pos).take size) : Nat) : Int), .int .i64 0]) ∧ w' = w := by
  obtain ⟨b, off, rfl, hbl, _⟩ := hs.at (i := pos) (by omega)
  have hp := placeOf_ok b off l.length c pos size w hn h1 h8 h2 h3
  have hcells : ∀ k, k < size → w.cell? ⟨b, off + pos + k, none⟩ = some (.int .u8 ((((l.drop pos).take size).getD k 0 : Nat) : Int)) := by
    intro k hk
    obtain ⟨b1, off1, hab, _, hc⟩ := hs.at (i := pos + k) (by omega)
    simp only [Option.some.injEq, Addr.mk.injEq] at hab
    obtain ⟨rfl, rfl, _⟩ := hab
    rw [← Nat.add_assoc] at hc
    rw [hc]
    simp [hk, List.getElem?_drop]
  have hml : ((l.drop pos).take size).length = size := by simp; omega
  have hmb : AllB ((l.drop pos).take size) := (hb.drop _).take _
  generalize (l.drop pos).take size = m at *
  have hfl := fromB_lt m hmb
  rw [hml] at hfl
  have hf8 : 256 ^ size ≤ 256 ^ 8 := Nat.pow_le_pow_right (by decide) h8
  have hc8 : (256 : Nat) ^ 8 = 18446744073709551616 := by decide
  go_enter Tryd.func60, Tryd.ntmps60
  go_wp2_with fail
  refine hp.mono ?_
  rintro e w' ⟨rfl, rfl⟩
  clear hp
  go_wp2_with fail
  go_loopw [10, 25] (fun x i ws => ∃ k : Nat, i = .int .i64 (k : Int) ∧ k ≤ size ∧ x = .int .u64 ((fromB (m.take k) : Nat) : Int) ∧ ws = w') (fun _ i _ => size - (intOf i).toNat)
  case atStart => exact ⟨0, rfl, Nat.zero_le _, rfl, rfl⟩
  case round =>
    obtain ⟨k, rfl, hk, rfl, rfl⟩ := hrel
    by_cases hlt : k < size
    · have hcell := hcells k hlt
      have hx := hmb.get k
      have hstep := fromB_take_succ m k (by omega)
      have hlow := fromB_lt (m.take k) (hmb.take _)
      rw [List.length_take, Nat.min_eq_left (by omega)] at hlow
      have hbound : fromB (m.take (k + 1)) ≤ fromB m := by
        have := fromB_append (m.take (k + 1)) (m.drop (k + 1))
        rw [List.take_append_drop] at this
        omega
      generalize m.getD k 0 = x at *
      generalize fromB (m.take k) = n at *
      generalize hN : fromB (m.take (k + 1)) = n1 at *
      have e2 : IntKind.u64.wrap (x : Int) = (x : Int) := by rw [IntKind.wrap_u64]; omega
      have hpw : (256 : Nat) ^ k = 2 ^ (8 * k) := by rw [Nat.pow_mul]
      rw [hpw] at hlow hstep
      have e3 : bits .or .u64 (n : Int) (IntKind.u64.wrap ((x : Int) * 2 ^ (8 * k))) = (n1 : Int) := by
        have q : ((x : Int) * 2 ^ (8 * k)) = ((2 ^ (8 * k) * x : Nat) : Int) := by
          rw [Int.natCast_mul, Int.mul_comm]
          simp
        rw [q, hstep, ← or_join_u64 n x (8 * k) hlow (by omega), IntKind.wrap_u64]
        congr 1
        omega
      have E3 : Hid _ := e3
      clear e3 hcells
      go_wp2_with fail
      refine ⟨⟨k + 1, by go_num, by omega, ?_, trivial⟩, by simp [intOf]; omega⟩
      rw [E3.out, hN]
    · obtain rfl : k = size := by omega
      have ht : m.take k = m := List.take_of_length_le (by omega)
      rw [ht]
      go_wp2_with fail
      exact bodyPost_ret (v := .tuple #[.int .u64 ((fromB m : Nat) : Int), .int .i64 0]) (by simp [results, Tryd.results60, go_sem]) rfl ⟨rfl, rfl⟩

end Go.Proofs.YtakjpljpdlhicaaDoor
