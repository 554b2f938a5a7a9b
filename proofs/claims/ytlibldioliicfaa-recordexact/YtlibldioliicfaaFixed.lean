import Derived.Test.YtlibldioliicfaaReader
namespace Go.Proofs.Ytlibldioliicfaa
open Go.RowKit Go.QK

/-! Strings of bytes: 'string(a) == string(b)'. -/
def strOf (l : List Nat) : ByteArray := (ints l).foldl (fun r n => r.push (UInt8.ofNat n.toNat)) ByteArray.empty
theorem str_fold (l : List Nat) (b : ByteArray) : ((ints l).foldl (fun r n => r.push (UInt8.ofNat n.toNat)) b).data.toList = b.data.toList ++ l.map UInt8.ofNat := by
  induction l generalizing b with
  | nil => simp
  | cons x l ih =>
    simp only [ints, List.map_cons, List.foldl_cons] at ih ⊢
    rw [ih]
    simp [ByteArray.push]
theorem str_list (l : List Nat) : (strOf l).data.toList = l.map UInt8.ofNat := by
  have := str_fold l ByteArray.empty
  simpa [strOf] using this
theorem u8_inj {x y : Nat} (hx : x < 256) (hy : y < 256) (h : UInt8.ofNat x = UInt8.ofNat y) : x = y := by
  have := congrArg UInt8.toNat h
  simpa [UInt8.toNat_ofNat, Nat.mod_eq_of_lt hx, Nat.mod_eq_of_lt hy] using this
theorem map_u8_inj : {l m : List Nat} → AllB l → AllB m → l.map UInt8.ofNat = m.map UInt8.ofNat → l = m
  | [], [], _, _, _ => rfl
  | [], _ :: _, _, _, h => by simp at h
  | _ :: _, [], _, _, h => by simp at h
  | x :: l, y :: m, hl, hm, h => by
    simp only [List.map_cons, List.cons.injEq] at h
    rw [u8_inj (hl x (by simp)) (hm y (by simp)) h.1, map_u8_inj (fun z hz => hl z (by simp [hz])) (fun z hz => hm z (by simp [hz])) h.2]
theorem str_eq {l m : List Nat} (hl : AllB l) (hm : AllB m) : ((strOf l).toList == (strOf m).toList) = decide (l = m) := by
  have e : ∀ b : ByteArray, b.toList = b.data.toList := fun b => ByteArray.toList_eq b
  rw [e, e, str_list, str_list]
  by_cases q : l = m
  · subst q; simp
  · rw [decide_eq_false q, beq_eq_false_iff_ne]
    exact fun h => q (map_u8_inj hl hm h)

theorem conv_any (a : Option Addr) (l : List Nat) (c : Nat) (w : World) (hs : Bytes w a l) : (convert 22 9 (.slice a l.length c)).run Try.prog w = .ok (.string (strOf l)) w := by
  rw [run_convert_bytes_string w 22 9 5 a l.length c Try.underlying22 Try.underlying5 Try.underlying9]
  cases a with
  | none =>
    rcases hs with h | ⟨b, off, h, _⟩
    · have : l = [] := by cases l with | nil => rfl | cons x l => simp [ints] at h
      subst this
      rfl
    · cases h
  | some ad =>
    refine run_bytesToString w ad l.length c (ints l) ?_
    have := run_loadCells_list (P := Try.prog) w ad ((ints l).map (Value.int .u8)) ?_
    · simpa using this
    · intro j v hj
      rcases hs with h | ⟨b, off, h, _, h3⟩
      · rw [h] at hj; simp at hj
      · cases h
        simp only [List.getElem?_map, Option.map_eq_some_iff] at hj
        obtain ⟨q, hq, rfl⟩ := hj
        obtain ⟨hjl, hq'⟩ := List.getElem?_eq_some_iff.1 hq
        rw [addr_add, h3 j hjl, hq']

set_option maxRecDepth 100000 in
theorem same_any (a b : Option Addr) (l m : List Nat) (c d : Nat) (w : World) (hl : Bytes w a l) (hm : Bytes w b m) (al : AllB l) (am : AllB m) :
    Calls Try.prog 13 #[.slice a l.length c, .slice b m.length d] w fun e w' => e = .returned (.bool (decide (l = m))) ∧ w' = w := by
  have e1 := conv_any a l c w hl
  have e2 := conv_any b m d w hm
  have e3 := str_eq al am
  have E3 : Hid _ := e3
  generalize strOf l = s at *
  generalize strOf m = t at *
  clear e3 hl hm
  go_enter Try.func13, Try.ntmps13
  go_wp2_with fail
  go_ret
  exact ⟨by rw [← E3.out]; rfl, rfl⟩

/-! The checksum. -/

theorem tabAt_lt : ∀ i : Nat, i < 16 → tabAt i < 4294967296 := by
  have : ∀ i : Fin 16, tabAt i.1 < 4294967296 := by decide
  exact fun i h => this ⟨i, h⟩

/-- A list of lists of bytes: what its elements are, and lead to. -/
def Parts (w : World) (a : Option Addr) (ps : List (Value × List Nat)) : Prop :=
  ps = [] ∨ ∃ b off, a = some ⟨b, off, none⟩ ∧ b < w.heap.size ∧ ∀ i (h : i < ps.length), w.cell? ⟨b, off + i, none⟩ = some ps[i].1 ∧ (∃ ai ci, ps[i].1 = .slice ai ps[i].2.length ci ∧ Bytes w ai ps[i].2 ∧ AllB ps[i].2 ∧ ps[i].2.length ≤ maxLen)

def joined (ps : List (Value × List Nat)) : List Nat := ps.flatMap (·.2)
theorem joined_take_succ (ps : List (Value × List Nat)) (k : Nat) (h : k < ps.length) : joined (ps.take (k + 1)) = joined (ps.take k) ++ ps[k].2 := by
  rw [List.take_succ_eq_append_getElem h]
  unfold joined
  rw [List.flatMap_append]
  simp only [List.flatMap_cons, List.flatMap_nil, List.append_nil]

/-- May bytes stand there? -/
abbrev placed (n : Nat) (pos size : Int) : Prop := 1 ≤ size ∧ size ≤ 8 ∧ 0 ≤ pos ∧ pos + size ≤ n

theorem slice_mid (b off n c pos size : Nat) (w : World) (h1 : 1 ≤ size) (h2 : pos + size ≤ n) (h3 : n ≤ c) :
    (Instr.slice 22 (.slice (some ⟨b, off, none⟩) n c) (some (.int .i64 (pos : Int))) (some (.int .i64 ((pos : Int) + (size : Int)))) none).run Try.prog w = .ok (.slice (some ⟨b, off + pos, none⟩) size (c - pos)) w := by
  have q' : ¬ pos = c := by omega
  have e : ((pos : Int) + (size : Int)).toNat = pos + size := by omega
  have e2 : pos + size - pos = size := by omega
  go_simp
  rw [if_pos (by omega), if_neg (by omega)]

theorem div_cast (x k : Nat) : (x : Int) / 2 ^ k = ((x / 2 ^ k : Nat) : Int) := by simp
theorem ints_set (l : List Nat) (j y : Nat) : ints (l.set j y) = (ints l).set j (y : Int) := by simp [ints, List.map_set]
/-- The bytes of x, laid one by one. -/
def wrote (L : List Nat) (pos x : Nat) : Nat → List Nat
  | 0 => L
  | i + 1 => (wrote L pos x i).set (pos + i) (QK.byteOf x i)
@[simp] theorem wrote_length (L : List Nat) (pos x : Nat) : (i : Nat) → (wrote L pos x i).length = L.length
  | 0 => rfl
  | i + 1 => by simp [wrote, wrote_length L pos x i]
theorem wrote_bytes {L : List Nat} (pos x : Nat) (h : AllB L) : (i : Nat) → AllB (wrote L pos x i)
  | 0 => h
  | i + 1 => by
    intro y hy
    rcases List.mem_or_eq_of_mem_set hy with q | q
    · exact wrote_bytes pos x h i y q
    · rw [q]; exact Nat.mod_lt _ (by decide)

set_option maxRecDepth 100000 in
theorem num_any (x : Int) (w : World) : Calls Try.prog 9 #[.int .i64 x] w fun e w' => e = .returned (.int .i64 x) ∧ w' = w := by
  go_enter Try.func9, Try.ntmps9
  go_wp2
  go_ret
  exact ⟨rfl, rfl⟩
end Go.Proofs.Ytlibldioliicfaa
