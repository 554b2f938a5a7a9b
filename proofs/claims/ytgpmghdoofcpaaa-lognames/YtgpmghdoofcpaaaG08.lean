import Derived.Test.YtgpmghdoofcpaaaReader
namespace Go.Proofs.Ytgpmghdoofcpaaa
open Go.RowKit Go.QK

/-! Strings of bytes: 'string(a) == string(b)'. -/
def strOf (l : List Nat) : ByteArray := (ints l).foldl (fun r n => r.push (UInt8.ofNat n.toNat)) ByteArray.empty
theorem str_fold (l : List Nat) (b : ByteArray) : ((ints l).foldl (fun r n => r.push (UInt8.ofNat n.toNat)) b).data.toList = b.data.toList ++ l.map UInt8.ofNat := by
  induction l generalizing b with
  | nil => simp
  | cons x l ih =>
    simp only [ints, List.map_cons, List.foldl_cons] at ih ⊢
    rw [ih]
    simp [ByteArray.push]
theorem str_list (l : List Nat) : (strOf l).data.toList = l.map UInt8.ofNat := by
  have := str_fold l ByteArray.empty
  simpa [strOf] using this
theorem u8_inj {x y : Nat} (hx : x < 256) (hy : y < 256) (h : UInt8.ofNat x = UInt8.ofNat y) : x = y := by
  have := congrArg UInt8.toNat h
  simpa [UInt8.toNat_ofNat, Nat.mod_eq_of_lt hx, Nat.mod_eq_of_lt hy] using this
theorem map_u8_inj : {l m : List Nat} → AllB l → AllB m → l.map UInt8.ofNat = m.map UInt8.ofNat → l = m
  | [], [], _, _, _ => rfl
  | [], _ :: _, _, _, h => by simp at h
  | _ :: _, [], _, _, h => by simp at h
  | x :: l, y :: m, hl, hm, h => by
    simp only [List.map_cons, List.cons.injEq] at h
    rw [u8_inj (hl x (by simp)) (hm y (by simp)) h.1, map_u8_inj (fun z hz => hl z (by simp [hz])) (fun z hz => hm z (by simp [hz])) h.2]
theorem str_eq {l m : List Nat} (hl : AllB l) (hm : AllB m) : ((strOf l).toList == (strOf m).toList) = decide (l = m) := by
  have e : ∀ b : ByteArray, b.toList = b.data.toList := fun b => ByteArray.toList_eq b
  rw [e, e, str_list, str_list]
  by_cases q : l = m
  · subst q; simp
  · rw [decide_eq_false q, beq_eq_false_iff_ne]
    exact fun h => q (map_u8_inj hl hm h)

theorem conv_any (a : Option Addr) (l : List Nat) (c : Nat) (w : World) (hs : Bytes w a l) : (convert 52 9 (.slice a l.length c)).run Try.prog w = .ok (.string (strOf l)) w := by
  rw [run_convert_bytes_string w 52 9 5 a l.length c Try.underlying52 Try.underlying5 Try.underlying9]
  cases a with
  | none =>
    rcases hs with h | ⟨b, off, h, _⟩
    · have : l = [] := by cases l with | nil => rfl | cons x l => simp [ints] at h
      subst this
      rfl
    · cases h
  | some ad =>
    refine run_bytesToString w ad l.length c (ints l) ?_
    have := run_loadCells_list (P := Try.prog) w ad ((ints l).map (Value.int .u8)) ?_
    · simpa using this
    · intro j v hj
      rcases hs with h | ⟨b, off, h, _, h3⟩
      · rw [h] at hj; simp at hj
      · cases h
        simp only [List.getElem?_map, Option.map_eq_some_iff] at hj
        obtain ⟨q, hq, rfl⟩ := hj
        obtain ⟨hjl, hq'⟩ := List.getElem?_eq_some_iff.1 hq
        rw [addr_add, h3 j hjl, hq']

theorem tabAt_lt : ∀ i : Nat, i < 16 → tabAt i < 4294967296 := by
  have : ∀ i : Fin 16, tabAt i.1 < 4294967296 := by decide
  exact fun i h => this ⟨i, h⟩

/-- A list of lists of bytes: what its elements are, and lead to. -/
def Parts (w : World) (a : Option Addr) (ps : List (Value × List Nat)) : Prop :=
  ps = [] ∨ ∃ b off, a = some ⟨b, off, none⟩ ∧ b < w.heap.size ∧ ∀ i (h : i < ps.length), w.cell? ⟨b, off + i, none⟩ = some ps[i].1 ∧ (∃ ai ci, ps[i].1 = .slice ai ps[i].2.length ci ∧ Bytes w ai ps[i].2 ∧ AllB ps[i].2 ∧ ps[i].2.length ≤ maxLen)

def joined (ps : List (Value × List Nat)) : List Nat := ps.flatMap (·.2)
theorem joined_take_succ (ps : List (Value × List Nat)) (k : Nat) (h : k < ps.length) : joined (ps.take (k + 1)) = joined (ps.take k) ++ ps[k].2 := by
  rw [List.take_succ_eq_append_getElem h]
  unfold joined
  rw [List.flatMap_append]
  simp only [List.flatMap_cons, List.flatMap_nil, List.append_nil]

/-- May bytes stand there? -/
abbrev placed (n : Nat) (pos size : Int) : Prop := 1 ≤ size ∧ size ≤ 8 ∧ 0 ≤ pos ∧ pos + size ≤ n

theorem slice_mid (b off n c pos size : Nat) (w : World) (h1 : 1 ≤ size) (h2 : pos + size ≤ n) (h3 : n ≤ c) :
    (Instr.slice 52 (.slice (some ⟨b, off, none⟩) n c) (some (.int .i64 (pos : Int))) (some (.int .i64 ((pos : Int) + (size : Int)))) none).run Try.prog w = .ok (.slice (some ⟨b, off + pos, none⟩) size (c - pos)) w := by
  have q' : ¬ pos = c := by omega
  have e : ((pos : Int) + (size : Int)).toNat = pos + size := by omega
  have e2 : pos + size - pos = size := by omega
  go_simp
  rw [if_pos (by omega), if_neg (by omega)]

theorem div_cast (x k : Nat) : (x : Int) / 2 ^ k = ((x / 2 ^ k : Nat) : Int) := by simp
theorem ints_set (l : List Nat) (j y : Nat) : ints (l.set j y) = (ints l).set j (y : Int) := by simp [ints, List.map_set]
/-- The bytes of x, laid one by one. -/
def wrote (L : List Nat) (pos x : Nat) : Nat → List Nat
  | 0 => L
  | i + 1 => (wrote L pos x i).set (pos + i) (QK.byteOf x i)
@[simp] theorem wrote_length (L : List Nat) (pos x : Nat) : (i : Nat) → (wrote L pos x i).length = L.length
  | 0 => rfl
  | i + 1 => by simp [wrote, wrote_length L pos x i]
theorem wrote_bytes {L : List Nat} (pos x : Nat) (h : AllB L) : (i : Nat) → AllB (wrote L pos x i)
  | 0 => h
  | i + 1 => by
    intro y hy
    rcases List.mem_or_eq_of_mem_set hy with q | q
    · exact wrote_bytes pos x h i y q
    · rw [q]; exact Nat.mod_lt _ (by decide)

set_option maxRecDepth 100000 in
theorem num_any (x : Int) (w : World) : Calls Try.prog 6 #[.int .i64 x] w fun e w' => e = .returned (.int .i64 x) ∧ w' = w := by
  go_enter Try.func6, Try.ntmps6
  go_wp2
  go_ret
  exact ⟨rfl, rfl⟩
end Go.Proofs.Ytgpmghdoofcpaaa

namespace Go.Proofs.Ytgpmghdoofcpaaa
open Go.RowKit Go.QK

/-! The document's records, in plain numbers. -/

structure LiveM where
  tx : Int
  last : Int
  com : Bool
  und : Bool
structure DirtyM where
  page : Int
  since : Int
structure RecM where
  lsn : Int
  kind : Int
  tx : Int
  prev : Int
  wp : Int
  wi : Int
  sp : Int
  si : Int
  delta : Int
  id : Int
  grp : Int
  lo : Int
  hi : Int
  val : Int
  live : List LiveM
  dirty : List DirtyM
  next : Int

def fromB (a n b : Int) : Bool := decide (a ≤ n) && decide (n ≤ b)
def aheadB (n lsn : Int) : Bool := decide (lsn = 0) || decide (n < lsn)
def oneB (has : Bool) (n most : Int) : Bool := bif has then fromB 1 n most else decide (n = 0)
def slotB (p i last : Int) : Bool := fromB 0 p 63 && fromB 0 i last
def slotsB (has : Bool) (wp wi sp si : Int) : Bool :=
  bif has then slotB wp wi 30 && slotB sp si 83 && decide (wp ≠ sp) else (decide (wp = 0) && decide (wi = 0)) && (decide (sp = 0) && decide (si = 0))
def firstB (has : Bool) (grp lo hi val : Int) : Bool :=
  bif has then fromB 1 grp 1048576 && fromB lo val hi else decide (grp = 0) && decide (lo = 0) && decide (hi = 0) && decide (val = 0)
def recB (n lsn : Int) : Bool := fromB 1 n 2147483647 && aheadB n lsn
def liveB (next lsn : Int) : Int → List LiveM → Bool
  | _, [] => true
  | least, l :: ls => fromB least l.tx (next - 1) && recB l.last lsn && !(l.com && l.und) && liveB next lsn (l.tx + 1) ls
def dirtyB (lsn : Int) : Int → List DirtyM → Bool
  | _, [] => true
  | least, d :: ds => fromB least d.page 63 && recB d.since lsn && dirtyB lsn (d.page + 1) ds
def pointsB (has : Bool) (live : List LiveM) (dirty : List DirtyM) (next lsn : Int) : Bool :=
  bif has then fromB 1 next 2147483648 && (decide (live.length ≤ 32) && liveB next lsn 1 live) && (decide (dirty.length ≤ 16) && dirtyB lsn 0 dirty)
  else decide (next = 0) && decide (live.length = 0) && decide (dirty.length = 0)
def hTx (k : Int) : Bool := decide (k = 1) || decide (k = 3) || decide (k = 4) || decide (k = 5) || decide (k = 6) || decide (k = 7)
def hPrev (k : Int) : Bool := decide (k = 3) || decide (k = 4) || decide (k = 5) || decide (k = 6) || decide (k = 7)
def hCtr (k : Int) : Bool := decide (k = 2) || decide (k = 3) || decide (k = 4)
def hFirst (k : Int) : Bool := decide (k = 2)
def hDelta (k : Int) : Bool := decide (k = 3) || decide (k = 4)
def hPts (k : Int) : Bool := decide (k = 8)
def okB (r : RecM) : Bool :=
  fromB 0 r.lsn 2147483647 && aheadB r.prev r.lsn && oneB (hTx r.kind) r.tx 2147483647 && oneB (hPrev r.kind) r.prev 2147483647 &&
    slotsB (hCtr r.kind) r.wp r.wi r.sp r.si && oneB (hCtr r.kind) r.id 1048576 && firstB (hFirst r.kind) r.grp r.lo r.hi r.val &&
    (hDelta r.kind || decide (r.delta = 0)) && pointsB (hPts r.kind) r.live r.dirty r.next r.lsn
def chkE (r : RecM) : Nat := if fromB 1 r.kind 8 = true then (if okB r = true then 0 else 23) else 70

/-! In memory. -/

def liveC (l : LiveM) : List Value := [.int .i64 l.tx, .int .i64 l.last, .bool l.com, .bool l.und]
def dirtyC (d : DirtyM) : List Value := [.int .i64 d.page, .int .i64 d.since]
/-- A row of cells that a slice leads to. -/
def Lies (w : World) (a : Option Addr) (cs : List Value) : Prop :=
  cs = [] ∨ ∃ b off, a = some ⟨b, off, none⟩ ∧ b < w.heap.size ∧ ∀ i (h : i < cs.length), w.cell? ⟨b, off + i, none⟩ = some cs[i]
theorem Lies.keep {S : Nat → Prop} {w w' : World} {a : Option Addr} {cs : List Value} (h : Lies w a cs) (hb : Keep S w w') (hn : ∀ ad, a = some ad → ¬ S ad.block) : Lies w' a cs := by
  rcases h with h | ⟨b, off, ha, hlt, hc⟩
  · exact .inl h
  · exact .inr ⟨b, off, ha, Nat.lt_of_lt_of_le hlt hb.size, fun i hi => (hb.cell (p := ⟨b, off + i, none⟩) hlt (by have := hn _ ha; exact this)).trans (hc i hi)⟩
theorem Lies.below {w w' : World} {a : Option Addr} {cs : List Value} (h : Lies w a cs) (hk : Below w.heap.size w w') : Lies w' a cs :=
  h.keep (Keep.of_below (S := fun _ => False) hk) (fun _ _ => id)
abbrev liveCs (ls : List LiveM) : List Value := ls.flatMap liveC
abbrev dirtyCs (ds : List DirtyM) : List Value := ds.flatMap dirtyC
theorem liveCs_length (ls : List LiveM) : (liveCs ls).length = 4 * ls.length := by
  induction ls with
  | nil => rfl
  | cons l ls ih => simp [liveCs, liveC] at ih ⊢; omega
theorem dirtyCs_length (ls : List DirtyM) : (dirtyCs ls).length = 2 * ls.length := by
  induction ls with
  | nil => rfl
  | cons l ls ih => simp [dirtyCs, dirtyC] at ih ⊢; omega
theorem liveCs_get (ls : List LiveM) (k : Nat) (hk : k < ls.length) (j : Nat) (hj : j < 4) : (liveCs ls)[4 * k + j]? = (liveC ls[k])[j]? := by
  induction ls generalizing k with
  | nil => simp at hk
  | cons l ls ih =>
    cases k with
    | zero =>
      simp only [liveCs, List.flatMap_cons, Nat.mul_zero, Nat.zero_add]
      rw [List.getElem?_append_left (by simp [liveC]; omega)]
      rfl
    | succ k =>
      simp only [liveCs, List.flatMap_cons]
      rw [List.getElem?_append_right (by simp [liveC]; omega)]
      have := ih k (by simpa using hk)
      simp only [List.getElem_cons_succ]
      rw [← this]
      congr 1
      simp [liveC]; omega
theorem dirtyCs_get (ls : List DirtyM) (k : Nat) (hk : k < ls.length) (j : Nat) (hj : j < 2) : (dirtyCs ls)[2 * k + j]? = (dirtyC ls[k])[j]? := by
  induction ls generalizing k with
  | nil => simp at hk
  | cons l ls ih =>
    cases k with
    | zero =>
      simp only [dirtyCs, List.flatMap_cons, Nat.mul_zero, Nat.zero_add]
      rw [List.getElem?_append_left (by simp [dirtyC]; omega)]
      rfl
    | succ k =>
      simp only [dirtyCs, List.flatMap_cons]
      rw [List.getElem?_append_right (by simp [dirtyC]; omega)]
      have := ih k (by simpa using hk)
      simp only [List.getElem_cons_succ]
      rw [← this]
      congr 1
      simp [dirtyC]; omega
theorem Lies.cellAt {w : World} {a : Option Addr} {cs : List Value} (h : Lies w a cs) (i : Nat) (v : Value) (hv : cs[i]? = some v) : ∃ b off, a = some ⟨b, off, none⟩ ∧ b < w.heap.size ∧ w.cell? ⟨b, off + i, none⟩ = some v := by
  obtain ⟨hi, hv⟩ := List.getElem?_eq_some_iff.1 hv
  rcases h with h | ⟨b, off, ha, hlt, hc⟩
  · rw [h] at hi; simp at hi
  · exact ⟨b, off, ha, hlt, by rw [hc i hi, hv]⟩
theorem Lies.liveAt {w : World} {a : Option Addr} {ls : List LiveM} (h : Lies w a (liveCs ls)) (k : Nat) (hk : k < ls.length) :
    ∃ b off, a = some ⟨b, off, none⟩ ∧ b < w.heap.size ∧ w.cell? ⟨b, off + k * 4, none⟩ = some (.int .i64 ls[k].tx) ∧ w.cell? ⟨b, off + k * 4 + 1, none⟩ = some (.int .i64 ls[k].last) ∧ w.cell? ⟨b, off + k * 4 + 2, none⟩ = some (.bool ls[k].com) ∧ w.cell? ⟨b, off + k * 4 + 3, none⟩ = some (.bool ls[k].und) := by
  rcases h with h | ⟨b, off, ha, hlt, hc⟩
  · have := liveCs_length ls
    rw [h] at this
    simp at this
    omega
  · have len := liveCs_length ls
    have key : ∀ j (hj : j < 4) v, (liveC ls[k])[j]? = some v → w.cell? ⟨b, off + k * 4 + j, none⟩ = some v := by
      intro j hj v hv
      have e := liveCs_get ls k hk j hj
      rw [hv] at e
      obtain ⟨hi, hv'⟩ := List.getElem?_eq_some_iff.1 e
      have q := hc (4 * k + j) hi
      rw [hv'] at q
      rw [← q]
      congr 2
      omega
    exact ⟨b, off, ha, hlt, key 0 (by omega) _ rfl, key 1 (by omega) _ rfl, key 2 (by omega) _ rfl, key 3 (by omega) _ rfl⟩
theorem Lies.dirtyAt {w : World} {a : Option Addr} {ls : List DirtyM} (h : Lies w a (dirtyCs ls)) (k : Nat) (hk : k < ls.length) :
    ∃ b off, a = some ⟨b, off, none⟩ ∧ b < w.heap.size ∧ w.cell? ⟨b, off + k * 2, none⟩ = some (.int .i64 ls[k].page) ∧ w.cell? ⟨b, off + k * 2 + 1, none⟩ = some (.int .i64 ls[k].since) := by
  rcases h with h | ⟨b, off, ha, hlt, hc⟩
  · have := dirtyCs_length ls
    rw [h] at this
    simp at this
    omega
  · have len := dirtyCs_length ls
    have key : ∀ j (hj : j < 2) v, (dirtyC ls[k])[j]? = some v → w.cell? ⟨b, off + k * 2 + j, none⟩ = some v := by
      intro j hj v hv
      have e := dirtyCs_get ls k hk j hj
      rw [hv] at e
      obtain ⟨hi, hv'⟩ := List.getElem?_eq_some_iff.1 e
      have q := hc (2 * k + j) hi
      rw [hv'] at q
      rw [← q]
      congr 2
      omega
    exact ⟨b, off, ha, hlt, key 0 (by omega) _ rfl, key 1 (by omega) _ rfl⟩

set_option maxRecDepth 100000
theorem fromI_any (a n b : Int) (w : World) : Calls Try.prog 69 #[.int .i64 a, .int .i64 n, .int .i64 b] w fun e w' => e = .returned (.bool (fromB a n b)) ∧ w' = w := by
  unfold fromB
  by_cases h : a ≤ n
  · go_enter Try.func69, Try.ntmps69
    go_wp2_with fail
    go_ret
    exact ⟨by simp [h], rfl⟩
  · go_enter Try.func69, Try.ntmps69
    go_wp2_with fail
    go_ret
    exact ⟨by simp; omega, rfl⟩
theorem fromK_any (a n b : Int) (w : World) : Calls Try.prog 54 #[.int .i64 a, .int .i64 n, .int .i64 b] w fun e w' => e = .returned (.bool (fromB a n b)) ∧ w' = w := by
  unfold fromB
  by_cases h : a ≤ n
  · go_enter Try.func54, Try.ntmps54
    go_wp2_with fail
    go_ret
    exact ⟨by simp [h], rfl⟩
  · go_enter Try.func54, Try.ntmps54
    go_wp2_with fail
    go_ret
    exact ⟨by simp; omega, rfl⟩
theorem fromU_any (a n b : Int) (w : World) : Calls Try.prog 79 #[.int .u64 a, .int .u64 n, .int .u64 b] w fun e w' => e = .returned (.bool (fromB a n b)) ∧ w' = w := by
  unfold fromB
  by_cases h : a ≤ n
  · go_enter Try.func79, Try.ntmps79
    go_wp2_with fail
    go_ret
    exact ⟨by simp [h], rfl⟩
  · go_enter Try.func79, Try.ntmps79
    go_wp2_with fail
    go_ret
    exact ⟨by simp; omega, rfl⟩
theorem fromL_any (a n b : Int) (w : World) : Calls Try.prog 86 #[.int .i64 a, .int .i64 n, .int .i64 b] w fun e w' => e = .returned (.bool (fromB a n b)) ∧ w' = w := by
  unfold fromB
  by_cases h : a ≤ n
  · go_enter Try.func86, Try.ntmps86
    go_wp2_with fail
    go_ret
    exact ⟨by simp [h], rfl⟩
  · go_enter Try.func86, Try.ntmps86
    go_wp2_with fail
    go_ret
    exact ⟨by simp; omega, rfl⟩
theorem ahead_any (n l : Int) (w : World) : Calls Try.prog 70 #[.int .i64 n, .int .i64 l] w fun e w' => e = .returned (.bool (aheadB n l)) ∧ w' = w := by
  unfold aheadB
  by_cases h : l = 0
  · have h1 : (l == 0) = true := by simpa using h
    have H : Hid _ := h
    clear h
    go_enter Try.func70, Try.ntmps70
    go_wp2_with fail
    go_ret
    exact ⟨by simp [H.out], rfl⟩
  · go_enter Try.func70, Try.ntmps70
    go_wp2_with fail
    go_ret
    exact ⟨by simp [h], rfl⟩
theorem oneOf_any (has : Bool) (n m : Int) (w : World) : Calls Try.prog 71 #[.bool has, .int .i64 n, .int .i64 m] w fun e w' => e = .returned (.bool (oneB has n m)) ∧ w' = w := by
  unfold oneB
  cases has
  · go_enter Try.func71, Try.ntmps71
    go_wp2_with fail
    go_ret
    exact ⟨rfl, rfl⟩
  · go_enter Try.func71, Try.ntmps71
    go_wp2_with fail
    refine (fromI_any 1 n m _).mono ?_
    rintro e w' ⟨rfl, rfl⟩
    go_wp2_with fail
    go_ret
    exact ⟨by simp, rfl⟩
theorem recMay_any (n l : Int) (w : World) : Calls Try.prog 93 #[.int .i64 n, .int .i64 l] w fun e w' => e = .returned (.bool (recB n l)) ∧ w' = w := by
  unfold recB
  have hf := fun w => fromI_any 1 n 2147483647 w
  generalize fromB 1 n 2147483647 = q at *
  cases q
  · go_enter Try.func93, Try.ntmps93
    go_wp2_with fail
    refine (hf _).mono ?_
    rintro e w' ⟨rfl, rfl⟩
    go_wp2_with fail
    go_ret
    exact ⟨by simp, rfl⟩
  · go_enter Try.func93, Try.ntmps93
    go_wp2_with fail
    refine (hf _).mono ?_
    rintro e w' ⟨rfl, rfl⟩
    go_wp2_with fail
    refine (ahead_any n l _).mono ?_
    rintro e w' ⟨rfl, rfl⟩
    go_wp2_with fail
    go_ret
    exact ⟨by simp, rfl⟩
end Go.Proofs.Ytgpmghdoofcpaaa
