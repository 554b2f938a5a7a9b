import Derived.Test.YtblngphjoafidaaGreatTxK
namespace Go.Proofs.YtblngphjoafidaaGreat
open Go.RowKit Go.QK

/-! The document's records, in plain numbers. -/

structure LiveM where
  tx : Int
  last : Int
  com : Bool
  und : Bool
structure DirtyM where
  page : Int
  since : Int
structure RecM where
  lsn : Int
  kind : Int
  tx : Int
  prev : Int
  wp : Int
  wi : Int
  sp : Int
  si : Int
  delta : Int
  id : Int
  grp : Int
  lo : Int
  hi : Int
  val : Int
  live : List LiveM
  dirty : List DirtyM
  next : Int

def fromB (a n b : Int) : Bool := decide (a ≤ n) && decide (n ≤ b)
def aheadB (n lsn : Int) : Bool := decide (lsn = 0) || decide (n < lsn)
def oneB (has : Bool) (n most : Int) : Bool := bif has then fromB 1 n most else decide (n = 0)
def slotB (p i last : Int) : Bool := fromB 0 p 63 && fromB 0 i last
def slotsB (has : Bool) (wp wi sp si : Int) : Bool :=
  bif has then slotB wp wi 30 && slotB sp si 83 && decide (wp ≠ sp) else (decide (wp = 0) && decide (wi = 0)) && (decide (sp = 0) && decide (si = 0))
def firstB (has : Bool) (grp lo hi val : Int) : Bool :=
  bif has then fromB 1 grp 1048576 && fromB lo val hi else decide (grp = 0) && decide (lo = 0) && decide (hi = 0) && decide (val = 0)
def recB (n lsn : Int) : Bool := fromB 1 n 2147483647 && aheadB n lsn
def liveB (next lsn : Int) : Int → List LiveM → Bool
  | _, [] => true
  | least, l :: ls => fromB least l.tx (next - 1) && recB l.last lsn && !(l.com && l.und) && liveB next lsn (l.tx + 1) ls
def dirtyB (lsn : Int) : Int → List DirtyM → Bool
  | _, [] => true
  | least, d :: ds => fromB least d.page 63 && recB d.since lsn && dirtyB lsn (d.page + 1) ds
def pointsB (has : Bool) (live : List LiveM) (dirty : List DirtyM) (next lsn : Int) : Bool :=
  bif has then fromB 1 next 2147483648 && (decide (live.length ≤ 32) && liveB next lsn 1 live) && (decide (dirty.length ≤ 16) && dirtyB lsn 0 dirty)
  else decide (next = 0) && decide (live.length = 0) && decide (dirty.length = 0)
def hTx (k : Int) : Bool := decide (k = 1) || decide (k = 3) || decide (k = 4) || decide (k = 5) || decide (k = 6) || decide (k = 7)
def hPrev (k : Int) : Bool := decide (k = 3) || decide (k = 4) || decide (k = 5) || decide (k = 6) || decide (k = 7)
def hCtr (k : Int) : Bool := decide (k = 2) || decide (k = 3) || decide (k = 4)
def hFirst (k : Int) : Bool := decide (k = 2)
def hDelta (k : Int) : Bool := decide (k = 3) || decide (k = 4)
def hPts (k : Int) : Bool := decide (k = 8)
def okB (r : RecM) : Bool :=
  fromB 0 r.lsn 2147483647 && aheadB r.prev r.lsn && oneB (hTx r.kind) r.tx 2147483647 && oneB (hPrev r.kind) r.prev 2147483647 &&
    slotsB (hCtr r.kind) r.wp r.wi r.sp r.si && oneB (hCtr r.kind) r.id 1048576 && firstB (hFirst r.kind) r.grp r.lo r.hi r.val &&
    (hDelta r.kind || decide (r.delta = 0)) && pointsB (hPts r.kind) r.live r.dirty r.next r.lsn
def chkE (r : RecM) : Nat := if fromB 1 r.kind 8 = true then (if okB r = true then 0 else 23) else 70

/-! In memory. -/

def liveC (l : LiveM) : List Value := [.int .i64 l.tx, .int .i64 l.last, .bool l.com, .bool l.und]
def dirtyC (d : DirtyM) : List Value := [.int .i64 d.page, .int .i64 d.since]
abbrev liveCs (ls : List LiveM) : List Value := ls.flatMap liveC
abbrev dirtyCs (ds : List DirtyM) : List Value := ds.flatMap dirtyC
theorem liveCs_length (ls : List LiveM) : (liveCs ls).length = 4 * ls.length := by
  induction ls with
  | nil => rfl
  | cons l ls ih => simp [liveCs, liveC] at ih ⊢; omega
theorem dirtyCs_length (ls : List DirtyM) : (dirtyCs ls).length = 2 * ls.length := by
  induction ls with
  | nil => rfl
  | cons l ls ih => simp [dirtyCs, dirtyC] at ih ⊢; omega
theorem liveCs_get (ls : List LiveM) (k : Nat) (hk : k < ls.length) (j : Nat) (hj : j < 4) : (liveCs ls)[4 * k + j]? = (liveC ls[k])[j]? := by
  induction ls generalizing k with
  | nil => simp at hk
  | cons l ls ih =>
    cases k with
    | zero =>
      simp only [liveCs, List.flatMap_cons, Nat.mul_zero, Nat.zero_add]
      rw [List.getElem?_append_left (by simp [liveC]; omega)]
      rfl
    | succ k =>
      simp only [liveCs, List.flatMap_cons]
      rw [List.getElem?_append_right (by simp [liveC]; omega)]
      have := ih k (by simpa using hk)
      simp only [List.getElem_cons_succ]
      rw [← this]
      congr 1
      simp [liveC]; omega
theorem dirtyCs_get (ls : List DirtyM) (k : Nat) (hk : k < ls.length) (j : Nat) (hj : j < 2) : (dirtyCs ls)[2 * k + j]? = (dirtyC ls[k])[j]? := by
  induction ls generalizing k with
  | nil => simp at hk
  | cons l ls ih =>
    cases k with
    | zero =>
      simp only [dirtyCs, List.flatMap_cons, Nat.mul_zero, Nat.zero_add]
      rw [List.getElem?_append_left (by simp [dirtyC]; omega)]
      rfl
    | succ k =>
      simp only [dirtyCs, List.flatMap_cons]
      rw [List.getElem?_append_right (by simp [dirtyC]; omega)]
      have := ih k (by simpa using hk)
      simp only [List.getElem_cons_succ]
      rw [← this]
      congr 1
      simp [dirtyC]; omega
theorem Lies.liveAt {w : World} {a : Option Addr} {ls : List LiveM} (h : Lies w a (liveCs ls)) (k : Nat) (hk : k < ls.length) :
    ∃ b off, a = some ⟨b, off, none⟩ ∧ b < w.heap.size ∧ w.cell? ⟨b, off + k * 4, none⟩ = some (.int .i64 ls[k].tx) ∧ w.cell? ⟨b, off + k * 4 + 1, none⟩ = some (.int .i64 ls[k].last) ∧ w.cell? ⟨b, off + k * 4 + 2, none⟩ = some (.bool ls[k].com) ∧ w.cell? ⟨b, off + k * 4 + 3, none⟩ = some (.bool ls[k].und) := by
  rcases h with h | ⟨b, off, ha, hlt, hc⟩
  · have := liveCs_length ls
    rw [h] at this
    simp at this
    omega
  · have len := liveCs_length ls
    have key : ∀ j (hj : j < 4) v, (liveC ls[k])[j]? = some v → w.cell? ⟨b, off + k * 4 + j, none⟩ = some v := by
      intro j hj v hv
      have e := liveCs_get ls k hk j hj
      rw [hv] at e
      obtain ⟨hi, hv'⟩ := List.getElem?_eq_some_iff.1 e
      have q := hc (4 * k + j) hi
      rw [hv'] at q
      rw [← q]
      congr 2
      omega
    exact ⟨b, off, ha, hlt, key 0 (by omega) _ rfl, key 1 (by omega) _ rfl, key 2 (by omega) _ rfl, key 3 (by omega) _ rfl⟩
theorem Lies.dirtyAt {w : World} {a : Option Addr} {ls : List DirtyM} (h : Lies w a (dirtyCs ls)) (k : Nat) (hk : k < ls.length) :
    ∃ b off, a = some ⟨b, off, none⟩ ∧ b < w.heap.size ∧ w.cell? ⟨b, off + k * 2, none⟩ = some (.int .i64 ls[k].page) ∧ w.cell? ⟨b, off + k * 2 + 1, none⟩ = some (.int .i64 ls[k].since) := by
  rcases h with h | ⟨b, off, ha, hlt, hc⟩
  · have := dirtyCs_length ls
    rw [h] at this
    simp at this
    omega
  · have len := dirtyCs_length ls
    have key : ∀ j (hj : j < 2) v, (dirtyC ls[k])[j]? = some v → w.cell? ⟨b, off + k * 2 + j, none⟩ = some v := by
      intro j hj v hv
      have e := dirtyCs_get ls k hk j hj
      rw [hv] at e
      obtain ⟨hi, hv'⟩ := List.getElem?_eq_some_iff.1 e
      have q := hc (2 * k + j) hi
      rw [hv'] at q
      rw [← q]
      congr 2
      omega
    exact ⟨b, off, ha, hlt, key 0 (by omega) _ rfl, key 1 (by omega) _ rfl⟩

set_option maxRecDepth 100000
theorem fromI_any (a n b : Int) (w : World) : Calls Tryz.prog 54 #[.int .i64 a, .int .i64 n, .int .i64 b] w fun e w' => e = .returned (.bool (fromB a n b)) ∧ w' = w := by
  unfold fromB
  by_cases h : a ≤ n
  · go_enter Tryz.func54, Tryz.ntmps54
    go_wp2_with fail
    go_ret
    exact ⟨by simp [h], rfl⟩
  · go_enter Tryz.func54, Tryz.ntmps54
    go_wp2_with fail
    go_ret
    exact ⟨by simp; omega, rfl⟩
theorem fromK_any (a n b : Int) (w : World) : Calls Tryz.prog 41 #[.int .i64 a, .int .i64 n, .int .i64 b] w fun e w' => e = .returned (.bool (fromB a n b)) ∧ w' = w := by
  unfold fromB
  by_cases h : a ≤ n
  · go_enter Tryz.func41, Tryz.ntmps41
    go_wp2_with fail
    go_ret
    exact ⟨by simp [h], rfl⟩
  · go_enter Tryz.func41, Tryz.ntmps41
    go_wp2_with fail
    go_ret
    exact ⟨by simp; omega, rfl⟩
theorem fromL_any (a n b : Int) (w : World) : Calls Tryz.prog 81 #[.int .i64 a, .int .i64 n, .int .i64 b] w fun e w' => e = .returned (.bool (fromB a n b)) ∧ w' = w := by
  unfold fromB
  by_cases h : a ≤ n
  · go_enter Tryz.func81, Tryz.ntmps81
    go_wp2_with fail
    go_ret
    exact ⟨by simp [h], rfl⟩
  · go_enter Tryz.func81, Tryz.ntmps81
    go_wp2_with fail
    go_ret
    exact ⟨by simp; omega, rfl⟩
theorem ahead_any (n l : Int) (w : World) : Calls Tryz.prog 55 #[.int .i64 n, .int .i64 l] w fun e w' => e = .returned (.bool (aheadB n l)) ∧ w' = w := by
  unfold aheadB
  by_cases h : l = 0
  · have h1 : (l == 0) = true := by simpa using h
    have H : Hid _ := h
    clear h
    go_enter Tryz.func55, Tryz.ntmps55
    go_wp2_with fail
    go_ret
    exact ⟨by simp [H.out], rfl⟩
  · go_enter Tryz.func55, Tryz.ntmps55
    go_wp2_with fail
    go_ret
    exact ⟨by simp [h], rfl⟩
theorem oneOf_any (has : Bool) (n m : Int) (w : World) : Calls Tryz.prog 56 #[.bool has, .int .i64 n, .int .i64 m] w fun e w' => e = .returned (.bool (oneB has n m)) ∧ w' = w := by
  unfold oneB
  cases has
  · go_enter Tryz.func56, Tryz.ntmps56
    go_wp2_with fail
    go_ret
    exact ⟨rfl, rfl⟩
  · go_enter Tryz.func56, Tryz.ntmps56
    go_wp2_with fail
    refine (fromI_any 1 n m _).mono ?_
    rintro e w' ⟨rfl, rfl⟩
    go_wp2_with fail
    go_ret
    exact ⟨by simp, rfl⟩
theorem recMay_any (n l : Int) (w : World) : Calls Tryz.prog 98 #[.int .i64 n, .int .i64 l] w fun e w' => e = .returned (.bool (recB n l)) ∧ w' = w := by
  unfold recB
  have hf := fun w => fromI_any 1 n 2147483647 w
  generalize fromB 1 n 2147483647 = q at *
  cases q
  · go_enter Tryz.func98, Tryz.ntmps98
    go_wp2_with fail
    refine (hf _).mono ?_
    rintro e w' ⟨rfl, rfl⟩
    go_wp2_with fail
    go_ret
    exact ⟨by simp, rfl⟩
  · go_enter Tryz.func98, Tryz.ntmps98
    go_wp2_with fail
    refine (hf _).mono ?_
    rintro e w' ⟨rfl, rfl⟩
    go_wp2_with fail
    refine (ahead_any n l _).mono ?_
    rintro e w' ⟨rfl, rfl⟩
    go_wp2_with fail
    go_ret
    exact ⟨by simp, rfl⟩
end Go.Proofs.YtblngphjoafidaaGreat
