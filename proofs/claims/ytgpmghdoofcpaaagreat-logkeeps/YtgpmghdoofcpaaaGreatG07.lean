import Derived.Test.YtgpmghdoofcpaaaGreatG06
namespace Go.Proofs.YtgpmghdoofcpaaaGreat
open Go.RowKit Go.QK

/-! The document's records, in plain numbers. -/

structure LiveM where
  tx : Int
  last : Int
  com : Bool
  und : Bool
structure DirtyM where
  page : Int
  since : Int
structure RecM where
  lsn : Int
  kind : Int
  tx : Int
  prev : Int
  wp : Int
  wi : Int
  sp : Int
  si : Int
  delta : Int
  id : Int
  grp : Int
  lo : Int
  hi : Int
  val : Int
  live : List LiveM
  dirty : List DirtyM
  next : Int

def fromB (a n b : Int) : Bool := decide (a ≤ n) && decide (n ≤ b)
def aheadB (n lsn : Int) : Bool := decide (lsn = 0) || decide (n < lsn)
def oneB (has : Bool) (n most : Int) : Bool := bif has then fromB 1 n most else decide (n = 0)
def slotB (p i last : Int) : Bool := fromB 0 p 63 && fromB 0 i last
def slotsB (has : Bool) (wp wi sp si : Int) : Bool :=
  bif has then slotB wp wi 30 && slotB sp si 83 && decide (wp ≠ sp) else (decide (wp = 0) && decide (wi = 0)) && (decide (sp = 0) && decide (si = 0))
def firstB (has : Bool) (grp lo hi val : Int) : Bool :=
  bif has then fromB 1 grp 1048576 && fromB lo val hi else decide (grp = 0) && decide (lo = 0) && decide (hi = 0) && decide (val = 0)
def recB (n lsn : Int) : Bool := fromB 1 n 2147483647 && aheadB n lsn
def liveB (next lsn : Int) : Int → List LiveM → Bool
  | _, [] => true
  | least, l :: ls => fromB least l.tx (next - 1) && recB l.last lsn && !(l.com && l.und) && liveB next lsn (l.tx + 1) ls
def dirtyB (lsn : Int) : Int → List DirtyM → Bool
  | _, [] => true
  | least, d :: ds => fromB least d.page 63 && recB d.since lsn && dirtyB lsn (d.page + 1) ds
def pointsB (has : Bool) (live : List LiveM) (dirty : List DirtyM) (next lsn : Int) : Bool :=
  bif has then fromB 1 next 2147483648 && (decide (live.length ≤ 32) && liveB next lsn 1 live) && (decide (dirty.length ≤ 16) && dirtyB lsn 0 dirty)
  else decide (next = 0) && decide (live.length = 0) && decide (dirty.length = 0)
def hTx (k : Int) : Bool := decide (k = 1) || decide (k = 3) || decide (k = 4) || decide (k = 5) || decide (k = 6) || decide (k = 7)
def hPrev (k : Int) : Bool := decide (k = 3) || decide (k = 4) || decide (k = 5) || decide (k = 6) || decide (k = 7)
def hCtr (k : Int) : Bool := decide (k = 2) || decide (k = 3) || decide (k = 4)
def hFirst (k : Int) : Bool := decide (k = 2)
def hDelta (k : Int) : Bool := decide (k = 3) || decide (k = 4)
def hPts (k : Int) : Bool := decide (k = 8)
def okB (r : RecM) : Bool :=
  fromB 0 r.lsn 2147483647 && aheadB r.prev r.lsn && oneB (hTx r.kind) r.tx 2147483647 && oneB (hPrev r.kind) r.prev 2147483647 &&
    slotsB (hCtr r.kind) r.wp r.wi r.sp r.si && oneB (hCtr r.kind) r.id 1048576 && firstB (hFirst r.kind) r.grp r.lo r.hi r.val &&
    (hDelta r.kind || decide (r.delta = 0)) && pointsB (hPts r.kind) r.live r.dirty r.next r.lsn
def chkE (r : RecM) : Nat := if fromB 1 r.kind 8 = true then (if okB r = true then 0 else 23) else 70

/-! In memory. -/

def liveC (l : LiveM) : List Value := [.int .i64 l.tx, .int .i64 l.last, .bool l.com, .bool l.und]
def dirtyC (d : DirtyM) : List Value := [.int .i64 d.page, .int .i64 d.since]
/-- A row of cells that a slice leads to. -/
def Lies (w : World) (a : Option Addr) (cs : List Value) : Prop :=
  cs = [] ∨ ∃ b off, a = some ⟨b, off, none⟩ ∧ b < w.heap.size ∧ ∀ i (h : i < cs.length), w.cell? ⟨b, off + i, none⟩ = some cs[i]
theorem Lies.keep {S : Nat → Prop} {w w' : World} {a : Option Addr} {cs : List Value} (h : Lies w a cs) (hb : Keep S w w') (hn : ∀ ad, a = some ad → ¬ S ad.block) : Lies w' a cs := by
  rcases h with h | ⟨b, off, ha, hlt, hc⟩
  · exact .inl h
  · exact .inr ⟨b, off, ha, Nat.lt_of_lt_of_le hlt hb.size, fun i hi => (hb.cell (p := ⟨b, off + i, none⟩) hlt (by have := hn _ ha; exact this)).trans (hc i hi)⟩
theorem Lies.below {w w' : World} {a : Option Addr} {cs : List Value} (h : Lies w a cs) (hk : Below w.heap.size w w') : Lies w' a cs :=
  h.keep (Keep.of_below (S := fun _ => False) hk) (fun _ _ => id)
abbrev liveCs (ls : List LiveM) : List Value := ls.flatMap liveC
abbrev dirtyCs (ds : List DirtyM) : List Value := ds.flatMap dirtyC
theorem liveCs_length (ls : List LiveM) : (liveCs ls).length = 4 * ls.length := by
  induction ls with
  | nil => rfl
  | cons l ls ih => simp [liveCs, liveC] at ih ⊢; omega
theorem dirtyCs_length (ls : List DirtyM) : (dirtyCs ls).length = 2 * ls.length := by
  induction ls with
  | nil => rfl
  | cons l ls ih => simp [dirtyCs, dirtyC] at ih ⊢; omega
theorem liveCs_get (ls : List LiveM) (k : Nat) (hk : k < ls.length) (j : Nat) (hj : j < 4) : (liveCs ls)[4 * k + j]? = (liveC ls[k])[j]? := by
  induction ls generalizing k with
  | nil => simp at hk
  | cons l ls ih =>
    cases k with
    | zero =>
      simp only [liveCs, List.flatMap_cons, Nat.mul_zero, Nat.zero_add]
      rw [List.getElem?_append_left (by simp [liveC]; omega)]
      rfl
    | succ k =>
      simp only [liveCs, List.flatMap_cons]
      rw [List.getElem?_append_right (by simp [liveC]; omega)]
      have := ih k (by simpa using hk)
      simp only [List.getElem_cons_succ]
      rw [← this]
      congr 1
      simp [liveC]; omega
theorem dirtyCs_get (ls : List DirtyM) (k : Nat) (hk : k < ls.length) (j : Nat) (hj : j < 2) : (dirtyCs ls)[2 * k + j]? = (dirtyC ls[k])[j]? := by
  induction ls generalizing k with
  | nil => simp at hk
  | cons l ls ih =>
    cases k with
    | zero =>
      simp only [dirtyCs, List.flatMap_cons, Nat.mul_zero, Nat.zero_add]
      rw [List.getElem?_append_left (by simp [dirtyC]; omega)]
      rfl
    | succ k =>
      simp only [dirtyCs, List.flatMap_cons]
      rw [List.getElem?_append_right (by simp [dirtyC]; omega)]
      have := ih k (by simpa using hk)
      simp only [List.getElem_cons_succ]
      rw [← this]
      congr 1
      simp [dirtyC]; omega
theorem Lies.cellAt {w : World} {a : Option Addr} {cs : List Value} (h : Lies w a cs) (i : Nat) (v : Value) (hv : cs[i]? = some v) : ∃ b off, a = some ⟨b, off, none⟩ ∧ b < w.heap.size ∧ w.cell? ⟨b, off + i, none⟩ = some v := by
  obtain ⟨hi, hv⟩ := List.getElem?_eq_some_iff.1 hv
  rcases h with h | ⟨b, off, ha, hlt, hc⟩
  · rw [h] at hi; simp at hi
  · exact ⟨b, off, ha, hlt, by rw [hc i hi, hv]⟩
theorem Lies.liveAt {w : World} {a : Option Addr} {ls : List LiveM} (h : Lies w a (liveCs ls)) (k : Nat) (hk : k < ls.length) :
    ∃ b off, a = some ⟨b, off, none⟩ ∧ b < w.heap.size ∧ w.cell? ⟨b, off + k * 4, none⟩ = some (.int .i64 ls[k].tx) ∧ w.cell? ⟨b, off + k * 4 + 1, none⟩ = some (.int .i64 ls[k].last) ∧ w.cell? ⟨b, off + k * 4 + 2, none⟩ = some (.bool ls[k].com) ∧ w.cell? ⟨b, off + k * 4 + 3, none⟩ = some (.bool ls[k].und) := by
  rcases h with h | ⟨b, off, ha, hlt, hc⟩
  · have := liveCs_length ls
    rw [h] at this
    simp at this
    omega
  · have len := liveCs_length ls
    have key : ∀ j (hj : j < 4) v, (liveC ls[k])[j]? = some v → w.cell? ⟨b, off + k * 4 + j, none⟩ = some v := by
      intro j hj v hv
      have e := liveCs_get ls k hk j hj
      rw [hv] at e
      obtain ⟨hi, hv'⟩ := List.getElem?_eq_some_iff.1 e
      have q := hc (4 * k + j) hi
      rw [hv'] at q
      rw [← q]
      congr 2
      omega
    exact ⟨b, off, ha, hlt, key 0 (by omega) _ rfl, key 1 (by omega) _ rfl, key 2 (by omega) _ rfl, key 3 (by omega) _ rfl⟩
theorem Lies.dirtyAt {w : World} {a : Option Addr} {ls : List DirtyM} (h : Lies w a (dirtyCs ls)) (k : Nat) (hk : k < ls.length) :
    ∃ b off, a = some ⟨b, off, none⟩ ∧ b < w.heap.size ∧ w.cell? ⟨b, off + k * 2, none⟩ = some (.int .i64 ls[k].page) ∧ w.cell? ⟨b, off + k * 2 + 1, none⟩ = some (.int .i64 ls[k].since) := by
  rcases h with h | ⟨b, off, ha, hlt, hc⟩
  · have := dirtyCs_length ls
    rw [h] at this
    simp at this
    omega
  · have len := dirtyCs_length ls
    have key : ∀ j (hj : j < 2) v, (dirtyC ls[k])[j]? = some v → w.cell? ⟨b, off + k * 2 + j, none⟩ = some v := by
      intro j hj v hv
      have e := dirtyCs_get ls k hk j hj
      rw [hv] at e
      obtain ⟨hi, hv'⟩ := List.getElem?_eq_some_iff.1 e
      have q := hc (2 * k + j) hi
      rw [hv'] at q
      rw [← q]
      congr 2
      omega
    exact ⟨b, off, ha, hlt, key 0 (by omega) _ rfl, key 1 (by omega) _ rfl⟩

set_option maxRecDepth 100000
theorem fromI_any (a n b : Int) (w : World) : Calls Tryz.prog 99 #[.int .i64 a, .int .i64 n, .int .i64 b] w fun e w' => e = .returned (.bool (fromB a n b)) ∧ w' = w := by
  unfold fromB
  by_cases h : a ≤ n
  · go_enter Tryz.func99, Tryz.ntmps99
    go_wp2_with fail
    go_ret
    exact ⟨by simp [h], rfl⟩
  · go_enter Tryz.func99, Tryz.ntmps99
    go_wp2_with fail
    go_ret
    exact ⟨by simp; omega, rfl⟩
theorem fromK_any (a n b : Int) (w : World) : Calls Tryz.prog 75 #[.int .i64 a, .int .i64 n, .int .i64 b] w fun e w' => e = .returned (.bool (fromB a n b)) ∧ w' = w := by
  unfold fromB
  by_cases h : a ≤ n
  · go_enter Tryz.func75, Tryz.ntmps75
    go_wp2_with fail
    go_ret
    exact ⟨by simp [h], rfl⟩
  · go_enter Tryz.func75, Tryz.ntmps75
    go_wp2_with fail
    go_ret
    exact ⟨by simp; omega, rfl⟩
theorem fromU_any (a n b : Int) (w : World) : Calls Tryz.prog 94 #[.int .u64 a, .int .u64 n, .int .u64 b] w fun e w' => e = .returned (.bool (fromB a n b)) ∧ w' = w := by
  unfold fromB
  by_cases h : a ≤ n
  · go_enter Tryz.func94, Tryz.ntmps94
    go_wp2_with fail
    go_ret
    exact ⟨by simp [h], rfl⟩
  · go_enter Tryz.func94, Tryz.ntmps94
    go_wp2_with fail
    go_ret
    exact ⟨by simp; omega, rfl⟩
theorem fromL_any (a n b : Int) (w : World) : Calls Tryz.prog 118 #[.int .i64 a, .int .i64 n, .int .i64 b] w fun e w' => e = .returned (.bool (fromB a n b)) ∧ w' = w := by
  unfold fromB
  by_cases h : a ≤ n
  · go_enter Tryz.func118, Tryz.ntmps118
    go_wp2_with fail
    go_ret
    exact ⟨by simp [h], rfl⟩
  · go_enter Tryz.func118, Tryz.ntmps118
    go_wp2_with fail
    go_ret
    exact ⟨by simp; omega, rfl⟩
theorem ahead_any (n l : Int) (w : World) : Calls Tryz.prog 100 #[.int .i64 n, .int .i64 l] w fun e w' => e = .returned (.bool (aheadB n l)) ∧ w' = w := by
  unfold aheadB
  by_cases h : l = 0
  · have h1 : (l == 0) = true := by simpa using h
    have H : Hid _ := h
    clear h
    go_enter Tryz.func100, Tryz.ntmps100
    go_wp2_with fail
    go_ret
    exact ⟨by simp [H.out], rfl⟩
  · go_enter Tryz.func100, Tryz.ntmps100
    go_wp2_with fail
    go_ret
    exact ⟨by simp [h], rfl⟩
theorem oneOf_any (has : Bool) (n m : Int) (w : World) : Calls Tryz.prog 101 #[.bool has, .int .i64 n, .int .i64 m] w fun e w' => e = .returned (.bool (oneB has n m)) ∧ w' = w := by
  unfold oneB
  cases has
  · go_enter Tryz.func101, Tryz.ntmps101
    go_wp2_with fail
    go_ret
    exact ⟨rfl, rfl⟩
  · go_enter Tryz.func101, Tryz.ntmps101
    go_wp2_with fail
    refine (fromI_any 1 n m _).mono ?_
    rintro e w' ⟨rfl, rfl⟩
    go_wp2_with fail
    go_ret
    exact ⟨by simp, rfl⟩
theorem recMay_any (n l : Int) (w : World) : Calls Tryz.prog 123 #[.int .i64 n, .int .i64 l] w fun e w' => e = .returned (.bool (recB n l)) ∧ w' = w := by
  unfold recB
  have hf := fun w => fromI_any 1 n 2147483647 w
  generalize fromB 1 n 2147483647 = q at *
  cases q
  · go_enter Tryz.func123, Tryz.ntmps123
    go_wp2_with fail
    refine (hf _).mono ?_
    rintro e w' ⟨rfl, rfl⟩
    go_wp2_with fail
    go_ret
    exact ⟨by simp, rfl⟩
  · go_enter Tryz.func123, Tryz.ntmps123
    go_wp2_with fail
    refine (hf _).mono ?_
    rintro e w' ⟨rfl, rfl⟩
    go_wp2_with fail
    refine (ahead_any n l _).mono ?_
    rintro e w' ⟨rfl, rfl⟩
    go_wp2_with fail
    go_ret
    exact ⟨by simp, rfl⟩
end Go.Proofs.YtgpmghdoofcpaaaGreat

namespace Go.Proofs.YtgpmghdoofcpaaaGreat
open Go.RowKit Go.QK

/-- A literal of bytes. -/
theorem lit_own (w : World) (l : List Nat) (hl : l.length ≤ 1000) : OwnB (w.alloc (.cells ((ints l).map (Value.int .u8)).toArray 5)) w.heap.size (.slice (some ⟨w.heap.size, 0, none⟩) l.length l.length) l := by
  have := World.ownsRow_lit (base := w.heap.size) (e := 5) (size := 1) w ((ints l).map (Value.int .u8)).toArray l.length (Nat.le_refl _) (by unfold maxLen; omega) (by simp)
  simpa [Owns] using this
theorem form300 : form 300 = [172, 2] := by rw [form_big (by decide), form_small (by decide)]
theorem form1 : form 1 = [1] := form_small (by decide)
theorem alloc_below (w : World) (o : Obj) : Below w.heap.size w (w.alloc o) := (Below.refl _ _).alloc (Nat.le_refl _) _
theorem bnext {B : Nat} {w w1 w2 : World} (h : Below B w w1) (k : Below w1.heap.size w1 w2) (hB : B ≤ w.heap.size) : Below B w w2 := h.trans (k.mono (Nat.le_trans hB h.size))
theorem bkeep {B : Nat} {S : Nat → Prop} {w w1 w2 : World} (h : Below B w w1) (k : Keep S w1 w2) (hB : B ≤ w.heap.size) (hS : ∀ j, S j → B ≤ j) : Below B w w2 :=
  h.trans (k.below (Nat.le_trans hB h.size) (fun j hj q => by have := hS j q; omega))
theorem Tab.under {B : Nat} {w w' : World} (h : Tab w) (k : Below B w w') (hB : 0 < B) : Tab w' :=
  ⟨Nat.lt_of_lt_of_le h.1 k.size, fun i hi => (k.cell (p := ⟨0, i, none⟩) hB).trans (h.2 i hi)⟩

/-- A reader's blocks lie apart from a writer's. -/
theorem Rd.aside {w w' : World} {B P p : Nat} {v : Value} {a : Option Addr} {c : Nat} {l : List Nat} {pos e : Nat} (h : Rd w p a c l pos e) (hk : Keep (wS P v) w w') (hp : B < p) (ha : ∀ ad, a = some ad → B < ad.block) (hB : P ≤ B)
    (hv : ∀ g, v.ownBlock = some g → g ≠ p ∧ ∀ ad, a = some ad → g ≠ ad.block) : Rd w' p a c l pos e := by
  refine h.keep hk ?_ ?_
  · rintro (q | q)
    · omega
    · exact (hv p q).1 rfl
  · intro ad had
    rintro (q | q)
    · have := ha ad had; omega
    · exact (hv _ q).2 ad had rfl
theorem Rd.lt {w : World} {p : Nat} {a : Option Addr} {c : Nat} {l : List Nat} {pos e : Nat} (h : Rd w p a c l pos e) : p < w.heap.size ∧ (0 < l.length → ∀ ad, a = some ad → ad.block < w.heap.size) := by
  refine ⟨h.1.1, fun hl ad had => ?_⟩
  rcases h.2.1 with q | ⟨b, off, q, hb, _⟩
  · have := congrArg List.length q
    simp at this
    subst this
    simp at hl
  · rw [had] at q
    cases q
    exact hb

/-- An element of a list of lists of bytes. -/
def Part (w : World) (p : Value × List Nat) : Prop := ∃ ai ci, p.1 = .slice ai p.2.length ci ∧ Bytes w ai p.2 ∧ AllB p.2 ∧ p.2.length ≤ maxLen
theorem Part.below {w w' : World} {p : Value × List Nat} (h : Part w p) (k : Below w.heap.size w w') : Part w' p := by
  obtain ⟨ai, ci, h1, h2, h3⟩ := h
  exact ⟨ai, ci, h1, Seen.below h2 k, h3⟩
theorem Parts.lit (w : World) (ps : List (Value × List Nat)) (h : ∀ p ∈ ps, Part w p) : Parts (w.alloc (.cells (ps.map (·.1)).toArray 80)) (some ⟨w.heap.size, 0, none⟩) ps := by
  refine .inr ⟨w.heap.size, 0, rfl, by simp, fun i hi => ⟨?_, ?_⟩⟩
  · rw [Nat.zero_add, World.cell?_alloc_new]
    simp [hi]
  · exact (h _ (List.getElem_mem hi)).below (alloc_below _ _)
/-! A literal of bytes by a conversion of a constant: a row of its own, with the conversion's mark behind it. -/
theorem cell?_freeze (w : World) (a b : Addr) (n : Nat) : (w.freeze a n).cell? b = w.cell? b := by
  unfold World.freeze
  split
  · rfl
  · unfold World.cell?
    simp only [Array.getElem?_modify]
    by_cases q : a.block = b.block
    · rw [if_pos q]
      cases hh : w.heap[b.block]? with
      | none => rfl
      | some o => cases o <;> rfl
    · rw [if_neg q]
theorem freeze_block (w : World) (a : Addr) (n k : Nat) (h : a.block ≠ k) : (w.freeze a n).heap[k]? = w.heap[k]? := by
  unfold World.freeze
  split
  · rfl
  · simp only [Array.getElem?_modify]
    rw [if_neg h]
theorem freeze_size (w : World) (a : Addr) (n : Nat) : (w.freeze a n).heap.size = w.heap.size := by
  unfold World.freeze
  split
  · rfl
  · simp
def marked (w : World) (cs : Array Value) : World := (w.alloc (.cells cs 5)).freeze ⟨w.heap.size, cs.size, none⟩ 1
theorem marked_size (w : World) (cs : Array Value) : (marked w cs).heap.size = w.heap.size + 1 := by
  unfold marked
  rw [freeze_size]
  simp
theorem marked_below (w : World) (cs : Array Value) : Below w.heap.size w (marked w cs) := by
  have h := alloc_below w (.cells cs 5)
  have e : ∀ a, ((w.alloc (.cells cs 5)).freeze a 1).os = w.os ∧ ((w.alloc (.cells cs 5)).freeze a 1).tape = w.tape ∧ ((w.alloc (.cells cs 5)).freeze a 1).output = w.output := fun a => ⟨h.os, h.tape, h.output⟩
  refine ⟨(e _).1, (e _).2.1, (e _).2.2, by rw [marked_size]; omega, fun k hk => ?_⟩
  unfold marked
  rw [freeze_block _ _ _ _ (by show w.heap.size ≠ k; omega)]
  exact h.block k hk
theorem marked_bytes (w : World) (l : List Nat) : Bytes (marked w ((ints l).map (Value.int .u8)).toArray) (some ⟨w.heap.size, 0, none⟩) l := by
  refine .inr ⟨w.heap.size, 0, rfl, by rw [marked_size]; omega, fun i hi => ?_⟩
  unfold marked
  rw [cell?_freeze, Nat.zero_add, World.cell?_alloc_new]
  simp at hi
  simp [hi]
theorem conv_lit (w : World) (cs : Array Value) (n : Nat) : (convert 80 80 (.slice (some ⟨w.heap.size, 0, none⟩) n n)).run Tryz.prog (w.alloc (.cells cs 5)) = .ok (.slice (some ⟨w.heap.size, 0, none⟩) n n) (marked w cs) := by
  have hsh : (w.alloc (.cells cs 5)).shape? w.heap.size = some (5, cs.size) := by
    simp [World.shape?, World.alloc, -World.alloc_eq]
  simp [convert, run_underlying Tryz.underlying80, run_underlying Tryz.underlying5, markStringish, hsh, marked, Result.andThen, -World.alloc_eq]
theorem allB_of {l : List Nat} (h : l.all (fun x => decide (x < 256)) = true) : AllB l := by
  intro x hx
  simpa using List.all_eq_true.1 h x hx
theorem le_maxLen {n : Nat} (h : n.ble 1000000 = true) : n ≤ maxLen := by
  have := Nat.le_of_ble_eq_true h
  unfold maxLen
  omega
end Go.Proofs.YtgpmghdoofcpaaaGreat
