import Derived.Test.YtaohdmaenplbpaaGreatLdAJ
import Derived.Test.YtaohdmaenplbpaaGreatEc22
import Derived.BigQuiet
import Derived.Deep.QuietTactic
import Derived.Deep.DeepCutAuto
set_option linter.all false
namespace Go.Proofs.YtaohdmaenplbpaaGreat
open Go.RowKit Go.QK Quota Go.Maps Go.QM
set_option maxRecDepth 100000
/-! sumOf (20): a group's three numbers, out of the escrows. -/
def gS (F : Esc → Int) (g : Int) : List SE → Int
  | [] => 0
  | x :: r => (if x.grp = g then F x.e else 0) + gS F g r
def gN (g : Int) (es : List SE) : List Int := es.flatMap (fun x => if x.grp = g then x.e.nets.map Prod.snd else [])
theorem gS_app (F : Esc → Int) (g : Int) (a b : List SE) : gS F g (a ++ b) = gS F g a + gS F g b := by
  induction a with
  | nil => simp [gS]
  | cons x r ih => simp only [List.cons_append, gS, ih]; omega
theorem gS_take (F : Esc → Int) (g : Int) {es : List SE} {i : Nat} (hi : i < es.length) : gS F g (es.take (i + 1)) = gS F g (es.take i) + (if es[i].grp = g then F es[i].e else 0) := by
  rw [List.take_add_one, List.getElem?_eq_getElem hi, gS_app]
  simp [gS]
theorem gN_take (g : Int) {es : List SE} {i : Nat} (hi : i < es.length) : gN g (es.take (i + 1)) = gN g (es.take i) ++ (if es[i].grp = g then es[i].e.nets.map Prod.snd else []) := by
  have e : es.take (i + 1) = es.take i ++ [es[i]] := by rw [List.take_add_one, List.getElem?_eq_getElem hi]; rfl
  unfold gN
  rw [e, List.flatMap_append, List.flatMap_cons, List.flatMap_nil, List.append_nil]
theorem gS_sum (F : Esc → Int) (g : Int) (es : List SE) : gS F g es = sumM (fun p : Int × Ctr => if p.2.grp = g then F p.2.e else 0) (ctrsOf es) := by
  induction es with
  | nil => rfl
  | cons x r ih =>
    show (if x.grp = g then F x.e else 0) + gS F g r = _
    rw [ih]
    rfl
theorem lows_nets (L : Nets) : lows (L.map Prod.snd) = lowS L ∧ highs (L.map Prod.snd) = highS L := by
  induction L with
  | nil => exact ⟨rfl, rfl⟩
  | cons p r ih =>
    obtain ⟨h1, h2⟩ := ih
    simp only [List.map_cons, lows, highs, lowS, highS, sumF, neg0, pos0] at h1 h2 ⊢
    rw [h1, h2]
    constructor
    · split <;> omega
    · split <;> omega
theorem lows_app2 (a b : List Int) : lows (a ++ b) = lows a + lows b ∧ highs (a ++ b) = highs a + highs b := by
  induction a with
  | nil => simp [lows, highs]
  | cons x r ih =>
    simp only [List.cons_append, lows, highs, ih.1, ih.2]
    constructor <;> omega
theorem gN_lows (g : Int) (es : List SE) : gS Esc.base g es + lows (gN g es) = gS Esc.low g es ∧ gS Esc.base g es + highs (gN g es) = gS Esc.high g es := by
  induction es with
  | nil => simp [gS, gN, lows, highs]
  | cons x r ih =>
    have e : gN g (x :: r) = (if x.grp = g then x.e.nets.map Prod.snd else []) ++ gN g r := by simp [gN]
    rw [e, (lows_app2 _ _).1, (lows_app2 _ _).2]
    simp only [gS]
    have q := lows_nets x.e.nets
    by_cases h : x.grp = g
    · simp only [if_pos h, q.1, q.2, Esc.low, Esc.high] at ih ⊢
      omega
    · simp only [if_neg h, lows, highs] at ih ⊢
      omega
/-- The nets of those below t. -/
def nB (e : Esc) (t : Int) : List Int := (e.nets.filter (fun p => decide (p.1 < t))).map Prod.snd
theorem nets_before {L : Nets} (h : Rise L) (t : Int) : (L.filter (fun p => decide (p.1 < t + 1))).map Prod.snd = (L.filter (fun p => decide (p.1 < t))).map Prod.snd ++ (if holdB L t then [netV L t] else []) := by
  induction L with
  | nil => rfl
  | cons p r ih =>
    have i := ih h.tail
    have hd := h.head
    rcases Int.lt_trichotomy p.1 t with q | q | q
    · have e1 : decide (p.1 < t + 1) = true := by rw [decide_eq_true_iff]; omega
      have e2 : decide (p.1 < t) = true := by rw [decide_eq_true_iff]; omega
      have e3 : holdB (p :: r) t = holdB r t := by rw [holdB_cons]; have : ¬ p.1 = t := by omega
                                                   simp [this]
      have e4 : netV (p :: r) t = netV r t := by
        unfold netV
        rw [List.find?_cons]
        have : (p.1 == t) = false := by simpa using (show p.1 ≠ t by omega)
        rw [this]
      rw [List.filter_cons, if_pos e1, List.filter_cons, if_pos e2, List.map_cons, List.map_cons, i, e3, e4]
      rfl
    · have e1 : decide (p.1 < t + 1) = true := by rw [decide_eq_true_iff]; omega
      have e2 : ¬ decide (p.1 < t) = true := by rw [decide_eq_true_iff]; omega
      have e3 : holdB (p :: r) t = true := by rw [holdB_cons]; simp [q]
      have e4 : netV (p :: r) t = p.2 := by
        unfold netV
        rw [List.find?_cons]
        have : (p.1 == t) = true := by simpa using q
        rw [this]
      have e5 : r.filter (fun p => decide (p.1 < t + 1)) = [] := List.filter_eq_nil_iff.2 (fun y hy => by have := hd y hy; rw [decide_eq_true_iff]; omega)
      have e6 : r.filter (fun p => decide (p.1 < t)) = [] := List.filter_eq_nil_iff.2 (fun y hy => by have := hd y hy; rw [decide_eq_true_iff]; omega)
      rw [List.filter_cons, if_pos e1, List.filter_cons, if_neg e2, e3, e4, e5, e6]
      rfl
    · have e1 : ¬ decide (p.1 < t + 1) = true := by rw [decide_eq_true_iff]; omega
      have e2 : ¬ decide (p.1 < t) = true := by rw [decide_eq_true_iff]; omega
      have e3 : holdB (p :: r) t = holdB r t := by rw [holdB_cons]; have : ¬ p.1 = t := by omega
                                                   simp [this]
      have e4 : netV (p :: r) t = netV r t := by
        unfold netV
        rw [List.find?_cons]
        have : (p.1 == t) = false := by simpa using (show p.1 ≠ t by omega)
        rw [this]
      rw [List.filter_cons, if_neg e1, List.filter_cons, if_neg e2, i, e3, e4]
theorem nB_one {e : Esc} (h : ∀ p ∈ e.nets, 1 ≤ p.1 ∧ p.1 ≤ 6) : nB e 1 = [] ∧ nB e 7 = e.nets.map Prod.snd := by
  unfold nB
  rw [List.filter_eq_nil_iff.2 (fun p hp => by have := h p hp; rw [decide_eq_true_iff]; omega), List.filter_eq_self.2 (fun p hp => by have := h p hp; rw [decide_eq_true_iff]; omega)]
  exact ⟨rfl, rfl⟩
theorem nB_len {e : Esc} {t : Int} : (nB e t).length ≤ e.nets.length := by
  unfold nB
  rw [List.length_map]
  exact List.length_filter_le _ _
theorem gN_len {g : Int} {es : List SE} (h : ∀ x ∈ es, x.e.nets.length ≤ 6) : (gN g es).length ≤ 6 * es.length := by
  induction es with
  | nil => simp [gN]
  | cons x r ih =>
    have i := ih (fun y hy => h y (List.mem_cons_of_mem _ hy))
    have hx := h x List.mem_cons_self
    have e : gN g (x :: r) = (if x.grp = g then x.e.nets.map Prod.snd else []) ++ gN g r := by simp [gN]
    rw [e, List.length_append, List.length_cons]
    have : (if x.grp = g then x.e.nets.map Prod.snd else []).length ≤ 6 := by split <;> simp <;> omega
    omega
theorem gN_in {g : Int} {es : List SE} (h : ∀ x ∈ es, x.e.Ok) : ∀ z ∈ gN g es, B1 z := by
  intro z hz
  obtain ⟨x, hx, hq⟩ := List.mem_flatMap.1 hz
  split at hq
  · obtain ⟨p, hp, rfl⟩ := List.mem_map.1 hq
    have := (h x hx).all p hp
    unfold I64 at this
    unfold B1
    omega
  · cases hq
theorem gS_in {F : Esc → Int} {g : Int} {es : List SE} (h : ∀ x ∈ es, I64 (F x.e)) : -(9223372036854775808 * (es.length : Int)) ≤ gS F g es ∧ gS F g es ≤ 9223372036854775808 * (es.length : Int) := by
  induction es with
  | nil => simp [gS]
  | cons x r ih =>
    have i := ih (fun y hy => h y (List.mem_cons_of_mem _ hy))
    have hx := h x List.mem_cons_self
    unfold I64 at hx
    simp only [gS, List.length_cons]
    split <;> omega
theorem sum_three {es : List SE} (g : Int) : gS Esc.val g es = sumG (ctrsOf es) g ∧ gS Esc.low g es = lowG (ctrsOf es) g ∧ gS Esc.high g es = highG (ctrsOf es) g := ⟨gS_sum _ _ _, gS_sum _ _ _, gS_sum _ _ _⟩
theorem info59 : (Tryz.prog.info? 59).map (fun i => (i.zero, i.size, i.bytes)) = some (some (.agg #[.int .i64 0, .int .i64 0]), 2, 16) := by kernel_rfl
theorem rows_snoc2 (zs : List Int) (z : Int) : rowsC wdC (zs ++ [z]) = rowsC wdC zs ++ [.int .i64 (wh z), .int .i64 (wl z)] := by
  unfold rowsC
  rw [List.flatMap_append]
  rfl
/-- The boxes of sumOf while it goes. -/
structure Sm (w wr : World) (b sx bx : Nat) (v : Value) (s bs : Int) (zs : List Int) : Prop where
  be : Below w.heap.size w wr
  lo : w.heap.size ≤ b
  o1 : b + 2 < sx
  o2 : sx < bx
  r0 : Cells wr b [.int .i64 0, .int .i64 0]
  r1 : Cells wr (b + 1) [.int .i64 0, .int .i64 0]
  r2 : Cells wr (b + 2) [.int .i64 0, .int .i64 0]
  sm : Cells wr sx [.int .i64 (wh s), .int .i64 (wl s)]
  ba : Cells wr bx [.int .i64 (wh bs), .int .i64 (wl bs)]
  ns : GRow wr (bx + 1) 59 2 v zs.length (rowsC wdC zs)
theorem Sm.below {w wr wz : World} {b sx bx : Nat} {v : Value} {s bs : Int} {zs : List Int} (h : Sm w wr b sx bx v s bs zs) (k : Below wr.heap.size wr wz) : Sm w wz b sx bx v s bs zs := ⟨h.be.trans (k.mono h.be.size), h.lo, h.o1, h.o2, h.r0.below k, h.r1.below k, h.r2.below k, h.sm.below k, h.ba.below k, GRow.below h.ns k⟩
theorem Sm.lt {w wr : World} {b sx bx : Nat} {v : Value} {s bs : Int} {zs : List Int} (h : Sm w wr b sx bx v s bs zs) : bx < wr.heap.size := h.ba.1
theorem Sm.setS {w wr : World} {b sx bx : Nat} {v : Value} {s bs : Int} {zs : List Int} (h : Sm w wr b sx bx v s bs zs) (s' : Int) : Sm w ((wr.setCell ⟨sx, 0, none⟩ (.int .i64 (wh s'))).setCell ⟨sx, 1, none⟩ (.int .i64 (wl s'))) b sx bx v s' bs zs := by
  have k := ((Keep.refl (fun z => z = sx) wr).setCell (g := sx) (j := 0) (fun _ => rfl) (.int .i64 (wh s'))).setCell (g := sx) (j := 1) (fun _ => rfl) (.int .i64 (wl s'))
  have lo := h.lo
  have o1 := h.o1
  have o2 := h.o2
  have ns := h.ns
  refine ⟨h.be.trans (k.below h.be.size (fun z hz q => by omega)), h.lo, h.o1, h.o2, h.r0.keep k (by omega), h.r1.keep k (by omega), h.r2.keep k (by omega), ?_, h.ba.keep k (by omega), GRow.keep h.ns k (fun g hg q => by have := (World.ownsRow.lt ns g hg).1; omega)⟩
  have c := (h.sm.stored (j := 0) (by simp) (.int .i64 (wh s'))).stored (j := 1) (by simp) (.int .i64 (wl s'))
  simpa using c
theorem Sm.setB {w wr : World} {b sx bx : Nat} {v : Value} {s bs : Int} {zs : List Int} (h : Sm w wr b sx bx v s bs zs) (s' : Int) : Sm w ((wr.setCell ⟨bx, 0, none⟩ (.int .i64 (wh s'))).setCell ⟨bx, 1, none⟩ (.int .i64 (wl s'))) b sx bx v s s' zs := by
  have k := ((Keep.refl (fun z => z = bx) wr).setCell (g := bx) (j := 0) (fun _ => rfl) (.int .i64 (wh s'))).setCell (g := bx) (j := 1) (fun _ => rfl) (.int .i64 (wl s'))
  have lo := h.lo
  have o1 := h.o1
  have o2 := h.o2
  have ns := h.ns
  refine ⟨h.be.trans (k.below h.be.size (fun z hz q => by omega)), h.lo, h.o1, h.o2, h.r0.keep k (by omega), h.r1.keep k (by omega), h.r2.keep k (by omega), h.sm.keep k (by omega), ?_, GRow.keep h.ns k (fun g hg q => by have := (World.ownsRow.lt ns g hg).1; omega)⟩
  have c := (h.ba.stored (j := 0) (by simp) (.int .i64 (wh s'))).stored (j := 1) (by simp) (.int .i64 (wl s'))
  simpa using c
end Go.Proofs.YtaohdmaenplbpaaGreat
