import Derived.Test.YtakjpljpdlhicaaDoorPg0
namespace Go.Proofs.YtakjpljpdlhicaaDoor
open Go.RowKit Go.QK Go.Pg
set_option maxRecDepth 100000

theorem from_any (l n m : Int) (w : World) : Calls Tryd.prog 24 #[.int .i64 l, .int .i64 n, .int .i64 m] w fun e w' => e = .returned (.bool (decide (l ≤ n) && decide (n ≤ m))) ∧ w' = w := by
  by_cases h : l ≤ n
  · have hd : decide (l ≤ n) = true := by simp [h]
    rw [hd]
    clear h
    go_enter Tryd.func24, Tryd.ntmps24
    go_wp2_with fail
    go_ret
    exact ⟨by simp, rfl⟩
  · have hd : decide (l ≤ n) = false := by simp [h]
    rw [hd]
    clear h
    go_enter Tryd.func24, Tryd.ntmps24
    go_wp2_with fail
    go_ret
    exact ⟨by simp, rfl⟩
theorem fromU_any (l n m : Int) (w : World) : Calls Tryd.prog 47 #[.int .u64 l, .int .u64 n, .int .u64 m] w fun e w' => e = .returned (.bool (decide (l ≤ n) && decide (n ≤ m))) ∧ w' = w := by
  by_cases h : l ≤ n
  · have hd : decide (l ≤ n) = true := by simp [h]
    rw [hd]
    clear h
    go_enter Tryd.func47, Tryd.ntmps47
    go_wp2_with fail
    go_ret
    exact ⟨by simp, rfl⟩
  · have hd : decide (l ≤ n) = false := by simp [h]
    rw [hd]
    clear h
    go_enter Tryd.func47, Tryd.ntmps47
    go_wp2_with fail
    go_ret
    exact ⟨by simp, rfl⟩
theorem most_any (k : Nat) (w : World) : Calls Tryd.prog 48 #[.int .u64 (k : Int)] w fun e w' => e = .returned (.int .u64 (((if k = 1 then 31 else 84 : Nat) : Nat) : Int)) ∧ w' = w := by
  by_cases h : k = 1
  · subst h
    go_enter Tryd.func48, Tryd.ntmps48
    go_wp2_with fail
    go_ret
    exact ⟨rfl, rfl⟩
  · have hd : ((k : Int) == 1) = false := by simp; omega
    rw [if_neg h]
    clear h
    go_enter Tryd.func48, Tryd.ntmps48
    go_wp2_with fail
    go_ret
    exact ⟨rfl, rfl⟩

/-! A page in memory. -/
def ctrC (c : CtrM) : List Value := [.int .i64 c.id, .int .i64 c.grp, .int .i64 c.lo, .int .i64 c.hi, .int .i64 c.val]
def grpC (g : GrpM) : List Value := [.int .i64 g.id, .int .i64 g.sum]
abbrev ctrsC (cs : List CtrM) : List Value := rowsC ctrC cs
abbrev grpsC (gs : List GrpM) : List Value := rowsC grpC gs
theorem ctrC_length (c : CtrM) : (ctrC c).length = 5 := rfl
theorem grpC_length (c : GrpM) : (grpC c).length = 2 := rfl
/-- Where a page's lists lie. -/
structure At where
  a : Option Addr
  c : Nat
  b : Option Addr
  d : Nat
abbrev pageV (p : PageM) (t : At) : Value := .agg #[.int .i64 p.num, .int .i64 p.lsn, .slice t.a p.cs.length t.c, .slice t.b p.gs.length t.d]
structure PageIn (w : World) (p : PageM) (t : At) : Prop where
  cs : Lies w t.a (ctrsC p.cs)
  gs : Lies w t.b (grpsC p.gs)
  fit : p.Fit
theorem PageIn.keep {S : Nat → Prop} {w w' : World} {p : PageM} {t : At} (h : PageIn w p t) (hb : Keep S w w') (h1 : ∀ ad, t.a = some ad → ¬ S ad.block) (h2 : ∀ ad, t.b = some ad → ¬ S ad.block) : PageIn w' p t := ⟨h.cs.keep hb h1, h.gs.keep hb h2, h.fit⟩
theorem PageIn.below {w w' : World} {p : PageM} {t : At} (h : PageIn w p t) (hk : Below w.heap.size w w') : PageIn w' p t := ⟨h.cs.below hk, h.gs.below hk, h.fit⟩
theorem alloc_below (w : World) (o : Obj) : Below w.heap.size w (w.alloc o) := (Below.refl _ _).alloc (Nat.le_refl _) _
theorem bnext {B : Nat} {w w1 w2 : World} (h : Below B w w1) (k : Below w1.heap.size w1 w2) (hB : B ≤ w.heap.size) : Below B w w2 := h.trans (k.mono (Nat.le_trans hB h.size))

theorem isEmpty_any (p : PageM) (t : At) (w : World) : Calls Tryd.prog 32 #[pageV p t] w fun e w' => e = .returned (.bool (isEmpty p)) ∧ Below w.heap.size w w' := by
  obtain ⟨num, lsn, cs, gs⟩ := p
  obtain ⟨a, c, b, d⟩ := t
  simp only [pageV, isEmpty]
  generalize cs.length = n
  generalize gs.length = m
  by_cases h : n = 0
  · subst h
    go_enter Tryd.func32, Tryd.ntmps32
    go_wp2_with fail
    go_ret
    refine ⟨?_, alloc_below _ _⟩
    cases m <;> simp <;> omega
  · have hd : ((n : Int) == 0) = false := by simp; omega
    go_enter Tryd.func32, Tryd.ntmps32
    go_wp2_with fail
    go_ret
    refine ⟨?_, alloc_below _ _⟩
    simp [h]

theorem allZ_take {l : List Nat} {k : Nat} (h : allZ (l.take k) = true) (hk : k < l.length) : allZ (l.take (k + 1)) = decide (l.getD k 0 = 0) := by
  unfold allZ at *
  rw [List.take_succ_eq_append_getElem hk, List.all_append, h]
  simp [hk]
  rfl
theorem allZ_take_false {l : List Nat} {k : Nat} (h : l.getD k 0 ≠ 0) : allZ l = false := by
  unfold allZ
  rw [Bool.eq_false_iff]
  intro q
  rw [List.all_eq_true] at q
  by_cases hk : k < l.length
  · have := q l[k] (List.getElem_mem hk)
    simp [hk] at h this
    exact h this
  · simp [List.getElem?_eq_none (Nat.le_of_not_lt hk)] at h
set_option maxHeartbeats 1000000 in
theorem allZeros_any (a : Option Addr) (c : Nat) (l : List Nat) (w : World) (hs : Bytes w a l) (hb : AllB l) (hl : l.length ≤ 1000000) : Calls Tryd.prog 25 #[.slice a l.length c] w fun e w' => e = .returned (.bool (allZ l)) ∧ w' = w := by
  go_enter Tryd.func25, Tryd.ntmps25
  go_wp2_with fail
  go_loopw [7] (fun i ws => ∃ k : Nat, i = .int .i64 (k : Int) ∧ k ≤ l.length ∧ allZ (l.take k) = true ∧ ws = w) (fun i _ => l.length - (intOf i).toNat)
  case atStart => exact ⟨0, rfl, Nat.zero_le _, rfl, rfl⟩
  case round =>
    obtain ⟨k, rfl, hk, hz, rfl⟩ := hrel
    by_cases hlt : k < l.length
    · obtain ⟨b, off, rfl, hbl, hc⟩ := hs.at hlt
      have hz1 := allZ_take hz hlt
      have HF := hide (allZ_take_false (l := l) (k := k))
      have hx := hb.get k
      generalize l.getD k 0 = x at *
      by_cases h0 : x = 0
      · subst h0
        have HZ := hide hz1
        clear hz1 hz HF
        go_wp2_with fail
        go_roundw
        case rel => exact ⟨k + 1, by go_num, by omega, by rw [HZ.out]; rfl, trivial⟩
        case measure => simp [intOf]; omega
      · have hd : ((x : Int) != 0) = true := by simp; omega
        have HE := hide (HF.out h0)
        clear hz1 hz HF
        go_wp2_with fail
        go_ret
        exact ⟨by rw [HE.out]; rfl, rfl⟩
    · obtain rfl : k = l.length := by omega
      rw [List.take_length] at hz
      have HE := hide hz
      clear hz
      go_wp2_with fail
      go_ret
      exact ⟨by rw [HE.out]; rfl, rfl⟩

/-! The sizes. -/
theorem Seen.lit {k : IntKind} (w : World) (xs : List Int) (t : TypeId) : Seen k (w.alloc (.cells (xs.map (Value.int k)).toArray t)) (some ⟨w.heap.size, 0, none⟩) xs := by
  by_cases h : xs = []
  · exact .inl (by simp [h])
  · refine .inr ⟨w.heap.size, 0, rfl, by simp, fun i hi => ?_⟩
    have q := Cells.new w (xs.map (Value.int k)).toArray t
    have := (q.get i (.int k xs[i]) (by simp [hi])).1
    rw [Nat.zero_add]
    exact this
theorem headSizes_any (w : World) : Calls Tryd.prog 46 #[] w fun e w' => e = .returned (.slice (some ⟨w.heap.size, 0, none⟩) 7 7) ∧ Seen .i64 w' (some ⟨w.heap.size, 0, none⟩) (ints headS) ∧ Below w.heap.size w w' ∧ w'.heap.size = w.heap.size + 1 := by
  go_enter Tryd.func46, Tryd.ntmps46
  go_wp2_with fail
  go_ret
  exact ⟨rfl, Seen.lit w (ints headS) 3, alloc_below _ _, by simp⟩
theorem counterSizes_any (w : World) : Calls Tryd.prog 50 #[] w fun e w' => e = .returned (.slice (some ⟨w.heap.size, 0, none⟩) 5 5) ∧ Seen .i64 w' (some ⟨w.heap.size, 0, none⟩) (ints ctrS) ∧ Below w.heap.size w w' ∧ w'.heap.size = w.heap.size + 1 := by
  go_enter Tryd.func50, Tryd.ntmps50
  go_wp2_with fail
  go_ret
  exact ⟨rfl, Seen.lit w (ints ctrS) 3, alloc_below _ _, by simp⟩
theorem groupSizes_any (w : World) : Calls Tryd.prog 52 #[] w fun e w' => e = .returned (.slice (some ⟨w.heap.size, 0, none⟩) 2 2) ∧ Seen .i64 w' (some ⟨w.heap.size, 0, none⟩) (ints grpS) ∧ Below w.heap.size w w' ∧ w'.heap.size = w.heap.size + 1 := by
  go_enter Tryd.func52, Tryd.ntmps52
  go_wp2_with fail
  go_ret
  exact ⟨rfl, Seen.lit w (ints grpS) 3, alloc_below _ _, by simp⟩
end Go.Proofs.YtakjpljpdlhicaaDoor
