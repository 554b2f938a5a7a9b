import Derived.Test.YtapjbgkmcplpbaaGreatG05
import Derived.Test.YtapjbgkmcplpbaaGreatBody
namespace Go.Proofs.YtapjbgkmcplpbaaGreat
open Go.RowKit Go.QK

theorem quo64 (p : Nat) : (p : Int).tdiv 64 = ((p / 64 : Nat) : Int) := by rw [Int.tdiv_eq_ediv_of_nonneg (by omega)]; omega
theorem rem64 (p : Nat) : (p : Int).tmod 64 = ((p % 64 : Nat) : Int) := by rw [Int.tmod_eq_emod_of_nonneg (by omega)]; omega

theorem keptN_no {keep : List Nat} {k : Nat} (h : ¬ k / 64 < keep.length) : keptN keep k = false := by simp [keptN, h]
theorem keptN_yes {keep : List Nat} {k : Nat} (h : k / 64 < keep.length) : keptN keep k = decide (keep.getD (k / 64) 0 / 2 ^ (k % 64) % 2 = 1) := by simp [keptN, h]

theorem bit_eq (x r : Nat) (hx : x < 18446744073709551616) : (bits .and .u64 ((x : Int) / 2 ^ r) 1 == 1) = decide (x / 2 ^ r % 2 = 1) := by
  have e : (x : Int) / 2 ^ r = ((x / 2 ^ r : Nat) : Int) := by simp
  rw [e, and1_u64 _ (Nat.lt_of_le_of_lt (Nat.div_le_self _ _) hx)]
  by_cases q : x / 2 ^ r % 2 = 1
  · rw [q]; rfl
  · rw [decide_eq_false q, beq_eq_false_iff_ne]
    omega

set_option maxRecDepth 100000 in
theorem keeps_any (a : Option Addr) (keep : List Nat) (c k : Nat) (w : World) (hs : Seen .u64 w a (ints keep)) (hk : k ≤ 1000000) (hw : ∀ x ∈ keep, x < 18446744073709551616) :
    Calls Tryz.prog 90 #[.slice a keep.length c, .int .i64 (k : Int)] w fun e w' => e = .returned (.bool (keptN keep k)) ∧ w' = w := by
  have e1 := quo64 k
  have e2 := rem64 k
  have hq : k / 64 ≤ 1000000 := by omega
  have hq' : wrap64 ((k / 64 : Nat) : Int) = ((k / 64 : Nat) : Int) := by unfold wrap64; omega
  by_cases h : k / 64 < keep.length
  · rw [keptN_yes h]
    obtain ⟨b, off, rfl, hb, hc⟩ := Seen.at hs (i := k / 64) (by simpa using h)
    rw [ints_getD] at hc
    have hx : keep.getD (k / 64) 0 < 18446744073709551616 := by
      have := hw keep[k / 64] (List.getElem_mem h)
      simpa [h] using this
    have hr : k % 64 < 64 := Nat.mod_lt _ (by decide)
    have e3 := hide (bit_eq (keep.getD (k / 64) 0) (k % 64) hx)
    have h' : ((k / 64 : Nat) : Int) < (keep.length : Int) := by omega
    generalize keep.getD (k / 64) 0 = x at *
    generalize k / 64 = q at *
    generalize k % 64 = r at *
    clear hs hw
    generalize keep.length = n at *
    go_enter Tryz.func90, Tryz.ntmps90
    go_wp2_with fail
    go_ret
    exact ⟨by rw [← e3.out]; rfl, rfl⟩
  · rw [keptN_no h]
    have h' : ¬ (((k / 64 : Nat) : Int) < (keep.length : Int)) := by omega
    generalize k / 64 = q at *
    generalize keep.length = n at *
    go_enter Tryz.func90, Tryz.ntmps90
    go_wp2_with fail
    go_ret
    exact ⟨rfl, rfl⟩

/-- A loss as it is handed on. -/
def lossV (a : Option Addr) (n c : Nat) (to off : Int) : Value := .agg #[.slice a n c, .int .i64 to, .int .i64 off]

set_option maxRecDepth 100000 in
theorem kept_any (a : Option Addr) (keep : List Nat) (c k : Nat) (to off : Int) (w : World) (hs : Seen .u64 w a (ints keep)) (hk : k ≤ 1000000) (hw : ∀ x ∈ keep, x < 18446744073709551616) :
    Calls Tryz.prog 78 #[.agg #[.slice a keep.length c, .int .i64 to, .int .i64 off], .int .i64 (k : Int)] w fun e w' => e = .returned (.bool (keptN keep k)) ∧ Below w.heap.size w w' := by
  have e1 := quo64 k
  have e2 := rem64 k
  have hq : k / 64 ≤ 1000000 := by omega
  have hq' : wrap64 ((k / 64 : Nat) : Int) = ((k / 64 : Nat) : Int) := by unfold wrap64; omega
  by_cases h : k / 64 < keep.length
  · rw [keptN_yes h]
    obtain ⟨b, off', rfl, hb, hc⟩ := Seen.at (hs.below (alloc_below w (.cells #[.slice a keep.length c, .int .i64 to, .int .i64 off] 33))) (i := k / 64) (by simpa using h)
    rw [ints_getD] at hc
    have hx : keep.getD (k / 64) 0 < 18446744073709551616 := by
      have := hw keep[k / 64] (List.getElem_mem h)
      simpa [h] using this
    have hr : k % 64 < 64 := Nat.mod_lt _ (by decide)
    have e3 := hide (bit_eq (keep.getD (k / 64) 0) (k % 64) hx)
    have h' : ((k / 64 : Nat) : Int) < (keep.length : Int) := by omega
    generalize keep.getD (k / 64) 0 = x at *
    generalize k / 64 = q at *
    generalize k % 64 = r at *
    clear hs hw
    generalize keep.length = n at *
    go_enter Tryz.func78, Tryz.ntmps78
    go_wp2_with fail
    go_ret
    exact ⟨by rw [← e3.out]; rfl, alloc_below _ _⟩
  · rw [keptN_no h]
    have h' : ¬ (((k / 64 : Nat) : Int) < (keep.length : Int)) := by omega
    generalize k / 64 = q at *
    generalize keep.length = n at *
    go_enter Tryz.func78, Tryz.ntmps78
    go_wp2_with fail
    go_ret
    exact ⟨rfl, alloc_below _ _⟩

set_option maxRecDepth 100000 in
theorem leaves_any (l : Loss) (a : Option Addr) (c k : Nat) (w : World) (hs : Seen .u64 w a (ints l.keep)) (hk : k ≤ 1000000) (ok : l.Ok) :
    Calls Tryz.prog 77 #[.agg #[.slice a l.keep.length c, .int .i64 l.torn, .int .i64 l.off], .int .i64 (k : Int)] w fun e w' => e = .returned (.int .i64 ((leavesN l k : Nat) : Int)) ∧ Below w.heap.size w w' := by
  have K := hide (keeps_any a l.keep c k _ (hs.below (alloc_below w (.cells #[.slice a l.keep.length c, .int .i64 l.torn, .int .i64 l.off] 33))) hk ok.keep)
  obtain ⟨keep, to, off⟩ := l
  dsimp only at *
  unfold leavesN
  dsimp only
  cases hq : keptN keep k with
  | true =>
    rw [if_pos rfl]
    have HQ := hide hq
    clear hq
    go_enter Tryz.func77, Tryz.ntmps77
    go_wp2_with fail
    refine K.out.mono ?_
    rintro e w' ⟨rfl, rfl⟩
    rw [HQ.out]
    go_wp2_with fail
    go_ret
    exact ⟨rfl, alloc_below _ _⟩
  | false =>
    rw [if_neg (by decide)]
    have HQ := hide hq
    clear hq
    by_cases ht : (k : Int) = to
    · rw [if_pos ht]
      have ht' : ((k : Int) == to) = true := by simp [ht]
      have HT := hide ht
      clear ht
      go_enter Tryz.func77, Tryz.ntmps77
      go_wp2_with fail
      refine K.out.mono ?_
      rintro e w' ⟨rfl, rfl⟩
      rw [HQ.out]
      go_wp2_with fail
      all_goals
        go_ret
        refine ⟨?_, alloc_below _ _⟩
        show Ending.returned (Value.int IntKind.i64 _) = Ending.returned (Value.int IntKind.i64 _)
        congr 2
        first | omega | (rename_i q1 q2; revert q1; split <;> omega) | (rename_i q1; revert q1; split <;> omega)
    · rw [if_neg ht]
      have ht' : ((k : Int) == to) = false := by simpa using ht
      go_enter Tryz.func77, Tryz.ntmps77
      go_wp2_with fail
      refine K.out.mono ?_
      rintro e w' ⟨rfl, rfl⟩
      rw [HQ.out]
      go_wp2_with fail
      go_ret
      exact ⟨rfl, alloc_below _ _⟩
end Go.Proofs.YtapjbgkmcplpbaaGreat

namespace Go.QK
open Go.RowKit

theorem setRow_keep (w : World) (g : Nat) (cs : Array Value) : Keep (fun b => b = g) w (w.setRow g cs) :=
  ⟨rfl, rfl, rfl, by simp [World.setRow], fun k _ hn => setRow_other w g k cs hn⟩

theorem splice_map {α β : Type} (f : α → β) (L : List α) (off : Nat) (cs : List α) : (splice L off cs).map f = splice (L.map f) off (cs.map f) := by simp [splice]
theorem splice_take {α : Type} (L : List α) (off n : Nat) (cs : List α) (h : off + cs.length ≤ n) : (splice L off cs).take n = splice (L.take n) off cs := by
  unfold splice
  have e0 : (L.take n).take off = L.take off := by rw [List.take_take, Nat.min_eq_left (by omega)]
  rw [List.take_append, List.take_append, List.take_take, Nat.min_eq_right (show off ≤ n by omega), e0]
  by_cases q : off ≤ L.length
  · have e : (L.take off).length = off := by simp; omega
    have e2 : n - off - cs.length = n - (off + cs.length) := by omega
    rw [e, List.take_of_length_le (show cs.length ≤ n - off by omega), List.drop_take, e2]
  · have e : (L.take off).length = L.length := by simp; omega
    have d1 : L.drop (off + cs.length) = [] := List.drop_eq_nil_of_le (by omega)
    have d2 : (L.take n).drop (off + cs.length) = [] := List.drop_eq_nil_of_le (by simp; omega)
    rw [e, d1, d2, List.take_of_length_le (show cs.length ≤ n - L.length by omega)]
    simp

/-- 'copy(v[off:off+dLen], x)', over a row of one-cell integers of the program's own. -/
theorem run_copy_own {P : Program} {k : IntKind} (w : World) (dT sT ty e : TypeId) (hu : P.underlying dT = some (.slice e)) (hsz : (P.info? e).map (·.size) = some 1)
    (B g n c off dLen dCap : Nat) (L : List Int) (hown : Owns k e w B (.slice (some ⟨g, 0, none⟩) n c) L) (ad : Addr) (sLen sCap : Nat) (m : List Int) (hs : Seen k w (some ad) m) (hm : m.length = Nat.min sLen dLen) (hfit : off + m.length ≤ n) :
    ∃ w', (Builtin.copy_ #[dT, sT] ty #[.slice (some ⟨g, off, none⟩) dLen dCap, .slice (some ad) sLen sCap]).run P w = .ok (goInt m.length) w' ∧ Owns k e w' B (.slice (some ⟨g, 0, none⟩) n c) (splice L off m) ∧ Keep (fun b => b = g) w w' := by
  have hl := hown.len
  obtain ⟨h1, h2⟩ := hown
  rcases h2 with ⟨q, _⟩ | ⟨g', cap, cur, q, hB, hg, hle, hmx, hsize, ht⟩
  · cases q
  · simp only [Value.slice.injEq, Option.some.injEq, Addr.mk.injEq] at q
    obtain ⟨⟨rfl, _, _⟩, _, rfl⟩ := q
    have hr := run_copy_row (P := P) w dT sT ty e g off dLen dCap ad sLen sCap cur e (m.map (Value.int k)) hu hsz hg (by simpa using hm) ?_ (by simp; omega) ?_
    · refine ⟨_, by simpa using hr, ?_, setRow_keep _ _ _⟩
      have hlen : (splice L off m).length = L.length := length_splice L off m (by omega)
      refine ⟨by simp [hlen], .inr ⟨g, c, _, by rw [hlen, hl], hB, setRow_heap w g _ _ e _ hg, by omega, hmx, ?_, ?_⟩⟩
      · simp at hsize ⊢
        omega
      · rw [hlen]
        simp only [Nat.mul_one] at ht ⊢
        have e1 : cur.toList.take off ++ (m.map (Value.int k) ++ cur.toList.drop (off + m.length)) = splice cur.toList off (m.map (Value.int k)) := by simp [splice]
        rw [e1]
        show (splice cur.toList off (m.map (Value.int k))).take L.length = _
        rw [splice_take _ _ _ _ (by simp; omega), ht, splice_map]
    · intro j v hj
      rcases hs with rfl | ⟨b, o, ha, hlt, hc⟩
      · simp at hj
      · cases ha
        simp at hj
        obtain ⟨q, hq, rfl⟩ := hj
        obtain ⟨hjl, hq'⟩ := List.getElem?_eq_some_iff.1 hq
        rw [addr_add, hc j hjl, hq']
    · intro v hv
      simp at hv
      obtain ⟨q, _, rfl⟩ := hv
      rfl

/-- The same as one step of a region. -/
theorem wp_copy {P : Program} {k : IntKind} {o : Oper} {a : Act} {w : World} {K : Act → World → Prop} {Q : Exit → Act → World → Prop} {cond : Bool} (hc : cond = true) (d s : Operand) (dT sT e : TypeId)
    (ho : o.op = .call { callee := .builtin .copy, args := #[d, s], argTypes := #[dT, sT] }) (hu : P.underlying dT = some (.slice e)) (hsz : (P.info? e).map (·.size) = some 1)
    (B g n c off dLen dCap : Nat) (L : List Int) (hown : Owns k e w B (.slice (some ⟨g, 0, none⟩) n c) L) (ad : Addr) (sLen sCap : Nat) (m : List Int) (hd : a.eval d = .slice (some ⟨g, off, none⟩) dLen dCap) (hs : a.eval s = .slice (some ad) sLen sCap)
    (hm : Seen k w (some ad) m) (hml : m.length = Nat.min sLen dLen) (hfit : off + m.length ≤ n)
    (h : ∀ w', Owns k e w' B (.slice (some ⟨g, 0, none⟩) n c) (splice L off m) → Keep (fun b => b = g) w w' → K (a.put o.dst (goInt m.length)) w') : if cond = true then Oper.wp P o a w K Q else K (a.put o.dst undef) w := by
  rw [if_pos hc]
  obtain ⟨w', hr, h1, h2⟩ := run_copy_own (P := P) (k := k) w dT sT o.type e hu hsz B g n c off dLen dCap L hown ad sLen sCap m hm hml hfit
  unfold Oper.wp
  simp [execOp, ho, resolve, invoke, builtin, hd, hs, hr, Result.andThen]
  exact h w' h1 h2
/-- The same in a plain row of operations. -/
theorem wpList_copy {P : Program} {k : IntKind} {o : Oper} {a : Act} {w : World} {ops : Array Oper} {rest : List Oper} {Q : Exit → Act → World → Prop} (hgd : o.guard = none) (d s : Operand) (dT sT e : TypeId)
    (ho : o.op = .call { callee := .builtin .copy, args := #[d, s], argTypes := #[dT, sT] }) (hu : P.underlying dT = some (.slice e)) (hsz : (P.info? e).map (·.size) = some 1)
    (B g n c off dLen dCap : Nat) (L : List Int) (hown : Owns k e w B (.slice (some ⟨g, 0, none⟩) n c) L) (ad : Addr) (sLen sCap : Nat) (m : List Int) (hd : a.eval d = .slice (some ⟨g, off, none⟩) dLen dCap) (hs : a.eval s = .slice (some ad) sLen sCap)
    (hm : Seen k w (some ad) m) (hml : m.length = Nat.min sLen dLen) (hfit : off + m.length ≤ n)
    (h : ∀ w', Owns k e w' B (.slice (some ⟨g, 0, none⟩) n c) (splice L off m) → Keep (fun b => b = g) w w' → wpList P ops Q rest (a.put o.dst (goInt m.length)) w') : wpList P ops Q (o :: rest) a w := by
  refine wpList_plain hgd fun K hK => ?_
  obtain ⟨w', hr, h1, h2⟩ := run_copy_own (P := P) (k := k) w dT sT o.type e hu hsz B g n c off dLen dCap L hown ad sLen sCap m hm hml hfit
  unfold Oper.wp
  simp [execOp, ho, resolve, invoke, builtin, hd, hs, hr, Result.andThen]
  exact hK _ _ (h w' h1 h2)
end Go.QK
