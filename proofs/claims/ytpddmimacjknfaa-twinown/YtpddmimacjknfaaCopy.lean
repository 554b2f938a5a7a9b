import Derived.Test.YtpddmimacjknfaaBody
namespace Go.QK
open Go.RowKit

theorem setRow_keep (w : World) (g : Nat) (cs : Array Value) : Keep (fun b => b = g) w (w.setRow g cs) :=
  ⟨rfl, rfl, rfl, by simp [World.setRow], fun k _ hn => setRow_other w g k cs hn⟩

theorem splice_map {α β : Type} (f : α → β) (L : List α) (off : Nat) (cs : List α) : (splice L off cs).map f = splice (L.map f) off (cs.map f) := by simp [splice]
theorem splice_take {α : Type} (L : List α) (off n : Nat) (cs : List α) (h : off + cs.length ≤ n) : (splice L off cs).take n = splice (L.take n) off cs := by
  unfold splice
  have e0 : (L.take n).take off = L.take off := by rw [List.take_take, Nat.min_eq_left (by omega)]
  rw [List.take_append, List.take_append, List.take_take, Nat.min_eq_right (show off ≤ n by omega), e0]
  by_cases q : off ≤ L.length
  · have e : (L.take off).length = off := by simp; omega
    have e2 : n - off - cs.length = n - (off + cs.length) := by omega
    rw [e, List.take_of_length_le (show cs.length ≤ n - off by omega), List.drop_take, e2]
  · have e : (L.take off).length = L.length := by simp; omega
    have d1 : L.drop (off + cs.length) = [] := List.drop_eq_nil_of_le (by omega)
    have d2 : (L.take n).drop (off + cs.length) = [] := List.drop_eq_nil_of_le (by simp; omega)
    rw [e, d1, d2, List.take_of_length_le (show cs.length ≤ n - L.length by omega)]
    simp

/-- 'copy(v[off:off+dLen], x)', over a row of one-cell integers of the program's own. -/
theorem run_copy_own {P : Program} {k : IntKind} (w : World) (dT sT ty e : TypeId) (hu : P.underlying dT = some (.slice e)) (hsz : (P.info? e).map (·.size) = some 1)
    (B g n c off dLen dCap : Nat) (L : List Int) (hown : Owns k e w B (.slice (some ⟨g, 0, none⟩) n c) L) (ad : Addr) (sLen sCap : Nat) (m : List Int) (hs : Seen k w (some ad) m) (hm : m.length = Nat.min sLen dLen) (hfit : off + m.length ≤ n) :
    ∃ w', (Builtin.copy_ #[dT, sT] ty #[.slice (some ⟨g, off, none⟩) dLen dCap, .slice (some ad) sLen sCap]).run P w = .ok (goInt m.length) w' ∧ Owns k e w' B (.slice (some ⟨g, 0, none⟩) n c) (splice L off m) ∧ Keep (fun b => b = g) w w' := by
  have hl := hown.len
  obtain ⟨h1, h2⟩ := hown
  rcases h2 with ⟨q, _⟩ | ⟨g', cap, cur, q, hB, hg, hle, hmx, hsize, ht⟩
  · cases q
  · simp only [Value.slice.injEq, Option.some.injEq, Addr.mk.injEq] at q
    obtain ⟨⟨rfl, _, _⟩, _, rfl⟩ := q
    have hr := run_copy_row (P := P) w dT sT ty e g off dLen dCap ad sLen sCap cur e (m.map (Value.int k)) hu hsz hg (by simpa using hm) ?_ (by simp; omega) ?_
    · refine ⟨_, by simpa using hr, ?_, setRow_keep _ _ _⟩
      have hlen : (splice L off m).length = L.length := length_splice L off m (by omega)
      refine ⟨by simp [hlen], .inr ⟨g, c, _, by rw [hlen, hl], hB, setRow_heap w g _ _ e _ hg, by omega, hmx, ?_, ?_⟩⟩
      · simp at hsize ⊢
        omega
      · rw [hlen]
        simp only [Nat.mul_one] at ht ⊢
        have e1 : cur.toList.take off ++ (m.map (Value.int k) ++ cur.toList.drop (off + m.length)) = splice cur.toList off (m.map (Value.int k)) := by simp [splice]
        rw [e1]
        show (splice cur.toList off (m.map (Value.int k))).take L.length = _
        rw [splice_take _ _ _ _ (by simp; omega), ht, splice_map]
    · intro j v hj
      rcases hs with rfl | ⟨b, o, ha, hlt, hc⟩
      · simp at hj
      · cases ha
        simp at hj
        obtain ⟨q, hq, rfl⟩ := hj
        obtain ⟨hjl, hq'⟩ := List.getElem?_eq_some_iff.1 hq
        rw [addr_add, hc j hjl, hq']
    · intro v hv
      simp at hv
      obtain ⟨q, _, rfl⟩ := hv
      rfl

/-- The same as one step of a region. -/
theorem wp_copy {P : Program} {k : IntKind} {o : Oper} {a : Act} {w : World} {K : Act → World → Prop} {Q : Exit → Act → World → Prop} {cond : Bool} (hc : cond = true) (d s : Operand) (dT sT e : TypeId)
    (ho : o.op = .call { callee := .builtin .copy, args := #[d, s], argTypes := #[dT, sT] }) (hu : P.underlying dT = some (.slice e)) (hsz : (P.info? e).map (·.size) = some 1)
    (B g n c off dLen dCap : Nat) (L : List Int) (hown : Owns k e w B (.slice (some ⟨g, 0, none⟩) n c) L) (ad : Addr) (sLen sCap : Nat) (m : List Int) (hd : a.eval d = .slice (some ⟨g, off, none⟩) dLen dCap) (hs : a.eval s = .slice (some ad) sLen sCap)
    (hm : Seen k w (some ad) m) (hml : m.length = Nat.min sLen dLen) (hfit : off + m.length ≤ n)
    (h : ∀ w', Owns k e w' B (.slice (some ⟨g, 0, none⟩) n c) (splice L off m) → Keep (fun b => b = g) w w' → K (a.put o.dst (goInt m.length)) w') : if cond = true then Oper.wp P o a w K Q else K (a.put o.dst undef) w := by
  rw [if_pos hc]
  obtain ⟨w', hr, h1, h2⟩ := run_copy_own (P := P) (k := k) w dT sT o.type e hu hsz B g n c off dLen dCap L hown ad sLen sCap m hm hml hfit
  unfold Oper.wp
  simp [execOp, ho, resolve, invoke, builtin, hd, hs, hr, Result.andThen]
  exact h w' h1 h2
/-- The same in a plain row of operations. -/
theorem wpList_copy {P : Program} {k : IntKind} {o : Oper} {a : Act} {w : World} {ops : Array Oper} {rest : List Oper} {Q : Exit → Act → World → Prop} (hgd : o.guard = none) (d s : Operand) (dT sT e : TypeId)
    (ho : o.op = .call { callee := .builtin .copy, args := #[d, s], argTypes := #[dT, sT] }) (hu : P.underlying dT = some (.slice e)) (hsz : (P.info? e).map (·.size) = some 1)
    (B g n c off dLen dCap : Nat) (L : List Int) (hown : Owns k e w B (.slice (some ⟨g, 0, none⟩) n c) L) (ad : Addr) (sLen sCap : Nat) (m : List Int) (hd : a.eval d = .slice (some ⟨g, off, none⟩) dLen dCap) (hs : a.eval s = .slice (some ad) sLen sCap)
    (hm : Seen k w (some ad) m) (hml : m.length = Nat.min sLen dLen) (hfit : off + m.length ≤ n)
    (h : ∀ w', Owns k e w' B (.slice (some ⟨g, 0, none⟩) n c) (splice L off m) → Keep (fun b => b = g) w w' → wpList P ops Q rest (a.put o.dst (goInt m.length)) w') : wpList P ops Q (o :: rest) a w := by
  refine wpList_plain hgd fun K hK => ?_
  obtain ⟨w', hr, h1, h2⟩ := run_copy_own (P := P) (k := k) w dT sT o.type e hu hsz B g n c off dLen dCap L hown ad sLen sCap m hm hml hfit
  unfold Oper.wp
  simp [execOp, ho, resolve, invoke, builtin, hd, hs, hr, Result.andThen]
  exact hK _ _ (h w' h1 h2)
end Go.QK
