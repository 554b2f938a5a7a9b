import Derived.Test.YtgpmghdoofcpaaaLg7
namespace Go.Proofs.Ytgpmghdoofcpaaa.Lg
open Go.RowKit Go.QK
open Dv (hide bnext alloc_below load_arr store_arr slice_arr wp_load_arr wp_store_arr neq_arr info91)

/-- A row of slices that is the program's own (their type is e). -/
def SRow (e : TypeId) (w : World) (B : Nat) (v : Value) (vs : List Value) : Prop := w.ownsRow B e 1 v vs.length vs

section
variable {e : TypeId} {S : Nat → Prop} {w w' : World} {B : Nat} {v : Value} {vs : List Value}
theorem SRow.nil (e : TypeId) (w : World) (B : Nat) : SRow e w B (.slice none 0 0) [] := World.ownsRow_nil _ _ _ _
theorem SRow.lt (h : SRow e w B v vs) : ∀ b, v.ownBlock = some b → B ≤ b ∧ b < w.heap.size := fun b hb => World.ownsRow.lt h b hb
theorem SRow.keep (h : SRow e w B v vs) (hb : Keep S w w') (hn : ∀ g, v.ownBlock = some g → ¬ S g) : SRow e w' B v vs := by
  refine ⟨h.1, ?_⟩
  rcases h.2 with q | ⟨g, cap, cur, q, hbg, hg, rest⟩
  · exact .inl q
  · have hlt := (World.ownsRow.lt h g (by rw [q]; rfl)).2
    exact .inr ⟨g, cap, cur, q, hbg, (hb.block g hlt (hn g (by rw [q]; rfl))).trans hg, rest⟩
theorem SRow.below (h : SRow e w B v vs) (hb : Below w.heap.size w w') : SRow e w' B v vs := h.keep (Keep.of_below (S := fun _ => False) hb) (fun _ _ => id)
theorem SRow.form (h : SRow e w B v vs) : ∃ a c, v = .slice a vs.length c ∧ vs.length ≤ c ∧ c ≤ maxLen ∧ (a = none → c = 0) ∧ (∀ i (_ : i < vs.length), ∃ b, a = some ⟨b, 0, none⟩ ∧ b < w.heap.size ∧ w.cell? ⟨b, i, none⟩ = some vs[i]) := by
  rcases h.2 with ⟨rfl, hn⟩ | ⟨g, cap, cur, rfl, hb, hg, hle, hm, hs, ht⟩
  · have : vs = [] := List.eq_nil_of_length_eq_zero hn
    subst this
    exact ⟨none, 0, rfl, Nat.le_refl _, by unfold maxLen; omega, fun _ => rfl, fun i hi => by simp at hi⟩
  · refine ⟨_, cap, rfl, hle, hm, nofun, fun i hi => ⟨g, rfl, (World.ownsRow.lt h g rfl).2, ?_⟩⟩
    have := World.ownsRow.cells h (g := g) rfl i vs[i] (by simp [hi])
    rw [addr_add] at this
    simpa using this
end

theorem info80 : (Try.prog.info? 52).map (fun i => (i.zero, i.size, i.bytes)) = some (some (.slice none 0 0), 1, 24) := by kernel_rfl
theorem und107 : Try.prog.underlying 64 = some (.slice 52) := by kernel_rfl

/-- What 'append(rows, x)' does. -/
theorem run_pushS {t e : TypeId} (hu : Try.prog.underlying t = some (.slice e)) (hin : (Try.prog.info? e).map (fun i => (i.zero, i.size, i.bytes)) = some (some (.slice none 0 0), 1, 24)) (ty : TypeId) (x : World)
    (B : Nat) (v : Value) (vs : List Value) (ad : Addr) (y : Value) (hown : SRow e x B v vs) (hcell : x.cell? ad = some y) (hy : y.oneCell' = true) (h63 : vs.length + 1 ≤ 2000000) (hB : B ≤ x.heap.size) :
    ∃ v' x', (Builtin.append_ #[t, t] ty #[v, .slice (some ad) 1 1]).run Try.prog x = .ok v' x' ∧ SRow e x' B v' (vs ++ [y]) ∧ x.grownBy x' v.ownBlock ∧ (v'.ownBlock = v.ownBlock ∨ v'.ownBlock = some x.heap.size) := by
  obtain ⟨i0, hi, hz⟩ : ∃ i0, Try.prog.info? e = some i0 ∧ i0.zero = some (.slice none 0 0) ∧ i0.size = 1 ∧ i0.bytes = 24 := by
    cases hq : Try.prog.info? e with
    | none => rw [hq] at hin; cases hin
    | some i0 =>
      rw [hq] at hin
      simp only [Option.map_some, Option.some.injEq, Prod.mk.injEq] at hin
      exact ⟨i0, rfl, hin⟩
  obtain ⟨v', w', hr, h2, h3, h4, h5⟩ := run_append_own_at (P := Try.prog) x B t ty e i0 (.slice none 0 0) 1 24 hu hi hz.1 hz.2.1 hz.2.2 rfl (by decide) v vs.length _ hown ad 1 1 [y] rfl
    (by
      intro j u hj
      match j, hj with
      | 0, hj =>
        simp at hj
        subst hj
        simpa [Addr.add] using hcell)
    (by
      intro u hu
      simp at hu
      subst hu
      exact hy) (by unfold maxLen; omega) (by omega) hB
  exact ⟨v', w', hr, by unfold SRow; simpa using h2, h3, h5⟩


/-- The bytes of a record in memory. -/
def Ent (w : World) (T : Nat → Prop) (v : Value) (b : List Nat) : Prop := ∃ a c, v = .slice a b.length c ∧ Bytes w a b ∧ b.length ≤ c ∧ (a = none → c = 0) ∧ ∀ ad, a = some ad → T ad.block ∧ ad.block < w.heap.size
/-- The records of a log: their row and their bytes, all in the blocks of T. -/
structure Recs (w : World) (T : Nat → Prop) (rv : Value) (rs : List (List Nat)) (vs : List Value) : Prop where
  row : SRow 52 w 0 rv vs
  len : vs.length = rs.length
  ent : ∀ i (h : i < vs.length) (h' : i < rs.length), Ent w (fun b => T b ∧ rv.ownBlock ≠ some b) vs[i] rs[i]
  own : ∀ b, rv.ownBlock = some b → T b
  lt : ∀ b, T b → b < w.heap.size
  all : ∀ b ∈ rs, AllB b ∧ b.length ≤ 502
theorem Ent.keep {w w' : World} {T U T' : Nat → Prop} {v : Value} {b : List Nat} (h : Ent w T v b) (hk : Keep U w w') (hU : ∀ k, T k → k < w.heap.size → ¬ U k) (hT : ∀ k, T k → k < w.heap.size → T' k) : Ent w' T' v b := by
  obtain ⟨a, c, h1, h2, h3, h4, h5⟩ := h
  exact ⟨a, c, h1, Seen.keep h2 hk (fun ad had => hU _ (h5 ad had).1 (h5 ad had).2), h3, h4, fun ad had => ⟨hT _ (h5 ad had).1 (h5 ad had).2, Nat.lt_of_lt_of_le (h5 ad had).2 hk.size⟩⟩
theorem Recs.keep {w w' : World} {T U : Nat → Prop} {rv : Value} {rs : List (List Nat)} {vs : List Value} (h : Recs w T rv rs vs) (hk : Keep U w w') (hU : ∀ b, U b → ¬ T b) : Recs w' T rv rs vs :=
  ⟨h.row.keep hk (fun g hg q => hU g q (h.own g hg)), h.len, fun i h1 h2 => (h.ent i h1 h2).keep hk (fun k hk _ q => hU k q hk.1) (fun _ q _ => q), h.own, fun b hb => Nat.lt_of_lt_of_le (h.lt b hb) hk.size, h.all⟩
theorem Recs.below {w w' : World} {T : Nat → Prop} {rv : Value} {rs : List (List Nat)} {vs : List Value} (h : Recs w T rv rs vs) (hk : Below w.heap.size w w') : Recs w' T rv rs vs :=
  h.keep (Keep.of_below (S := fun _ => False) hk) (fun _ q => q.elim)
theorem Recs.nil (w : World) : Recs w (fun _ => False) (.slice none 0 0) [] [] := ⟨SRow.nil _ _ _, rfl, fun i h => absurd h (by simp), nofun, nofun, nofun⟩
theorem Recs.form {w : World} {T : Nat → Prop} {rv : Value} {rs : List (List Nat)} {vs : List Value} (h : Recs w T rv rs vs) : ∃ a c, rv = .slice a rs.length c := by
  obtain ⟨a, c, h1, _⟩ := h.row.form
  rw [h.len] at h1
  exact ⟨a, c, h1⟩
theorem Recs.get {w : World} {T : Nat → Prop} {rv : Value} {rs : List (List Nat)} {vs : List Value} (h : Recs w T rv rs vs) (i : Nat) (hi : i < rs.length) :
    ∃ g c a c', rv = .slice (some ⟨g, 0, none⟩) rs.length c ∧ w.cell? ⟨g, i, none⟩ = some (.slice a (rs.getD i []).length c') ∧ Bytes w a (rs.getD i []) ∧ (rs.getD i []).length ≤ c' ∧ (a = none → c' = 0) ∧ AllB (rs.getD i []) ∧ (rs.getD i []).length ≤ 502 := by
  obtain ⟨a0, c, h1, h2, h3, h4, h5⟩ := h.row.form
  have hv : i < vs.length := by rw [h.len]; exact hi
  obtain ⟨g, rfl, hg, hc⟩ := h5 i hv
  obtain ⟨a, c', e1, e2, e3, e4, e5⟩ := h.ent i hv hi
  have e : rs.getD i [] = rs[i] := by simp [hi]
  rw [e]
  rw [h.len] at h1
  rw [e1] at hc
  have ha := h.all rs[i] (List.getElem_mem hi)
  exact ⟨g, c, a, c', h1, hc, e2, e3, e4, ha.1, ha.2⟩
/-- 'append(l.records, y)'. -/
theorem Recs.push {x : World} {T : Nat → Prop} {rv : Value} {rs : List (List Nat)} {vs : List Value} (h : Recs x T rv rs vs) (ty : TypeId) (ad : Addr) (y : Value) (b : List Nat) (B : Nat) (hcell : x.cell? ad = some y) (hy : OwnB x B y b) (hyT : ∀ k, y.ownBlock = some k → ¬ T k) (hlen : rs.length ≤ 100000) (hb : AllB b ∧ b.length ≤ 502) :
    ∃ v' x' T', (Builtin.append_ #[64, 64] ty #[rv, .slice (some ad) 1 1]).run Try.prog x = .ok v' x' ∧ Recs x' T' v' (rs ++ [b]) (vs ++ [y]) ∧ Keep T x x' ∧ (∀ k, T' k → T k ∨ y.ownBlock = some k ∨ x.heap.size ≤ k) := by
  obtain ⟨ya, yc, hy1, hys, hya, hyl, _⟩ := hy.seen
  rw [ints_length] at hyl hy1
  have h1 : y.oneCell' = true := by rw [hy1]; rfl
  obtain ⟨v', x', hr, hrow, hg, ho⟩ := run_pushS und107 info80 ty x 0 rv vs ad y h.row hcell h1 (by rw [h.len]; omega) (Nat.zero_le _)
  have hkr : Keep (fun k => rv.ownBlock = some k) x x' := (Keep.refl _ x).grown hg (fun g q _ => q)
  have hyb : ∀ k, ya = some k → y.ownBlock = some k.block := by
    intro k hk
    subst hk
    rcases hy.2 with ⟨q, _⟩ | ⟨g, cap, cur, q, _⟩
    · rw [hy1] at q; cases q
    · rw [hy1] at q
      simp only [Value.slice.injEq, Option.some.injEq] at q
      rw [hy1, q.1]
      rfl
  have hylt : ∀ k, y.ownBlock = some k → k < x.heap.size := fun k hk => (World.ownsRow.lt hy k hk).2
  have hlt' := hrow.lt
  refine ⟨v', x', fun k => T k ∨ y.ownBlock = some k ∨ v'.ownBlock = some k, hr, ?_, hkr.mono (fun k _ q => h.own k q), ?_⟩
  · have hnew : ∀ k, k < x.heap.size → rv.ownBlock ≠ some k → v'.ownBlock ≠ some k := by
      intro k hk hn q
      rcases ho with r | r
      · exact hn (r ▸ q)
      · rw [r] at q
        have := Option.some.inj q
        omega
    refine ⟨hrow, by simp [h.len], ?_, fun k q => .inr (.inr q), ?_, ?_⟩
    · intro i h1 h2
      by_cases hi : i < vs.length
      · have hi2 : i < rs.length := by rw [← h.len]; exact hi
        rw [List.getElem_append_left hi, List.getElem_append_left hi2]
        exact (h.ent i hi hi2).keep hkr (fun k q _ => q.2) (fun k q hk => ⟨.inl q.1, hnew k hk q.2⟩)
      · have e1 : i = vs.length := by simp at h1; omega
        have e2 : i = rs.length := by rw [← h.len]; exact e1
        have g1 : (vs ++ [y])[i] = y := by simp [e1]
        have g2 : (rs ++ [b])[i] = b := by simp [e2]
        rw [g1, g2]
        have hne : ∀ k, y.ownBlock = some k → rv.ownBlock ≠ some k := fun k q r => hyT k q (h.own k r)
        refine ⟨ya, yc, hy1, Seen.keep hys hkr (fun k hk q => hne _ (hyb k hk) q), hyl, hya, fun k hk => ?_⟩
        have hk1 := hylt _ (hyb k hk)
        exact ⟨⟨.inr (.inl (hyb k hk)), hnew _ hk1 (hne _ (hyb k hk))⟩, Nat.lt_of_lt_of_le hk1 hkr.size⟩
    · intro k q
      rcases q with q | q | q
      · exact Nat.lt_of_lt_of_le (h.lt k q) hkr.size
      · exact Nat.lt_of_lt_of_le (hylt k q) hkr.size
      · exact (hlt' k q).2
    · intro r hr
      rcases List.mem_append.1 hr with q | q
      · exact h.all r q
      · simp at q; subst q; exact hb
  · intro k q
    rcases q with q | q | q
    · exact .inl q
    · exact .inr (.inl q)
    · rcases ho with r | r
      · exact .inl (h.own k (r ▸ q))
      · rw [r] at q
        have := Option.some.inj q
        exact .inr (.inr (by omega))

theorem putM_go {first s k : Nat} {rs : List (List Nat)} {g : Dev} (he : g.writeE ((first + s - 1 : Nat) : Int) 512 = 0) :
    putM first rs (k + 1) s g = putM first rs k (s + 1) (g.write ((first + s - 1 : Nat) : Int) (filledB s (rs.getD (s - 1) []))) := by
  rw [putM, if_neg (by omega)]
theorem putM_bad {first s k : Nat} {rs : List (List Nat)} {g : Dev} (he : g.writeE ((first + s - 1 : Nat) : Int) 512 ≠ 0) :
    putM first rs (k + 1) s g = (g.write ((first + s - 1 : Nat) : Int) (filledB s (rs.getD (s - 1) [])), g.writeE ((first + s - 1 : Nat) : Int) 512) := by
  rw [putM, if_pos he]
end Go.Proofs.Ytgpmghdoofcpaaa.Lg
