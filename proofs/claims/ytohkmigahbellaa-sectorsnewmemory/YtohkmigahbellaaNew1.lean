import Derived.Test.YtohkmigahbellaaWrote
namespace Go.Proofs.Ytohkmigahbellaa
open Go.RowKit Go.QK

/-- A row of slices that is the program's own (their type is e). -/
def SRow (e : TypeId) (w : World) (B : Nat) (v : Value) (vs : List Value) : Prop := w.ownsRow B e 1 v vs.length vs

section
variable {e : TypeId} {S : Nat → Prop} {w w' : World} {B : Nat} {v : Value} {vs : List Value}
theorem SRow.nil (e : TypeId) (w : World) (B : Nat) : SRow e w B (.slice none 0 0) [] := World.ownsRow_nil _ _ _ _
theorem SRow.lt (h : SRow e w B v vs) : ∀ b, v.ownBlock = some b → B ≤ b ∧ b < w.heap.size := fun b hb => World.ownsRow.lt h b hb
theorem SRow.keep (h : SRow e w B v vs) (hb : Keep S w w') (hn : ∀ g, v.ownBlock = some g → ¬ S g) : SRow e w' B v vs := by
  refine ⟨h.1, ?_⟩
  rcases h.2 with q | ⟨g, cap, cur, q, hbg, hg, rest⟩
  · exact .inl q
  · have hlt := (World.ownsRow.lt h g (by rw [q]; rfl)).2
    exact .inr ⟨g, cap, cur, q, hbg, (hb.block g hlt (hn g (by rw [q]; rfl))).trans hg, rest⟩
theorem SRow.below (h : SRow e w B v vs) (hb : Below w.heap.size w w') : SRow e w' B v vs := h.keep (Keep.of_below (S := fun _ => False) hb) (fun _ _ => id)
theorem SRow.form (h : SRow e w B v vs) : ∃ a c, v = .slice a vs.length c ∧ vs.length ≤ c ∧ c ≤ maxLen ∧ (a = none → c = 0) ∧ (∀ i (_ : i < vs.length), ∃ b, a = some ⟨b, 0, none⟩ ∧ b < w.heap.size ∧ w.cell? ⟨b, i, none⟩ = some vs[i]) := by
  rcases h.2 with ⟨rfl, hn⟩ | ⟨g, cap, cur, rfl, hb, hg, hle, hm, hs, ht⟩
  · have : vs = [] := List.eq_nil_of_length_eq_zero hn
    subst this
    exact ⟨none, 0, rfl, Nat.le_refl _, by unfold maxLen; omega, fun _ => rfl, fun i hi => by simp at hi⟩
  · refine ⟨_, cap, rfl, hle, hm, nofun, fun i hi => ⟨g, rfl, (World.ownsRow.lt h g rfl).2, ?_⟩⟩
    have := World.ownsRow.cells h (g := g) rfl i vs[i] (by simp [hi])
    rw [addr_add] at this
    simpa using this
end

theorem info37 : (Try.prog.info? 37).map (fun i => (i.zero, i.size, i.bytes)) = some (some (.slice none 0 0), 1, 24) := by kernel_rfl
theorem info45 : (Try.prog.info? 45).map (fun i => (i.zero, i.size, i.bytes)) = some (some (.slice none 0 0), 1, 24) := by kernel_rfl
theorem und59 : Try.prog.underlying 59 = some (.slice 37) := by kernel_rfl
theorem und62 : Try.prog.underlying 62 = some (.slice 45) := by kernel_rfl

/-- What 'append(rows, x)' does. -/
theorem run_pushS {t e : TypeId} (hu : Try.prog.underlying t = some (.slice e)) (hin : (Try.prog.info? e).map (fun i => (i.zero, i.size, i.bytes)) = some (some (.slice none 0 0), 1, 24)) (ty : TypeId) (x : World)
    (B : Nat) (v : Value) (vs : List Value) (ad : Addr) (y : Value) (hown : SRow e x B v vs) (hcell : x.cell? ad = some y) (hy : y.oneCell' = true) (h63 : vs.length + 1 ≤ 2000000) (hB : B ≤ x.heap.size) :
    ∃ v' x', (Builtin.append_ #[t, t] ty #[v, .slice (some ad) 1 1]).run Try.prog x = .ok v' x' ∧ SRow e x' B v' (vs ++ [y]) ∧ x.grownBy x' v.ownBlock ∧ (v'.ownBlock = v.ownBlock ∨ v'.ownBlock = some x.heap.size) := by
  obtain ⟨i0, hi, hz⟩ : ∃ i0, Try.prog.info? e = some i0 ∧ i0.zero = some (.slice none 0 0) ∧ i0.size = 1 ∧ i0.bytes = 24 := by
    cases hq : Try.prog.info? e with
    | none => rw [hq] at hin; cases hin
    | some i0 =>
      rw [hq] at hin
      simp only [Option.map_some, Option.some.injEq, Prod.mk.injEq] at hin
      exact ⟨i0, rfl, hin⟩
  obtain ⟨v', w', hr, h2, h3, h4, h5⟩ := run_append_own_at (P := Try.prog) x B t ty e i0 (.slice none 0 0) 1 24 hu hi hz.1 hz.2.1 hz.2.2 rfl (by decide) v vs.length _ hown ad 1 1 [y] rfl
    (by
      intro j u hj
      match j, hj with
      | 0, hj =>
        simp at hj
        subst hj
        simpa [Addr.add] using hcell)
    (by
      intro u hu
      simp at hu
      subst hu
      exact hy) (by unfold maxLen; omega) (by omega) hB
  exact ⟨v', w', hr, by unfold SRow; simpa using h2, h3, h5⟩

/-- 'append(l, x)' of one byte: where the new list lies, and that l is as it was. -/
theorem run_more (ty : TypeId) (x : World) (B : Nat) (g n c : Nat) (l : List Nat) (hn : l.length = n) (hown : OwnB x B (.slice (some ⟨g, 0, none⟩) n c) l) (ad : Addr) (y : Nat) (hc : x.cell? ad = some (.int .u8 (y : Int))) (hl : n ≤ 1000000) (hB : B ≤ x.heap.size) :
    ∃ v' x', (Builtin.append_ #[37, 37] ty #[.slice (some ⟨g, 0, none⟩) n c, .slice (some ad) 1 1]).run Try.prog x = .ok v' x' ∧ OwnB x' B v' (l ++ [y]) ∧ x.grownBy x' (some g) ∧ (v'.ownBlock = some g ∨ v'.ownBlock = some x.heap.size) ∧ Bytes x' (some ⟨g, 0, none⟩) l := by
  subst hn
  obtain ⟨i0, hi, hz0, hz1, hz2⟩ := info_parts info5
  have hnews : ∀ j u, [Value.int .u8 (y : Int)][j]? = some u → x.cell? (ad.add j) = some u := by
    intro j u hj
    match j, hj with
    | 0, hj =>
      simp at hj
      subst hj
      simpa [Addr.add] using hc
  have hlen : (ints l).length = l.length := ints_length l
  have hown' : x.ownsRow B 5 1 (.slice (some ⟨g, 0, none⟩) l.length c) l.length ((ints l).map (Value.int .u8)) := by
    have h : x.ownsRow B 5 1 (.slice (some ⟨g, 0, none⟩) l.length c) (ints l).length ((ints l).map (Value.int .u8)) := hown
    rw [ints_length] at h
    exact h
  obtain ⟨v', w', hr, h2, h3, h4, h5⟩ := run_append_own_at (P := Try.prog) x B 37 ty 5 i0 (.int .u8 0) 1 1 Try.underlying37 hi hz0 hz1 hz2 rfl (by decide) (.slice (some ⟨g, 0, none⟩) l.length c) l.length _ hown' ad 1 1 [.int .u8 (y : Int)] rfl hnews
    (by
      intro u hu
      simp at hu
      subst hu
      rfl) (by unfold maxLen; omega) (by omega) hB
  have ho : OwnB w' B v' (l ++ [y]) := by
    unfold OwnB Owns
    rw [ints_append]
    simpa [ints] using h2
  refine ⟨v', w', hr, ho, h3, h5, ?_⟩
  rcases hown.2 with ⟨q, _⟩ | ⟨g', cap, cur, q, hbg, hg, hnc, hcm, hcs, htake⟩
  · cases q
  · rw [hlen] at q hnc htake
    simp only [Value.slice.injEq, Option.some.injEq, Addr.mk.injEq, true_and, and_true] at q
    obtain ⟨rfl, rfl⟩ := q
    by_cases hroom : l.length + 1 ≤ c
    · have := run_append_room (P := Try.prog) x 37 ty 5 i0 Try.underlying37 hi g l.length c cur hg ad 1 1 [.int .u8 (y : Int)] (by rw [hz1]; rfl) hnews (by intro u hu; simp at hu; subst hu; rfl) hroom (by rw [hz1]; simp; omega)
      rw [hr] at this
      simp only [Result.ok.injEq] at this
      rw [this.1] at ho
      have := Bytes.take (Owns.seen_at ho) l.length
      rw [List.take_left] at this
      exact this
    · have := run_append_grow (P := Try.prog) x 37 ty 5 i0 (.int .u8 0) Try.underlying37 hi hz0 ⟨g, 0, none⟩ l.length c ((ints l).map (Value.int .u8)) (by rw [hz1]; simp) (World.ownsRow.cells hown (g := g) rfl) ad 1 1 [.int .u8 (y : Int)] (by rw [hz1]; rfl) hnews (by omega) (by omega) (growslice_fits (by omega) (by rw [hz2]; omega))
      rw [hr] at this
      simp only [Result.ok.injEq] at this
      rw [this.2]
      exact Seen.below (Owns.seen_at hown) ((Below.refl _ x).drew.alloc (Nat.le_refl _) _)

/-- 'append(row, p)' of a pending write to a row that is full: a new block. -/
theorem run_fullP (ty : TypeId) (x : World) (B g n : Nat) (L : List Value) (hown : x.ownsRow B 65 2 (.slice (some ⟨g, 0, none⟩) n n) n L) (ad : Addr) (s : Int) (hc0 : x.cell? ad = some (.int .i64 s)) (hc1 : x.cell? (ad.add 1) = some (.slice none 0 0)) (hn : n ≤ 1000000) (hB : B ≤ x.heap.size) :
    ∃ v' x', (Builtin.append_ #[45, 45] ty #[.slice (some ⟨g, 0, none⟩) n n, .slice (some ad) 1 1]).run Try.prog x = .ok v' x' ∧ x'.ownsRow B 65 2 v' (n + 1) (L ++ [.int .i64 s, .slice none 0 0]) ∧ Below x.heap.size x x' ∧ ∀ b, v'.ownBlock = some b → x.heap.size ≤ b := by
  obtain ⟨i0, hi, hz⟩ : ∃ i0, Try.prog.info? 65 = some i0 ∧ i0.zero = some (.agg #[.int .i64 0, .slice none 0 0]) ∧ i0.size = 2 ∧ i0.bytes = 32 := by
    have this : (Try.prog.info? 65).map (fun i => (i.zero, i.size, i.bytes)) = some (some (.agg #[.int .i64 0, .slice none 0 0]), 2, 32) := by kernel_rfl
    cases hq : Try.prog.info? 65 with
    | none => rw [hq] at this; cases this
    | some i0 =>
      rw [hq] at this
      simp only [Option.map_some, Option.some.injEq, Prod.mk.injEq] at this
      exact ⟨i0, rfl, this⟩
  have hnews : ∀ j u, [Value.int .i64 s, .slice none 0 0][j]? = some u → x.cell? (ad.add j) = some u := by
    intro j u hj
    match j, hj with
    | 0, hj =>
      simp at hj
      subst hj
      simpa [Addr.add] using hc0
    | 1, hj =>
      simp at hj
      subst hj
      exact hc1
  obtain ⟨v', w', hr, h2, h3, h4, h5⟩ := run_append_own_at (P := Try.prog) x B 45 ty 65 i0 (.agg #[.int .i64 0, .slice none 0 0]) 2 32 Try.underlying45 hi hz.1 hz.2.1 hz.2.2 rfl (by decide) (.slice (some ⟨g, 0, none⟩) n n) n L hown ad 1 1 [.int .i64 s, .slice none 0 0] rfl hnews
    (by
      intro u hu
      simp at hu
      rcases hu with rfl | rfl <;> rfl) (by unfold maxLen; omega) (by omega) hB
  have := run_append_grow (P := Try.prog) x 45 ty 65 i0 (.agg #[.int .i64 0, .slice none 0 0]) Try.underlying45 hi hz.1 ⟨g, 0, none⟩ n n L (by rw [hz.2.1, hown.1]) (World.ownsRow.cells hown (g := g) rfl) ad 1 1 [.int .i64 s, .slice none 0 0] (by rw [hz.2.1]; rfl) hnews (by omega) (by omega) (growslice_fits (by omega) (by rw [hz.2.2]; omega))
  rw [hr] at this
  simp only [Result.ok.injEq] at this
  refine ⟨v', w', hr, h2, ?_, ?_⟩
  · rw [this.2]
    exact (Below.refl _ x).drew.alloc (Nat.le_refl _) _
  · rw [this.1]
    intro b hb
    have e : x.heap.size = b := Option.some.inj hb
    omega

/-- 'append([]byte(nil), b...)'. -/
theorem run_ownB (ty : TypeId) (x : World) (ad : Addr) (n c : Nat) (l : List Nat) (hn : l.length = n) (hs : Bytes x (some ad) l) (hl : n ≤ 5000000) :
    ∃ v' x', (Builtin.append_ #[37, 37] ty #[.slice none 0 0, .slice (some ad) n c]).run Try.prog x = .ok v' x' ∧ OwnB x' x.heap.size v' l ∧ Below x.heap.size x x' := by
  subst hn
  obtain ⟨i0, hi, hz0, hz1, hz2⟩ := info_parts info5
  obtain ⟨v', w', hr, h2, h3, h4, h5⟩ := run_append_own_at (P := Try.prog) x x.heap.size 37 ty 5 i0 (.int .u8 0) 1 1 Try.underlying37 hi hz0 hz1 hz2 rfl (by decide) (.slice none 0 0) 0 [] (World.ownsRow_nil _ _ _ _) ad l.length c ((ints l).map (Value.int .u8)) (by simp)
    (by
      intro j u hj
      rcases hs with q | ⟨b, off, hn, hlt, hc⟩
      · rw [q] at hj; simp at hj
      · cases hn
        simp at hj
        obtain ⟨q, hq, rfl⟩ := hj
        obtain ⟨hjl, hq'⟩ := List.getElem?_eq_some_iff.1 hq
        rw [addr_add, hc j hjl, hq'])
    (by
      intro u hu
      simp at hu
      obtain ⟨q, _, rfl⟩ := hu
      rfl) (by unfold maxLen; omega) (by omega) (Nat.le_refl _)
  refine ⟨v', w', hr, ?_, (Below.refl _ _).grown h3 (Nat.le_refl _) (by nofun)⟩
  unfold OwnB Owns
  simpa using h2

/-- A builtin call whose run is known, in a region that draws its order. -/
theorem wp_run {o : Oper} {a : Act} {x x' : World} {K : Act → World → Prop} {Q : Exit → Act → World → Prop} {cond : Bool} {t : TypeId} {v u v' : Value} (d : Nat) (s r : Operand) (hc : cond = true) (hd : o.dst = some d)
    (ho : o.op = .call { callee := .builtin .append, args := #[s, r], argTypes := #[t, t] }) (hs : a.eval s = v) (hr : a.eval r = u) (hrun : (Builtin.append_ #[t, t] o.type #[v, u]).run Try.prog x = .ok v' x')
    (h : K (a.put (some d) v') x') : if cond = true then Oper.wp Try.prog o a x K Q else K (a.put o.dst undef) x := by
  rw [if_pos hc]
  have hrun : (execOp a.eval o).run Try.prog x = .ok (.value v') x' := by
    unfold execOp
    simp only [ho, resolve, invoke, builtin, Sem.run_bind, Sem.run_pure, Result.andThen_ok, List.map_toArray, List.map_cons, List.map_nil, hs, hr, hrun]
  unfold Oper.wp
  rw [hrun]
  show K (a.put o.dst v') x'
  rw [hd]
  exact h
/-- The same in a plain row of operations. -/
theorem wpList_run {o : Oper} {a : Act} {x x' : World} {ops : Array Oper} {rest : List Oper} {Q : Exit → Act → World → Prop} {t : TypeId} {v u v' : Value} (hgd : o.guard = none) (s r : Operand)
    (ho : o.op = .call { callee := .builtin .append, args := #[s, r], argTypes := #[t, t] }) (hs : a.eval s = v) (hr : a.eval r = u) (hrun : (Builtin.append_ #[t, t] o.type #[v, u]).run Try.prog x = .ok v' x')
    (h : wpList Try.prog ops Q rest (a.put o.dst v') x') : wpList Try.prog ops Q (o :: rest) a x := by
  refine wpList_plain hgd fun K hK => ?_
  have hrun : (execOp a.eval o).run Try.prog x = .ok (.value v') x' := by
    unfold execOp
    simp only [ho, resolve, invoke, builtin, Sem.run_bind, Sem.run_pure, Result.andThen_ok, List.map_toArray, List.map_cons, List.map_nil, hs, hr, hrun]
  unfold Oper.wp
  rw [hrun]
  exact hK _ _ h
end Go.Proofs.Ytohkmigahbellaa
