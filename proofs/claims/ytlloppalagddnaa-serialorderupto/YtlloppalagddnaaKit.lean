import Derived.WalkKit
import Derived.WalkSpells
import Derived.WalkLawsBesides
import Derived.Laws.AppendOwnNone
import Derived.Maps.AppendAt
namespace Go.QK
open Go.RowKit

/-! Rows of integers of one kind that slices lead to, over whatever program. -/

theorem addr_add (b off i : Nat) : (⟨b, off, none⟩ : Addr).add i = ⟨b, off + i, none⟩ := by
  simp only [Addr.add]
  split
  · simp_all
  · rfl

theorem below_undrew {B : Nat} {w w1 : World} (h : Below B w.drew w1) : Below B w w1 := ⟨h.os, h.tape, h.output, h.size, h.block⟩
theorem below1 {w w1 : World} {o : Obj} (hb : Below (w.alloc o).heap.size (w.alloc o) w1) : Below w.heap.size w w1 :=
  ((Below.refl _ _).alloc (Nat.le_refl _) _).trans (hb.mono (by simp))

/-- The numbers that a slice leads to. -/
def Seen (k : IntKind) (w : World) (a : Option Addr) (xs : List Int) : Prop :=
  xs = [] ∨ ∃ b off, a = some ⟨b, off, none⟩ ∧ b < w.heap.size ∧ ∀ i (h : i < xs.length), w.cell? ⟨b, off + i, none⟩ = some (.int k xs[i])

section
variable {k : IntKind} {w w' : World} {a : Option Addr} {xs : List Int}

theorem Seen.below (h : Seen k w a xs) (hb : Below w.heap.size w w') : Seen k w' a xs := by
  rcases h with h | ⟨b, off, ha, hlt, hc⟩
  · exact .inl h
  · exact .inr ⟨b, off, ha, Nat.lt_of_lt_of_le hlt hb.size, fun i hi => (hb.cell (p := ⟨b, off + i, none⟩) hlt).trans (hc i hi)⟩
theorem Seen.at (h : Seen k w a xs) {i : Nat} (hi : i < xs.length) : ∃ b off, a = some ⟨b, off, none⟩ ∧ b < w.heap.size ∧ w.cell? ⟨b, off + i, none⟩ = some (.int k xs[i]) := by
  rcases h with h | ⟨b, off, ha, hlt, hc⟩
  · simp [h] at hi
  · exact ⟨b, off, ha, hlt, hc i hi⟩
theorem Seen.take (h : Seen k w a xs) (n : Nat) : Seen k w a (xs.take n) := by
  rcases h with rfl | ⟨b, off, h1, h2, h3⟩
  · exact .inl (by simp)
  · refine .inr ⟨b, off, h1, h2, fun i hi => ?_⟩
    rw [h3 i (by simp at hi; omega)]
    simp
/-- Where 'l[n:]' leads. -/
def dropA (a : Option Addr) (cap n : Nat) : Option Addr := if cap = n then a else a.map (fun x => x.add n)
theorem Seen.drop {cap : Nat} (h : Seen k w a xs) (n : Nat) (hc : xs.length ≤ cap) : Seen k w (dropA a cap n) (xs.drop n) := by
  by_cases hk : xs.length ≤ n
  · exact .inl (by simp; exact hk)
  · rcases h with rfl | ⟨b, off, h1, h2, h3⟩
    · simp at hk
    · refine .inr ⟨b, off + n, ?_, h2, fun i hi => ?_⟩
      · unfold dropA
        rw [if_neg (by omega), h1]
        simp [addr_add]
      · have := h3 (n + i) (by simp at hi; omega)
        rw [← Nat.add_assoc] at this
        rw [this]
        simp
theorem dropA_nil {cap n : Nat} (h : a = none → cap = 0) : dropA a cap n = none → cap - n = 0 := by
  unfold dropA
  split
  · intro e; have := h e; omega
  · cases a with
    | none => intro _; have := h rfl; omega
    | some x => intro e; cases e
theorem Seen.one (w : World) (k : IntKind) (x : Int) (t : TypeId) : Seen k (w.alloc (.cells #[.int k x] t)) (some ⟨w.heap.size, 0, none⟩) [x] := by
  refine .inr ⟨w.heap.size, 0, rfl, by simp, ?_⟩
  intro i hi
  obtain rfl : i = 0 := by simp at hi; omega
  simp [go_sem]
end

/-- 'l[n:]' of a slice of one-cell elements ('hz': 'fun _ => by kernel_rfl' over a loaded program). -/
theorem slice_from {P : Program} {t e : TypeId} (ht : P.underlying t = some (.slice e)) (hz : ∀ w, (Go.sizeOf e).run P w = .ok 1 w) (a : Option Addr) (n cap k : Nat) (w : World) (h : k ≤ n) (h2 : n ≤ cap) :
    (Instr.slice t (.slice a n cap) (some (.int .i64 k)) none none).run P w = .ok (.slice (dropA a cap k) (n - k) (cap - k)) w := by
  unfold dropA
  by_cases q : cap = k
  · subst q
    have hn : n = cap := by omega
    subst hn
    go_simp
  · have q' : ¬ k = cap := fun r => q r.symm
    rw [if_neg q]
    go_simp

/-! What the program itself has made. -/

/-- The slice value v is the program's own, in a block from B on, and holds the numbers xs of kind k (element type e). -/
def Owns (k : IntKind) (e : TypeId) (w : World) (B : Nat) (v : Value) (xs : List Int) : Prop := w.ownsRow B e 1 v xs.length (xs.map (Value.int k))

section
variable {k : IntKind} {e : TypeId} {w w' : World} {B : Nat} {v u : Value} {xs : List Int}

theorem Owns.nil (k : IntKind) (e : TypeId) (w : World) (B : Nat) : Owns k e w B (.slice none 0 0) [] := World.ownsRow_nil _ _ _ _
theorem Owns.alloc (h : Owns k e w B v xs) (o : Obj) : Owns k e (w.alloc o) B v xs := World.ownsRow.alloc h o
theorem Owns.lit (w : World) (k : IntKind) (e : TypeId) (x : Int) (B : Nat) (hB : B ≤ w.heap.size) : Owns k e (w.alloc (.cells #[.int k x] e)) B (.slice (some ⟨w.heap.size, 0, none⟩) 1 1) [x] := by
  have := World.ownsRow_lit (base := B) (e := e) (size := 1) w #[.int k x] 1 hB (by unfold maxLen; omega) rfl
  simpa [Owns] using this
theorem Owns.kept (h : Owns k e w B v xs) (hg : w.grownBy w' u.ownBlock) (hne : v.ownBlock ≠ u.ownBlock) : Owns k e w' B v xs := World.ownsRow.kept h hg (.inr hne)
theorem Owns.block (h : Owns k e w B v xs) : v.ownBlock ≠ some w.heap.size := fun q => by have := (World.ownsRow.lt h _ q).2; omega
theorem Owns.below (h : Owns k e w B v xs) (hb : Below w.heap.size w w') : Owns k e w' B v xs := by
  refine ⟨h.1, ?_⟩
  rcases h.2 with q | ⟨g, cap, cur, q, hbg, hg, rest⟩
  · exact .inl q
  · have hlt := (World.ownsRow.lt h g (by rw [q]; rfl)).2
    exact .inr ⟨g, cap, cur, q, hbg, (hb.block g hlt).trans hg, rest⟩
theorem Owns.form (h : Owns k e w B v xs) (hn : 0 < xs.length) : ∃ g cap, v = .slice (some ⟨g, 0, none⟩) xs.length cap ∧ xs.length ≤ cap ∧ B ≤ g ∧ g < w.heap.size := by
  rcases h.2 with ⟨_, q⟩ | ⟨g, cap, cur, q, hbg, hg, hle, _⟩
  · omega
  · exact ⟨g, cap, q, hle, hbg, (World.ownsRow.lt h g (by rw [q]; rfl)).2⟩
theorem Owns.seen (h : Owns k e w B v xs) : ∃ a cap, v = .slice a xs.length cap ∧ Seen k w a xs ∧ (a = none → cap = 0) ∧ xs.length ≤ cap ∧ cap ≤ maxLen := by
  rcases h.2 with ⟨rfl, hn⟩ | ⟨g, cap, cur, rfl, hb, hg, hle, hm, hs, ht⟩
  · have : xs = [] := List.eq_nil_of_length_eq_zero hn
    subst this
    exact ⟨none, 0, rfl, .inl rfl, fun _ => rfl, Nat.le_refl _, by unfold maxLen; omega⟩
  · refine ⟨_, cap, rfl, .inr ⟨g, 0, rfl, ?_, ?_⟩, nofun, hle, hm⟩
    · exact (World.ownsRow.lt h g rfl).2
    · intro i hi
      have := World.ownsRow.cells h (g := g) rfl i (.int k xs[i]) (by simp [hi])
      rw [addr_add] at this
      exact this
theorem Owns.seen_at {g n c : Nat} (h : Owns k e w B (.slice (some ⟨g, 0, none⟩) n c) xs) : Seen k w (some ⟨g, 0, none⟩) xs := by
  by_cases q : xs = []
  · exact .inl q
  · refine .inr ⟨g, 0, rfl, (World.ownsRow.lt h g rfl).2, fun i hi => ?_⟩
    have := World.ownsRow.cells h (g := g) rfl i (.int k xs[i]) (by simp [hi])
    rw [addr_add] at this
    exact this
theorem Owns.len {g n c : Nat} (h : Owns k e w B (.slice (some ⟨g, 0, none⟩) n c) xs) : n = xs.length := by
  rcases h.2 with ⟨q, _⟩ | ⟨g', cap', cur, q, _⟩
  · cases q
  · simp only [Value.slice.injEq] at q
    exact q.2.1
theorem Owns.frozen {g n c : Nat} (h : Owns k e w B (.slice (some ⟨g, 0, none⟩) n c) xs) (j : Nat) : w.frozen? ⟨g, j, none⟩ = false := by
  have q := h.len
  subst q
  exact World.ownsRow.frozenAt h j
theorem Owns.stored {g n c : Nat} (h : Owns k e w B (.slice (some ⟨g, 0, none⟩) n c) xs) (j : Nat) (y : Int) : Owns k e (w.setCell ⟨g, j, none⟩ (.int k y)) B (.slice (some ⟨g, 0, none⟩) n c) (xs.set j y) := by
  have q := h.len
  subst q
  have r := (World.ownsRow.stored h j (.int k y)).1
  unfold Owns
  rw [List.length_set, List.map_set]
  exact r
theorem Owns.other {g j : Nat} {y : Value} (h : Owns k e w B v xs) (hne : v.ownBlock ≠ some g) : Owns k e (w.setCell ⟨g, j, none⟩ y) B v xs := by
  refine ⟨h.1, ?_⟩
  rcases h.2 with q | ⟨g', cap, cur, q, hbg, hg, rest⟩
  · exact .inl q
  · refine .inr ⟨g', cap, cur, q, hbg, (Below.heap_setCell _ _ _ _ ?_).trans hg, rest⟩
    intro r
    apply hne
    rw [q]
    show some g' = some g
    rw [r]
theorem grown_below (hown : Owns k e w B v xs) (hB : B ≤ w.heap.size) (hg : w.grownBy w' v.ownBlock) : Below B w w' :=
  (Below.refl _ _).grown hg hB (fun j hj => (World.ownsRow.lt hown j hj).1)
end

/-! The two appends, for the walk: 'at_builtin; refine QK.append_own ht hin rfl (.tmp _) (.tmp _) rfl ..'. 'hin': 'by kernel_rfl'. -/
section
variable {P : Program} {t e : TypeId} {k : IntKind} {by_ : Nat}

theorem append_own (ht : P.underlying t = some (.slice e)) (hin : (P.info? e).map (fun i => (i.zero, i.size, i.bytes)) = some (some (.int k 0), 1, by_))
    {w : World} {ops : Array Oper} {rest : List Oper} {o : Oper} {a : Act} {Q : Exit → Act → World → Prop} (hgd : o.guard = none) (s x : Operand)
    (ho : o.op = .call { callee := .builtin .append, args := #[s, x], argTypes := #[t, t] })
    (B : Nat) (v : Value) (xs : List Int) (hs : a.eval s = v) (hown : Owns k e w B v xs) (ax : Option Addr) (n c : Nat) (ys : List Int) (hyn : ys.length = n) (hx : a.eval x = .slice ax n c) (hseen : Seen k w ax ys) (hnil : ax = none → c = 0)
    (h63 : xs.length + ys.length ≤ maxLen) (hbytes : (xs.length + ys.length) * by_ ≤ 140737488355328) (hB : B ≤ w.heap.size)
    (h : ∀ v' w', Owns k e w' B v' (xs ++ ys) → w.grownBy w' v.ownBlock → (v'.ownBlock = v.ownBlock ∨ v'.ownBlock = some w.heap.size) → wpList P ops Q rest (a.put o.dst v') w') : wpList P ops Q (o :: rest) a w := by
  obtain ⟨i0, hi, hz0, hz1, hz2⟩ := info_parts hin
  subst hyn
  cases ax with
  | none =>
    have hc := hnil rfl
    subst hc
    rcases hseen with rfl | ⟨b, off, hn, _⟩
    · refine wpList_append_own_none hgd s x t ho B e i0 1 ht hi v xs.length _ hs hown hx ?_
      exact h v w (by simpa using hown) (World.grownBy.refl _ _) (.inl rfl)
    · cases hn
  | some ad =>
    refine wpList_append_own_at w hgd s x t ho B e i0 (.int k 0) 1 by_ ht hi hz0 hz1 hz2 rfl (by decide) v xs.length _ hs hown ad ys.length c (ys.map (Value.int k)) hx (by simp) ?_ ?_ h63 hbytes hB ?_
    · intro j u hj
      rcases hseen with rfl | ⟨b, off, hn, hlt, hc⟩
      · simp at hj
      · cases hn
        simp at hj
        obtain ⟨q, hq, rfl⟩ := hj
        obtain ⟨hjl, hq'⟩ := List.getElem?_eq_some_iff.1 hq
        rw [addr_add, hc j hjl, hq']
    · intro u hu
      simp at hu
      obtain ⟨q, _, rfl⟩ := hu
      rfl
    · intro v' w' h1 h2 _ h4
      exact h v' w' (by unfold Owns; simpa using h1) h2 h4

theorem push_own (ht : P.underlying t = some (.slice e)) (hin : (P.info? e).map (fun i => (i.zero, i.size, i.bytes)) = some (some (.int k 0), 1, by_))
    {w : World} {ops : Array Oper} {rest : List Oper} {o : Oper} {a : Act} {Q : Exit → Act → World → Prop} (hgd : o.guard = none) (s x : Operand)
    (ho : o.op = .call { callee := .builtin .append, args := #[s, x], argTypes := #[t, t] })
    (B : Nat) (v : Value) (xs : List Int) (hs : a.eval s = v) (ad : Addr) (y : Int) (hx : a.eval x = .slice (some ad) 1 1) (hown : Owns k e w B v xs) (hc : w.cell? ad = some (.int k y))
    (h63 : xs.length + 1 ≤ maxLen) (hbytes : (xs.length + 1) * by_ ≤ 140737488355328) (hB : B ≤ w.heap.size)
    (h : ∀ v' w', Owns k e w' B v' (xs ++ [y]) → w.grownBy w' v.ownBlock → (v'.ownBlock = v.ownBlock ∨ v'.ownBlock = some w.heap.size) → wpList P ops Q rest (a.put o.dst v') w') : wpList P ops Q (o :: rest) a w := by
  obtain ⟨i0, hi, hz0, hz1, hz2⟩ := info_parts hin
  refine wpList_append_own_at w hgd s x t ho B e i0 (.int k 0) 1 by_ ht hi hz0 hz1 hz2 rfl (by decide) v xs.length _ hs hown ad 1 1 [.int k y] hx rfl ?_ ?_ h63 hbytes hB ?_
  · intro j u hj
    match j, hj with
    | 0, hj =>
      simp at hj
      subst hj
      simpa [Addr.add] using hc
  · intro u hu
    simp at hu
    subst hu
    rfl
  · intro v' w' h1 h2 _ h4
    exact h v' w' (by unfold Owns; simpa using h1) h2 h4
end

/-! A block of the program's own that holds these values and may be written. -/

def Cells (w : World) (b : Nat) (cs : List Value) : Prop :=
  b < w.heap.size ∧ ∀ j (h : j < cs.length), w.cell? ⟨b, j, none⟩ = some cs[j] ∧ w.frozen? ⟨b, j, none⟩ = false

theorem Cells.under {w w' : World} {B b : Nat} {cs : List Value} (h : Cells w b cs) (hlt : b < B) (hb : Below B w w') : Cells w' b cs :=
  ⟨Nat.lt_of_lt_of_le h.1 hb.size, fun j hj => ⟨(hb.cell (p := ⟨b, j, none⟩) hlt).trans (h.2 j hj).1, (hb.frozen (p := ⟨b, j, none⟩) hlt).trans (h.2 j hj).2⟩⟩
theorem Cells.below {w w' : World} {b : Nat} {cs : List Value} (h : Cells w b cs) (hb : Below w.heap.size w w') : Cells w' b cs := h.under h.1 hb
theorem Cells.drew {w : World} {b : Nat} {cs : List Value} (h : Cells w b cs) : Cells w.drew b cs := h
theorem Cells.new (w : World) (cs : Array Value) (t : TypeId) : Cells (w.alloc (.cells cs t)) w.heap.size cs.toList := by
  refine ⟨by simp, fun j hj => ⟨?_, World.frozen?_alloc_new w cs t j⟩⟩
  rw [World.cell?_alloc_new]
  simp at hj
  simp [hj]
theorem Cells.other {w : World} {b g j : Nat} {cs : List Value} {y : Value} (h : Cells w b cs) (hne : g ≠ b) : Cells (w.setCell ⟨g, j, none⟩ y) b cs := by
  have hk : (w.setCell ⟨g, j, none⟩ y).heap[b]? = w.heap[b]? := Below.heap_setCell _ _ _ _ (fun q => hne q.symm)
  exact ⟨by simpa using h.1, fun i hi => ⟨(World.cell?_of_block (w := w) (a := ⟨b, i, none⟩) hk).trans (h.2 i hi).1, (World.frozen?_of_block (w := w) (a := ⟨b, i, none⟩) hk).trans (h.2 i hi).2⟩⟩
theorem Cells.stored {w : World} {b j : Nat} {cs : List Value} (h : Cells w b cs) (hj : j < cs.length) (y : Value) : Cells (w.setCell ⟨b, j, none⟩ y) b (cs.set j y) := by
  refine ⟨by simpa using h.1, fun i hi => ⟨?_, ?_⟩⟩
  · by_cases q : i = j
    · subst q
      rw [World.cell?_setCell_same w _ _ (h.2 i hj).1]
      simp
    · rw [World.cell?_setCell_other _ _ _ _ (by intro r; cases r; exact q rfl), (h.2 i (by simpa using hi)).1]
      rw [List.getElem_set_ne (by omega)]
  · rw [World.frozen?_setCell]
    exact (h.2 i (by simpa using hi)).2
theorem Cells.get {w : World} {b : Nat} {cs : List Value} (h : Cells w b cs) (j : Nat) (v : Value) (hj : cs[j]? = some v) : w.cell? ⟨b, j, none⟩ = some v ∧ w.frozen? ⟨b, j, none⟩ = false := by
  obtain ⟨hl, rfl⟩ := List.getElem?_eq_some_iff.1 hj
  exact h.2 j hl

end Go.QK
