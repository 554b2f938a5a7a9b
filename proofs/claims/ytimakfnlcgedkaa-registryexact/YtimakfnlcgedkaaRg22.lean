import Derived.Test.YtimakfnlcgedkaaRg21
namespace Go.Proofs.Ytimakfnlcgedkaa
open Go.RowKit Go.QK Go.Maps Go.QM Go.QR
set_option maxRecDepth 100000
/-! The table: two registries, the document's beside them, a book of lists. Whose block is it? 1 the table's, 2 3 the registries', 4 5 the document's, 6 7 the book's rows', 9 nobody's, 10 + k the k-th list's. -/
structure Tab where
  t : Nat
  b : Nat → Nat
  m : Nat → Nat
  g : Nat → Nat
  c : Nat → Nat
  vC : Nat → Value
  vG : Nat → Value
  rp : Nat → Reg
  rq : Nat → Reg
  vL : Value
  vM : Value
  ls : List (Value × Value × Nat)
def mark (k : Nat) : Int := -1 - (k : Int)
abbrev marks (k n : Nat) : List Value := List.replicate n (.int .i64 (mark k))
structure Ent (lab : Nat → Nat) (w : World) (k : Nat) (e : Value × Value × Nat) : Prop where
  ex : ∃ aL cL aM cM, e.1 = .slice aL e.2.2 cL ∧ e.2.1 = .slice aM (e.2.2 + 1) cM ∧ Lies w aL (marks k e.2.2) ∧ Lies w aM (marks k (e.2.2 + 1)) ∧ (∀ ad, aL = some ad → ad.block < w.heap.size ∧ lab ad.block = 10 + k) ∧ (∀ ad, aM = some ad → ad.block < w.heap.size ∧ lab ad.block = 10 + k)
  few : e.2.2 ≤ 10000
structure Tb (lab : Nat → Nat) (w : World) (B : Nat) (T : Tab) : Prop where
  box : Cells w T.t [ptr (T.b 0), ptr (T.b 1), ptr (T.c 0), ptr (T.c 1), T.vL, T.vM]
  pr : ∀ i, i < 2 → PR w (T.b i) (T.m i) (T.g i) (T.rp i)
  rr : ∀ i, i < 2 → RR w B (T.c i) (T.vC i) (T.vG i) (T.rq i)
  rl : GRow w B 34 1 T.vL T.ls.length (T.ls.map (fun e => e.1))
  rm : GRow w B 34 1 T.vM T.ls.length (T.ls.map (fun e => e.2.1))
  ent : ∀ k e, T.ls[k]? = some e → Ent lab w k e
  many : T.ls.length ≤ 100000
  l1 : lab T.t = 1
  l2 : ∀ i, i < 2 → lab (T.b i) = 2 + i ∧ lab (T.m i) = 2 + i ∧ lab (T.g i) = 2 + i
  l4 : ∀ i, i < 2 → lab (T.c i) = 4 + i ∧ (∀ x, (T.vC i).ownBlock = some x → lab x = 4 + i) ∧ (∀ x, (T.vG i).ownBlock = some x → lab x = 4 + i)
  l6 : ∀ x, T.vL.ownBlock = some x → lab x = 6
  l7 : ∀ x, T.vM.ownBlock = some x → lab x = 7
  low : B ≤ T.t ∧ ∀ i, i < 2 → B ≤ T.b i ∧ B ≤ T.m i ∧ B ≤ T.g i
theorem Ent.keep {S : Nat → Prop} {lab : Nat → Nat} {w w' : World} {k : Nat} {e : Value × Value × Nat} (h : Ent lab w k e) (hk : Keep S w w') (hs : ∀ x, S x → x < w.heap.size → lab x ≠ 10 + k) : Ent lab w' k e := by
  obtain ⟨⟨aL, cL, aM, cM, e1, e2, l1, l2, b1, b2⟩, hf⟩ := h
  have lt : ∀ {a : Option Addr} {cs : List Value}, Lies w a cs → (∀ ad, a = some ad → ad.block < w.heap.size ∧ lab ad.block = 10 + k) → Lies w' a cs := by
    intro a cs hl hb
    rcases hl with q | ⟨b, off, ha, hlt, hc⟩
    · exact .inl q
    · refine .inr ⟨b, off, ha, Nat.lt_of_lt_of_le hlt hk.size, fun i hi => ?_⟩
      exact (hk.cell (p := ⟨b, off + i, none⟩) hlt (fun s => hs b s hlt (hb _ ha).2)).trans (hc i hi)
  exact ⟨⟨aL, cL, aM, cM, e1, e2, lt l1 b1, lt l2 b2, fun ad ha => ⟨Nat.lt_of_lt_of_le (b1 ad ha).1 hk.size, (b1 ad ha).2⟩, fun ad ha => ⟨Nat.lt_of_lt_of_le (b2 ad ha).1 hk.size, (b2 ad ha).2⟩⟩, hf⟩
/-- Only nobody's blocks were touched. -/
theorem Tb.keep {S : Nat → Prop} {lab : Nat → Nat} {w w' : World} {B : Nat} {T : Tab} (h : Tb lab w B T) (hk : Keep S w w') (hs : ∀ x, S x → x < w.heap.size → lab x = 9) : Tb lab w' B T := by
  have n1 : ¬ S T.t := fun q => by have := hs _ q h.box.1; have := h.l1; omega
  refine ⟨h.box.keep hk n1, fun i hi => ?_, fun i hi => ?_, GRow.keep h.rl hk (fun x hx q => ?_), GRow.keep h.rm hk (fun x hx q => ?_), fun k e he => (h.ent k e he).keep hk (fun x q hl => by have := hs _ q hl; omega), h.many, h.l1, h.l2, h.l4, h.l6, h.l7, h.low⟩
  · have p := h.pr i hi
    have l := h.l2 i hi
    have lt := p.lt
    exact p.keep hk (fun q => by have := hs _ q lt.1; omega) (fun q => by have := hs _ q lt.2.1; omega) (fun q => by have := hs _ q lt.2.2; omega)
  · have p := h.rr i hi
    have l := h.l4 i hi
    exact p.keep hk (fun q => by have := hs _ q p.box.1; omega) (fun x hx q => by have := hs _ q (own_lt p.rc hx); have := l.2.1 x hx; omega) (fun x hx q => by have := hs _ q (own_lt p.rg hx); have := l.2.2 x hx; omega)
  · have := hs _ q (own_lt h.rl hx); have := h.l6 x hx; omega
  · have := hs _ q (own_lt h.rm hx); have := h.l7 x hx; omega
theorem Tb.below {lab : Nat → Nat} {w w' : World} {B : Nat} {T : Tab} (h : Tb lab w B T) (hk : Below w.heap.size w w') : Tb lab w' B T := h.keep (Keep.of_below (S := fun _ => False) hk) (fun _ q => q.elim)
def upd {α : Type} (f : Nat → α) (i : Nat) (x : α) : Nat → α := fun j => if j = i then x else f j
theorem upd_same {α : Type} (f : Nat → α) (i : Nat) (x : α) : upd f i x i = x := by simp [upd]
theorem upd_other {α : Type} (f : Nat → α) {i j : Nat} (x : α) (h : j ≠ i) : upd f i x j = f j := by simp [upd, h]
/-- A take of the program's registry. -/
theorem Tb.took {lab : Nat → Nat} {w w' : World} {B : Nat} {T : Tab} (h : Tb lab w B T) {i : Nat} (hi : i < 2) {r : Reg} (hp : PR w' (T.b i) (T.m i) (T.g i) r) (hk : Keep (fun z => z = T.m i ∨ z = T.g i) w w') : Tb lab w' B { T with rp := upd T.rp i r } := by
  have li := h.l2 i hi
  have hs : ∀ x, (x = T.m i ∨ x = T.g i) → lab x = 2 + i := fun x q => by rcases q with q | q <;> (rw [q]; omega)
  refine ⟨h.box.keep hk (fun q => by have := hs _ q; have := h.l1; omega), fun j hj => ?_, fun j hj => ?_, GRow.keep h.rl hk (fun x hx q => ?_), GRow.keep h.rm hk (fun x hx q => ?_), fun k e he => (h.ent k e he).keep hk (fun x q _ => by have := hs _ q; omega), h.many, h.l1, h.l2, h.l4, h.l6, h.l7, h.low⟩
  · show PR w' (T.b j) (T.m j) (T.g j) (upd T.rp i r j)
    by_cases e : j = i
    · subst e; rw [upd_same]; exact hp
    · rw [upd_other _ _ e]
      have l := h.l2 j hj
      exact (h.pr j hj).keep hk (fun q => by have := hs _ q; omega) (fun q => by have := hs _ q; omega) (fun q => by have := hs _ q; omega)
  · have p := h.rr j hj
    have l := h.l4 j hj
    exact p.keep hk (fun q => by have := hs _ q; omega) (fun x hx q => by have := hs _ q; have := l.2.1 x hx; omega) (fun x hx q => by have := hs _ q; have := l.2.2 x hx; omega)
  · have := hs _ q; have := h.l6 x hx; omega
  · have := hs _ q; have := h.l7 x hx; omega
/-- Labels of new blocks. -/
def ext (lab : Nat → Nat) (n k : Nat) : Nat → Nat := fun x => if x < n then lab x else k
theorem ext_old {lab : Nat → Nat} {n k x : Nat} (h : x < n) : ext lab n k x = lab x := by simp [ext, h]
theorem ext_new {lab : Nat → Nat} {n k x : Nat} (h : n ≤ x) : ext lab n k x = k := by simp [ext]; omega
theorem Ent.relab {lab lab' : Nat → Nat} {w : World} {k : Nat} {e : Value × Value × Nat} (h : Ent lab w k e) (hl : ∀ x, x < w.heap.size → lab' x = lab x) : Ent lab' w k e := by
  obtain ⟨⟨aL, cL, aM, cM, e1, e2, l1, l2, b1, b2⟩, hf⟩ := h
  exact ⟨⟨aL, cL, aM, cM, e1, e2, l1, l2, fun ad ha => ⟨(b1 ad ha).1, by rw [hl _ (b1 ad ha).1]; exact (b1 ad ha).2⟩, fun ad ha => ⟨(b2 ad ha).1, by rw [hl _ (b2 ad ha).1]; exact (b2 ad ha).2⟩⟩, hf⟩
theorem Tb.relab {lab lab' : Nat → Nat} {w : World} {B : Nat} {T : Tab} (h : Tb lab w B T) (hl : ∀ x, x < w.heap.size → lab' x = lab x) : Tb lab' w B T := by
  refine ⟨h.box, h.pr, h.rr, h.rl, h.rm, fun k e he => (h.ent k e he).relab hl, h.many, by rw [hl _ h.box.1]; exact h.l1, fun i hi => ?_, fun i hi => ?_, fun x hx => ?_, fun x hx => ?_, h.low⟩
  · have lt := (h.pr i hi).lt
    rw [hl _ lt.1, hl _ lt.2.1, hl _ lt.2.2]
    exact h.l2 i hi
  · have p := h.rr i hi
    have l := h.l4 i hi
    rw [hl _ p.box.1]
    exact ⟨l.1, fun x hx => by rw [hl _ (own_lt p.rc hx)]; exact l.2.1 x hx, fun x hx => by rw [hl _ (own_lt p.rg hx)]; exact l.2.2 x hx⟩
  · rw [hl _ (own_lt h.rl hx)]; exact h.l6 x hx
  · rw [hl _ (own_lt h.rm hx)]; exact h.l7 x hx
/-- A take of the document's. -/
theorem Tb.rtook {lab : Nat → Nat} {w w' : World} {B : Nat} {T : Tab} (h : Tb lab w B T) {i : Nat} (hi : i < 2) {r : Reg} {vC vG : Value} (hp : RR w' B (T.c i) vC vG r) (h1 : Same w.heap.size (T.vC i) vC) (h2 : Same w.heap.size (T.vG i) vG) (hk : Keep (fun z => z = T.c i ∨ (T.vC i).ownBlock = some z ∨ (T.vG i).ownBlock = some z) w w') :
    Tb (ext lab w.heap.size (4 + i)) w' B { T with rq := upd T.rq i r, vC := upd T.vC i vC, vG := upd T.vG i vG } := by
  have li := h.l4 i hi
  have hs : ∀ x, (x = T.c i ∨ (T.vC i).ownBlock = some x ∨ (T.vG i).ownBlock = some x) → lab x = 4 + i := fun x q => by
    rcases q with q | q | q
    · rw [q]; exact li.1
    · exact li.2.1 x q
    · exact li.2.2 x q
  have h0 := h.relab (lab' := ext lab w.heap.size (4 + i)) (fun x hx => ext_old hx)
  have hs' : ∀ x, (x = T.c i ∨ (T.vC i).ownBlock = some x ∨ (T.vG i).ownBlock = some x) → x < w.heap.size → ext lab w.heap.size (4 + i) x = 4 + i := fun x q hx => by rw [ext_old hx]; exact hs x q
  have la : ∀ {v v' : Value}, Same w.heap.size v v' → (∀ x, v.ownBlock = some x → ext lab w.heap.size (4 + i) x = 4 + i) → ∀ x, v'.ownBlock = some x → ext lab w.heap.size (4 + i) x = 4 + i := by
    intro v v' hsm hv x hx
    rcases hsm with e | ⟨y, e, hy⟩
    · rw [e] at hx; exact hv x hx
    · rw [e] at hx; cases hx; exact ext_new hy
  refine ⟨h0.box.keep hk (fun q => by have := hs' _ q h0.box.1; have := h0.l1; omega), fun j hj => ?_, fun j hj => ?_, GRow.keep h0.rl hk (fun x hx q => ?_), GRow.keep h0.rm hk (fun x hx q => ?_), fun k e he => (h0.ent k e he).keep hk (fun x q hx => by have := hs' _ q hx; omega), h.many, h0.l1, h0.l2, fun j hj => ?_, h0.l6, h0.l7, h0.low⟩
  · have l := h0.l2 j hj
    have lt := (h0.pr j hj).lt
    exact (h0.pr j hj).keep hk (fun q => by have := hs' _ q lt.1; omega) (fun q => by have := hs' _ q lt.2.1; omega) (fun q => by have := hs' _ q lt.2.2; omega)
  · show RR w' B (T.c j) (upd T.vC i vC j) (upd T.vG i vG j) (upd T.rq i r j)
    by_cases e : j = i
    · subst e; rw [upd_same, upd_same, upd_same]; exact hp
    · rw [upd_other _ _ e, upd_other _ _ e, upd_other _ _ e]
      have p := h0.rr j hj
      have l := h0.l4 j hj
      exact p.keep hk (fun q => by have := hs' _ q p.box.1; omega) (fun x hx q => by have := hs' _ q (own_lt p.rc hx); have := l.2.1 x hx; omega) (fun x hx q => by have := hs' _ q (own_lt p.rg hx); have := l.2.2 x hx; omega)
  · have := hs' _ q (own_lt h0.rl hx); have := h0.l6 x hx; omega
  · have := hs' _ q (own_lt h0.rm hx); have := h0.l7 x hx; omega
  · show ext lab w.heap.size (4 + i) (T.c j) = 4 + j ∧ (∀ x, (upd T.vC i vC j).ownBlock = some x → ext lab w.heap.size (4 + i) x = 4 + j) ∧ (∀ x, (upd T.vG i vG j).ownBlock = some x → ext lab w.heap.size (4 + i) x = 4 + j)
    have l := h0.l4 j hj
    by_cases e : j = i
    · subst e
      rw [upd_same, upd_same]
      exact ⟨l.1, la h1 l.2.1, la h2 l.2.2⟩
    · rw [upd_other _ _ e, upd_other _ _ e]
      exact l
end Go.Proofs.Ytimakfnlcgedkaa
