import Derived.Test.YtokcocmenndlmaaTx24
namespace Go.Proofs.Ytokcocmenndlmaa
open Go.RowKit Go.QK Go.Maps Go.QM Go.QT
set_option maxRecDepth 100000
/-! The table: two tables, the document's beside them, a book of lists. Whose block is it? 1 the table's, 2 3 the program's, 4 5 the document's, 6 7 the book's rows', 9 nobody's, 10 + k the k-th list's. -/
structure Tab where
  t : Nat
  b : Nat → Nat
  m : Nat → Nat
  c : Nat → Nat
  v : Nat → Value
  rp : Nat → TbM
  rq : Nat → TbM
  vL : Value
  vM : Value
  ls : List (Value × Value × Nat)
def mkL (k : Nat) : Lv := ⟨-1 - (k : Int), 0, false, false⟩
abbrev marks (k n : Nat) : List Value := rowsC lvC (List.replicate n (mkL k))
structure Ent (lab : Nat → Nat) (w : World) (k : Nat) (e : Value × Value × Nat) : Prop where
  ex : ∃ aL cL aM cM, e.1 = .slice aL e.2.2 cL ∧ e.2.1 = .slice aM (e.2.2 + 1) cM ∧ Lies w aL (marks k e.2.2) ∧ Lies w aM (marks k (e.2.2 + 1)) ∧ (∀ ad, aL = some ad → ad.block < w.heap.size ∧ lab ad.block = 10 + k) ∧ (∀ ad, aM = some ad → ad.block < w.heap.size ∧ lab ad.block = 10 + k)
  few : e.2.2 ≤ 10000
structure Tb (lab : Nat → Nat) (w : World) (B : Nat) (T : Tab) : Prop where
  box : Cells w T.t [ptr (T.b 0), ptr (T.b 1), ptr (T.c 0), ptr (T.c 1), T.vL, T.vM]
  pr : ∀ i, i < 2 → PT w (T.b i) (T.m i) (T.rp i)
  rr : ∀ i, i < 2 → RT w B (T.c i) (T.v i) (T.rq i)
  rl : GRow w B 33 1 T.vL T.ls.length (T.ls.map (fun e => e.1))
  rm : GRow w B 33 1 T.vM T.ls.length (T.ls.map (fun e => e.2.1))
  ent : ∀ k e, T.ls[k]? = some e → Ent lab w k e
  many : T.ls.length ≤ 100000
  l1 : lab T.t = 1
  l2 : ∀ i, i < 2 → lab (T.b i) = 2 + i ∧ lab (T.m i) = 2 + i
  l4 : ∀ i, i < 2 → lab (T.c i) = 4 + i ∧ (∀ x, (T.v i).ownBlock = some x → lab x = 4 + i)
  l6 : ∀ x, T.vL.ownBlock = some x → lab x = 6
  l7 : ∀ x, T.vM.ownBlock = some x → lab x = 7
  low : B ≤ T.t ∧ ∀ i, i < 2 → B ≤ T.b i ∧ B ≤ T.m i
theorem own_lt {w : World} {B e sz n : Nat} {v : Value} {xs : List Value} (h : GRow w B e sz v n xs) {x : Nat} (hx : v.ownBlock = some x) : x < w.heap.size := (World.ownsRow.lt h x hx).2
theorem Ent.keep {S : Nat → Prop} {lab : Nat → Nat} {w w' : World} {k : Nat} {e : Value × Value × Nat} (h : Ent lab w k e) (hk : Keep S w w') (hs : ∀ x, S x → x < w.heap.size → lab x ≠ 10 + k) : Ent lab w' k e := by
  obtain ⟨⟨aL, cL, aM, cM, e1, e2, l1, l2, b1, b2⟩, hf⟩ := h
  have lt : ∀ {a : Option Addr} {cs : List Value}, Lies w a cs → (∀ ad, a = some ad → ad.block < w.heap.size ∧ lab ad.block = 10 + k) → Lies w' a cs := by
    intro a cs hl hb
    rcases hl with q | ⟨b, off, ha, hlt, hc⟩
    · exact .inl q
    · refine .inr ⟨b, off, ha, Nat.lt_of_lt_of_le hlt hk.size, fun i hi => ?_⟩
      exact (hk.cell (p := ⟨b, off + i, none⟩) hlt (fun s => hs b s hlt (hb _ ha).2)).trans (hc i hi)
  exact ⟨⟨aL, cL, aM, cM, e1, e2, lt l1 b1, lt l2 b2, fun ad ha => ⟨Nat.lt_of_lt_of_le (b1 ad ha).1 hk.size, (b1 ad ha).2⟩, fun ad ha => ⟨Nat.lt_of_lt_of_le (b2 ad ha).1 hk.size, (b2 ad ha).2⟩⟩, hf⟩
/-- Only nobody's blocks were touched. -/
theorem Tb.keep {S : Nat → Prop} {lab : Nat → Nat} {w w' : World} {B : Nat} {T : Tab} (h : Tb lab w B T) (hk : Keep S w w') (hs : ∀ x, S x → x < w.heap.size → lab x = 9) : Tb lab w' B T := by
  have n1 : ¬ S T.t := fun q => by have := hs _ q h.box.1; have := h.l1; omega
  refine ⟨h.box.keep hk n1, fun i hi => ?_, fun i hi => ?_, GRow.keep h.rl hk (fun x hx q => ?_), GRow.keep h.rm hk (fun x hx q => ?_), fun k e he => (h.ent k e he).keep hk (fun x q hl => by have := hs _ q hl; omega), h.many, h.l1, h.l2, h.l4, h.l6, h.l7, h.low⟩
  · have p := h.pr i hi
    have l := h.l2 i hi
    have lt := p.lt
    exact p.keep hk (fun q => by have := hs _ q lt.1; omega) (fun q => by have := hs _ q lt.2; omega)
  · have p := h.rr i hi
    have l := h.l4 i hi
    exact p.keep hk (fun q => by have := hs _ q p.lt.1; omega) (fun x hx q => by have := hs _ q (p.lt.2 x hx); have := l.2 x hx; omega)
  · have := hs _ q (own_lt h.rl hx); have := h.l6 x hx; omega
  · have := hs _ q (own_lt h.rm hx); have := h.l7 x hx; omega
theorem Tb.below {lab : Nat → Nat} {w w' : World} {B : Nat} {T : Tab} (h : Tb lab w B T) (hk : Below w.heap.size w w') : Tb lab w' B T := h.keep (Keep.of_below (S := fun _ => False) hk) (fun _ q => q.elim)
def upd {α : Type} (f : Nat → α) (i : Nat) (x : α) : Nat → α := fun j => if j = i then x else f j
theorem upd_same {α : Type} (f : Nat → α) (i : Nat) (x : α) : upd f i x i = x := by simp [upd]
theorem upd_other {α : Type} (f : Nat → α) {i j : Nat} (x : α) (h : j ≠ i) : upd f i x j = f j := by simp [upd, h]
/-- The program's table goes on. -/
theorem Tb.took {lab : Nat → Nat} {w w' : World} {B : Nat} {T : Tab} (h : Tb lab w B T) {i : Nat} (hi : i < 2) {r : TbM} (hp : PT w' (T.b i) (T.m i) r) (hk : Keep (fun z => z = T.b i ∨ z = T.m i) w w') : Tb lab w' B { T with rp := upd T.rp i r } := by
  have li := h.l2 i hi
  have hs : ∀ x, (x = T.b i ∨ x = T.m i) → lab x = 2 + i := fun x q => by rcases q with q | q <;> (rw [q]; omega)
  refine ⟨h.box.keep hk (fun q => by have := hs _ q; have := h.l1; omega), fun j hj => ?_, fun j hj => ?_, GRow.keep h.rl hk (fun x hx q => ?_), GRow.keep h.rm hk (fun x hx q => ?_), fun k e he => (h.ent k e he).keep hk (fun x q _ => by have := hs _ q; omega), h.many, h.l1, h.l2, h.l4, h.l6, h.l7, h.low⟩
  · show PT w' (T.b j) (T.m j) (upd T.rp i r j)
    by_cases e : j = i
    · subst e; rw [upd_same]; exact hp
    · rw [upd_other _ _ e]
      have l := h.l2 j hj
      exact (h.pr j hj).keep hk (fun q => by have := hs _ q; omega) (fun q => by have := hs _ q; omega)
  · have p := h.rr j hj
    have l := h.l4 j hj
    exact p.keep hk (fun q => by have := hs _ q; omega) (fun x hx q => by have := hs _ q; have := l.2 x hx; omega)
  · have := hs _ q; have := h.l6 x hx; omega
  · have := hs _ q; have := h.l7 x hx; omega
/-- Labels of new blocks. -/
def ext (lab : Nat → Nat) (n k : Nat) : Nat → Nat := fun x => if x < n then lab x else k
theorem ext_old {lab : Nat → Nat} {n k x : Nat} (h : x < n) : ext lab n k x = lab x := by simp [ext, h]
theorem ext_new {lab : Nat → Nat} {n k x : Nat} (h : n ≤ x) : ext lab n k x = k := by simp [ext]; omega
theorem Ent.relab {lab lab' : Nat → Nat} {w : World} {k : Nat} {e : Value × Value × Nat} (h : Ent lab w k e) (hl : ∀ x, x < w.heap.size → lab' x = lab x) : Ent lab' w k e := by
  obtain ⟨⟨aL, cL, aM, cM, e1, e2, l1, l2, b1, b2⟩, hf⟩ := h
  exact ⟨⟨aL, cL, aM, cM, e1, e2, l1, l2, fun ad ha => ⟨(b1 ad ha).1, by rw [hl _ (b1 ad ha).1]; exact (b1 ad ha).2⟩, fun ad ha => ⟨(b2 ad ha).1, by rw [hl _ (b2 ad ha).1]; exact (b2 ad ha).2⟩⟩, hf⟩
theorem Tb.relab {lab lab' : Nat → Nat} {w : World} {B : Nat} {T : Tab} (h : Tb lab w B T) (hl : ∀ x, x < w.heap.size → lab' x = lab x) : Tb lab' w B T := by
  refine ⟨h.box, h.pr, h.rr, h.rl, h.rm, fun k e he => (h.ent k e he).relab hl, h.many, by rw [hl _ h.box.1]; exact h.l1, fun i hi => ?_, fun i hi => ?_, fun x hx => ?_, fun x hx => ?_, h.low⟩
  · have lt := (h.pr i hi).lt
    rw [hl _ lt.1, hl _ lt.2]
    exact h.l2 i hi
  · have p := h.rr i hi
    have l := h.l4 i hi
    rw [hl _ p.lt.1]
    exact ⟨l.1, fun x hx => by rw [hl _ (p.lt.2 x hx)]; exact l.2 x hx⟩
  · rw [hl _ (own_lt h.rl hx)]; exact h.l6 x hx
  · rw [hl _ (own_lt h.rm hx)]; exact h.l7 x hx
/-- The document's goes on. -/
theorem Tb.rtook {lab : Nat → Nat} {w w' : World} {B : Nat} {T : Tab} (h : Tb lab w B T) {i : Nat} (hi : i < 2) {r : TbM} {v' : Value} (hp : RT w' B (T.c i) v' r) (h1 : SameB w.heap.size (T.v i) v') (hk : Keep (fun z => z = T.c i ∨ (T.v i).ownBlock = some z) w w') :
    Tb (ext lab w.heap.size (4 + i)) w' B { T with rq := upd T.rq i r, v := upd T.v i v' } := by
  have h0 := h.relab (lab' := ext lab w.heap.size (4 + i)) (fun x hx => ext_old hx)
  have li := h0.l4 i hi
  have pi := h0.rr i hi
  have hs' : ∀ x, (x = T.c i ∨ (T.v i).ownBlock = some x) → x < w.heap.size → ext lab w.heap.size (4 + i) x = 4 + i := fun x q hx => by
    rcases q with q | q
    · rw [q]; exact li.1
    · exact li.2 x q
  refine ⟨h0.box.keep hk (fun q => by have := hs' _ q h0.box.1; have := h0.l1; omega), fun j hj => ?_, fun j hj => ?_, GRow.keep h0.rl hk (fun x hx q => ?_), GRow.keep h0.rm hk (fun x hx q => ?_), fun k e he => (h0.ent k e he).keep hk (fun x q hx => by have := hs' _ q hx; omega), h.many, h0.l1, h0.l2, fun j hj => ?_, h0.l6, h0.l7, h0.low⟩
  · have l := h0.l2 j hj
    have lt := (h0.pr j hj).lt
    exact (h0.pr j hj).keep hk (fun q => by have := hs' _ q lt.1; omega) (fun q => by have := hs' _ q lt.2; omega)
  · show RT w' B (T.c j) (upd T.v i v' j) (upd T.rq i r j)
    by_cases e : j = i
    · subst e; rw [upd_same, upd_same]; exact hp
    · rw [upd_other _ _ e, upd_other _ _ e]
      have p := h0.rr j hj
      have l := h0.l4 j hj
      exact p.keep hk (fun q => by have := hs' _ q p.lt.1; omega) (fun x hx q => by have := hs' _ q (p.lt.2 x hx); have := l.2 x hx; omega)
  · have := hs' _ q (own_lt h0.rl hx); have := h0.l6 x hx; omega
  · have := hs' _ q (own_lt h0.rm hx); have := h0.l7 x hx; omega
  · show ext lab w.heap.size (4 + i) (T.c j) = 4 + j ∧ (∀ x, (upd T.v i v' j).ownBlock = some x → ext lab w.heap.size (4 + i) x = 4 + j)
    have l := h0.l4 j hj
    by_cases e : j = i
    · subst e
      rw [upd_same]
      refine ⟨l.1, fun x hx => ?_⟩
      rcases h1 x hx with q | q
      · exact l.2 x q
      · exact ext_new q
    · rw [upd_other _ _ e]
      exact l
theorem Tb.rtookP {lab : Nat → Nat} {w w' : World} {B : Nat} {T : Tab} (h : Tb lab w B T) {i : Nat} (hi : i < 2) {r : TbM} (hp : RPost B (T.c i) (T.v i) r w w') :
    ∃ v', Tb (ext lab w.heap.size (4 + i)) w' B { T with rq := upd T.rq i r, v := upd T.v i v' } ∧ Keep (fun z => z = T.c i ∨ (T.v i).ownBlock = some z) w w' := by
  obtain ⟨v', h1, h2, h3⟩ := hp
  exact ⟨v', h.rtook hi h1 h2 h3, h3⟩
theorem Tb.cP {lab : Nat → Nat} {w : World} {B : Nat} {T : Tab} (h : Tb lab w B T) {i : Nat} (hi : i < 2) : w.cell? ⟨T.t, i, none⟩ = some (ptr (T.b i)) ∧ w.frozen? ⟨T.t, i, none⟩ = false := by
  rcases (show i = 0 ∨ i = 1 by omega) with rfl | rfl
  · exact h.box.get 0 _ rfl
  · exact h.box.get 1 _ rfl
theorem Tb.cR {lab : Nat → Nat} {w : World} {B : Nat} {T : Tab} (h : Tb lab w B T) {i : Nat} (hi : i < 2) : w.cell? ⟨T.t, 2 + i, none⟩ = some (ptr (T.c i)) ∧ w.frozen? ⟨T.t, 2 + i, none⟩ = false := by
  rcases (show i = 0 ∨ i = 1 by omega) with rfl | rfl
  · exact h.box.get 2 _ rfl
  · exact h.box.get 3 _ rfl
/-- New tables stand in the table's place. -/
theorem Tb.begun {lab : Nat → Nat} {w w1 w2 : World} {B : Nat} {T : Tab} (h : Tb lab w B T) {i : Nat} (hi : i < 2) {b m c : Nat} {v : Value} {r : TbM} (hb : Below w.heap.size w w1) (hp : PT w1 b m r) (hr : RT w1 w.heap.size c v r) (hn : w.heap.size ≤ b ∧ w.heap.size ≤ m) (hd : c ≠ b ∧ c ≠ m ∧ (∀ g, v.ownBlock = some g → g ≠ b ∧ g ≠ m)) (hw : w2 = (w1.setCell ⟨T.t, i, none⟩ (ptr b)).setCell ⟨T.t, 2 + i, none⟩ (ptr c)) :
    ∃ lab', Tb lab' w2 B { T with b := upd T.b i b, m := upd T.m i m, c := upd T.c i c, v := upd T.v i v, rp := upd T.rp i r, rq := upd T.rq i r } := by
  have hB : B ≤ w.heap.size := by have := h.low.1; have := h.box.1; omega
  obtain ⟨lab', hl'⟩ : ∃ lab' : Nat → Nat, lab' = fun x => if x < w.heap.size then lab x else if x = b ∨ x = m then 2 + i else 4 + i := ⟨_, rfl⟩
  have old : ∀ x, x < w.heap.size → lab' x = lab x := fun x hx => by rw [hl']; simp [hx]
  have nb : ∀ x, w.heap.size ≤ x → (x = b ∨ x = m) → lab' x = 2 + i := fun x hx hn => by rw [hl']; simp only; rw [if_neg (by omega), if_pos hn]
  have nc : ∀ x, w.heap.size ≤ x → ¬ (x = b ∨ x = m) → lab' x = 4 + i := fun x hx hn => by rw [hl']; simp only; rw [if_neg (by omega), if_neg hn]
  have hcl := hr.low
  have hvl := fun g (hg : v.ownBlock = some g) => (World.ownsRow.lt hr.row g hg).1
  have h1 := (h.relab old).below hb
  have k2 : Keep (fun z => z = T.t) w1 w2 := by rw [hw]; exact ((Keep.refl (fun z => z = T.t) w1).setCell (g := T.t) (j := i) (fun _ => rfl) (ptr b)).setCell (g := T.t) (j := 2 + i) (fun _ => rfl) (ptr c)
  have ht : T.t < w.heap.size := h.box.1
  have hs : ∀ x, x = T.t → lab' x = 1 := fun x q => by rw [q]; exact h1.l1
  refine ⟨lab', ?_, fun j hj => ?_, fun j hj => ?_, GRow.keep h1.rl k2 (fun x hx q => ?_), GRow.keep h1.rm k2 (fun x hx q => ?_), fun k e he => (h1.ent k e he).keep k2 (fun x q _ => by have := hs _ q; omega), h.many, h1.l1, fun j hj => ?_, fun j hj => ?_, h1.l6, h1.l7, ⟨h.low.1, fun j hj => ?_⟩⟩
  · have hbx := (h1.box.stored (j := i) (by simp; omega) (ptr b)).stored (j := 2 + i) (by simp; omega) (ptr c)
    rw [← hw] at hbx
    rcases (show i = 0 ∨ i = 1 by omega) with rfl | rfl
    · simpa [upd] using hbx
    · simpa [upd] using hbx
  · show PT w2 (upd T.b i b j) (upd T.m i m j) (upd T.rp i r j)
    by_cases e : j = i
    · subst e
      rw [upd_same, upd_same, upd_same]
      exact hp.keep k2 (by omega) (by omega)
    · rw [upd_other _ _ e, upd_other _ _ e, upd_other _ _ e]
      have l := h1.l2 j hj
      exact (h1.pr j hj).keep k2 (fun q => by have := hs _ q; omega) (fun q => by have := hs _ q; omega)
  · show RT w2 B (upd T.c i c j) (upd T.v i v j) (upd T.rq i r j)
    by_cases e : j = i
    · subst e
      rw [upd_same, upd_same, upd_same]
      exact (hr.mono hB).keep k2 (by omega) (fun x hx q => by have := hvl x hx; omega)
    · rw [upd_other _ _ e, upd_other _ _ e, upd_other _ _ e]
      have p := h1.rr j hj
      have l := h1.l4 j hj
      exact p.keep k2 (fun q => by have := hs _ q; omega) (fun x hx q => by have := hs _ q; have := l.2 x hx; omega)
  · have := hs _ q; have := h1.l6 x hx; omega
  · have := hs _ q; have := h1.l7 x hx; omega
  · show lab' (upd T.b i b j) = 2 + j ∧ lab' (upd T.m i m j) = 2 + j
    by_cases e : j = i
    · subst e
      rw [upd_same, upd_same, nb _ hn.1 (.inl rfl), nb _ hn.2 (.inr rfl)]
      exact ⟨rfl, rfl⟩
    · rw [upd_other _ _ e, upd_other _ _ e]
      exact h1.l2 j hj
  · show lab' (upd T.c i c j) = 4 + j ∧ (∀ x, (upd T.v i v j).ownBlock = some x → lab' x = 4 + j)
    by_cases e : j = i
    · subst e
      rw [upd_same, upd_same]
      exact ⟨nc _ hcl (by omega), fun x hx => nc _ (hvl x hx) (by have := hd.2.2 x hx; omega)⟩
    · rw [upd_other _ _ e, upd_other _ _ e]
      exact h1.l4 j hj
  · show B ≤ upd T.b i b j ∧ B ≤ upd T.m i m j
    by_cases e : j = i
    · subst e
      rw [upd_same, upd_same]
      omega
    · rw [upd_other _ _ e, upd_other _ _ e]
      exact h.low.2 j hj
/-- What each play leaves. -/
def TPost (n : Nat) (w : World) (B : Nat) (T : Tab) (e : Ending) (w' : World) : Prop := e = .returned (.bool true) ∧ ∃ lab' T', Tb lab' w' B T' ∧ (∀ j, j < 2 → T'.rp j = T'.rq j) ∧ T'.t = T.t ∧ Below B w w' ∧ T'.ls.length ≤ T.ls.length + n
end Go.Proofs.Ytokcocmenndlmaa
