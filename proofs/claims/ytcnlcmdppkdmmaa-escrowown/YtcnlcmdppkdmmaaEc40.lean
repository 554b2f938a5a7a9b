import Derived.Test.YtcnlcmdppkdmmaaEc24
import Derived.Test.YtcnlcmdppkdmmaaEc30
namespace Go.Proofs.Ytcnlcmdppkdmmaa
open Go.RowKit Go.QK Quota Go.Maps
set_option maxRecDepth 100000

/-! Lists of lists that were handed out: whose block is it? 1: the escrow's; 2, 3: the two lists of lists; 4: the copy's; 5: the third list of lists; 10 + 2 i, 11 + 2 i: the lists number i. -/
abbrev Lb (lab : Nat → Nat) (v : Value) (n : Nat) : Prop := ∀ g, v.ownBlock = some g → lab g = n
theorem info36 : (Try.prog.info? 36).map (fun i => (i.zero, i.size, i.bytes)) = some (some (.slice none 0 0), 1, 24) := by kernel_rfl
abbrev Ents := List (Value × List Int)
structure Side (lab : Nat → Nat) (B : Nat) (w : World) (v : Value) (l : Ents) (o : Nat) : Prop where
  row : GRow w B 36 1 v l.length (l.map Prod.fst)
  lbl : Lb lab v (2 + o)
  inn : ∀ i (h : i < l.length), Owns .i64 3 w B (l[i]).1 (l[i]).2
  lin : ∀ i (h : i < l.length), Lb lab (l[i]).1 (10 + 2 * i + o)
theorem Side.keep {S : Nat → Prop} {lab : Nat → Nat} {B : Nat} {w w' : World} {v : Value} {l : Ents} {o : Nat} (h : Side lab B w v l o) (k : Keep S w w') (hn : ∀ x, S x → lab x ≠ 2 + o ∧ ∀ i, i < l.length → lab x ≠ 10 + 2 * i + o) : Side lab B w' v l o :=
  ⟨h.row.keep k (fun g hg q => (hn g q).1 (h.lbl g hg)), h.lbl, fun i hi => (h.inn i hi).keep k (fun g hg q => (hn g q).2 i hi (h.lin i hi g hg)), h.lin⟩
theorem Side.below {lab : Nat → Nat} {B : Nat} {w w' : World} {v : Value} {l : Ents} {o : Nat} (h : Side lab B w v l o) (k : Below w.heap.size w w') : Side lab B w' v l o := h.keep (Keep.of_below (S := fun _ => False) k) (fun _ q => q.elim)
theorem Side.relab {lab lab' : Nat → Nat} {B : Nat} {w : World} {v : Value} {l : Ents} {o : Nat} (h : Side lab B w v l o) (q : ∀ x, x < w.heap.size → lab' x = lab x) : Side lab' B w v l o :=
  ⟨h.row, fun g hg => (q g (World.ownsRow.lt h.row g hg).2).trans (h.lbl g hg), h.inn, fun i hi g hg => (q g (World.ownsRow.lt (h.inn i hi) g hg).2).trans (h.lin i hi g hg)⟩
theorem Side.more {lab : Nat → Nat} {B : Nat} {w w' : World} {v v' u : Value} {l : Ents} {o : Nat} {xs : List Int} (h : Side lab B w v l o) (_ho : o ≤ 1) (hi : Owns .i64 3 w B u xs) (hl : Lb lab u (10 + 2 * l.length + o)) (hg : GRow w' B 36 1 v' (l.length + 1) (l.map Prod.fst ++ [u])) (gb : w.grownBy w' v.ownBlock) (hv : Lb lab v' (2 + o)) : Side lab B w' v' (l ++ [(u, xs)]) o := by
  have kp : Keep (fun x => v.ownBlock = some x) w w' := (Keep.refl _ w).grown gb (fun g hg _ => hg)
  refine ⟨?_, hv, ?_, ?_⟩
  · rw [List.length_append, List.map_append]
    exact hg
  · intro i hx
    rw [List.getElem_append]
    split
    · rename_i q
      exact (h.inn i q).keep kp (fun g hg r => by have := h.lin i q g hg; have := h.lbl g r; omega)
    · have : i - l.length = 0 := by simp at hx; omega
      simp only [this, List.getElem_singleton]
      exact hi.keep kp (fun g hg r => by have := hl g hg; have := h.lbl g r; omega)
  · intro i hx
    rw [List.getElem_append]
    split
    · rename_i q
      exact h.lin i q
    · have e : i = l.length := by simp at hx; omega
      subst e
      simpa using hl
/-- A number is written into a list of a side. -/
theorem Side.put {lab : Nat → Nat} {B : Nat} {w : World} {v : Value} {l : Ents} {o : Nat} (h : Side lab B w v l o) (_ho : o ≤ 1) {i : Nat} (hi : i < l.length) {g n c : Nat} (hv : (l[i]).1 = .slice (some ⟨g, 0, none⟩) n c) (k : Nat) (z : Int) : Side lab B (w.setCell ⟨g, k, none⟩ (.int .i64 z)) v (l.set i ((l[i]).1, (l[i]).2.set k z)) o ∧ lab g = 10 + 2 * i + o := by
  have lg : lab g = 10 + 2 * i + o := h.lin i hi g (by rw [hv]; rfl)
  have kp : Keep (fun x => x = g) w (w.setCell ⟨g, k, none⟩ (.int .i64 z)) := (Keep.refl (fun x => x = g) w).setCell (g := g) (j := k) (fun _ => rfl) _
  refine ⟨⟨?_, h.lbl, ?_, ?_⟩, lg⟩
  · rw [List.length_set, List.map_set]
    have e : (l.map Prod.fst).set i (l[i]).1 = l.map Prod.fst := by
      have : (l[i]).1 = (l.map Prod.fst)[i]'(by simpa using hi) := by rw [List.getElem_map]
      rw [this, List.set_getElem_self]
    show GRow _ B 36 1 v l.length ((l.map Prod.fst).set i (l[i]).1)
    rw [e]
    exact h.row.keep kp (fun x hx q => by have := h.lbl x hx; rw [q] at this; omega)
  · intro j hj
    rw [List.length_set] at hj
    rw [List.getElem_set]
    split
    · have := h.inn i hi
      rw [hv] at this
      show Owns .i64 3 _ B (l[i]).1 ((l[i]).2.set k z)
      rw [hv]
      exact this.stored k z
    · rename_i ne
      exact (h.inn j hj).keep kp (fun x hx q => by have := h.lin j hj x hx; rw [q] at this; omega)
  · intro j hj
    rw [List.length_set] at hj
    rw [List.getElem_set]
    split
    · rename_i e
      subst e
      exact h.lin i hi
    · exact h.lin j hj

structure OwnSt (lab : Nat → Nat) (w0 wr : World) (b m : Nat) (e : Esc) (gv sv : Value) (L M : Ents) : Prop where
  pe : PE wr b m e
  lb : lab b = 1
  lm : lab m = 1
  bb : w0.heap.size ≤ b
  bm : w0.heap.size ≤ m
  g : Side lab w0.heap.size wr gv L 0
  s : Side lab w0.heap.size wr sv M 1
  bel : Below w0.heap.size w0 wr
theorem OwnSt.below {lab : Nat → Nat} {w0 wr w' : World} {b m : Nat} {e : Esc} {gv sv : Value} {L M : Ents} (h : OwnSt lab w0 wr b m e gv sv L M) (k : Below wr.heap.size wr w') : OwnSt lab w0 w' b m e gv sv L M :=
  ⟨h.pe.below k, h.lb, h.lm, h.bb, h.bm, h.g.below k, h.s.below k, h.bel.trans (k.mono h.bel.size)⟩
theorem OwnSt.relab {lab lab' : Nat → Nat} {w0 wr : World} {b m : Nat} {e : Esc} {gv sv : Value} {L M : Ents} (h : OwnSt lab w0 wr b m e gv sv L M) (q : ∀ x, x < wr.heap.size → lab' x = lab x) : OwnSt lab' w0 wr b m e gv sv L M :=
  ⟨h.pe, (q b h.pe.lt.1).trans h.lb, (q m h.pe.lt.2).trans h.lm, h.bb, h.bm, h.g.relab q, h.s.relab q, h.bel⟩
theorem OwnSt.deed {lab : Nat → Nat} {w0 wr w' : World} {b m : Nat} {e e' : Esc} {gv sv : Value} {L M : Ents} (h : OwnSt lab w0 wr b m e gv sv L M) (k : Keep (two b m) wr w') (p : PE w' b m e') : OwnSt lab w0 w' b m e' gv sv L M := by
  have hx : ∀ x, two b m x → lab x = 1 := by
    intro x q
    rcases q with rfl | rfl
    · exact h.lb
    · exact h.lm
  exact ⟨p, h.lb, h.lm, h.bb, h.bm, h.g.keep k (fun x q => by have := hx x q; exact ⟨by omega, fun i _ => by omega⟩), h.s.keep k (fun x q => by have := hx x q; exact ⟨by omega, fun i _ => by omega⟩), h.bel.trans (k.below h.bel.size (two_lt h.bb h.bm))⟩
/-- Where only blocks with a label of its own are touched. -/
theorem OwnSt.away {S : Nat → Prop} {lab : Nat → Nat} {w0 wr w' : World} {b m : Nat} {e : Esc} {gv sv : Value} {L M : Ents} (h : OwnSt lab w0 wr b m e gv sv L M) (k : Keep S wr w') (n : Nat) (hn : n = 4 ∨ n = 5) (hS : ∀ x, S x → lab x = n ∧ w0.heap.size ≤ x) : OwnSt lab w0 w' b m e gv sv L M :=
  ⟨h.pe.keep k (fun q => by have := (hS _ q).1; have := h.lb; omega) (fun q => by have := (hS _ q).1; have := h.lm; omega), h.lb, h.lm, h.bb, h.bm,
    h.g.keep k (fun x q => by have := (hS x q).1; exact ⟨by omega, fun i _ => by omega⟩), h.s.keep k (fun x q => by have := (hS x q).1; exact ⟨by omega, fun i _ => by omega⟩), h.bel.trans (k.below h.bel.size (fun x hx q => by have := (hS x q).2; omega))⟩

def labAsk (lab : Nat → Nat) (n s0 s1 s3 s4 : Nat) (x : Nat) : Nat := if x < s0 then lab x else if x < s1 then 10 + 2 * n else if x < s3 then 2 else if x < s4 then 11 + 2 * n else 3
/-- The holders are told, and kept twice. -/
theorem OwnSt.ask {lab : Nat → Nat} {w0 wr w1 w3 w4 w6 : World} {b m : Nat} {e : Esc} {gv sv vh v3 v4 v6 : Value} {L M : Ents} {ks : List Int} {o1 o2 : Obj} (h : OwnSt lab w0 wr b m e gv sv L M) (hlen : M.length = L.length)
    (h1 : Below wr.heap.size wr w1) (hv : Owns .i64 3 w1 wr.heap.size vh ks)
    (g3 : GRow w3 w0.heap.size 36 1 v3 (L.length + 1) (L.map Prod.fst ++ [vh])) (b3 : (w1.alloc o1).grownBy w3 gv.ownBlock) (n3 : v3.ownBlock = gv.ownBlock ∨ v3.ownBlock = some (w1.alloc o1).heap.size)
    (b4 : Below w3.heap.size w3 w4) (g4 : Owns .i64 3 w4 w3.heap.size v4 ks)
    (g6 : GRow w6 w0.heap.size 36 1 v6 (M.length + 1) (M.map Prod.fst ++ [v4])) (b6 : (w4.alloc o2).grownBy w6 sv.ownBlock) (n6 : v6.ownBlock = sv.ownBlock ∨ v6.ownBlock = some (w4.alloc o2).heap.size) :
    ∃ lab', OwnSt lab' w0 w6 b m e v3 v6 (L ++ [(vh, ks)]) (M ++ [(v4, ks)]) := by
  have z1 := h1.size
  have z3 := ((Keep.refl (fun x => gv.ownBlock = some x) (w1.alloc o1)).grown b3 (fun g hg _ => hg)).size
  have z4 := b4.size
  have z6 := ((Keep.refl (fun x => sv.ownBlock = some x) (w4.alloc o2)).grown b6 (fun g hg _ => hg)).size
  have e1 : (w1.alloc o1).heap.size = w1.heap.size + 1 := by simp
  have e4 : (w4.alloc o2).heap.size = w4.heap.size + 1 := by simp
  have z0 := h.bel.size
  obtain ⟨lab', hlab⟩ : ∃ lab', lab' = labAsk lab L.length wr.heap.size w1.heap.size w3.heap.size w4.heap.size := ⟨_, rfl⟩
  have la : ∀ x, x < wr.heap.size → lab' x = lab x := by intro x hx; rw [hlab]; unfold labAsk; rw [if_pos hx]
  have l1 : ∀ x, wr.heap.size ≤ x → x < w1.heap.size → lab' x = 10 + 2 * L.length := by intro x hx hy; rw [hlab]; unfold labAsk; rw [if_neg (by omega), if_pos hy]
  have l3 : ∀ x, w1.heap.size ≤ x → x < w3.heap.size → lab' x = 2 := by intro x hx hy; rw [hlab]; unfold labAsk; rw [if_neg (by omega), if_neg (by omega), if_pos hy]
  have l4 : ∀ x, w3.heap.size ≤ x → x < w4.heap.size → lab' x = 11 + 2 * L.length := by intro x hx hy; rw [hlab]; unfold labAsk; rw [if_neg (by omega), if_neg (by omega), if_neg (by omega), if_pos hy]
  have l6 : ∀ x, w4.heap.size ≤ x → lab' x = 3 := by intro x hx; rw [hlab]; unfold labAsk; rw [if_neg (by omega), if_neg (by omega), if_neg (by omega), if_neg (by omega)]
  clear hlab
  have A := (h.relab la).below (h1.alloc h1.size o1)
  have hgl : Lb lab' gv 2 := A.g.lbl
  have hsl : Lb lab' sv 3 := A.s.lbl
  -- the first list of lists
  have G3 := A.g.more (u := vh) (xs := ks) (by omega) (GRow.mono (hv.below (alloc_below w1 o1)) z0) (by
    intro g hg
    have := World.ownsRow.lt hv g hg
    have := l1 g this.1 this.2
    omega) g3 b3 (by
    intro g hg
    rcases n3 with q | q
    · rw [q] at hg; exact hgl g hg
    · rw [q] at hg
      cases hg
      have := (World.ownsRow.lt g3 _ q).2
      exact l3 _ (by omega) (by omega))
  have k3 : Keep (fun x => gv.ownBlock = some x) (w1.alloc o1) w3 := (Keep.refl _ _).grown b3 (fun g hg _ => hg)
  have S3 := A.s.keep k3 (fun x q => by have := hgl x q; exact ⟨by omega, fun i _ => by omega⟩)
  have P3 := A.pe.keep k3 (fun q => by have := hgl _ q; have := A.lb; omega) (fun q => by have := hgl _ q; have := A.lm; omega)
  have B3 := A.bel.trans (k3.below A.bel.size (fun x hx q => by have := (World.ownsRow.lt A.g.row x q).1; omega))
  -- the second one
  have b5 := b4.alloc b4.size o2
  have S5 := S3.below b5
  have G5 := G3.below b5
  have P5 := P3.below b5
  have k6 : Keep (fun x => sv.ownBlock = some x) (w4.alloc o2) w6 := (Keep.refl _ _).grown b6 (fun g hg _ => hg)
  have B5 := B3.trans (b5.mono B3.size)
  refine ⟨lab', ⟨P5.keep k6 (fun q => by have := hsl _ q; have := A.lb; omega) (fun q => by have := hsl _ q; have := A.lm; omega), A.lb, A.lm, h.bb, h.bm, G5.keep k6 (fun x q => by have := hsl x q; exact ⟨by omega, fun i _ => by omega⟩), ?_, B5.trans (k6.below B5.size (fun x hx q => by have := (World.ownsRow.lt S5.row x q).1; omega))⟩⟩
  refine S5.more (u := v4) (xs := ks) (by omega) (GRow.mono (g4.below (alloc_below w4 o2)) (by omega)) (by
    intro g hg
    have := World.ownsRow.lt g4 g hg
    have := l4 g this.1 this.2
    omega) g6 b6 (by
    intro g hg
    rcases n6 with q | q
    · rw [q] at hg; exact hsl g hg
    · rw [q] at hg
      cases hg
      exact l6 _ (by omega))
/-- The copy. -/
structure Cop (lab : Nat → Nat) (w0 wr : World) (b m : Nat) (e : Esc) : Prop where
  pe : PE wr b m e
  lb : lab b = 4
  lm : lab m = 4
  bb : w0.heap.size ≤ b
  bm : w0.heap.size ≤ m
theorem Cop.below {lab : Nat → Nat} {w0 wr w' : World} {b m : Nat} {e : Esc} (h : Cop lab w0 wr b m e) (k : Below wr.heap.size wr w') : Cop lab w0 w' b m e := ⟨h.pe.below k, h.lb, h.lm, h.bb, h.bm⟩
theorem Cop.away {S : Nat → Prop} {lab : Nat → Nat} {w0 wr w' : World} {b m : Nat} {e : Esc} (h : Cop lab w0 wr b m e) (k : Keep S wr w') (hS : ∀ x, S x → lab x ≠ 4) : Cop lab w0 w' b m e :=
  ⟨h.pe.keep k (fun q => hS _ q h.lb) (fun q => hS _ q h.lm), h.lb, h.lm, h.bb, h.bm⟩
theorem OwnSt.copied {lab : Nat → Nat} {w0 wr w' : World} {b m bc mc : Nat} {e : Esc} {gv sv : Value} {L M : Ents} (h : OwnSt lab w0 wr b m e gv sv L M) (k : Below wr.heap.size wr w') (p : PE w' bc mc e) (h1 : wr.heap.size ≤ bc) (h2 : wr.heap.size ≤ mc) : ∃ lab', OwnSt lab' w0 w' b m e gv sv L M ∧ Cop lab' w0 w' bc mc e ∧ ∀ x, w'.heap.size ≤ x → lab' x = 5 := by
  have z0 := h.bel.size
  have z1 := k.size
  refine ⟨fun x => if x < wr.heap.size then lab x else if x < w'.heap.size then 4 else 5, (h.relab (fun x hx => if_pos hx)).below k, ⟨p, ?_, ?_, by omega, by omega⟩, ?_⟩
  · have := p.lt.1
    show (if bc < wr.heap.size then lab bc else if bc < w'.heap.size then 4 else 5) = 4
    rw [if_neg (by omega), if_pos (by omega)]
  · have := p.lt.2
    show (if mc < wr.heap.size then lab mc else if mc < w'.heap.size then 4 else 5) = 4
    rw [if_neg (by omega), if_pos (by omega)]
  · intro x hx
    show (if x < wr.heap.size then lab x else if x < w'.heap.size then 4 else 5) = 5
    rw [if_neg (by omega), if_neg (by omega)]
end Go.Proofs.Ytcnlcmdppkdmmaa
