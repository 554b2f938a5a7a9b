import Derived.Test.YtcnlcmdppkdmmaaEc34
namespace Go.Proofs.Ytcnlcmdppkdmmaa
open Go.RowKit Go.QK Quota Go.Maps
set_option maxRecDepth 100000

/-- A pair: the program's escrow (b, m), the document's (r, its row at a), and what both are. -/
structure It where
  b : Nat
  m : Nat
  r : Nat
  e : Esc
  a : Option Addr
  c : Nat
def pairC (t : It) : List Value := [ptr t.b, ptr t.r]
/-- Its blocks. -/
def It.own (t : It) (x : Nat) : Prop := x = t.b ∨ x = t.m ∨ x = t.r ∨ (t.e.nets ≠ [] ∧ ∃ ad, t.a = some ad ∧ ad.block = x)
structure It.Ok (t : It) (w : World) : Prop where
  duo : Two w t.b t.m t.r t.e t.a t.c
  n1 : t.r ≠ t.b
  n2 : t.r ≠ t.m
  n3 : t.e.nets ≠ [] → ∀ ad, t.a = some ad → ad.block ≠ t.b ∧ ad.block ≠ t.m
theorem It.Ok.lt {t : It} {w : World} (h : t.Ok w) {x : Nat} (hx : t.own x) : x < w.heap.size := by
  rcases hx with rfl | rfl | rfl | ⟨hn, ad, hd, rfl⟩
  · exact h.duo.pe.lt.1
  · exact h.duo.pe.lt.2
  · exact h.duo.re.cells.1
  · exact h.duo.re.row_lt hn hd
theorem It.Ok.keep {S : Nat → Prop} {t : It} {w w' : World} (h : t.Ok w) (k : Keep S w w') (hn : ∀ x, t.own x → ¬ S x) : t.Ok w' :=
  ⟨⟨h.duo.pe.keep k (hn _ (.inl rfl)) (hn _ (.inr (.inl rfl))), h.duo.re.keep2 k (hn _ (.inr (.inr (.inl rfl)))) (fun q ad hd => hn _ (.inr (.inr (.inr ⟨q, ad, hd, rfl⟩))))⟩, h.n1, h.n2, h.n3⟩
theorem It.Ok.below {t : It} {w w' : World} (h : t.Ok w) (k : Below w.heap.size w w') : t.Ok w' := h.keep (Keep.of_below (S := fun _ => False) k) (fun _ _ => id)

/-- One turn of a pair: the program's, then the document's. -/
abbrev It.trio (t : It) (x : Nat) : Prop := x = t.b ∨ x = t.m ∨ x = t.r
theorem It.Ok.mid {t : It} {w w1 : World} (h : t.Ok w) (k : Keep (two t.b t.m) w w1) : RE w1 t.r t.e t.a t.c :=
  h.duo.re.keep2 k (fun q => by rcases q with q | q; exact h.n1 q; exact h.n2 q) (fun hn ad hd q => by
    have := h.n3 hn ad hd
    rcases q with q | q
    · exact this.1 q
    · exact this.2 q)
theorem It.Ok.turn {t : It} {w w1 w2 : World} {e' : Esc} {a' : Option Addr} {c' : Nat} (h : t.Ok w) (k1 : Keep (two t.b t.m) w w1) (p1 : PE w1 t.b t.m e') (k2 : Keep (fun x => x = t.r) w1 w2) (r2 : RE w2 t.r e' a' c')
    (ha : e'.nets ≠ [] → ∀ ad, a' = some ad → (t.a = some ad ∧ t.e.nets ≠ []) ∨ w1.heap.size ≤ ad.block) :
    It.Ok ⟨t.b, t.m, t.r, e', a', c'⟩ w2 ∧ Keep t.trio w w2 ∧ ∀ x, It.own ⟨t.b, t.m, t.r, e', a', c'⟩ x → t.own x ∨ w.heap.size ≤ x := by
  have l1 := h.duo.pe.lt
  refine ⟨⟨⟨p1.keep k2 (fun q => h.n1 q.symm) (fun q => h.n2 q.symm), r2⟩, h.n1, h.n2, fun hn ad hd => ?_⟩, ?_, fun x hx => ?_⟩
  · rcases ha hn ad hd with ⟨q, qn⟩ | q
    · exact h.n3 qn ad q
    · have := k1.size
      exact ⟨fun q9 => by simp only at q9; omega, fun q9 => by simp only at q9; omega⟩
  · refine (k1.mono (T := t.trio) (fun x _ q => ?_)).trans (k2.mono (T := t.trio) (fun x _ q => .inr (.inr q))) (fun _ _ q => q)
    rcases q with q | q
    · exact .inl q
    · exact .inr (.inl q)
  · rcases hx with q | q | q | ⟨hn, ad, hd, rfl⟩
    · exact .inl (.inl q)
    · exact .inl (.inr (.inl q))
    · exact .inl (.inr (.inr (.inl q)))
    · rcases ha hn ad hd with ⟨q, qn⟩ | q
      · exact .inl (.inr (.inr (.inr ⟨qn, ad, q, rfl⟩)))
      · have := k1.size
        exact .inr (by omega)
theorem It.trio_own {t : It} {x : Nat} (h : t.trio x) : t.own x := by
  rcases h with q | q | q
  · exact .inl q
  · exact .inr (.inl q)
  · exact .inr (.inr (.inl q))

/-- The pairs of the law. -/
structure Tab (B : Nat) (w : World) (v : Value) (l : List It) : Prop where
  row : GRow w B 66 2 v l.length (rowsC pairC l)
  all : ∀ i (h : i < l.length), (l[i]).Ok w
  sep : ∀ i j (hi : i < l.length) (hj : j < l.length), i ≠ j → ∀ x, (l[i]).own x → ¬ (l[j]).own x
  low : ∀ i (h : i < l.length) x, (l[i]).own x → B ≤ x
  off : ∀ g, v.ownBlock = some g → ∀ i (h : i < l.length), ¬ (l[i]).own g
theorem Tab.keep {S : Nat → Prop} {B : Nat} {w w' : World} {v : Value} {l : List It} (h : Tab B w v l) (k : Keep S w w') (h1 : ∀ g, v.ownBlock = some g → ¬ S g) (h2 : ∀ i (hi : i < l.length) x, (l[i]).own x → ¬ S x) : Tab B w' v l :=
  ⟨h.row.keep k h1, fun i hi => (h.all i hi).keep k (h2 i hi), h.sep, h.low, h.off⟩
theorem Tab.below {B : Nat} {w w' : World} {v : Value} {l : List It} (h : Tab B w v l) (k : Below w.heap.size w w') : Tab B w' v l := h.keep (Keep.of_below (S := fun _ => False) k) (fun _ _ => id) (fun _ _ _ _ => id)
theorem rowsC_set {l : List It} {k : Nat} (hk : k < l.length) {t : It} (h1 : t.b = (l[k]).b) (h2 : t.r = (l[k]).r) : rowsC pairC (l.set k t) = rowsC pairC l := by
  unfold rowsC
  rw [List.flatMap_def, List.flatMap_def, List.map_set]
  have e : pairC t = (l.map pairC)[k]'(by simpa using hk) := by rw [List.getElem_map]; unfold pairC; rw [h1, h2]
  rw [e, List.set_getElem_self]
theorem Tab.turn {B : Nat} {w w' : World} {v : Value} {l : List It} (h : Tab B w v l) {k : Nat} (hk : k < l.length) {t : It} (h1 : t.b = (l[k]).b) (h2 : t.r = (l[k]).r) (ok : t.Ok w') (kp : Keep (l[k]).trio w w') (ho : ∀ x, t.own x → (l[k]).own x ∨ w.heap.size ≤ x) (hB : B ≤ w.heap.size) : Tab B w' v (l.set k t) := by
  have hr := fun g (hg : v.ownBlock = some g) => (World.ownsRow.lt h.row g hg).2
  refine ⟨?_, ?_, ?_, ?_, ?_⟩
  · rw [rowsC_set hk h1 h2, List.length_set]
    exact h.row.keep kp (fun g hg q => h.off g hg k hk (It.trio_own q))
  · intro i hi
    rw [List.length_set] at hi
    rw [List.getElem_set]
    split
    · exact ok
    · rename_i ne
      exact (h.all i hi).keep kp (fun x hx q => h.sep i k hi hk (fun q => ne q.symm) x hx (It.trio_own q))
  · intro i j hi hj ne x
    rw [List.length_set] at hi hj
    rw [List.getElem_set, List.getElem_set]
    by_cases qi : k = i
    · rw [if_pos qi, if_neg (by omega)]
      intro hx hy
      rcases ho x hx with q | q
      · exact h.sep k j hk hj (by omega) x q hy
      · have := (h.all j hj).lt hy; omega
    · rw [if_neg qi]
      by_cases qj : k = j
      · rw [if_pos qj]
        intro hx hy
        rcases ho x hy with q | q
        · exact h.sep i k hi hk (by omega) x hx q
        · have := (h.all i hi).lt hx; omega
      · rw [if_neg qj]
        exact h.sep i j hi hj ne x
  · intro i hi x
    rw [List.length_set] at hi
    rw [List.getElem_set]
    split
    · intro hx
      rcases ho x hx with q | q
      · exact h.low k hk x q
      · omega
    · exact h.low i hi x
  · intro g hg i hi
    rw [List.length_set] at hi
    rw [List.getElem_set]
    split
    · intro hx
      rcases ho g hx with q | q
      · exact h.off g hg k hk q
      · have := hr g hg; omega
    · exact h.off g hg i hi
/-- One pair more. -/
theorem Tab.more {B : Nat} {w w' : World} {v v' : Value} {l : List It} (h : Tab B w v l) {t : It} (ok : t.Ok w) (n : Nat) (hn : ∀ i (hi : i < l.length) x, (l[i]).own x → x < n) (ht : ∀ x, t.own x → n ≤ x) (hB : B ≤ n) (hg : GRow w' B 66 2 v' (l.length + 1) (rowsC pairC l ++ pairC t)) (kp : Keep (fun x => v.ownBlock = some x) w w') (ho : ∀ g, v.ownBlock = some g → g < n) (hv : v'.ownBlock = v.ownBlock ∨ ∃ g, v'.ownBlock = some g ∧ w.heap.size ≤ g) : Tab B w' v' (l ++ [t]) := by
  have ok' : ∀ i (hi : i < (l ++ [t]).length), ((l ++ [t])[i]).Ok w := by
    intro i hi
    rw [List.getElem_append]
    split
    · exact h.all i _
    · simpa using ok
  have off' : ∀ g, v.ownBlock = some g → ∀ i (hi : i < (l ++ [t]).length), ¬ ((l ++ [t])[i]).own g := by
    intro g hg i hi
    rw [List.getElem_append]
    split
    · exact h.off g hg i _
    · intro hx
      have := ht g (by simpa using hx)
      have := ho g hg
      omega
  refine ⟨?_, ?_, ?_, ?_, ?_⟩
  · rw [List.length_append]
    show GRow w' B 66 2 v' (l.length + 1) (rowsC pairC (l ++ [t]))
    rw [rowsC_snoc]
    exact hg
  · intro i hi
    exact (ok' i hi).keep kp (fun x hx q => off' x q i hi hx)
  · intro i j hi hj ne x
    rw [List.getElem_append, List.getElem_append]
    simp only [List.length_append, List.length_singleton] at hi hj
    split
    · split
      · exact h.sep i j _ _ ne x
      · intro hx hy
        have := hn i (by assumption) x hx
        have := ht x (by simpa using hy)
        omega
    · split
      · intro hx hy
        have := hn j (by assumption) x hy
        have := ht x (by simpa using hx)
        omega
      · omega
  · intro i hi x
    rw [List.getElem_append]
    split
    · exact h.low i _ x
    · intro hx
      have := ht x (by simpa using hx)
      omega
  · intro g hg i hi hx
    rcases hv with q | ⟨g', q, hq⟩
    · rw [q] at hg
      exact off' g hg i hi hx
    · rw [q] at hg
      cases hg
      have := (ok' i hi).lt hx
      omega
theorem rAdd_any2 (b : Nat) (e : Esc) (a : Option Addr) (c : Nat) (tx d : Int) (w : World) (h : RE w b e a c) (hl : e.nets.length ≤ 1400) (hd : I64 d) :
    Calls Try.prog 48 #[ptr b, .int .i64 tx, .int .i64 d] w fun r w' => ∃ a' c', r = .returned (.int .i64 (mayE e tx d)) ∧ RE w' b (addN e tx d) a' c' ∧ ((addN e tx d).nets ≠ [] → ∀ ad, a' = some ad → (a = some ad ∧ e.nets ≠ []) ∨ w.heap.size ≤ ad.block) ∧ Keep (fun x => x = b) w w' := by
  by_cases hz : mayE e tx d = 0
  · refine (rAdd_yes b e a c tx d w h hl hd hz).mono ?_
    rintro r w' ⟨a', c', rfl, h1, h2, h3⟩
    exact ⟨a', c', by rw [hz], h1, fun _ ad hd => .inr (h2 ad hd), h3⟩
  · refine (rAdd_no b e a c tx d w h hl hd hz).mono ?_
    rintro r w' ⟨rfl, h1⟩
    refine ⟨a, c, rfl, by rw [addN_no hz]; exact h.below h1, fun hn ad hd => .inl ⟨hd, ?_⟩, Keep.of_below h1⟩
    rw [addN_no hz] at hn
    exact hn
theorem delN_nil {L : Nets} {t : Int} (h : delN L t ≠ []) : L ≠ [] := fun q => h (by rw [q]; rfl)
theorem relN_nil {e : Esc} {t : Int} (h : (relN e t).nets ≠ []) : e.nets ≠ [] := by
  cases q : holdB e.nets t
  · rw [relN_no q] at h; exact h
  · rw [relN_yes q] at h; exact delN_nil h
theorem setN_nil {e : Esc} {t : Int} (h : (setN e t).nets ≠ []) : e.nets ≠ [] := by
  cases q : holdB e.nets t
  · rw [setN_no q] at h; exact h
  · rw [setN_yes q] at h; exact delN_nil h
theorem relN_len (e : Esc) (t : Int) : (relN e t).nets.length ≤ e.nets.length := by
  cases q : holdB e.nets t
  · rw [relN_no q]; exact Nat.le_refl _
  · rw [relN_yes q]; exact List.length_filter_le _ _
theorem setN_len (e : Esc) (t : Int) : (setN e t).nets.length ≤ e.nets.length := by
  cases q : holdB e.nets t
  · rw [setN_no q]; exact Nat.le_refl _
  · rw [setN_yes q]; exact List.length_filter_le _ _
theorem info66 : (Try.prog.info? 66).map (fun i => (i.zero, i.size, i.bytes)) = some (some (.agg #[.pointer none, .pointer none]), 2, 16) := by kernel_rfl
theorem pairC_one (t : It) : ∀ u ∈ pairC t, u.oneCell' = true := by intro u hu; simp [pairC] at hu; rcases hu with rfl | rfl <;> rfl
/-- The place that a step speaks of. -/
theorem turn_at (E : Int) (n : Nat) (hn : 0 < n) : ∃ k : Nat, k < n ∧ (¬ Int.tmod E n < 0 → Int.tmod E n = k) ∧ (Int.tmod E n < 0 → wrap64 (-(Int.tmod E n)) = k) ∨ 9223372036854775807 < n := by
  by_cases hb : n ≤ 9223372036854775807
  · have h1 := Int.tmod_lt_of_pos E (show (0 : Int) < n by omega)
    have h2 := Int.lt_tmod_of_pos E (show (0 : Int) < n by omega)
    generalize Int.tmod E n = q at *
    refine ⟨q.natAbs, .inl ⟨by omega, fun h => by omega, fun h => ?_⟩⟩
    rw [wrapI (by unfold I64; omega)]
    omega
  · exact ⟨0, .inr (by omega)⟩
end Go.Proofs.Ytcnlcmdppkdmmaa
