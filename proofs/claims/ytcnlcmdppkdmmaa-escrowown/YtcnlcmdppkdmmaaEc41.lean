import Derived.Test.YtcnlcmdppkdmmaaEc40
namespace Go.Proofs.Ytcnlcmdppkdmmaa
open Go.RowKit Go.QK Quota Go.Maps
set_option maxRecDepth 100000

theorem GRow.cellOf {w : World} {B e n c g o : Nat} {xs : List Value} (h : GRow w B e 1 (.slice (some ⟨g, o, none⟩) n c) n xs) (j : Nat) (v : Value) (hv : xs[j]? = some v) : w.cell? ⟨g, o + j, none⟩ = some v := by
  obtain ⟨a, c', q, hli, _⟩ := GRow.lies h
  cases q
  obtain ⟨b', o', q, _, hc⟩ := hli.cellAt j v hv
  cases q
  exact hc
theorem GRow.ptr {w : World} {B e n : Nat} {v : Value} {xs : List Value} (h : GRow w B e 1 v n xs) : ∃ a c, v = .slice a n c ∧ (0 < n → ∃ g o, a = some ⟨g, o, none⟩) := by
  obtain ⟨a, c, rfl, hli, _⟩ := GRow.lies h
  refine ⟨a, c, rfl, fun hn => ?_⟩
  rcases hli with q | ⟨g, o, q, _⟩
  · have := h.1
    rw [q] at this
    simp at this
    omega
  · exact ⟨g, o, q⟩
theorem Seen.lies {w : World} {a : Option Addr} {xs : List Int} (h : Go.QK.Seen .i64 w a xs) : Lies w a (xs.map (Value.int .i64)) := by
  rcases h with q | ⟨b, o, q, hlt, hc⟩
  · exact .inl (by rw [q]; rfl)
  · exact .inr ⟨b, o, q, hlt, fun i hi => by
      rw [List.getElem_map]
      exact hc i (by simpa using hi)⟩
theorem Seen.take {w : World} {a : Option Addr} {xs : List Int} (h : Go.QK.Seen .i64 w a xs) (n : Nat) : Go.QK.Seen .i64 w a (xs.take n) := by
  rcases h with q | ⟨b, o, q, hlt, hc⟩
  · exact .inl (by rw [q]; simp)
  · exact .inr ⟨b, o, q, hlt, fun i hi => by
      rw [List.getElem_take]
      exact hc i (by simp at hi; omega)⟩
/-- 'append(v, z, z)': behind it what v told is told as before. -/
theorem run_more2 (ty : TypeId) (x : World) (B : Nat) (v : Value) (xs : List Int) (hown : Owns .i64 3 x B v xs) (ad : Addr) (z : Int) (hnews : Lies x (some ad) [.int .i64 z, .int .i64 z]) (hl : xs.length ≤ 1000000) (hB : B ≤ x.heap.size) :
    ∃ v' x', (Builtin.append_ #[36, 36] ty #[v, .slice (some ad) 2 2]).run Try.prog x = .ok v' x' ∧ Owns .i64 3 x' B v' (xs ++ [z, z]) ∧ x.grownBy x' v.ownBlock ∧ (v'.ownBlock = v.ownBlock ∨ v'.ownBlock = some x.heap.size) ∧ ∀ a c, v = .slice a xs.length c → Go.QK.Seen .i64 x' a xs := by
  obtain ⟨i0, hi, hz0, hz1, hz2⟩ := info_of info3
  have hnw : ∀ j u, [Value.int .i64 z, .int .i64 z][j]? = some u → x.cell? (ad.add j) = some u := by
    intro j u hj
    obtain ⟨b, off, e1, _, hc⟩ := hnews.cellAt j u hj
    cases e1
    rw [addr_add]
    exact hc
  have hone : ∀ u ∈ [Value.int .i64 z, .int .i64 z], u.oneCell' = true := by intro u hu; simp at hu; subst hu; rfl
  obtain ⟨v', w', hr, h2, h3, h4, h5⟩ := run_append_own_at (P := Try.prog) x B 36 ty 3 i0 (.int .i64 0) 1 8 Try.underlying36 hi hz0 hz1 hz2 rfl (by decide) v xs.length (xs.map (Value.int .i64)) hown ad 2 2 [.int .i64 z, .int .i64 z] rfl hnw hone (by unfold maxLen; omega) (by omega) hB
  have ho : Owns .i64 3 w' B v' (xs ++ [z, z]) := by
    unfold Owns
    rw [List.length_append, List.map_append]
    exact h2
  refine ⟨v', w', hr, ho, h3, h5, fun a c hv => ?_⟩
  rcases hown.2 with ⟨q, q0⟩ | ⟨g', cap, cur, q, hbg, hg, hnc, hcm, hcs, htake⟩
  · exact .inl (List.eq_nil_of_length_eq_zero q0)
  · rw [hv] at q
    simp only [Value.slice.injEq, true_and] at q
    obtain ⟨rfl, rfl⟩ := q
    subst hv
    by_cases hroom : xs.length + 2 ≤ c
    · have := run_append_room (P := Try.prog) x 36 ty 3 i0 Try.underlying36 hi g' xs.length c cur hg ad 2 2 [.int .i64 z, .int .i64 z] (by rw [hz1]; rfl) hnw hone hroom (by rw [hz1]; simp; omega)
      rw [hr] at this
      simp only [Result.ok.injEq] at this
      rw [this.1] at ho
      have := Seen.take (Owns.seen_at ho) xs.length
      rw [List.take_left] at this
      exact this
    · have := run_append_grow (P := Try.prog) x 36 ty 3 i0 (.int .i64 0) Try.underlying36 hi hz0 ⟨g', 0, none⟩ xs.length c (xs.map (Value.int .i64)) (by rw [hz1]; simp) (World.ownsRow.cells hown (g := g') rfl) ad 2 2 [.int .i64 z, .int .i64 z] (by rw [hz1]; rfl) hnw (by omega) (by omega) (growslice_fits (by omega) (by rw [hz2]; omega))
      rw [hr] at this
      simp only [Result.ok.injEq] at this
      rw [this.2]
      exact Go.QK.Seen.below (Owns.seen_at hown) ((Below.refl _ x).drew.alloc (Nat.le_refl _) _)

/-- What the third list of lists tells: number j has two marks more than the first one's. -/
structure Mor (lab : Nat → Nat) (B : Nat) (w : World) (mv : Value) (ms : List Value) (ns : List Nat) : Prop where
  row : GRow w B 36 1 mv ms.length ms
  lbl : Lb lab mv 5
  inn : ∀ j (hj : j < ms.length), ∃ a c, ms[j] = .slice a (ns.getD j 0 + 2) c ∧ Go.QK.Seen .i64 w a (List.replicate (ns.getD j 0 + 2) (-1 - (j : Int))) ∧ ∀ ad, a = some ad → lab ad.block = 10 + 2 * j
theorem Mor.keep {S : Nat → Prop} {lab : Nat → Nat} {B : Nat} {w w' : World} {mv : Value} {ms : List Value} {ns : List Nat} (h : Mor lab B w mv ms ns) (k : Keep S w w') (hn : ∀ x, S x → lab x ≠ 5 ∧ ∀ j, j < ms.length → lab x ≠ 10 + 2 * j) : Mor lab B w' mv ms ns := by
  refine ⟨h.row.keep k (fun g hg q => (hn g q).1 (h.lbl g hg)), h.lbl, fun j hj => ?_⟩
  obtain ⟨a, c, e, hs, hl⟩ := h.inn j hj
  exact ⟨a, c, e, Go.QK.Seen.keep hs k (fun ad hd q => (hn _ q).2 j hj (hl ad hd)), hl⟩
theorem Mor.relab {lab lab' : Nat → Nat} {B : Nat} {w : World} {mv : Value} {ms : List Value} {ns : List Nat} (h : Mor lab B w mv ms ns) (q : ∀ x, x < w.heap.size → lab' x = lab x) : Mor lab' B w mv ms ns := by
  refine ⟨h.row, fun g hg => (q g (World.ownsRow.lt h.row g hg).2).trans (h.lbl g hg), fun j hj => ?_⟩
  obtain ⟨a, c, e, hs, hl⟩ := h.inn j hj
  refine ⟨a, c, e, hs, fun ad hd => ?_⟩
  rcases hs with r | ⟨b, o, r, hlt, _⟩
  · simp at r
  · rw [hd] at r
    cases r
    exact (q _ hlt).trans (hl _ hd)
/-- What the first one tells. -/
def Red (lab : Nat → Nat) (w : World) (l : Ents) : Prop := ∀ j (hj : j < l.length), ∃ a c, (l[j]).1 = .slice a (l[j]).2.length c ∧ Go.QK.Seen .i64 w a (l[j]).2 ∧ ((l[j]).2 ≠ [] → ∀ ad, a = some ad → lab ad.block = 10 + 2 * j)
theorem Red.keep {S : Nat → Prop} {lab : Nat → Nat} {w w' : World} {l : Ents} (h : Red lab w l) (k : Keep S w w') (i : Nat) (hn : ∀ x, S x → ∀ j, j < l.length → j ≠ i → lab x ≠ 10 + 2 * j) (hi : ∀ (h : i < l.length) a c, (l[i]).1 = .slice a (l[i]).2.length c → Go.QK.Seen .i64 w' a (l[i]).2) : Red lab w' l := by
  intro j hj
  obtain ⟨a, c, e, hs, hl⟩ := h j hj
  refine ⟨a, c, e, ?_, hl⟩
  by_cases q : j = i
  · subst q; exact hi hj a c e
  · by_cases r : (l[j]).2 = []
    · rw [r]; exact .inl rfl
    · exact Go.QK.Seen.keep hs k (fun ad hd s => hn _ s j hj q (hl r ad hd))
theorem Red.relab {lab lab' : Nat → Nat} {w : World} {l : Ents} (h : Red lab w l) (q : ∀ x, x < w.heap.size → lab' x = lab x) : Red lab' w l := by
  intro j hj
  obtain ⟨a, c, e, hs, hl⟩ := h j hj
  refine ⟨a, c, e, hs, fun hne ad hd => ?_⟩
  rcases hs with r | ⟨b, o, r, hlt, _⟩
  · exact absurd r hne
  · rw [hd] at r
    cases r
    exact (q _ hlt).trans (hl hne _ hd)
theorem Side.red {lab : Nat → Nat} {B : Nat} {w : World} {v : Value} {l : Ents} (h : Side lab B w v l 0) : Red lab w l := by
  intro j hj
  obtain ⟨a, c, e, hs, _⟩ := Owns.seen (h.inn j hj)
  refine ⟨a, c, e, hs, fun _ ad hd => ?_⟩
  have := h.lin j hj ad.block (by rw [e, hd]; rfl)
  omega

theorem Mor.below {lab : Nat → Nat} {B : Nat} {w w' : World} {mv : Value} {ms : List Value} {ns : List Nat} (h : Mor lab B w mv ms ns) (k : Below w.heap.size w w') : Mor lab B w' mv ms ns := h.keep (Keep.of_below (S := fun _ => False) k) (fun _ q => q.elim)
theorem Red.below {lab : Nat → Nat} {w w' : World} {l : Ents} (h : Red lab w l) (k : Below w.heap.size w w') : Red lab w' l := by
  intro j hj
  obtain ⟨a, c, e, hs, hl⟩ := h j hj
  exact ⟨a, c, e, Go.QK.Seen.below hs k, hl⟩
theorem Cop.relab {lab lab' : Nat → Nat} {w0 wr : World} {b m : Nat} {e : Esc} (h : Cop lab w0 wr b m e) (q : ∀ x, x < wr.heap.size → lab' x = lab x) : Cop lab' w0 wr b m e := ⟨h.pe, (q b h.pe.lt.1).trans h.lb, (q m h.pe.lt.2).trans h.lm, h.bb, h.bm⟩

structure DSt (lab : Nat → Nat) (w0 wr : World) (b m bc mc : Nat) (e : Esc) (gv sv mv : Value) (L M : Ents) (ms : List Value) : Prop where
  pe : PE wr b m e
  lb : lab b = 1
  lm : lab m = 1
  bb : w0.heap.size ≤ b
  bm : w0.heap.size ≤ m
  grow : GRow wr w0.heap.size 36 1 gv L.length (L.map Prod.fst)
  glb : Lb lab gv 2
  own : ∀ j (h : j < L.length), ms.length ≤ j → Owns .i64 3 wr w0.heap.size (L[j]).1 (L[j]).2
  lin : ∀ j (h : j < L.length), ms.length ≤ j → Lb lab (L[j]).1 (10 + 2 * j)
  red : Red lab wr L
  s : Side lab w0.heap.size wr sv M 1
  cop : Cop lab w0 wr bc mc e
  mor : Mor lab w0.heap.size wr mv ms (L.map (fun p => p.2.length))
  mle : ms.length ≤ L.length
  bel : Below w0.heap.size w0 wr
theorem DSt.start {lab : Nat → Nat} {w0 wr : World} {b m bc mc : Nat} {e : Esc} {gv sv : Value} {L M : Ents} (h : OwnSt lab w0 wr b m e gv sv L M) (hc : Cop lab w0 wr bc mc e) : DSt lab w0 wr b m bc mc e gv sv (.slice none 0 0) L M [] :=
  ⟨h.pe, h.lb, h.lm, h.bb, h.bm, h.g.row, h.g.lbl, fun j hj _ => h.g.inn j hj, fun j hj _ => h.g.lin j hj, h.g.red, h.s, hc, ⟨World.ownsRow_nil _ _ _ _, nofun, fun j hj => by cases hj⟩, Nat.zero_le _, h.bel⟩
theorem DSt.step {lab : Nat → Nat} {w0 wr w2 w4 : World} {b m bc mc : Nat} {e : Esc} {gv sv mv mv' v2 : Value} {L M : Ents} {ms : List Value} {o1 o2 : Obj} (h : DSt lab w0 wr b m bc mc e gv sv mv L M ms) (hi : ms.length < L.length)
    (hz : ∀ x ∈ (L[ms.length]).2, x = -1 - (ms.length : Int))
    (g2 : Owns .i64 3 w2 w0.heap.size v2 ((L[ms.length]).2 ++ [-1 - (ms.length : Int), -1 - (ms.length : Int)])) (b2 : (wr.alloc o1).grownBy w2 (L[ms.length]).1.ownBlock) (n2 : v2.ownBlock = (L[ms.length]).1.ownBlock ∨ v2.ownBlock = some (wr.alloc o1).heap.size)
    (s2 : ∀ a c, (L[ms.length]).1 = .slice a (L[ms.length]).2.length c → Go.QK.Seen .i64 w2 a (L[ms.length]).2)
    (g4 : GRow w4 w0.heap.size 36 1 mv' (ms.length + 1) (ms ++ [v2])) (b4 : (w2.alloc o2).grownBy w4 mv.ownBlock) (n4 : mv'.ownBlock = mv.ownBlock ∨ mv'.ownBlock = some (w2.alloc o2).heap.size) :
    ∃ lab', DSt lab' w0 w4 b m bc mc e gv sv mv' L M (ms ++ [v2]) := by
  have k2 : Keep (fun x => (L[ms.length]).1.ownBlock = some x) (wr.alloc o1) w2 := (Keep.refl _ _).grown b2 (fun g hg _ => hg)
  have k4 : Keep (fun x => mv.ownBlock = some x) (w2.alloc o2) w4 := (Keep.refl _ _).grown b4 (fun g hg _ => hg)
  have e1 : (wr.alloc o1).heap.size = wr.heap.size + 1 := by simp
  have e2 : (w2.alloc o2).heap.size = w2.heap.size + 1 := by simp
  have z2 := k2.size
  have z4 := k4.size
  have z0 := h.bel.size
  obtain ⟨lab', hlab⟩ : ∃ lab' : Nat → Nat, lab' = fun x => if x < wr.heap.size then lab x else if x < w2.heap.size then 10 + 2 * ms.length else 5 := ⟨_, rfl⟩
  have la : ∀ x, x < wr.heap.size → lab' x = lab x := by intro x hx; rw [hlab]; exact if_pos hx
  have l2 : ∀ x, wr.heap.size ≤ x → x < w2.heap.size → lab' x = 10 + 2 * ms.length := by intro x hx hy; rw [hlab]; show (if x < wr.heap.size then lab x else if x < w2.heap.size then 10 + 2 * ms.length else 5) = _; rw [if_neg (by omega), if_pos hy]
  have l4 : ∀ x, w2.heap.size ≤ x → lab' x = 5 := by intro x hx; rw [hlab]; show (if x < wr.heap.size then lab x else if x < w2.heap.size then 10 + 2 * ms.length else 5) = _; rw [if_neg (by omega), if_neg (by omega)]
  clear hlab
  have a1 := alloc_below wr o1
  have lo : ∀ g, (L[ms.length]).1.ownBlock = some g → lab' g = 10 + 2 * ms.length ∧ w0.heap.size ≤ g := by
    intro g hg
    have q := World.ownsRow.lt (h.own ms.length hi (Nat.le_refl _)) g hg
    exact ⟨(la g q.2).trans (h.lin ms.length hi (Nat.le_refl _) g hg), q.1⟩
  have lv : ∀ g, mv.ownBlock = some g → lab' g = 5 ∧ w0.heap.size ≤ g := by
    intro g hg
    have q := World.ownsRow.lt h.mor.row g hg
    exact ⟨(la g q.2).trans (h.mor.lbl g hg), q.1⟩
  have lb : lab' b = 1 := (la b h.pe.lt.1).trans h.lb
  have lm : lab' m = 1 := (la m h.pe.lt.2).trans h.lm
  have a2 := alloc_below w2 o2
  have gl : Lb lab' gv 2 := fun g hg => (la g (World.ownsRow.lt h.grow g hg).2).trans (h.glb g hg)
  have S4 := ((((h.s.relab la).below a1).keep k2 (fun x q => by have := (lo x q).1; exact ⟨by omega, fun i _ => by omega⟩)).below a2).keep k4 (fun x q => by have := (lv x q).1; exact ⟨by omega, fun i _ => by omega⟩)
  have C4 := ((((h.cop.relab la).below a1).away k2 (fun x q => by have := (lo x q).1; omega)).below a2).away k4 (fun x q => by have := (lv x q).1; omega)
  have P4 := (((h.pe.below a1).keep k2 (fun q => by have := (lo _ q).1; omega) (fun q => by have := (lo _ q).1; omega)).below a2).keep k4 (fun q => by have := (lv _ q).1; omega) (fun q => by have := (lv _ q).1; omega)
  have G4 := (((h.grow.below a1).keep k2 (fun g hg q => by have := (lo _ q).1; have := gl g hg; omega)).below a2).keep k4 (fun g hg q => by have := (lv _ q).1; have := gl g hg; omega)
  have RD := (((((h.red.relab la).below a1).keep k2 ms.length (fun x q j _ ne => by have := (lo x q).1; omega) (fun _ a c e => s2 a c e)).below a2).keep k4 L.length (fun x q j _ _ => by have := (lv x q).1; omega) (fun q => absurd q (Nat.lt_irrefl _)))
  have M3 := (((h.mor.relab la).below a1).keep k2 (fun x q => by have := (lo x q).1; exact ⟨by omega, fun j hj => by omega⟩)).below a2
  have B1 := h.bel.trans (a1.mono h.bel.size)
  have B2 := B1.trans (k2.below B1.size (fun x hx q => by have := (lo x q).2; omega))
  have B3 := B2.trans (a2.mono B2.size)
  have B4 := B3.trans (k4.below B3.size (fun x hx q => by have := (lv x q).2; omega))
  refine ⟨lab', ⟨P4, lb, lm, h.bb, h.bm, G4, gl, ?_, ?_, RD, S4, C4, ⟨?_, ?_, ?_⟩, by rw [List.length_append]; simp; omega, B4⟩⟩
  · intro j hj hle
    rw [List.length_append] at hle
    simp at hle
    have lj : ∀ g, (L[j]).1.ownBlock = some g → lab' g = 10 + 2 * j := fun g hg => (la g (World.ownsRow.lt (h.own j hj (by omega)) g hg).2).trans (h.lin j hj (by omega) g hg)
    exact ((((h.own j hj (by omega)).below a1).keep k2 (fun g hg q => by have := (lo _ q).1; have := lj g hg; omega)).below a2).keep k4 (fun g hg q => by have := (lv _ q).1; have := lj g hg; omega)
  · intro j hj hle g hg
    rw [List.length_append] at hle
    simp at hle
    exact (la g (World.ownsRow.lt (h.own j hj (by omega)) g hg).2).trans (h.lin j hj (by omega) g hg)
  · rw [List.length_append]
    exact g4
  · intro g hg
    rcases n4 with q | q
    · rw [q] at hg; exact (lv g hg).1
    · rw [q] at hg
      cases hg
      exact l4 _ (by omega)
  · intro j hj
    rw [List.length_append] at hj
    simp at hj
    by_cases q : j < ms.length
    · obtain ⟨a, c, e, hs, hl⟩ := M3.inn j q
      refine ⟨a, c, by rw [List.getElem_append_left q]; exact e, Go.QK.Seen.keep hs k4 (fun ad hd r => by have := (lv _ r).1; have := hl ad hd; omega), hl⟩
    · have ej : j = ms.length := by omega
      subst ej
      obtain ⟨a, c, e, hs, _⟩ := Owns.seen g2
      have hn : (L.map (fun p => p.2.length)).getD ms.length 0 = (L[ms.length]).2.length := by simp [List.getD_eq_getElem?_getD, hi]
      have hr : (L[ms.length]).2 ++ [-1 - (ms.length : Int), -1 - (ms.length : Int)] = List.replicate ((L[ms.length]).2.length + 2) (-1 - (ms.length : Int)) := by
        rw [List.eq_replicate_iff]
        refine ⟨by simp, fun x hx => ?_⟩
        rcases List.mem_append.1 hx with r | r
        · exact hz x r
        · simp at r; exact r
      rw [hn]
      rw [hr] at hs
      have hla : ∀ ad, a = some ad → lab' ad.block = 10 + 2 * ms.length := by
        intro ad hd
        have ho : v2.ownBlock = some ad.block := by rw [e, hd]; rfl
        rcases n2 with r | r
        · exact (lo _ (r ▸ ho)).1
        · rw [ho, Option.some.injEq] at r
          have := (World.ownsRow.lt g2 _ ho).2
          exact l2 _ (by omega) (by omega)
      refine ⟨a, c, ?_, Go.QK.Seen.keep (Go.QK.Seen.below hs a2) k4 (fun ad hd r => by have := (lv _ r).1; have := hla ad hd; omega), hla⟩
      rw [List.getElem_append_right (Nat.le_refl _)]
      simpa using e
/-- Behind the lists. -/
structure FSt (lab : Nat → Nat) (w0 wr : World) (b m bc mc : Nat) (e ec : Esc) (sv : Value) (M : Ents) : Prop where
  pe : PE wr b m e
  lb : lab b = 1
  lm : lab m = 1
  cop : Cop lab w0 wr bc mc ec
  s : Side lab w0.heap.size wr sv M 1
  bel : Below w0.heap.size w0 wr
theorem DSt.fin {lab : Nat → Nat} {w0 wr : World} {b m bc mc : Nat} {e : Esc} {gv sv mv : Value} {L M : Ents} {ms : List Value} (h : DSt lab w0 wr b m bc mc e gv sv mv L M ms) : FSt lab w0 wr b m bc mc e e sv M := ⟨h.pe, h.lb, h.lm, h.cop, h.s, h.bel⟩
theorem FSt.below {lab : Nat → Nat} {w0 wr w' : World} {b m bc mc : Nat} {e ec : Esc} {sv : Value} {M : Ents} (h : FSt lab w0 wr b m bc mc e ec sv M) (k : Below wr.heap.size wr w') : FSt lab w0 w' b m bc mc e ec sv M := ⟨h.pe.below k, h.lb, h.lm, h.cop.below k, h.s.below k, h.bel.trans (k.mono h.bel.size)⟩
theorem FSt.rel {lab : Nat → Nat} {w0 wr w' : World} {b m bc mc : Nat} {e ec ec' : Esc} {sv : Value} {M : Ents} (h : FSt lab w0 wr b m bc mc e ec sv M) (k : Keep (two bc mc) wr w') (p : PE w' bc mc ec') : FSt lab w0 w' b m bc mc e ec' sv M := by
  have hx : ∀ x, two bc mc x → lab x = 4 := by
    intro x q
    rcases q with rfl | rfl
    · exact h.cop.lb
    · exact h.cop.lm
  exact ⟨h.pe.keep k (fun q => by have := hx _ q; have := h.lb; omega) (fun q => by have := hx _ q; have := h.lm; omega), h.lb, h.lm, ⟨p, h.cop.lb, h.cop.lm, h.cop.bb, h.cop.bm⟩, h.s.keep k (fun x q => by have := hx x q; exact ⟨by omega, fun i _ => by omega⟩), h.bel.trans (k.below h.bel.size (two_lt h.cop.bb h.cop.bm))⟩
theorem setN_eight {e : Esc} (h : Eight e) (t : Int) : Eight (setN e t) := by
  intro p hp
  cases q : holdB e.nets t
  · rw [setN_no q] at hp; exact h p hp
  · rw [setN_yes q] at hp; exact h p (mem_delN hp)
theorem setN_shorter (e : Esc) (t : Int) : (setN e t).nets.length ≤ e.nets.length := by
  cases q : holdB e.nets t
  · rw [setN_no q]; exact Nat.le_refl _
  · rw [setN_yes q]; exact List.length_filter_le _ _
end Go.Proofs.Ytcnlcmdppkdmmaa
