import Derived.Test.YtpddmimacjknfaaTw15
namespace Go.Proofs.Ytpddmimacjknfaa
open Go.RowKit Go.QK
set_option maxRecDepth 100000

/-- A row of one-cell values that is the program's own (their type is e). -/
def SRow (e : TypeId) (w : World) (B : Nat) (v : Value) (vs : List Value) : Prop := w.ownsRow B e 1 v vs.length vs
section
variable {e : TypeId} {S : Nat → Prop} {w w' : World} {B : Nat} {v : Value} {vs : List Value}
theorem SRow.nil (e : TypeId) (w : World) (B : Nat) : SRow e w B (.slice none 0 0) [] := World.ownsRow_nil _ _ _ _
theorem SRow.lt (h : SRow e w B v vs) : ∀ b, v.ownBlock = some b → B ≤ b ∧ b < w.heap.size := fun b hb => World.ownsRow.lt h b hb
theorem SRow.keep (h : SRow e w B v vs) (hb : Keep S w w') (hn : ∀ g, v.ownBlock = some g → ¬ S g) : SRow e w' B v vs := by
  refine ⟨h.1, ?_⟩
  rcases h.2 with q | ⟨g, cap, cur, q, hbg, hg, rest⟩
  · exact .inl q
  · have hlt := (World.ownsRow.lt h g (by rw [q]; rfl)).2
    exact .inr ⟨g, cap, cur, q, hbg, (hb.block g hlt (hn g (by rw [q]; rfl))).trans hg, rest⟩
theorem SRow.below (h : SRow e w B v vs) (hb : Below w.heap.size w w') : SRow e w' B v vs := h.keep (Keep.of_below (S := fun _ => False) hb) (fun _ _ => id)
theorem SRow.form (h : SRow e w B v vs) : ∃ a c, v = .slice a vs.length c ∧ vs.length ≤ c ∧ (∀ i (_ : i < vs.length), ∃ b, a = some ⟨b, 0, none⟩ ∧ b < w.heap.size ∧ w.cell? ⟨b, i, none⟩ = some vs[i]) := by
  rcases h.2 with ⟨rfl, hn⟩ | ⟨g, cap, cur, rfl, hb, hg, hle, hm, hs, ht⟩
  · have : vs = [] := List.eq_nil_of_length_eq_zero hn
    subst this
    exact ⟨none, 0, rfl, Nat.le_refl _, fun i hi => by simp at hi⟩
  · refine ⟨_, cap, rfl, hle, fun i hi => ⟨g, rfl, (World.ownsRow.lt h g rfl).2, ?_⟩⟩
    have := World.ownsRow.cells h (g := g) rfl i vs[i] (by simp [hi])
    rw [addr_add] at this
    simpa using this
theorem SRow.cell {a : Option Addr} {n c : Nat} (h : SRow e w B (.slice a n c) vs) (i : Nat) (hi : i < vs.length) : ∃ b, a = some ⟨b, 0, none⟩ ∧ b < w.heap.size ∧ w.cell? ⟨b, i, none⟩ = some vs[i] := by
  obtain ⟨a', c', hv, _, hc⟩ := h.form
  cases hv
  exact hc i hi
end
theorem info22 : (Try.prog.info? 22).map (fun i => (i.zero, i.size, i.bytes)) = some (some (.slice none 0 0), 1, 24) := by kernel_rfl
theorem info9 : (Try.prog.info? 9).map (fun i => (i.zero, i.size, i.bytes)) = some (some (.string ByteArray.empty), 1, 16) := by kernel_rfl
theorem und27 : Try.prog.underlying 27 = some (.slice 22) := by kernel_rfl
theorem und28 : Try.prog.underlying 28 = some (.slice 9) := by kernel_rfl
/-- What 'append(rows, ys..)' does. -/
theorem run_pushV {t e : TypeId} {by_ : Nat} {z : Value} (hu : Try.prog.underlying t = some (.slice e)) (hin : (Try.prog.info? e).map (fun i => (i.zero, i.size, i.bytes)) = some (some z, 1, by_)) (hz1 : z.cells.size = 1) (hby : by_ ≤ 1000) (ty : TypeId) (x : World)
    (B : Nat) (v : Value) (vs : List Value) (ad : Addr) (ys : List Value) (n : Nat) (hn : ys.length = n) (hown : SRow e x B v vs) (hcell : ∀ j u, ys[j]? = some u → x.cell? (ad.add j) = some u) (hy : ∀ u ∈ ys, u.oneCell' = true) (h63 : vs.length + n ≤ 2000000) (hB : B ≤ x.heap.size) :
    ∃ v' x', (Builtin.append_ #[t, t] ty #[v, .slice (some ad) n n]).run Try.prog x = .ok v' x' ∧ SRow e x' B v' (vs ++ ys) ∧ x.grownBy x' v.ownBlock ∧ (v'.ownBlock = v.ownBlock ∨ v'.ownBlock = some x.heap.size) := by
  subst hn
  obtain ⟨i0, hi, hz⟩ : ∃ i0, Try.prog.info? e = some i0 ∧ i0.zero = some z ∧ i0.size = 1 ∧ i0.bytes = by_ := by
    cases hq : Try.prog.info? e with
    | none => rw [hq] at hin; cases hin
    | some i0 =>
      rw [hq] at hin
      simp only [Option.map_some, Option.some.injEq, Prod.mk.injEq] at hin
      exact ⟨i0, rfl, hin⟩
  have hb2 : (vs.length + ys.length) * by_ ≤ 140737488355328 := Nat.le_trans (Nat.mul_le_mul h63 hby) (by decide)
  obtain ⟨v', w', hr, h2, h3, h4, h5⟩ := run_append_own_at (P := Try.prog) x B t ty e i0 z 1 by_ hu hi hz.1 hz.2.1 hz.2.2 hz1 (by decide) v vs.length _ hown ad ys.length ys.length ys (by simp) hcell hy (by unfold maxLen; omega) hb2 hB
  exact ⟨v', w', hr, by unfold SRow; simpa using h2, h3, h5⟩
/-- 'append(l, y, y)' of two bytes to a full list: a new block. -/
theorem run_full2 (ty : TypeId) (x : World) (B : Nat) (g n : Nat) (l : List Nat) (hn : l.length = n) (hown : OwnB x B (.slice (some ⟨g, 0, none⟩) n n) l) (ad : Addr) (y : Nat) (hc0 : x.cell? ad = some (.int .u8 (y : Int))) (hc1 : x.cell? (ad.add 1) = some (.int .u8 (y : Int))) (hl : n ≤ 1000000) (hB : B ≤ x.heap.size) :
    ∃ c x', (Builtin.append_ #[22, 22] ty #[.slice (some ⟨g, 0, none⟩) n n, .slice (some ad) 2 2]).run Try.prog x = .ok (.slice (some ⟨x.heap.size, 0, none⟩) (n + 2) c) x' ∧ OwnB x' B (.slice (some ⟨x.heap.size, 0, none⟩) (n + 2) c) (l ++ [y, y]) ∧ Below x.heap.size x x' := by
  subst hn
  obtain ⟨i0, hi, hz0, hz1, hz2⟩ := info_parts info5
  have hnews : ∀ j u, [Value.int .u8 (y : Int), .int .u8 (y : Int)][j]? = some u → x.cell? (ad.add j) = some u := by
    intro j u hj
    match j, hj with
    | 0, hj =>
      simp at hj
      subst hj
      simpa [Addr.add] using hc0
    | 1, hj =>
      simp at hj
      subst hj
      exact hc1
  have hown' : x.ownsRow B 5 1 (.slice (some ⟨g, 0, none⟩) l.length l.length) l.length ((ints l).map (Value.int .u8)) := by
    have h : x.ownsRow B 5 1 (.slice (some ⟨g, 0, none⟩) l.length l.length) (ints l).length ((ints l).map (Value.int .u8)) := hown
    rw [ints_length] at h
    exact h
  obtain ⟨v', w', hr, h2, h3, h4, h5⟩ := run_append_own_at (P := Try.prog) x B 22 ty 5 i0 (.int .u8 0) 1 1 Try.underlying22 hi hz0 hz1 hz2 rfl (by decide) (.slice (some ⟨g, 0, none⟩) l.length l.length) l.length _ hown' ad 2 2 [.int .u8 (y : Int), .int .u8 (y : Int)] rfl hnews
    (by
      intro u hu
      simp at hu
      subst hu
      rfl) (by unfold maxLen; omega) (by omega) hB
  have ho : OwnB w' B v' (l ++ [y, y]) := by
    unfold OwnB Owns
    rw [ints_append]
    simpa [ints] using h2
  have := run_append_grow (P := Try.prog) x 22 ty 5 i0 (.int .u8 0) Try.underlying22 hi hz0 ⟨g, 0, none⟩ l.length l.length ((ints l).map (Value.int .u8)) (by rw [hz1]; simp) (World.ownsRow.cells hown (g := g) rfl) ad 2 2 [.int .u8 (y : Int), .int .u8 (y : Int)] (by rw [hz1]; rfl) hnews (by omega) (by omega) (growslice_fits (by omega) (by rw [hz2]; omega))
  rw [hr] at this
  simp only [Result.ok.injEq] at this
  rw [this.1] at ho hr
  refine ⟨_, w', hr, ho, ?_⟩
  rw [this.2]
  exact (Below.refl _ x).drew.alloc (Nat.le_refl _) _

/-! Labels: of old blocks as they were, L of new ones. -/
def ext (lab : Nat → Nat) (n L : Nat) : Nat → Nat := fun b => if b < n then lab b else L
theorem ext_old {lab : Nat → Nat} {n L b : Nat} (h : b < n) : ext lab n L b = lab b := if_pos h
theorem ext_new {lab : Nat → Nat} {n L b : Nat} (h : n ≤ b) : ext lab n L b = L := if_neg (by omega)

abbrev pv (k : Nat) : Value := .slice (some ⟨k, 0, none⟩) 1024 1024
abbrev sv (p : List Nat) : Value := .string (strOf p)
/-- What the law holds: labels: 0 the disk, 1 the place, 2 and 3 the two rows, 10 + i the i-th page that was read. -/
structure Ow (w1 w : World) (lab : Nat → Nat) (S : Nat → Prop) (d P : Nat) (g : Dev) (gv wv : Value) (ks : List Nat) (c : Nat → List Nat) (ps : List (List Nat)) (pl : List Nat) : Prop where
  live : Live w1.heap.size w1 w S d g
  l0 : ∀ b, S b → lab b = 0
  place : OwnB w w1.heap.size (pv P) pl
  l1 : lab P = 1
  got : SRow 22 w w1.heap.size gv (ks.map pv)
  lg : ∀ b, gv.ownBlock = some b → lab b = 2
  was : SRow 9 w w1.heap.size wv (ps.map sv)
  lw : ∀ b, wv.ownBlock = some b → lab b = 3
  pg : ∀ i (h : i < ks.length), OwnB w w1.heap.size (pv ks[i]) (c i) ∧ lab ks[i] = 10 + i
theorem pv_lt {w : World} {B k : Nat} {l : List Nat} (h : OwnB w B (pv k) l) : B ≤ k ∧ k < w.heap.size := World.ownsRow.lt h k rfl
section
variable {w1 w w' : World} {lab lab' : Nat → Nat} {S S' V : Nat → Prop} {d P L : Nat} {g g' : Dev} {gv wv : Value} {ks : List Nat} {c : Nat → List Nat} {ps : List (List Nat)} {pl : List Nat}
theorem Ow.keep1 (h : Ow w1 w lab S d P g gv wv ks c ps pl) (hk : Keep V w w') (hV : ∀ b, V b → lab b = L) (hVB : ∀ b, V b → w1.heap.size ≤ b) (hl : ∀ b, b < w.heap.size → lab' b = lab b) :
    (L ≠ 0 → Live w1.heap.size w1 w' S d g) ∧ (∀ b, S b → lab' b = 0) ∧ (L ≠ 1 → OwnB w' w1.heap.size (pv P) pl) ∧ lab' P = 1 ∧ (L ≠ 2 → SRow 22 w' w1.heap.size gv (ks.map pv)) ∧ (∀ b, gv.ownBlock = some b → lab' b = 2) ∧ (L ≠ 3 → SRow 9 w' w1.heap.size wv (ps.map sv)) ∧ (∀ b, wv.ownBlock = some b → lab' b = 3) ∧
    (∀ i (h : i < ks.length), (10 + i ≠ L → OwnB w' w1.heap.size (pv ks[i]) (c i)) ∧ lab' ks[i] = 10 + i) := by
  refine ⟨fun n => ?_, fun b hb => (hl b (h.live.dev.lt b hb)).trans (h.l0 b hb), fun n => ?_, (hl P (pv_lt h.place).2).trans h.l1, fun n => ?_, fun b hb => (hl b (h.got.lt b hb).2).trans (h.lg b hb), fun n => ?_, fun b hb => (hl b (h.was.lt b hb).2).trans (h.lw b hb), fun i hi => ⟨fun n => ?_, ?_⟩⟩
  · exact ⟨h.live.dev.keep hk (fun b hb q => n ((hV b hb).symm.trans (h.l0 b q))), h.live.far, h.live.bel.trans (hk.below h.live.size (fun k hk q => by have := hVB k q; omega)), h.live.le⟩
  · exact Owns.keep h.place hk (fun b hb q => n ((hV b q).symm.trans (by have e : P = b := Option.some.inj hb; rw [← e]; exact h.l1)))
  · exact h.got.keep hk (fun b hb q => n ((hV b q).symm.trans (h.lg b hb)))
  · exact h.was.keep hk (fun b hb q => n ((hV b q).symm.trans (h.lw b hb)))
  · obtain ⟨p1, p2⟩ := h.pg i hi
    exact Owns.keep p1 hk (fun b hb q => n (by have e : ks[i] = b := Option.some.inj hb; rw [← hV b q, ← e]; exact p2.symm))
  · obtain ⟨p1, p2⟩ := h.pg i hi
    exact (hl _ (pv_lt p1).2).trans p2
theorem Ow.below (h : Ow w1 w lab S d P g gv wv ks c ps pl) (hb : Below w.heap.size w w') (L : Nat) : Ow w1 w' (ext lab w.heap.size L) S d P g gv wv ks c ps pl := by
  obtain ⟨k0, k1, k2, k3, k4, k5, k6, k7, k8⟩ := h.keep1 (L := 9) (V := fun _ => False) (lab' := ext lab w.heap.size L) (Keep.of_below hb) nofun nofun (fun b q => ext_old q)
  exact ⟨k0 (by decide), k1, k2 (by decide), k3, k4 (by decide), k5, k6 (by decide), k7, fun i hi => ⟨(k8 i hi).1 (by omega), (k8 i hi).2⟩⟩
theorem Ow.quiet (h : Ow w1 w lab S d P g gv wv ks c ps pl) (hb : Below w.heap.size w w') : Ow w1 w' lab S d P g gv wv ks c ps pl := by
  obtain ⟨k0, k1, k2, k3, k4, k5, k6, k7, k8⟩ := h.keep1 (L := 9) (V := fun _ => False) (lab' := lab) (Keep.of_below hb) nofun nofun (fun b q => rfl)
  exact ⟨k0 (by decide), k1, k2 (by decide), k3, k4 (by decide), k5, k6 (by decide), k7, fun i hi => ⟨(k8 i hi).1 (by omega), (k8 i hi).2⟩⟩
theorem Ow.step (h : Ow w1 w lab S d P g gv wv ks c ps pl) (hd : PDev w' S' d g') (hs : Step w S w' S') : Ow w1 w' (ext lab w.heap.size 0) S' d P g' gv wv ks c ps pl := by
  obtain ⟨k0, k1, k2, k3, k4, k5, k6, k7, k8⟩ := h.keep1 (L := 0) (lab' := ext lab w.heap.size 0) hs.1 h.l0 h.live.far (fun b q => ext_old q)
  exact ⟨h.live.step hd hs, fun b hb => (hs.2 b hb).elim (k1 b) (fun q => ext_new q), k2 (by decide), k3, k4 (by decide), k5, k6 (by decide), k7, fun i hi => ⟨(k8 i hi).1 (by omega), (k8 i hi).2⟩⟩
theorem Ow.lay (h : Ow w1 w lab S d P g gv wv ks c ps pl) (hk : Keep (fun b => b = P) w w') {pl' : List Nat} (hp : OwnB w' w1.heap.size (pv P) pl') : Ow w1 w' lab S d P g gv wv ks c ps pl' := by
  obtain ⟨k0, k1, k2, k3, k4, k5, k6, k7, k8⟩ := h.keep1 (L := 1) (lab' := lab) hk (fun b q => by rw [q]; exact h.l1) (fun b q => by rw [q]; exact (pv_lt h.place).1) (fun b q => rfl)
  exact ⟨k0 (by decide), k1, hp, k3, k4 (by decide), k5, k6 (by decide), k7, fun i hi => ⟨(k8 i hi).1 (by omega), (k8 i hi).2⟩⟩
theorem Ow.push (h : Ow w1 w lab S d P g gv wv ks c ps pl) {gv' : Value} {x y : Nat} {cx cy : List Nat} {o : Obj} (hx : OwnB w w1.heap.size (pv x) cx) (lx : lab x = 10 + ks.length) (hy : OwnB w w1.heap.size (pv y) cy) (ly : lab y = 10 + (ks.length + 1)) (hr : SRow 22 w' w1.heap.size gv' (ks.map pv ++ [pv x, pv y])) (hg : (w.alloc o).grownBy w' gv.ownBlock) (hm : gv'.ownBlock = gv.ownBlock ∨ gv'.ownBlock = some (w.alloc o).heap.size)
    (c' : Nat → List Nat) (h1 : ∀ i, i < ks.length → c' i = c i) (h2 : c' ks.length = cx) (h3 : c' (ks.length + 1) = cy) : Ow w1 w' (ext lab w.heap.size 2) S d P g gv' wv (ks ++ [x, y]) c' ps pl := by
  have hk : Keep (fun b => gv.ownBlock = some b) w w' := ((Keep.refl (fun b => gv.ownBlock = some b) w).alloc _).grown hg (fun _ q _ => q)
  obtain ⟨k0, k1, k2, k3, k4, k5, k6, k7, k8⟩ := h.keep1 (L := 2) (lab' := ext lab w.heap.size 2) hk (fun b q => h.lg b q) (fun b q => (h.got.lt b q).1) (fun b q => ext_old q)
  have ex : OwnB w' w1.heap.size (pv x) cx := Owns.keep hx hk (fun b hb q => by have e : x = b := Option.some.inj hb; have := h.lg b q; rw [← e] at this; omega)
  have ey : OwnB w' w1.heap.size (pv y) cy := Owns.keep hy hk (fun b hb q => by have e : y = b := Option.some.inj hb; have := h.lg b q; rw [← e] at this; omega)
  refine ⟨k0 (by decide), k1, k2 (by decide), k3, by simpa using hr, fun b hb => ?_, k6 (by decide), k7, fun i hi => ?_⟩
  · rcases hm with q | q
    · exact k5 b (q ▸ hb)
    · rw [q] at hb
      have e : (w.alloc o).heap.size = b := Option.some.inj hb
      rw [World.size_alloc] at e
      exact ext_new (by omega)
  · by_cases q : i < ks.length
    · have e : (ks ++ [x, y])[i] = ks[i] := List.getElem_append_left q
      rw [e, h1 i q]
      exact ⟨(k8 i q).1 (by omega), (k8 i q).2⟩
    · by_cases q2 : i = ks.length
      · subst q2
        have e : (ks ++ [x, y])[ks.length] = x := by rw [List.getElem_append_right (Nat.le_refl _)]; simp
        rw [e, h2]
        exact ⟨ex, (ext_old (pv_lt hx).2).trans lx⟩
      · obtain rfl : i = ks.length + 1 := by simp at hi; omega
        have e : (ks ++ [x, y])[ks.length + 1] = y := by rw [List.getElem_append_right (by omega)]; simp
        rw [e, h3]
        exact ⟨ey, (ext_old (pv_lt hy).2).trans ly⟩
theorem Ow.note (h : Ow w1 w lab S d P g gv wv ks c ps pl) {wv' : Value} {o : Obj} {ps' : List (List Nat)} (hr : SRow 9 w' w1.heap.size wv' (ps'.map sv)) (hg : (w.alloc o).grownBy w' wv.ownBlock) (hm : wv'.ownBlock = wv.ownBlock ∨ wv'.ownBlock = some (w.alloc o).heap.size) : Ow w1 w' (ext lab w.heap.size 3) S d P g gv wv' ks c ps' pl := by
  have hk : Keep (fun b => wv.ownBlock = some b) w w' := ((Keep.refl (fun b => wv.ownBlock = some b) w).alloc _).grown hg (fun _ q _ => q)
  obtain ⟨k0, k1, k2, k3, k4, k5, k6, k7, k8⟩ := h.keep1 (L := 3) (lab' := ext lab w.heap.size 3) hk (fun b q => h.lw b q) (fun b q => (h.was.lt b q).1) (fun b q => ext_old q)
  refine ⟨k0 (by decide), k1, k2 (by decide), k3, k4 (by decide), k5, hr, fun b hb => ?_, fun i hi => ⟨(k8 i hi).1 (by omega), (k8 i hi).2⟩⟩
  rcases hm with q | q
  · exact k7 b (q ▸ hb)
  · rw [q] at hb
    have e : (w.alloc o).heap.size = b := Option.some.inj hb
    rw [World.size_alloc] at e
    exact ext_new (by omega)
/-- A page that was read is written over. -/
theorem Ow.mark (h : Ow w1 w lab S d P g gv wv ks c ps pl) (i : Nat) (hi : i < ks.length) (hk : Keep (fun b => b = ks[i]) w w') (c' : Nat → List Nat) (hp : OwnB w' w1.heap.size (pv ks[i]) (c' i)) (hc : ∀ j, j ≠ i → c' j = c j) : Ow w1 w' lab S d P g gv wv ks c' ps pl := by
  obtain ⟨p1, p2⟩ := h.pg i hi
  obtain ⟨k0, k1, k2, k3, k4, k5, k6, k7, k8⟩ := h.keep1 (L := 10 + i) (lab' := lab) hk (fun b q => by rw [q]; exact p2) (fun b q => by rw [q]; exact (pv_lt p1).1) (fun b q => rfl)
  refine ⟨k0 (by omega), k1, k2 (by omega), k3, k4 (by omega), k5, k6 (by omega), k7, fun j hj => ⟨?_, (k8 j hj).2⟩⟩
  by_cases q : j = i
  · subst q; exact hp
  · rw [hc j q]; exact (k8 j hj).1 (by omega)
end
theorem set_mix (b pl : List Nat) (k : Nat) (hk : k < b.length) (h : pl.length = b.length) : (b.take k ++ pl.drop k).set k (b.getD k 0) = b.take (k + 1) ++ pl.drop (k + 1) := by
  apply List.ext_getElem?
  intro j
  rw [List.getElem?_set, List.getElem?_append, List.getElem?_append]
  simp only [List.length_append, List.length_take, List.length_drop, List.getElem?_take, List.getElem?_drop]
  have h1 : min k b.length = k := by omega
  have h2 : min (k + 1) b.length = k + 1 := by omega
  rw [h1, h2]
  by_cases e : k = j
  · subst e
    rw [if_pos rfl, if_pos (by omega), if_pos (by omega), if_pos (by omega)]
    simp [List.getD_eq_getElem?_getD, hk]
  · rw [if_neg e]
    by_cases q : j < k
    · rw [if_pos q, if_pos q, if_pos (by omega), if_pos (by omega)]
    · rw [if_neg q, if_neg (by omega)]
      congr 1
      omega
/-- The marked pages, each made longer: label 4 the row, 5 the lists. -/
structure Mo (w1 w : World) (lab : Nat → Nat) (mv : Value) (ms : List (Nat × Nat)) : Prop where
  more : SRow 22 w w1.heap.size mv (ms.map fun m => .slice (some ⟨m.1, 0, none⟩) 1026 m.2)
  lm : ∀ b, mv.ownBlock = some b → lab b = 4
  mi : ∀ i (h : i < ms.length), OwnB w w1.heap.size (.slice (some ⟨ms[i].1, 0, none⟩) 1026 ms[i].2) (List.replicate 1026 i) ∧ lab ms[i].1 = 5
/-- A builtin call whose run is known, in a region that draws its order. -/
theorem wp_run {o : Oper} {a : Act} {x x' : World} {K : Act → World → Prop} {Q : Exit → Act → World → Prop} {cond : Bool} {t : TypeId} {v u v' : Value} (d : Nat) (s r : Operand) (hc : cond = true) (hd : o.dst = some d)
    (ho : o.op = .call { callee := .builtin .append, args := #[s, r], argTypes := #[t, t] }) (hs : a.eval s = v) (hr : a.eval r = u) (hrun : (Builtin.append_ #[t, t] o.type #[v, u]).run Try.prog x = .ok v' x')
    (h : K (a.put (some d) v') x') : if cond = true then Oper.wp Try.prog o a x K Q else K (a.put o.dst undef) x := by
  rw [if_pos hc]
  have hrun : (execOp a.eval o).run Try.prog x = .ok (.value v') x' := by
    unfold execOp
    simp only [ho, resolve, invoke, builtin, Sem.run_bind, Sem.run_pure, Result.andThen_ok, List.map_toArray, List.map_cons, List.map_nil, hs, hr, hrun]
  unfold Oper.wp
  rw [hrun]
  show K (a.put o.dst v') x'
  rw [hd]
  exact h
/-- The same in a plain row of operations. -/
theorem wpList_run {o : Oper} {a : Act} {x x' : World} {ops : Array Oper} {rest : List Oper} {Q : Exit → Act → World → Prop} {t : TypeId} {v u v' : Value} (hgd : o.guard = none) (s r : Operand)
    (ho : o.op = .call { callee := .builtin .append, args := #[s, r], argTypes := #[t, t] }) (hs : a.eval s = v) (hr : a.eval r = u) (hrun : (Builtin.append_ #[t, t] o.type #[v, u]).run Try.prog x = .ok v' x')
    (h : wpList Try.prog ops Q rest (a.put o.dst v') x') : wpList Try.prog ops Q (o :: rest) a x := by
  refine wpList_plain hgd fun K hK => ?_
  have hrun : (execOp a.eval o).run Try.prog x = .ok (.value v') x' := by
    unfold execOp
    simp only [ho, resolve, invoke, builtin, Sem.run_bind, Sem.run_pure, Result.andThen_ok, List.map_toArray, List.map_cons, List.map_nil, hs, hr, hrun]
  unfold Oper.wp
  rw [hrun]
  exact hK _ _ h
end Go.Proofs.Ytpddmimacjknfaa
