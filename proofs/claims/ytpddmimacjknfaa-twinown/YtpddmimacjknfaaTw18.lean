import Derived.Test.YtpddmimacjknfaaTw17
namespace Go.Proofs.Ytpddmimacjknfaa
open Go.RowKit Go.QK
set_option maxRecDepth 100000

/-- A list of the law's own beside, label n. -/
structure Tm (w1 w : World) (lab : Nat → Nat) (n k : Nat) (l : List Nat) : Prop where
  own : OwnB w w1.heap.size (pv k) l
  lb : lab k = n
section
variable {w1 w w' : World} {lab : Nat → Nat} {S S' V : Nat → Prop} {d P n k L : Nat} {g g' : Dev} {gv wv : Value} {ks : List Nat} {c : Nat → List Nat} {ps : List (List Nat)} {pl l : List Nat}
theorem Tm.keep (h : Tm w1 w lab n k l) (hk : Keep V w w') (hV : ∀ b, V b → lab b ≠ n) {lab' : Nat → Nat} (hl : ∀ b, b < w.heap.size → lab' b = lab b) : Tm w1 w' lab' n k l :=
  ⟨Owns.keep h.own hk (fun b hb q => by have e : k = b := Option.some.inj hb; exact hV b q (by rw [← e]; exact h.lb)), (hl k (pv_lt h.own).2).trans h.lb⟩
theorem Tm.below (h : Tm w1 w lab n k l) (hb : Below w.heap.size w w') (L : Nat) : Tm w1 w' (ext lab w.heap.size L) n k l := h.keep (V := fun _ => False) (Keep.of_below hb) nofun (fun _ q => ext_old q)
theorem Tm.step (h : Tm w1 w lab n k l) (o : Ow w1 w lab S d P g gv wv ks c ps pl) (hs : Step w S w' S') (hn : n ≠ 0) : Tm w1 w' (ext lab w.heap.size 0) n k l := h.keep hs.1 (fun b q e => hn (e.symm.trans (o.l0 b q))) (fun _ q => ext_old q)
theorem Tm.lay (h : Tm w1 w lab n k l) (o : Ow w1 w lab S d P g gv wv ks c ps pl) (hk : Keep (fun b => b = P) w w') (hn : n ≠ 1) : Tm w1 w' lab n k l := h.keep hk (fun b q e => hn (e.symm.trans (by rw [q]; exact o.l1))) (fun b q => rfl)
theorem Tm.push (h : Tm w1 w lab n k l) (o : Ow w1 w lab S d P g gv wv ks c ps pl) {ob : Obj} (hg : (w.alloc ob).grownBy w' gv.ownBlock) (hn : n ≠ 2) : Tm w1 w' (ext lab w.heap.size 2) n k l :=
  h.keep (((Keep.refl (fun b => gv.ownBlock = some b) w).alloc _).grown hg (fun _ q _ => q)) (fun b q e => hn (e.symm.trans (o.lg b q))) (fun _ q => ext_old q)
theorem Tm.new (h : OwnB w' w.heap.size (pv k) l) (hk : w.heap.size ≤ k) (hB : w1.heap.size ≤ w.heap.size) : Tm w1 w' (ext lab w.heap.size n) n k l := by
  refine ⟨⟨h.1, ?_⟩, ext_new hk⟩
  rcases h.2 with q | ⟨g, cap, cur, q, hbg, rest⟩
  · exact .inl q
  · exact .inr ⟨g, cap, cur, q, Nat.le_trans hB hbg, rest⟩
theorem Tm.conv (h : Tm w1 w lab n k l) (hl : l.length = 1024) : (convert 22 9 (pv k)).run Try.prog w = .ok (.string (strOf l)) w := by
  have := conv_any (some ⟨k, 0, none⟩) l 1024 w (Owns.seen_at h.own)
  rw [hl] at this
  exact this
end
section
variable {w1 w w' : World} {lab : Nat → Nat} {S : Nat → Prop} {d P : Nat} {g : Dev} {gv wv mv mv' : Value} {ks : List Nat} {c : Nat → List Nat} {ps : List (List Nat)} {pl : List Nat} {ms : List (Nat × Nat)}
theorem Mo.keep {V : Nat → Prop} (h : Mo w1 w lab mv ms) (hk : Keep V w w') (hV : ∀ b, V b → lab b ≠ 4 ∧ lab b ≠ 5) {lab' : Nat → Nat} (hl : ∀ b, b < w.heap.size → lab' b = lab b) : Mo w1 w' lab' mv ms := by
  refine ⟨h.more.keep hk (fun b hb q => (hV b q).1 (h.lm b hb)), fun b hb => (hl b (h.more.lt b hb).2).trans (h.lm b hb), fun i hi => ?_⟩
  obtain ⟨p1, p2⟩ := h.mi i hi
  exact ⟨Owns.keep p1 hk (fun b hb q => by have e : ms[i].1 = b := Option.some.inj hb; exact (hV b q).2 (by rw [← e]; exact p2)), (hl _ (World.ownsRow.lt p1 _ rfl).2).trans p2⟩
theorem Mo.below (h : Mo w1 w lab mv ms) (hb : Below w.heap.size w w') (L : Nat) : Mo w1 w' (ext lab w.heap.size L) mv ms := h.keep (V := fun _ => False) (Keep.of_below hb) nofun (fun _ q => ext_old q)
theorem Mo.push (o : Ow w1 w lab S d P g gv wv ks c ps pl) (h : Mo w1 w lab mv ms) {k cap : Nat} {ob : Obj} (hx : OwnB w w1.heap.size (.slice (some ⟨k, 0, none⟩) 1026 cap) (List.replicate 1026 ms.length)) (lx : lab k = 5)
    (hr : SRow 22 w' w1.heap.size mv' (ms.map (fun m => Value.slice (some ⟨m.1, 0, none⟩) 1026 m.2) ++ [.slice (some ⟨k, 0, none⟩) 1026 cap])) (hg : (w.alloc ob).grownBy w' mv.ownBlock) (hm : mv'.ownBlock = mv.ownBlock ∨ mv'.ownBlock = some (w.alloc ob).heap.size) :
    Ow w1 w' (ext lab w.heap.size 4) S d P g gv wv ks c ps pl ∧ Mo w1 w' (ext lab w.heap.size 4) mv' (ms ++ [(k, cap)]) := by
  have hk : Keep (fun b => mv.ownBlock = some b) w w' := ((Keep.refl (fun b => mv.ownBlock = some b) w).alloc _).grown hg (fun _ q _ => q)
  obtain ⟨k0, k1, k2, k3, k4, k5, k6, k7, k8⟩ := o.keep1 (L := 4) (lab' := ext lab w.heap.size 4) hk (fun b q => h.lm b q) (fun b q => (h.more.lt b q).1) (fun _ q => ext_old q)
  refine ⟨⟨k0 (by decide), k1, k2 (by decide), k3, k4 (by decide), k5, k6 (by decide), k7, fun i hi => ⟨(k8 i hi).1 (by omega), (k8 i hi).2⟩⟩, by simpa using hr, fun b hb => ?_, fun i hi => ?_⟩
  · rcases hm with q | q
    · exact (ext_old (h.more.lt b (q ▸ hb)).2).trans (h.lm b (q ▸ hb))
    · rw [q] at hb
      have e : (w.alloc ob).heap.size = b := Option.some.inj hb
      rw [World.size_alloc] at e
      exact ext_new (by omega)
  · by_cases q : i < ms.length
    · have e : (ms ++ [(k, cap)])[i] = ms[i] := List.getElem_append_left q
      rw [e]
      obtain ⟨p1, p2⟩ := h.mi i q
      exact ⟨Owns.keep p1 hk (fun b hb r => by have e : ms[i].1 = b := Option.some.inj hb; have := h.lm b r; rw [← e] at this; omega), (ext_old (World.ownsRow.lt p1 _ rfl).2).trans p2⟩
    · obtain rfl : i = ms.length := by simp at hi; omega
      have e : (ms ++ [(k, cap)])[ms.length] = (k, cap) := by rw [List.getElem_append_right (Nat.le_refl _)]; simp
      rw [e]
      exact ⟨Owns.keep hx hk (fun b hb r => by have e : k = b := Option.some.inj hb; have := h.lm b r; rw [← e] at this; omega), (ext_old (World.ownsRow.lt hx _ rfl).2).trans lx⟩
end
def updC (c : Nat → List Nat) (j : Nat) (x : List Nat) : Nat → List Nat := fun q => if q = j then x else c q
theorem rep_more (n i : Nat) : List.replicate n i ++ [i, i] = List.replicate (n + 2) i := by
  rw [show [i, i] = List.replicate 2 i from rfl, List.replicate_append_replicate]
theorem rep_getD (n i k : Nat) (h : k < n) : (List.replicate n i).getD k 0 = i := by rw [List.getD_eq_getElem?_getD, List.getElem?_replicate, if_pos h]; rfl
/-- How the law stands behind i rounds. -/
structure Rw (i : Nat) (g : Dev) (pg : Nat → List Nat) (ks : List Nat) (c : Nat → List Nat) (ps : List (List Nat)) (pl : List Nat) : Prop where
  four : Four pg g
  left : g.left = 0
  calls : g.calls = 40 + 10 * i
  kl : ks.length = 2 * i
  psl : ps.length = 2 * i
  eq : ∀ j, j < 2 * i → c j = ps.getD j [] ∧ (c j).length = 1024
  last : ∀ q, q < i → i < q + 5 → pg (q % 4) = ps.getD (2 * q) []
  pll : pl.length = 1024
theorem bring_nat (i n : Nat) : bring (i : Int) n = i % n := by unfold bring; omega
theorem Four.wrote {pg : Nat → List Nat} {g : Dev} (h : Four pg g) (hl : g.left = 0) (j : Nat) (hj : j < 4) (b : List Nat) (hb : b.length = 1024) (hB : AllB b) :
    g.twE 2 ((5 + 2 * j : Nat) : Int) b = 0 ∧ Four (updP pg j b) (g.twD 2 ((5 + 2 * j : Nat) : Int) b) ∧ (g.twD 2 ((5 + 2 * j : Nat) : Int) b).calls = g.calls + 10 ∧ (g.twD 2 ((5 + 2 * j : Nat) : Int) b).left = 0 := by
  obtain ⟨m1, m2, m3, m4, m5, m6⟩ := (h.run.write (x := fun i => sector g.img i) (p := pg j) (b := b) (lie13 j hj) (fun i hi q1 q2 => rfl) ⟨h.mark, h.homes j hj⟩ hb hB).good (by rw [hl]; omega)
  exact ⟨m1, h.of_whole m2 m5 hj m6, m3, by rw [show (g.twD 2 ((5 + 2 * j : Nat) : Int) b).left = g.left - 10 from m4, hl]⟩
def putC (c : Nat → List Nat) (n : Nat) (x : List Nat) : Nat → List Nat := fun i => if i < n then c i else x
theorem Rw.next {i : Nat} {g g' : Dev} {pg : Nat → List Nat} {ks : List Nat} {c : Nat → List Nat} {ps : List (List Nat)} {pl : List Nat} (h : Rw i g pg ks c ps pl) {b : List Nat} (hb : b.length = 1024) (hf : Four (updP pg (i % 4) b) g') (hc : g'.calls = g.calls + 10) (hl : g'.left = 0) (x y : Nat) (pl' : List Nat) (hpl : pl'.length = 1024) : Rw (i + 1) g' (updP pg (i % 4) b) (ks ++ [x, y]) (putC c (2 * i) b) (ps ++ [b, b]) pl' := by
  have hpl2 := h.psl
  refine ⟨hf, hl, by rw [hc, h.calls]; omega, by rw [List.length_append, h.kl]; simp; omega, by rw [List.length_append, h.psl]; simp; omega, fun j hj => ?_, fun q hq hq2 => ?_, hpl⟩
  · unfold putC
    by_cases e : j < 2 * i
    · rw [if_pos e]
      obtain ⟨e1, e2⟩ := h.eq j e
      refine ⟨?_, e2⟩
      rw [e1]
      simp [List.getD_eq_getElem?_getD, List.getElem?_append, hpl2, e]
    · rw [if_neg e]
      refine ⟨?_, hb⟩
      have : j = 2 * i ∨ j = 2 * i + 1 := by omega
      rcases this with rfl | rfl <;> simp [List.getD_eq_getElem?_getD, hpl2]
  · unfold updP
    by_cases e : q = i
    · subst e
      rw [if_pos rfl]
      simp [List.getD_eq_getElem?_getD, hpl2]
    · rw [if_neg (by omega), h.last q (by omega) (by omega)]
      have : 2 * q < 2 * i := by omega
      simp only [List.getD_eq_getElem?_getD, List.getElem?_append, hpl2, this, if_true]
end Go.Proofs.Ytpddmimacjknfaa
