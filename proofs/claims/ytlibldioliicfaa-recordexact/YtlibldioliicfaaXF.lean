import Derived.Test.YtlibldioliicfaaOwnW
import Derived.Test.YtlibldioliicfaaDec2
import Derived.Test.YtlibldioliicfaaCutw
import Derived.Test.YtlibldioliicfaaBig2
import Derived.Deep.DeepCutAuto
import Derived.Test.YtlibldioliicfaaSame
namespace Go.Proofs.Ytlibldioliicfaa
open Go.RowKit Go.QK
set_option maxRecDepth 100000
/-- 'append(v, y)' of one element: the old list's cells are as they were. -/
theorem run_moreR {t e : TypeId} {z : Value} {size bytes : Nat} (hu : Try.prog.underlying t = some (.slice e)) (hin : (Try.prog.info? e).map (fun i => (i.zero, i.size, i.bytes)) = some (some z, size, bytes)) (hz : z.cells.size = size) (hs : 0 < size) (hby : bytes ≤ 100) (ty : TypeId) (x : World)
    (B : Nat) (v : Value) (n : Nat) (xs : List Value) (hown : GRow x B e size v n xs) (ad : Addr) (news : List Value) (hl : news.length = 1 * size) (hnews : Lies x (some ad) news) (h1 : ∀ u ∈ news, u.oneCell' = true) (h63 : n + 1 ≤ 2000000) (hB : B ≤ x.heap.size) :
    ∃ v' x', (Builtin.append_ #[t, t] ty #[v, .slice (some ad) 1 1]).run Try.prog x = .ok v' x' ∧ GRow x' B e size v' (n + 1) (xs ++ news) ∧ x.grownBy x' v.ownBlock ∧ (v'.ownBlock = v.ownBlock ∨ v'.ownBlock = some x.heap.size) ∧ (∀ a c, v = .slice a n c → Lies x' a xs) := by
  obtain ⟨v', x', hr, q2, q3, q4⟩ := run_pushR hu hin hz hs hby ty x B v n xs hown ad 1 1 news hl hnews h1 h63 hB
  refine ⟨v', x', hr, q2, q3, q4, ?_⟩
  intro a c hv
  obtain ⟨i0, hi, h0, h2, h3⟩ := info_of hin
  have hnews' : ∀ j u, news[j]? = some u → x.cell? (ad.add j) = some u := by
    intro j u hj
    obtain ⟨b, off, e1, _, hc⟩ := hnews.cellAt j u hj
    cases e1
    rw [addr_add]
    exact hc
  rcases hown.2 with ⟨q, hn⟩ | ⟨g, cap, cur, q, hbg, hg, hnc, hcm, hcs, htake⟩
  · have := hown.1
    rw [hn] at this
    exact .inl (List.eq_nil_of_length_eq_zero (by omega))
  · rw [q] at hv
    cases hv
    by_cases hroom : n + 1 ≤ c
    · have hfit : n * i0.size + news.length ≤ cur.size := by
        rw [h2, hl, hcs]
        have : (n + 1) * size ≤ c * size := Nat.mul_le_mul hroom (Nat.le_refl _)
        rw [Nat.add_mul] at this
        omega
      have hq := run_append_room (P := Try.prog) x t ty e i0 hu hi g n c cur hg ad 1 1 news (by rw [h2]; exact hl) hnews' h1 hroom hfit
      rw [← q, hr] at hq
      simp only [Result.ok.injEq] at hq
      rw [hq.1] at q2
      obtain ⟨a', c', e1, hli, _⟩ := GRow.lies q2
      cases e1
      rcases hli with hl0 | ⟨b, off, e2, hlt, hc⟩
      · exact .inl (List.append_eq_nil_iff.1 hl0).1
      · refine .inr ⟨b, off, e2, hlt, fun i hi => ?_⟩
        have := hc i (by rw [List.length_append]; omega)
        rw [this, List.getElem_append_left hi]
    · have hq := run_append_grow (P := Try.prog) x t ty e i0 z hu hi h0 ⟨g, 0, none⟩ n c xs (by rw [h2]; exact hown.1) (World.ownsRow.cells hown (g := g) (by rw [q]; rfl)) ad 1 1 news (by rw [h2]; exact hl) hnews' (by omega) (by omega) (growslice_fits (by omega) (by
        rw [h3]
        have : (n + 1) * bytes ≤ 2000000 * 100 := Nat.mul_le_mul h63 hby
        omega))
      rw [← q, hr] at hq
      simp only [Result.ok.injEq] at hq
      obtain ⟨a', c', e1, hli, _⟩ := GRow.lies hown
      rw [q] at e1
      cases e1
      rw [hq.2]
      exact hli.below ((Below.refl _ x).drew.alloc (Nat.le_refl _) _)
/-- So many elements with the same cells. -/
def rep (k : Nat) (mk : List Value) : List Value := (List.replicate k mk).flatten
theorem rep_len (k : Nat) (mk : List Value) : (rep k mk).length = k * mk.length := by
  unfold rep
  simp
theorem rep_succ (k : Nat) (mk : List Value) : rep (k + 1) mk = rep k mk ++ mk := by
  unfold rep
  rw [List.replicate_succ', List.flatten_append]
  simp
theorem rep_get (k : Nat) (mk : List Value) (i j : Nat) (hi : i < k) (hj : j < mk.length) : (rep k mk)[i * mk.length + j]? = mk[j]? := by
  induction k generalizing i with
  | zero => omega
  | succ k ih =>
    rw [rep_succ]
    by_cases h : i < k
    · rw [List.getElem?_append_left]
      · exact ih i h
      · rw [rep_len]
        have : (i + 1) * mk.length ≤ k * mk.length := Nat.mul_le_mul h (Nat.le_refl _)
        rw [Nat.add_mul] at this
        omega
    · obtain rfl : i = k := by omega
      rw [List.getElem?_append_right (by rw [rep_len]; omega), rep_len]
      congr 1
      omega
/-- Cells that a slice leads to, in a block of that label. -/
def LiesL (w : World) (lab : Nat → Nat) (L : Nat) (a : Option Addr) (cs : List Value) : Prop :=
  cs = [] ∨ ∃ b off, a = some ⟨b, off, none⟩ ∧ b < w.heap.size ∧ lab b = L ∧ ∀ i (h : i < cs.length), w.cell? ⟨b, off + i, none⟩ = some cs[i]
theorem LiesL.lies {w : World} {lab : Nat → Nat} {L : Nat} {a : Option Addr} {cs : List Value} (h : LiesL w lab L a cs) : Lies w a cs := by
  rcases h with h | ⟨b, off, h1, h2, _, h3⟩
  · exact .inl h
  · exact .inr ⟨b, off, h1, h2, h3⟩
theorem LiesL.of {w : World} {lab : Nat → Nat} {L : Nat} {a : Option Addr} {cs : List Value} (h : Lies w a cs) (hl : ∀ ad, a = some ad → lab ad.block = L) : LiesL w lab L a cs := by
  rcases h with h | ⟨b, off, h1, h2, h3⟩
  · exact .inl h
  · exact .inr ⟨b, off, h1, h2, hl _ h1, h3⟩
theorem LiesL.keep {S : Nat → Prop} {w w' : World} {lab lab' : Nat → Nat} {L : Nat} {a : Option Addr} {cs : List Value} (h : LiesL w lab L a cs) (hk : Keep S w w') (hS : ∀ b, b < w.heap.size → lab b = L → ¬ S b) (hl : ∀ b, b < w.heap.size → lab' b = lab b) : LiesL w' lab' L a cs := by
  rcases h with h | ⟨b, off, h1, h2, h3, h4⟩
  · exact .inl h
  · exact .inr ⟨b, off, h1, Nat.lt_of_lt_of_le h2 hk.size, (hl b h2).trans h3, fun i hi => (hk.cell (p := ⟨b, off + i, none⟩) h2 (hS b h2 h3)).trans (h4 i hi)⟩
/-- A list that was handed out, marked, and its longer copy. -/
def Ent (w : World) (lab : Nat → Nat) (L : Nat) (v u : Value) (mk : List Value) : Prop :=
  ∃ (a : Option Addr) (k c : Nat) (a' : Option Addr) (c' : Nat), v = .slice a k c ∧ u = .slice a' (k + 1) c' ∧ LiesL w lab L a (rep k mk) ∧ LiesL w lab L a' (rep (k + 1) mk) ∧ k ≤ 1000000
theorem Ent.keep {S : Nat → Prop} {w w' : World} {lab lab' : Nat → Nat} {L : Nat} {v u : Value} {mk : List Value} (h : Ent w lab L v u mk) (hk : Keep S w w') (hS : ∀ b, b < w.heap.size → lab b = L → ¬ S b) (hl : ∀ b, b < w.heap.size → lab' b = lab b) : Ent w' lab' L v u mk := by
  obtain ⟨a, k, c, a', c', h1, h2, h3, h4, h5⟩ := h
  exact ⟨a, k, c, a', c', h1, h2, h3.keep hk hS hl, h4.keep hk hS hl, h5⟩
def lbl (j i : Nat) : Nat := 10 + 3 * i + j / 2
/-- Two rows of lists: as they came, and longer by one. -/
structure Pr (w : World) (B : Nat) (lab : Nat → Nat) (j : Nat) (e : TypeId) (v u : Value) (xs ys : List Value) (mk : Nat → List Value) : Prop where
  r1 : GRow w B e 1 v xs.length xs
  r2 : GRow w B e 1 u ys.length ys
  l1 : ∀ g, v.ownBlock = some g → lab g = j + 1
  l2 : ∀ g, u.ownBlock = some g → lab g = j + 2
  len : ys.length = xs.length
  ent : ∀ i (h : i < xs.length) (h' : i < ys.length), Ent w lab (lbl j i) xs[i] ys[i] (mk i)
theorem Pr.keep {S : Nat → Prop} {w w' : World} {B : Nat} {lab lab' : Nat → Nat} {j : Nat} {e : TypeId} {v u : Value} {xs ys : List Value} {mk : Nat → List Value} (h : Pr w B lab j e v u xs ys mk) (hk : Keep S w w')
    (hS : ∀ b, b < w.heap.size → S b → lab b ≠ j + 1 ∧ lab b ≠ j + 2 ∧ ∀ i, i < xs.length → lab b ≠ lbl j i) (hl : ∀ b, b < w.heap.size → lab' b = lab b) : Pr w' B lab' j e v u xs ys mk :=
  ⟨GRow.keep h.r1 hk (fun g q s => (hS g (World.ownsRow.lt h.r1 g q).2 s).1 (h.l1 g q)), GRow.keep h.r2 hk (fun g q s => (hS g (World.ownsRow.lt h.r2 g q).2 s).2.1 (h.l2 g q)),
    fun g q => (hl g (World.ownsRow.lt h.r1 g q).2).trans (h.l1 g q), fun g q => (hl g (World.ownsRow.lt h.r2 g q).2).trans (h.l2 g q), h.len,
    fun i h1 h2 => (h.ent i h1 h2).keep hk (fun b hb q s => (hS b hb s).2.2 i h1 q) hl⟩
/-- The types of a pair of rows: T a row of lists, e the lists, E their elements. -/
structure Ty (T e E : TypeId) (z : Value) (sz by_ : Nat) : Prop where
  uT : Try.prog.underlying T = some (.slice e)
  ie : (Try.prog.info? e).map (fun i => (i.zero, i.size, i.bytes)) = some (some (.slice none 0 0), 1, 24)
  ue : Try.prog.underlying e = some (.slice E)
  iE : (Try.prog.info? E).map (fun i => (i.zero, i.size, i.bytes)) = some (some z, sz, by_)
  hz : z.cells.size = sz
  h0 : 0 < sz
  hb : by_ ≤ 100
theorem ty53 : Ty 53 22 5 (.int .u8 0) 1 1 := ⟨by kernel_rfl, by kernel_rfl, by kernel_rfl, by kernel_rfl, rfl, by decide, by decide⟩
theorem ty54 : Ty 54 31 63 (.agg #[.int .i64 0, .int .i64 0, .bool false, .bool false]) 4 24 := ⟨by kernel_rfl, by kernel_rfl, by kernel_rfl, by kernel_rfl, rfl, by decide, by decide⟩
theorem ty55 : Ty 55 32 65 (.agg #[.int .i64 0, .int .i64 0]) 2 16 := ⟨by kernel_rfl, by kernel_rfl, by kernel_rfl, by kernel_rfl, rfl, by decide, by decide⟩
theorem own_addr {a : Option Addr} {n c : Nat} {ad : Addr} (h : a = some ad) : (Value.slice a n c).ownBlock = some ad.block := by rw [h]; rfl
end Go.Proofs.Ytlibldioliicfaa
namespace Go.Proofs.Ytlibldioliicfaa
open Go.RowKit Go.QK
set_option maxRecDepth 100000
/-- What one more list does to a pair of rows. -/
structure Added (w : World) (B : Nat) (lab : Nat → Nat) (j : Nat) (e : TypeId) (kb : Nat) (cs : List Value) (xs ys : List Value) (mk : Nat → List Value) (v0 : Value) (w6 : World) (v1 u0 u1 : Value) (lab' : Nat → Nat) : Prop where
  old : ∀ b, b < w.heap.size → lab' b = lab b
  new : ∀ b, w.heap.size ≤ b → lab' b = j + 1 ∨ lab' b = j + 2 ∨ lab' b = lbl j xs.length ∨ lab' b = 9
  cells : Cells w6 kb ((cs.set j v1).set (j + 1) u1)
  pr : Pr w6 B lab' j e v1 u1 (xs ++ [v0]) (ys ++ [u0]) mk
  keep : Keep (fun b => lab b = 0 ∨ lab b = j + 1 ∨ lab b = j + 2 ∨ lab b = lbl j xs.length) w w6
theorem slice_one (a : Option Addr) (n c : Nat) : (Value.slice a n c).oneCell' = true := rfl
theorem Pr.add {T e E : TypeId} {z : Value} {sz by_ : Nat} (ty : Ty T e E z sz by_) {w : World} {B : Nat} {lab : Nat → Nat} {j kb : Nat} {cs : List Value} {v u : Value} {xs ys : List Value} {mk : Nat → List Value} {a : Option Addr} {k c : Nat}
    (C : Cells w kb cs) (h1 : cs[j]? = some v) (h2 : cs[j + 1]? = some u) (p : Pr w B lab j e v u xs ys mk) (lk : lab kb = 0) (hv : GRow w B E sz (.slice a k c) k (rep k (mk xs.length))) (lv : ∀ g, (Value.slice a k c).ownBlock = some g → lab g = lbl j xs.length)
    (hmk : (mk xs.length).length = sz) (hm1 : ∀ y ∈ mk xs.length, y.oneCell' = true) (hk : k ≤ 1000000) (hx : xs.length ≤ 1000000) (hB : B ≤ w.heap.size) (hj : j ≤ 4) (ty1 ty2 ty3 : TypeId) :
    ∃ a1 c1 w1, (Builtin.append_ #[T, T] ty1 #[v, .slice (some ⟨w.heap.size, 0, none⟩) 1 1]).run Try.prog (w.alloc (.cells #[.slice a k c] e)) = .ok (.slice a1 (xs.length + 1) c1) w1 ∧
      (w1.cell? ⟨kb, j, none⟩ = some v ∧ w1.frozen? ⟨kb, j, none⟩ = false) ∧
      ∀ w3, Below (w1.setCell ⟨kb, j, none⟩ (.slice a1 (xs.length + 1) c1)).heap.size (w1.setCell ⟨kb, j, none⟩ (.slice a1 (xs.length + 1) c1)) w3 →
        ∃ a2 c2 w4 a3 c3 w5 lab', (Builtin.append_ #[e, e] ty2 #[.slice a k c, .slice (some ⟨w3.heap.size, 0, none⟩) 1 1]).run Try.prog (w3.alloc (.cells (mk xs.length).toArray E)) = .ok (.slice a2 (k + 1) c2) w4 ∧
          (Builtin.append_ #[T, T] ty3 #[u, .slice (some ⟨w4.heap.size, 0, none⟩) 1 1]).run Try.prog (w4.alloc (.cells #[.slice a2 (k + 1) c2] e)) = .ok (.slice a3 (xs.length + 1) c3) w5 ∧
          (w3.cell? ⟨kb, j + 1, none⟩ = some u ∧ (w3.alloc (.cells (mk xs.length).toArray E)).cell? ⟨kb, j + 1, none⟩ = some u ∧ w4.cell? ⟨kb, j + 1, none⟩ = some u ∧ (w4.alloc (.cells #[.slice a2 (k + 1) c2] e)).cell? ⟨kb, j + 1, none⟩ = some u) ∧
          (w5.cell? ⟨kb, j + 1, none⟩ = some u ∧ w5.frozen? ⟨kb, j + 1, none⟩ = false) ∧
          Added w B lab j e kb cs xs ys mk (.slice a k c) (w5.setCell ⟨kb, j + 1, none⟩ (.slice a3 (xs.length + 1) c3)) (.slice a1 (xs.length + 1) c1) (.slice a2 (k + 1) c2) (.slice a3 (xs.length + 1) c3) lab' := by
  have hlbl : lbl j xs.length ≥ 10 := by unfold lbl; omega
  have kblt := C.1
  have z1 : (w.alloc (.cells #[.slice a k c] e)).heap.size = w.heap.size + 1 := by simp
  -- the first row
  have L1 := lies_lit w #[Value.slice a k c] e
  obtain ⟨v1, w1, hr1, g1, gr1, m1⟩ := run_pushR ty.uT ty.ie rfl (by decide) (by decide) ty1 (w.alloc (.cells #[.slice a k c] e)) B v xs.length xs (GRow.below p.r1 (alloc_below _ _)) ⟨w.heap.size, 0, none⟩ 1 1 [.slice a k c] rfl L1 (by intro y hy; simp at hy; subst hy; rfl) (by omega) (by omega)
  obtain ⟨a1, c1, e1, _⟩ := GRow.lies g1
  subst e1
  have k1 : Keep (fun b => v.ownBlock = some b) w w1 := ((Keep.refl _ w).alloc _).grown gr1 (fun b q _ => q)
  have kb1 : ¬ v.ownBlock = some kb := fun q => by have := p.l1 kb q; omega
  have C1 := C.keep k1 kb1
  have v1own : ∀ g, (Value.slice a1 (xs.length + 1) c1).ownBlock = some g → (v.ownBlock = some g) ∨ g = w.heap.size + 1 := by
    intro g q
    rcases m1 with m | m
    · exact .inl (by rw [← m]; exact q)
    · rw [m] at q
      cases q
      exact .inr z1
  have v1lt : ∀ g, (Value.slice a1 (xs.length + 1) c1).ownBlock = some g → g < w1.heap.size := fun g q => (World.ownsRow.lt g1 g q).2
  refine ⟨a1, c1, w1, hr1, C1.get j v h1, ?_⟩
  intro w3 hb3
  have hjl : j < cs.length := (List.getElem?_eq_some_iff.1 h1).1
  have hjl2 : j + 1 < cs.length := (List.getElem?_eq_some_iff.1 h2).1
  have k2 : Keep (fun b => b = kb) w1 w3 := ((Keep.refl (fun b => b = kb) w1).setCell (fun _ => rfl) _).then_below hb3
  have C3 := (C1.stored hjl (.slice a1 (xs.length + 1) c1)).below hb3
  have s1 := k1.size
  have s3 := k2.size
  have ngv1 : ∀ g, (Value.slice a1 (xs.length + 1) c1).ownBlock = some g → ¬ g = kb := by
    intro g q e
    rcases v1own g q with h | h
    · exact kb1 (by rw [← e]; exact h)
    · omega
  have G3 := GRow.keep g1 k2 ngv1
  have hv1 := GRow.keep hv k1 (fun g q s => by have := lv g q; have := p.l1 g s; omega)
  have hv3 := GRow.keep hv1 k2 (fun g q s => by have e : g = kb := s; have := lv g q; rw [e] at this; omega)
  have r21 := GRow.keep p.r2 k1 (fun g q s => by have := p.l2 g q; have := p.l1 g s; omega)
  have r23 := GRow.keep r21 k2 (fun g q s => by have e : g = kb := s; have := p.l2 g q; rw [e] at this; omega)
  -- the longer list
  have L3 := lies_lit w3 (mk xs.length).toArray E
  have z3 : (w3.alloc (.cells (mk xs.length).toArray E)).heap.size = w3.heap.size + 1 := by simp
  obtain ⟨u0, w4, hr2, g2, gr2, m2, hold⟩ := run_moreR ty.ue ty.iE ty.hz ty.h0 ty.hb ty2 (w3.alloc (.cells (mk xs.length).toArray E)) B (.slice a k c) k _ (GRow.below hv3 (alloc_below _ _)) ⟨w3.heap.size, 0, none⟩ (mk xs.length) (by rw [hmk, Nat.one_mul]) (by simpa using L3) hm1 (by omega) (by omega)
  have hold := hold a c rfl
  obtain ⟨a2, c2, e2, li2, _⟩ := GRow.lies g2
  subst e2
  rw [← rep_succ] at g2 li2
  have k4 : Keep (fun b => (Value.slice a k c).ownBlock = some b) w3 w4 := ((Keep.refl _ w3).alloc _).grown gr2 (fun b q _ => q)
  have kbv : ¬ (Value.slice a k c).ownBlock = some kb := fun q => by have := lv kb q; omega
  have C4 := C3.keep k4 kbv
  have s4 := k4.size
  have vlt : ∀ g, (Value.slice a k c).ownBlock = some g → g < w.heap.size := fun g q => (World.ownsRow.lt hv g q).2
  have u0own : ∀ g, (Value.slice a2 (k + 1) c2).ownBlock = some g → ((Value.slice a k c).ownBlock = some g) ∨ g = w3.heap.size + 1 := by
    intro g q
    rcases m2 with m | m
    · exact .inl (by rw [← m]; exact q)
    · rw [m] at q
      cases q
      exact .inr z3
  have u0lt : ∀ g, (Value.slice a2 (k + 1) c2).ownBlock = some g → g < w4.heap.size := fun g q => (World.ownsRow.lt g2 g q).2
  have G4 := GRow.keep G3 k4 (fun g q s => by
    rcases v1own g q with h | h
    · have := p.l1 g h; have := lv g s; omega
    · have := vlt g s; omega)
  have r24 := GRow.keep r23 k4 (fun g q s => by have := p.l2 g q; have := lv g s; omega)
  -- the second row
  have L5 := lies_lit w4 #[Value.slice a2 (k + 1) c2] e
  have z5 : (w4.alloc (.cells #[.slice a2 (k + 1) c2] e)).heap.size = w4.heap.size + 1 := by simp
  have hyl := p.len
  obtain ⟨u1, w5, hr3, g3, gr3, m3⟩ := run_pushR ty.uT ty.ie rfl (by decide) (by decide) ty3 (w4.alloc (.cells #[.slice a2 (k + 1) c2] e)) B u ys.length ys (GRow.below r24 (alloc_below _ _)) ⟨w4.heap.size, 0, none⟩ 1 1 [.slice a2 (k + 1) c2] rfl L5 (by intro y hy; simp at hy; subst hy; rfl) (by omega) (by omega)
  obtain ⟨a3, c3, e3, _⟩ := GRow.lies g3
  rw [hyl] at e3
  subst e3
  have k5 : Keep (fun b => u.ownBlock = some b) w4 w5 := ((Keep.refl _ w4).alloc _).grown gr3 (fun b q _ => q)
  have kbu : ¬ u.ownBlock = some kb := fun q => by have := p.l2 kb q; omega
  have C5 := C4.keep k5 kbu
  have s5 := k5.size
  have ult : ∀ g, u.ownBlock = some g → g < w.heap.size := fun g q => (World.ownsRow.lt p.r2 g q).2
  have u1own : ∀ g, (Value.slice a3 (xs.length + 1) c3).ownBlock = some g → (u.ownBlock = some g) ∨ g = w4.heap.size + 1 := by
    intro g q
    rcases m3 with m | m
    · exact .inl (by rw [← m]; exact q)
    · rw [m] at q
      cases q
      exact .inr z5
  have G5 := GRow.keep G4 k5 (fun g q s => by
    rcases v1own g q with h | h
    · have := p.l1 g h; have := p.l2 g s; omega
    · have := ult g s; omega)
  have k6 : Keep (fun b => b = kb) w5 (w5.setCell ⟨kb, j + 1, none⟩ (.slice a3 (xs.length + 1) c3)) := (Keep.refl (fun b => b = kb) w5).setCell (fun _ => rfl) _
  have G6 := GRow.keep G5 k6 ngv1
  have ngu1 : ∀ g, (Value.slice a3 (xs.length + 1) c3).ownBlock = some g → ¬ g = kb := by
    intro g q e
    rcases u1own g q with h | h
    · exact kbu (by rw [← e]; exact h)
    · have := C4.1; omega
  have H6 := GRow.keep g3 k6 ngu1
  have C6 := C5.stored (by simpa using hjl2) (.slice a3 (xs.length + 1) c3) (j := j + 1)
  -- labels
  obtain ⟨lab', hlab⟩ : ∃ lab' : Nat → Nat, lab' = fun b => if b < w.heap.size then lab b else if (Value.slice a1 (xs.length + 1) c1).ownBlock = some b then j + 1 else if (Value.slice a3 (xs.length + 1) c3).ownBlock = some b then j + 2 else if (Value.slice a2 (k + 1) c2).ownBlock = some b then lbl j xs.length else 9 := ⟨_, rfl⟩
  have hold' : ∀ b, b < w.heap.size → lab' b = lab b := fun b hb => by rw [hlab]; exact if_pos hb
  have hnew : ∀ b, w.heap.size ≤ b → lab' b = j + 1 ∨ lab' b = j + 2 ∨ lab' b = lbl j xs.length ∨ lab' b = 9 := by
    intro b hb
    rw [hlab]
    simp only
    rw [if_neg (by omega)]
    split
    · exact .inl rfl
    · split
      · exact .inr (.inl rfl)
      · split
        · exact .inr (.inr (.inl rfl))
        · exact .inr (.inr (.inr rfl))
  have lv1 : ∀ g, (Value.slice a1 (xs.length + 1) c1).ownBlock = some g → lab' g = j + 1 := by
    intro g q
    by_cases hg : g < w.heap.size
    · rw [hold' g hg]
      rcases v1own g q with h | h
      · exact p.l1 g h
      · omega
    · rw [hlab]
      simp only
      rw [if_neg hg, if_pos q]
  have lu1 : ∀ g, (Value.slice a3 (xs.length + 1) c3).ownBlock = some g → lab' g = j + 2 := by
    intro g q
    by_cases hg : g < w.heap.size
    · rw [hold' g hg]
      rcases u1own g q with h | h
      · exact p.l2 g h
      · omega
    · rw [hlab]
      simp only
      rw [if_neg hg, if_neg, if_pos q]
      intro q'
      have := v1lt g q'
      rcases u1own g q with h | h
      · exact hg (ult g h)
      · omega
  have lu0 : ∀ g, (Value.slice a2 (k + 1) c2).ownBlock = some g → lab' g = lbl j xs.length := by
    intro g q
    by_cases hg : g < w.heap.size
    · rw [hold' g hg]
      rcases u0own g q with h | h
      · exact lv g h
      · omega
    · rw [hlab]
      simp only
      have hw3 : g = w3.heap.size + 1 := by
        rcases u0own g q with h | h
        · exact absurd (vlt g h) hg
        · exact h
      have hlt4 := u0lt g q
      rw [if_neg hg, if_neg, if_neg, if_pos q]
      · intro q'
        rcases u1own g q' with h | h
        · exact hg (ult g h)
        · omega
      · intro q'
        have := v1lt g q'
        omega
  have lv0 : ∀ g, (Value.slice a k c).ownBlock = some g → lab' g = lbl j xs.length := fun g q => (hold' g (vlt g q)).trans (lv g q)
  -- the whole
  have K6 : Keep (fun b => lab b = 0 ∨ lab b = j + 1 ∨ lab b = j + 2 ∨ lab b = lbl j xs.length) w (w5.setCell ⟨kb, j + 1, none⟩ (.slice a3 (xs.length + 1) c3)) := by
    refine ((((k1.mono (T := fun b => lab b = 0 ∨ lab b = j + 1 ∨ lab b = j + 2 ∨ lab b = lbl j xs.length) (fun b _ q => .inr (.inl (p.l1 b q)))).trans k2 (fun b _ q => ?_)).trans k4 (fun b _ q => ?_)).trans k5 (fun b _ q => ?_)).trans k6 (fun b _ q => ?_)
    · have e : b = kb := q
      rw [e]
      exact .inl lk
    · exact .inr (.inr (.inr (lv b q)))
    · exact .inr (.inr (.inl (p.l2 b q)))
    · have e : b = kb := q
      rw [e]
      exact .inl lk
  have c4 : w4.cell? ⟨kb, j + 1, none⟩ = some u := (C4.get (j + 1) u (by rw [List.getElem?_set_ne (by omega)]; exact h2)).1
  have c3' : w3.cell? ⟨kb, j + 1, none⟩ = some u := (C3.get (j + 1) u (by rw [List.getElem?_set_ne (by omega)]; exact h2)).1
  refine ⟨a2, c2, w4, a3, c3, w5, lab', hr2, hr3, ⟨c3', ((alloc_below w3 _).cell (p := ⟨kb, j + 1, none⟩) C3.1).trans c3', c4, ((alloc_below w4 _).cell (p := ⟨kb, j + 1, none⟩) C4.1).trans c4⟩, C5.get (j + 1) u (by rw [List.getElem?_set_ne (by omega)]; exact h2), hold', hnew, C6, ?_, K6⟩
  refine ⟨by simpa using G6, by simpa [hyl] using H6, lv1, lu1, by simp [hyl], ?_⟩
  intro i hi hi'
  by_cases hlt : i < xs.length
  · rw [List.getElem_append_left hlt, List.getElem_append_left (by omega)]
    refine (p.ent i hlt (by omega)).keep K6 ?_ hold'
    intro b hb hL
    have : lbl j i ≥ 10 := by unfold lbl; omega
    have : lbl j i ≠ lbl j xs.length := by unfold lbl; omega
    omega
  · have hie : i = xs.length := by simp at hi; omega
    subst hie
    have hg1 : (xs ++ [Value.slice a k c])[xs.length]'hi = .slice a k c := by simp
    have hg2 : (ys ++ [Value.slice a2 (k + 1) c2])[xs.length]'hi' = .slice a2 (k + 1) c2 := by
      rw [List.getElem_append_right (by omega)]
      simp [hyl]
    rw [hg1, hg2]
    have n5 : ∀ g, (Value.slice a k c).ownBlock = some g → ¬ u.ownBlock = some g := fun g q s => by have := p.l2 g s; have := lv g q; omega
    have n6 : ∀ g, (Value.slice a k c).ownBlock = some g → ¬ g = kb := fun g q s => by rw [s] at q; exact kbv q
    have o5 : ∀ g, (Value.slice a2 (k + 1) c2).ownBlock = some g → ¬ u.ownBlock = some g := fun g q s => by
      rcases u0own g q with h | h
      · exact n5 g h s
      · have := ult g s; omega
    have o6 : ∀ g, (Value.slice a2 (k + 1) c2).ownBlock = some g → ¬ g = kb := fun g q s => by
      rcases u0own g q with h | h
      · exact n6 g h s
      · have := C3.1; omega
    refine ⟨a, k, c, a2, c2, rfl, rfl, LiesL.of ((hold.keep k5 (fun ad q => n5 _ (own_addr q))).keep k6 (fun ad q => n6 _ (own_addr q))) (fun ad q => lv0 _ (own_addr q)), LiesL.of ((li2.keep k5 (fun ad q => o5 _ (own_addr q))).keep k6 (fun ad q => o6 _ (own_addr q))) (fun ad q => lu0 _ (own_addr q)), hk⟩
end Go.Proofs.Ytlibldioliicfaa
namespace Go.Proofs.Ytlibldioliicfaa
open Go.RowKit Go.QK
set_option maxRecDepth 100000
def mkB (i : Nat) : List Value := [.int .u8 (((3 * i + 1) % 256 : Nat) : Int)]
def mkL (i : Nat) : List Value := [.int .i64 ((i : Int) + 1000000), .int .i64 0, .bool false, .bool false]
def mkD (i : Nat) : List Value := [.int .i64 ((i : Int) + 1000000), .int .i64 0]
/-- The book: what was handed out. 'lab' says of each block whose it is: 0 the book itself, 1 to 6 its rows, from 10 on a list's, 9 nobody's. -/
structure Bk (w : World) (B : Nat) (lab : Nat → Nat) (kb n m : Nat) (vB uB vL uL vD uD : Value) (xB yB xL yL xD yD : List Value) : Prop where
  cells : Cells w kb [vB, uB, vL, uL, vD, uD]
  lk : lab kb = 0
  pB : Pr w B lab 0 22 vB uB xB yB mkB
  pL : Pr w B lab 2 31 vL uL xL yL mkL
  pD : Pr w B lab 4 32 vD uD xD yD mkD
  nB : xB.length = n
  nL : xL.length = m
  nD : xD.length = m
  sz : B ≤ w.heap.size
  hi : ∀ b, w.heap.size ≤ b → lab b = 9
def BkE (w : World) (B : Nat) (lab : Nat → Nat) (kb n m : Nat) : Prop := ∃ vB uB vL uL vD uD xB yB xL yL xD yD, Bk w B lab kb n m vB uB vL uL vD uD xB yB xL yL xD yD
theorem Bk.keep {S : Nat → Prop} {w w' : World} {B : Nat} {lab : Nat → Nat} {kb n m : Nat} {vB uB vL uL vD uD : Value} {xB yB xL yL xD yD : List Value} (h : Bk w B lab kb n m vB uB vL uL vD uD xB yB xL yL xD yD) (hk : Keep S w w') (hS : ∀ b, b < w.heap.size → S b → lab b = 9) : Bk w' B lab kb n m vB uB vL uL vD uD xB yB xL yL xD yD := by
  have hl : ∀ b, b < w.heap.size → lab b = lab b := fun _ _ => rfl
  have h9 : ∀ j, j ≤ 4 → ∀ N b, b < w.heap.size → S b → lab b ≠ j + 1 ∧ lab b ≠ j + 2 ∧ ∀ i, i < N → lab b ≠ lbl j i := by
    intro j hj N b hb s
    have := hS b hb s
    refine ⟨by omega, by omega, fun i _ => ?_⟩
    unfold lbl
    omega
  exact ⟨h.cells.keep hk (fun s => by have := hS _ h.cells.1 s; have := h.lk; omega), h.lk, h.pB.keep hk (h9 0 (by omega) _) hl, h.pL.keep hk (h9 2 (by omega) _) hl, h.pD.keep hk (h9 4 (by omega) _) hl, h.nB, h.nL, h.nD, Nat.le_trans h.sz hk.size, fun b hb => h.hi b (Nat.le_trans hk.size hb)⟩
theorem BkE.keep {S : Nat → Prop} {w w' : World} {B : Nat} {lab : Nat → Nat} {kb n m : Nat} (h : BkE w B lab kb n m) (hk : Keep S w w') (hS : ∀ b, b < w.heap.size → S b → lab b = 9) : BkE w' B lab kb n m := by
  obtain ⟨vB, uB, vL, uL, vD, uD, xB, yB, xL, yL, xD, yD, h⟩ := h
  exact ⟨vB, uB, vL, uL, vD, uD, xB, yB, xL, yL, xD, yD, h.keep hk hS⟩
theorem BkE.below {w w' : World} {B : Nat} {lab : Nat → Nat} {kb n m : Nat} (h : BkE w B lab kb n m) (hk : Below w.heap.size w w') : BkE w' B lab kb n m :=
  h.keep (Keep.of_below (S := fun _ => False) hk) (fun _ _ s => s.elim)
/-- A block that is nobody's gets a label. -/
theorem Bk.relabel {w : World} {B : Nat} {lab : Nat → Nat} {kb n m : Nat} {vB uB vL uL vD uD : Value} {xB yB xL yL xD yD : List Value} (h : Bk w B lab kb n m vB uB vL uL vD uD xB yB xL yL xD yD) (v : Value) (L : Nat) (hv : ∀ g, v.ownBlock = some g → lab g = 9 ∧ g < w.heap.size) :
    Bk w B (fun b => if v.ownBlock = some b then L else lab b) kb n m vB uB vL uL vD uD xB yB xL yL xD yD := by
  have hn : ∀ b, lab b ≠ 9 → (if v.ownBlock = some b then L else lab b) = lab b := fun b hb => if_neg (fun q => hb (hv b q).1)
  have he : ∀ {N : Nat} {x y : Value} {mk : List Value}, N ≠ 9 → Ent w lab N x y mk → Ent w (fun b => if v.ownBlock = some b then L else lab b) N x y mk := by
    rintro N x y mk hN ⟨a, k, c, a', c', e1, e2, l1, l2, hk⟩
    have hLL : ∀ {a : Option Addr} {cs : List Value}, LiesL w lab N a cs → LiesL w (fun b => if v.ownBlock = some b then L else lab b) N a cs := by
      rintro a cs (q | ⟨b, off, q1, q2, q3, q4⟩)
      · exact .inl q
      · exact .inr ⟨b, off, q1, q2, (hn b (by omega)).trans q3, q4⟩
    exact ⟨a, k, c, a', c', e1, e2, hLL l1, hLL l2, hk⟩
  have hp : ∀ {j : Nat} {e : TypeId} {v1 u1 : Value} {xs ys : List Value} {mk : Nat → List Value}, j ≤ 4 → Pr w B lab j e v1 u1 xs ys mk → Pr w B (fun b => if v.ownBlock = some b then L else lab b) j e v1 u1 xs ys mk := by
    intro j e v1 u1 xs ys mk hj p
    exact ⟨p.r1, p.r2, fun g q => (hn g (by have := p.l1 g q; omega)).trans (p.l1 g q), fun g q => (hn g (by have := p.l2 g q; omega)).trans (p.l2 g q), p.len, fun i h1 h2 => he (by unfold lbl; omega) (p.ent i h1 h2)⟩
  exact ⟨h.cells, (hn kb (by have := h.lk; omega)).trans h.lk, hp (by omega) h.pB, hp (by omega) h.pL, hp (by omega) h.pD, h.nB, h.nL, h.nD, h.sz, fun b hb => (if_neg (fun q => by have := (hv b q).2; omega)).trans (h.hi b hb)⟩
theorem marks_step (l : List Nat) (m q : Nat) (h : q < l.length) : (List.replicate q m ++ l.drop q).set q m = List.replicate (q + 1) m ++ l.drop (q + 1) := by
  rw [List.set_append_right _ _ (by simp), List.length_replicate, Nat.sub_self, List.drop_eq_getElem_cons h, List.set_cons_zero, List.replicate_succ']
  simp
theorem rep_bytes (k m : Nat) : (ints (List.replicate k m)).map (Value.int .u8) = rep k [.int .u8 (m : Int)] := by
  induction k with
  | zero => rfl
  | succ k ih =>
    rw [rep_succ, ← ih, List.replicate_succ', ints_append]
    simp [ints]
/-- What a call of the book's does: the lists that came in belong to it then. -/
structure Kept (w : World) (B : Nat) (lab : Nat → Nat) (kb n m : Nat) (own : Nat → Prop) (w' : World) (lab' : Nat → Nat) : Prop where
  old : ∀ b, b < w.heap.size → ¬ own b → lab' b = lab b
  bk : BkE w' B lab' kb n m
  keep : Keep (fun b => lab b ≠ 9 ∨ own b) w w'
theorem bytes_done {w wr w6 : World} {B : Nat} {lab lab2 lab3 : Nat → Nat} {kb n m : Nat} {a : Option Addr} {k c : Nat} {vB uB vL uL vD uD v1 u0 u1 : Value} {xB yB xL yL xD yD : List Value} (h : Bk w B lab2 kb n m vB uB vL uL vD uD xB yB xL yL xD yD) (hk : Keep (fun b => (Value.slice a k c).ownBlock = some b) w wr)
    (ln2 : ∀ b, ¬ (Value.slice a k c).ownBlock = some b → lab2 b = lab b)
    (A : Added wr B lab2 0 22 kb [vB, uB, vL, uL, vD, uD] xB yB mkB (.slice a k c) w6 v1 u0 u1 lab3) (pL : Pr wr B lab2 2 31 vL uL xL yL mkL) (pD : Pr wr B lab2 4 32 vD uD xD yD mkD) :
    ∃ lab', Kept w B lab kb (n + 1) m (fun b => (Value.slice a k c).ownBlock = some b) w6 lab' := by
  have hs := hk.size
  have h6 := A.keep.size
  have hnB := h.nB
  refine ⟨fun b => if b < w6.heap.size then lab3 b else 9, ?_, ?_, ?_⟩
  · intro b hb hn
    show (if b < w6.heap.size then lab3 b else 9) = lab b
    rw [if_pos (by omega), A.old b (by omega), ln2 b hn]
  · have agree : ∀ b, b < w6.heap.size → (fun b => if b < w6.heap.size then lab3 b else 9) b = lab3 b := fun b hb => if_pos hb
    have agr : ∀ b, b < wr.heap.size → (fun b => if b < w6.heap.size then lab3 b else 9) b = lab2 b := fun b hb => (if_pos (by omega)).trans (A.old b hb)
    refine ⟨v1, u1, vL, uL, vD, uD, xB ++ [.slice a k c], yB ++ [u0], xL, yL, xD, yD, ?_, ?_, ?_, ?_, ?_, ?_, h.nL, h.nD, ?_, ?_⟩
    · exact A.cells
    · have := h.cells.1
      exact (agr kb (by omega)).trans h.lk
    · exact A.pr.keep (Keep.refl (fun _ => False) _) (fun _ _ s => s.elim) agree
    · refine pL.keep A.keep (fun b hb s => ?_) agr
      refine ⟨by unfold lbl at *; omega, by unfold lbl at *; omega, fun i hi => ?_⟩
      unfold lbl at *
      omega
    · refine pD.keep A.keep (fun b hb s => ?_) agr
      refine ⟨by unfold lbl at *; omega, by unfold lbl at *; omega, fun i hi => ?_⟩
      unfold lbl at *
      omega
    · simp [hnB]
    · have := h.sz
      omega
    · intro b hb
      exact if_neg (by omega)
  · refine (hk.mono (T := fun b => lab b ≠ 9 ∨ (Value.slice a k c).ownBlock = some b) (fun b _ q => .inr q)).trans A.keep (fun b hb q => ?_)
    by_cases hq : (Value.slice a k c).ownBlock = some b
    · exact .inr hq
    · refine .inl ?_
      rw [← ln2 b hq]
      unfold lbl at q
      omega
set_option maxHeartbeats 0 in
theorem bytes_any (w : World) (B : Nat) (lab : Nat → Nat) (kb n m : Nat) (h : BkE w B lab kb n m) (hn : n ≤ 100000) (a : Option Addr) (c : Nat) (l : List Nat) (hv : OwnB w B (.slice a l.length c) l) (hl : l.length ≤ 1000000) (lv : ∀ g, (Value.slice a l.length c).ownBlock = some g → lab g = 9) :
    Calls Try.prog 36 #[.pointer (some ⟨kb, 0, none⟩), .slice a l.length c] w fun e w' => e = .returned (.tuple #[]) ∧ ∃ lab', Kept w B lab kb (n + 1) m (fun b => (Value.slice a l.length c).ownBlock = some b) w' lab' := by
  obtain ⟨vB, uB, vL, uL, vD, uD, xB, yB, xL, yL, xD, yD, h⟩ := h
  have vlt : ∀ g, (Value.slice a l.length c).ownBlock = some g → g < w.heap.size := fun g q => (World.ownsRow.lt hv g q).2
  have h2 := h.relabel (.slice a l.length c) (lbl 0 n) (fun g q => ⟨lv g q, vlt g q⟩)
  obtain ⟨lab2, hlab2⟩ : ∃ lab2 : Nat → Nat, lab2 = fun b => if (Value.slice a l.length c).ownBlock = some b then lbl 0 n else lab b := ⟨_, rfl⟩
  rw [← hlab2] at h2
  have lv2 : ∀ g, (Value.slice a l.length c).ownBlock = some g → lab2 g = lbl 0 n := fun g q => by rw [hlab2]; exact if_pos q
  have ln2 : ∀ b, ¬ (Value.slice a l.length c).ownBlock = some b → lab2 b = lab b := fun b q => by rw [hlab2]; exact if_neg q
  clear hlab2 h lv
  obtain ⟨aB, cB, eB, _⟩ := GRow.lies h2.pB.r1
  rw [h2.nB] at eB
  subst eB
  obtain ⟨mm, hmm⟩ : ∃ mm, mm = (3 * n + 1) % 256 := ⟨_, rfl⟩
  have e1 : IntKind.i64.wrap (3 * (n : Int)) = 3 * (n : Int) := by rw [IntKind.wrap_i64]; omega
  have e2 : IntKind.i64.wrap (3 * (n : Int) + 1) = 3 * (n : Int) + 1 := by rw [IntKind.wrap_i64]; omega
  have e3 : IntKind.u8.wrap (3 * (n : Int) + 1) = (mm : Int) := by rw [IntKind.wrap_u8]; omega
  have hmk : mkB xB.length = [.int .u8 (mm : Int)] := by unfold mkB; rw [h2.nB, ← hmm]
  clear hmm
  obtain ⟨k0, f0⟩ := h2.cells.get 0 _ rfl
  have H2 := hide h2
  have HV := hide hv
  have HMK := hide hmk
  clear h2 hv hmk
  go_enter Try.func36, Try.ntmps36
  go_wp2_with fail
  clear k0 f0 e1 e2 e3
  go_loopw [5] (fun i wr => ∃ q : Nat, i = .int .i64 (q : Int) ∧ q ≤ l.length ∧ OwnB wr B (.slice a l.length c) (List.replicate q mm ++ l.drop q) ∧ Keep (fun b => (Value.slice a l.length c).ownBlock = some b) w wr) (fun i _ => l.length - (intOf i).toNat)
  case atStart => exact ⟨0, rfl, by omega, by simpa using HV.out, Keep.refl _ _⟩
  case round =>
    obtain ⟨q, rfl, hq, ho, hk⟩ := hrel
    have HO := hide ho
    clear ho
    by_cases hlt : q < l.length
    · have d1 : decide ((q : Int) < (l.length : Int)) = true := decide_eq_true (by omega)
      have d2 : (q : Int) < (l.length : Int) := by omega
      have ew : IntKind.i64.wrap ((q : Int) + 1) = (q : Int) + 1 := by rw [IntKind.wrap_i64]; omega
      obtain ⟨g, c1, e1, _⟩ := Owns.form HO.out (by rw [ints_length]; simp; omega)
      simp only [Value.slice.injEq] at e1
      obtain ⟨rfl, -, rfl⟩ := e1
      have fz := Owns.frozen HO.out q
      obtain ⟨b1, off1, e2, _, hcell⟩ := Bytes.at (Owns.seen_at HO.out) (i := q) (by simp; omega)
      cases e2
      rw [Nat.zero_add] at hcell
      obtain ⟨y0, hy0⟩ : ∃ y0, y0 = (List.replicate q mm ++ l.drop q).getD q 0 := ⟨_, rfl⟩
      rw [← hy0] at hcell
      clear hy0
      have st := Owns.stored HO.out q (mm : Int)
      rw [← ints_set, marks_step l mm q hlt] at st
      have HST := hide st
      have kk := hk.setCell (g := g) (j := q) (fun _ => rfl) (.int .u8 (mm : Int))
      have HKK := hide kk
      clear st kk HO hk
      go_wp2_with fail
      go_roundw
      case rel => exact ⟨q + 1, by go_num, by omega, HST.out, HKK.out⟩
      case measure => simp [intOf]; omega
    · have d1 : decide ((q : Int) < (l.length : Int)) = false := decide_eq_false (by omega)
      have hql : q = l.length := by omega
      have ho := HO.out
      rw [hql, List.drop_length, List.append_nil] at ho
      have hg : GRow wr B 5 1 (.slice a l.length c) l.length (rep l.length (mkB xB.length)) := by
        have q := ho
        unfold OwnB Owns at q
        rw [rep_bytes, ints_length, List.length_replicate, ← HMK.out] at q
        exact q
      clear ho HO hql
      have H0 := H2.out
      have hk2 : Keep (fun b => (Value.slice a l.length c).ownBlock = some b) w wr := hk
      have Cr : Cells wr kb [.slice aB n cB, uB, vL, uL, vD, uD] := H0.cells.keep hk (fun s => by have := lv2 _ s; have := H0.lk; unfold lbl at *; omega)
      have pBr : Pr wr B lab2 0 22 (.slice aB n cB) uB xB yB mkB := H0.pB.keep hk (fun b hb s => by
        have := lv2 b s
        refine ⟨by unfold lbl at *; omega, by unfold lbl at *; omega, fun i hi => ?_⟩
        have := H0.nB
        unfold lbl at *
        omega) (fun _ _ => rfl)
      have pLr : Pr wr B lab2 2 31 vL uL xL yL mkL := H0.pL.keep hk (fun b hb s => by
        have := lv2 b s
        refine ⟨by unfold lbl at *; omega, by unfold lbl at *; omega, fun i hi => ?_⟩
        unfold lbl at *
        omega) (fun _ _ => rfl)
      have pDr : Pr wr B lab2 4 32 vD uD xD yD mkD := H0.pD.keep hk (fun b hb s => by
        have := lv2 b s
        refine ⟨by unfold lbl at *; omega, by unfold lbl at *; omega, fun i hi => ?_⟩
        unfold lbl at *
        omega) (fun _ _ => rfl)
      have hsz : B ≤ wr.heap.size := Nat.le_trans H0.sz hk.size
      obtain ⟨a1, c1, w1, hr1, ⟨kz, fz⟩, hall⟩ := Pr.add ty53 (j := 0) (kb := kb) (cs := [.slice aB n cB, uB, vL, uL, vD, uD]) Cr rfl rfl pBr H0.lk hg (fun g q => by rw [H0.nB]; exact lv2 g q) (by rw [HMK.out]; rfl) (by rw [HMK.out]; intro y hy; simp at hy; subst hy; rfl) hl (by have := H0.nB; omega) hsz (by omega) 53 22 53
      have k0 := (Cr.get 0 _ rfl).1
      have xl := H0.nB
      rw [xl] at hr1 hall
      have hmn := HMK.out
      rw [xl] at hmn
      have HMN := hide hmn
      clear hmn xl
      have HR1 := hide hr1
      have HALL := hide hall
      clear hr1 hall
      go_wp2_with (at_builtin; refine wpList_run rfl (.tmp 28) (.tmp 30) rfl rfl rfl HR1.out ?_)
      obtain ⟨a2, c2, w4, a3, c3, w5, lab3, hr2, hr3, hcs, ⟨kz5, fz5⟩, had⟩ := HALL.out _ (Below.refl _ _).drew
      clear HR1 HALL
      go_upto_region 6 with fail
      have AD := hide had
      have HCS := hide hcs
      rw [HMN.out] at hr2 HCS
      have HR2 := hide hr2
      have HR3 := hide hr3
      clear hr2 hr3 hcs had kz fz k0
      refine wp_region_held_drew (S := fun _ => True) (by kernel_rfl) trivial (fun _ => ?_)
      generalize (w1.setCell ⟨kb, 0, none⟩ (.slice a1 (n + 1) c1)).drew = we at *
      refine take_at 0 (some 34) (v := ?_) rfl rfl (by kernel_rfl) (by kernel_rfl) (by kernel_rfl) (fun _ _ _ h => h) ⟨by rfl, ?_⟩ trivial ?_
      rotate_left
      · intro wq _; go_simp; try rfl
      simp only [Act.put, List.setIfInBounds_toArray, List.set_cons_zero, List.set_cons_succ]
      refine take_at 1 (some 35) (v := ?_) rfl rfl (by kernel_rfl) (by kernel_rfl) (by kernel_rfl) (fun _ _ _ h => h) ⟨by rfl, ?_⟩ trivial ?_
      rotate_left
      · intro wq _; go_simp; try rfl
      simp only [Act.put, List.setIfInBounds_toArray, List.set_cons_zero, List.set_cons_succ]
      refine take_at 2 (some 36) (v := ?_) rfl rfl (by kernel_rfl) (by kernel_rfl) (by kernel_rfl) (fun _ _ _ h => h) ⟨by rfl, ?_⟩ trivial ?_
      rotate_left
      · intro wq _; go_simp; try rfl
      simp only [Act.put, List.setIfInBounds_toArray, List.set_cons_zero, List.set_cons_succ]
      refine take_at 3 (some 37) (v := ?_) rfl rfl (by kernel_rfl) (by kernel_rfl) (by kernel_rfl) (fun _ _ _ h => h) ⟨by rfl, ?_⟩ trivial ?_
      rotate_left
      · intro wq _; go_simp; try rfl
      simp only [Act.put, List.setIfInBounds_toArray, List.set_cons_zero, List.set_cons_succ]
      refine take_at 5 (some 39) (v := ?_) rfl rfl (by kernel_rfl) (by kernel_rfl) (by kernel_rfl) (fun _ _ _ h => h) ⟨by rfl, ?_⟩ trivial ?_
      rotate_left
      · intro wq _; go_simp; try rfl
      simp only [Act.put, List.setIfInBounds_toArray, List.set_cons_zero, List.set_cons_succ]
      refine take_at 6 (some 40) (v := ?_) rfl rfl (by kernel_rfl) (by kernel_rfl) (by kernel_rfl) (fun _ _ _ h => h) ⟨by rfl, ?_⟩ trivial ?_
      rotate_left
      · intro wq _; go_simp; try rfl
      simp only [Act.put, List.setIfInBounds_toArray, List.set_cons_zero, List.set_cons_succ]
      refine wpAnyH_ready (rs := [4, 7]) (by kernel_rfl) (by simp) ?_
      refine AllReadyH.cons rfl (fun K hK => ?_) (AllReadyH.cons rfl (fun K hK => ?_) AllReadyH.nil)
      · have cl := HCS.out.1
        go_simp
        go_wp2_with fail
        refine hK.out _ _ trivial (fun _ => ?_)
        clear hK K
        (try simp only [Act.put, List.setIfInBounds_toArray, List.set_cons_zero, List.set_cons_succ])
        clear cl
        refine wpAnyH_ready (rs := [7]) (by kernel_rfl) (by simp) ?_
        refine AllReadyH.cons rfl (fun K hK => ?_) AllReadyH.nil
        go_simp
        (try go_wp2_with fail)
        refine hK.out _ _ trivial (fun _ => ?_)
        clear hK K
        (try simp only [Act.put, List.setIfInBounds_toArray, List.set_cons_zero, List.set_cons_succ])
        refine wpAnyH_ready (rs := [8]) (by kernel_rfl) (by simp) ?_
        refine AllReadyH.cons rfl (fun K hK => ?_) AllReadyH.nil
        refine wp_run 42 (.tmp 39) (.tmp 41) rfl rfl rfl rfl rfl HR2.out ?_
        refine hK.out _ _ trivial (fun _ => ?_)
        clear hK K
        (try simp only [Act.put, List.setIfInBounds_toArray, List.set_cons_zero, List.set_cons_succ])
        refine wpAnyH_ready (rs := [9]) (by kernel_rfl) (by simp) ?_
        refine AllReadyH.cons rfl (fun K hK => ?_) AllReadyH.nil
        go_simp
        (try go_wp2_with fail)
        refine hK.out _ _ trivial (fun _ => ?_)
        clear hK K
        (try simp only [Act.put, List.setIfInBounds_toArray, List.set_cons_zero, List.set_cons_succ])
        refine wpAnyH_ready (rs := [10]) (by kernel_rfl) (by simp) ?_
        refine AllReadyH.cons rfl (fun K hK => ?_) AllReadyH.nil
        refine wp_run 44 (.tmp 38) (.tmp 43) rfl rfl rfl rfl rfl HR3.out ?_
        refine hK.out _ _ trivial (fun _ => ?_)
        clear hK K
        (try simp only [Act.put, List.setIfInBounds_toArray, List.set_cons_zero, List.set_cons_succ])
        refine take_at 11 (some 45) (v := ?_) rfl rfl (by kernel_rfl) (by kernel_rfl) (by kernel_rfl) (fun _ _ _ h => h) ⟨by rfl, ?_⟩ trivial ?_
        rotate_left
        · intro wq _; go_simp; try rfl
        simp only [Act.put, List.setIfInBounds_toArray, List.set_cons_zero, List.set_cons_succ]
        refine take_at 12 (some 46) (v := ?_) rfl rfl (by kernel_rfl) (by kernel_rfl) (by kernel_rfl) (fun _ _ _ h => h) ⟨by rfl, ?_⟩ trivial ?_
        rotate_left
        · intro wq _; go_simp; try rfl
        simp only [Act.put, List.setIfInBounds_toArray, List.set_cons_zero, List.set_cons_succ]
        refine wpAnyH_ready (rs := [13]) (by kernel_rfl) (by simp) ?_
        refine AllReadyH.cons rfl (fun K hK => ?_) AllReadyH.nil
        go_simp
        go_wp2_with fail
        refine hK.out _ _ trivial (fun _ => ?_)
        clear hK K
        (try simp only [Act.put, List.setIfInBounds_toArray, List.set_cons_zero, List.set_cons_succ])
        refine wpAnyH_done (by kernel_rfl) ?_ _
        clear kz5 fz5
        go_wp2_with fail
        go_end0
        refine ⟨rfl, bytes_done H2.out hk ln2 AD.out pLr pDr⟩
      · go_simp
        (try go_wp2_with fail)
        refine hK.out _ _ trivial (fun _ => ?_)
        clear hK K
        (try simp only [Act.put, List.setIfInBounds_toArray, List.set_cons_zero, List.set_cons_succ])
        refine wpAnyH_ready (rs := [4, 8]) (by kernel_rfl) (by simp) ?_
        refine AllReadyH.cons rfl (fun K hK => ?_) (AllReadyH.cons rfl (fun K hK => ?_) AllReadyH.nil)
        · have cl := HCS.out.2.1
          go_simp
          go_wp2_with fail
          refine hK.out _ _ trivial (fun _ => ?_)
          clear hK K
          (try simp only [Act.put, List.setIfInBounds_toArray, List.set_cons_zero, List.set_cons_succ])
          clear cl
          refine wpAnyH_ready (rs := [8]) (by kernel_rfl) (by simp) ?_
          refine AllReadyH.cons rfl (fun K hK => ?_) AllReadyH.nil
          refine wp_run 42 (.tmp 39) (.tmp 41) rfl rfl rfl rfl rfl HR2.out ?_
          refine hK.out _ _ trivial (fun _ => ?_)
          clear hK K
          (try simp only [Act.put, List.setIfInBounds_toArray, List.set_cons_zero, List.set_cons_succ])
          refine wpAnyH_ready (rs := [9]) (by kernel_rfl) (by simp) ?_
          refine AllReadyH.cons rfl (fun K hK => ?_) AllReadyH.nil
          go_simp
          (try go_wp2_with fail)
          refine hK.out _ _ trivial (fun _ => ?_)
          clear hK K
          (try simp only [Act.put, List.setIfInBounds_toArray, List.set_cons_zero, List.set_cons_succ])
          refine wpAnyH_ready (rs := [10]) (by kernel_rfl) (by simp) ?_
          refine AllReadyH.cons rfl (fun K hK => ?_) AllReadyH.nil
          refine wp_run 44 (.tmp 38) (.tmp 43) rfl rfl rfl rfl rfl HR3.out ?_
          refine hK.out _ _ trivial (fun _ => ?_)
          clear hK K
          (try simp only [Act.put, List.setIfInBounds_toArray, List.set_cons_zero, List.set_cons_succ])
          refine take_at 11 (some 45) (v := ?_) rfl rfl (by kernel_rfl) (by kernel_rfl) (by kernel_rfl) (fun _ _ _ h => h) ⟨by rfl, ?_⟩ trivial ?_
          rotate_left
          · intro wq _; go_simp; try rfl
          simp only [Act.put, List.setIfInBounds_toArray, List.set_cons_zero, List.set_cons_succ]
          refine take_at 12 (some 46) (v := ?_) rfl rfl (by kernel_rfl) (by kernel_rfl) (by kernel_rfl) (fun _ _ _ h => h) ⟨by rfl, ?_⟩ trivial ?_
          rotate_left
          · intro wq _; go_simp; try rfl
          simp only [Act.put, List.setIfInBounds_toArray, List.set_cons_zero, List.set_cons_succ]
          refine wpAnyH_ready (rs := [13]) (by kernel_rfl) (by simp) ?_
          refine AllReadyH.cons rfl (fun K hK => ?_) AllReadyH.nil
          go_simp
          go_wp2_with fail
          refine hK.out _ _ trivial (fun _ => ?_)
          clear hK K
          (try simp only [Act.put, List.setIfInBounds_toArray, List.set_cons_zero, List.set_cons_succ])
          refine wpAnyH_done (by kernel_rfl) ?_ _
          clear kz5 fz5
          go_wp2_with fail
          go_end0
          refine ⟨rfl, bytes_done H2.out hk ln2 AD.out pLr pDr⟩
        · refine wp_run 42 (.tmp 39) (.tmp 41) rfl rfl rfl rfl rfl HR2.out ?_
          refine hK.out _ _ trivial (fun _ => ?_)
          clear hK K
          (try simp only [Act.put, List.setIfInBounds_toArray, List.set_cons_zero, List.set_cons_succ])
          refine wpAnyH_ready (rs := [4, 9]) (by kernel_rfl) (by simp) ?_
          refine AllReadyH.cons rfl (fun K hK => ?_) (AllReadyH.cons rfl (fun K hK => ?_) AllReadyH.nil)
          · have cl := HCS.out.2.2.1
            go_simp
            go_wp2_with fail
            refine hK.out _ _ trivial (fun _ => ?_)
            clear hK K
            (try simp only [Act.put, List.setIfInBounds_toArray, List.set_cons_zero, List.set_cons_succ])
            clear cl
            refine wpAnyH_ready (rs := [9]) (by kernel_rfl) (by simp) ?_
            refine AllReadyH.cons rfl (fun K hK => ?_) AllReadyH.nil
            go_simp
            (try go_wp2_with fail)
            refine hK.out _ _ trivial (fun _ => ?_)
            clear hK K
            (try simp only [Act.put, List.setIfInBounds_toArray, List.set_cons_zero, List.set_cons_succ])
            refine wpAnyH_ready (rs := [10]) (by kernel_rfl) (by simp) ?_
            refine AllReadyH.cons rfl (fun K hK => ?_) AllReadyH.nil
            refine wp_run 44 (.tmp 38) (.tmp 43) rfl rfl rfl rfl rfl HR3.out ?_
            refine hK.out _ _ trivial (fun _ => ?_)
            clear hK K
            (try simp only [Act.put, List.setIfInBounds_toArray, List.set_cons_zero, List.set_cons_succ])
            refine take_at 11 (some 45) (v := ?_) rfl rfl (by kernel_rfl) (by kernel_rfl) (by kernel_rfl) (fun _ _ _ h => h) ⟨by rfl, ?_⟩ trivial ?_
            rotate_left
            · intro wq _; go_simp; try rfl
            simp only [Act.put, List.setIfInBounds_toArray, List.set_cons_zero, List.set_cons_succ]
            refine take_at 12 (some 46) (v := ?_) rfl rfl (by kernel_rfl) (by kernel_rfl) (by kernel_rfl) (fun _ _ _ h => h) ⟨by rfl, ?_⟩ trivial ?_
            rotate_left
            · intro wq _; go_simp; try rfl
            simp only [Act.put, List.setIfInBounds_toArray, List.set_cons_zero, List.set_cons_succ]
            refine wpAnyH_ready (rs := [13]) (by kernel_rfl) (by simp) ?_
            refine AllReadyH.cons rfl (fun K hK => ?_) AllReadyH.nil
            go_simp
            go_wp2_with fail
            refine hK.out _ _ trivial (fun _ => ?_)
            clear hK K
            (try simp only [Act.put, List.setIfInBounds_toArray, List.set_cons_zero, List.set_cons_succ])
            refine wpAnyH_done (by kernel_rfl) ?_ _
            clear kz5 fz5
            go_wp2_with fail
            go_end0
            refine ⟨rfl, bytes_done H2.out hk ln2 AD.out pLr pDr⟩
          · go_simp
            (try go_wp2_with fail)
            refine hK.out _ _ trivial (fun _ => ?_)
            clear hK K
            (try simp only [Act.put, List.setIfInBounds_toArray, List.set_cons_zero, List.set_cons_succ])
            refine wpAnyH_ready (rs := [4]) (by kernel_rfl) (by simp) ?_
            refine AllReadyH.cons rfl (fun K hK => ?_) AllReadyH.nil
            have cl := HCS.out.2.2.2
            go_simp
            go_wp2_with fail
            refine hK.out _ _ trivial (fun _ => ?_)
            clear hK K
            (try simp only [Act.put, List.setIfInBounds_toArray, List.set_cons_zero, List.set_cons_succ])
            clear cl
            refine wpAnyH_ready (rs := [10]) (by kernel_rfl) (by simp) ?_
            refine AllReadyH.cons rfl (fun K hK => ?_) AllReadyH.nil
            refine wp_run 44 (.tmp 38) (.tmp 43) rfl rfl rfl rfl rfl HR3.out ?_
            refine hK.out _ _ trivial (fun _ => ?_)
            clear hK K
            (try simp only [Act.put, List.setIfInBounds_toArray, List.set_cons_zero, List.set_cons_succ])
            refine take_at 11 (some 45) (v := ?_) rfl rfl (by kernel_rfl) (by kernel_rfl) (by kernel_rfl) (fun _ _ _ h => h) ⟨by rfl, ?_⟩ trivial ?_
            rotate_left
            · intro wq _; go_simp; try rfl
            simp only [Act.put, List.setIfInBounds_toArray, List.set_cons_zero, List.set_cons_succ]
            refine take_at 12 (some 46) (v := ?_) rfl rfl (by kernel_rfl) (by kernel_rfl) (by kernel_rfl) (fun _ _ _ h => h) ⟨by rfl, ?_⟩ trivial ?_
            rotate_left
            · intro wq _; go_simp; try rfl
            simp only [Act.put, List.setIfInBounds_toArray, List.set_cons_zero, List.set_cons_succ]
            refine wpAnyH_ready (rs := [13]) (by kernel_rfl) (by simp) ?_
            refine AllReadyH.cons rfl (fun K hK => ?_) AllReadyH.nil
            go_simp
            go_wp2_with fail
            refine hK.out _ _ trivial (fun _ => ?_)
            clear hK K
            (try simp only [Act.put, List.setIfInBounds_toArray, List.set_cons_zero, List.set_cons_succ])
            refine wpAnyH_done (by kernel_rfl) ?_ _
            clear kz5 fz5
            go_wp2_with fail
            go_end0
            refine ⟨rfl, bytes_done H2.out hk ln2 AD.out pLr pDr⟩
end Go.Proofs.Ytlibldioliicfaa
namespace Go.Proofs.Ytlibldioliicfaa
open Go.RowKit Go.QK
set_option maxRecDepth 100000
/-- A pair of rows between the two appends. -/
structure Mid (w : World) (B : Nat) (lab : Nat → Nat) (j : Nat) (e E : TypeId) (sz : Nat) (v1 u : Value) (xs ys : List Value) (mk : Nat → List Value) (a : Option Addr) (k c : Nat) : Prop where
  r1 : GRow w B e 1 v1 (xs.length + 1) (xs ++ [.slice a k c])
  r2 : GRow w B e 1 u ys.length ys
  hv : GRow w B E sz (.slice a k c) k (rep k (mk xs.length))
  l1 : ∀ g, v1.ownBlock = some g → lab g = j + 1
  l2 : ∀ g, u.ownBlock = some g → lab g = j + 2
  lv : ∀ g, (Value.slice a k c).ownBlock = some g → lab g = lbl j xs.length
  len : ys.length = xs.length
  ent : ∀ i (h : i < xs.length) (h' : i < ys.length), Ent w lab (lbl j i) xs[i] ys[i] (mk i)
theorem Mid.keep {S : Nat → Prop} {w w' : World} {B : Nat} {lab lab' : Nat → Nat} {j : Nat} {e E : TypeId} {sz : Nat} {v u : Value} {xs ys : List Value} {mk : Nat → List Value} {a : Option Addr} {k c : Nat} (h : Mid w B lab j e E sz v u xs ys mk a k c) (hk : Keep S w w')
    (hS : ∀ b, b < w.heap.size → S b → lab b ≠ j + 1 ∧ lab b ≠ j + 2 ∧ ∀ i, i ≤ xs.length → lab b ≠ lbl j i) (hl : ∀ b, b < w.heap.size → lab' b = lab b) : Mid w' B lab' j e E sz v u xs ys mk a k c :=
  ⟨GRow.keep h.r1 hk (fun g q s => (hS g (World.ownsRow.lt h.r1 g q).2 s).1 (h.l1 g q)), GRow.keep h.r2 hk (fun g q s => (hS g (World.ownsRow.lt h.r2 g q).2 s).2.1 (h.l2 g q)), GRow.keep h.hv hk (fun g q s => (hS g (World.ownsRow.lt h.hv g q).2 s).2.2 _ (Nat.le_refl _) (h.lv g q)),
    fun g q => (hl g (World.ownsRow.lt h.r1 g q).2).trans (h.l1 g q), fun g q => (hl g (World.ownsRow.lt h.r2 g q).2).trans (h.l2 g q), fun g q => (hl g (World.ownsRow.lt h.hv g q).2).trans (h.lv g q), h.len,
    fun i h1 h2 => (h.ent i h1 h2).keep hk (fun b hb q s => (hS b hb s).2.2 i (by omega) q) hl⟩
/-- The first of the two appends. -/
structure Added1 (w : World) (B : Nat) (lab : Nat → Nat) (j : Nat) (e E : TypeId) (sz : Nat) (kb : Nat) (cs : List Value) (u : Value) (xs ys : List Value) (mk : Nat → List Value) (a : Option Addr) (k c : Nat) (w2 : World) (v1 : Value) (lab' : Nat → Nat) : Prop where
  old : ∀ b, b < w.heap.size → lab' b = lab b
  new : ∀ b, w.heap.size ≤ b → lab' b = j + 1 ∨ lab' b = 9
  cells : Cells w2 kb (cs.set j v1)
  mid : Mid w2 B lab' j e E sz v1 u xs ys mk a k c
  keep : Keep (fun b => lab b = 0 ∨ lab b = j + 1) w w2
theorem Pr.add1 {T e E : TypeId} {z : Value} {sz by_ : Nat} (ty : Ty T e E z sz by_) {w : World} {B : Nat} {lab : Nat → Nat} {j kb : Nat} {cs : List Value} {v u : Value} {xs ys : List Value} {mk : Nat → List Value} {a : Option Addr} {k c : Nat}
    (C : Cells w kb cs) (h1 : cs[j]? = some v) (p : Pr w B lab j e v u xs ys mk) (lk : lab kb = 0) (hv : GRow w B E sz (.slice a k c) k (rep k (mk xs.length))) (lv : ∀ g, (Value.slice a k c).ownBlock = some g → lab g = lbl j xs.length)
    (hx : xs.length ≤ 1000000) (hB : B ≤ w.heap.size) (hj : j ≤ 4) (ty1 : TypeId) :
    ∃ a1 c1 w1 lab', (Builtin.append_ #[T, T] ty1 #[v, .slice (some ⟨w.heap.size, 0, none⟩) 1 1]).run Try.prog (w.alloc (.cells #[.slice a k c] e)) = .ok (.slice a1 (xs.length + 1) c1) w1 ∧
      (w1.cell? ⟨kb, j, none⟩ = some v ∧ w1.frozen? ⟨kb, j, none⟩ = false) ∧
      Added1 w B lab j e E sz kb cs u xs ys mk a k c (w1.setCell ⟨kb, j, none⟩ (.slice a1 (xs.length + 1) c1)) (.slice a1 (xs.length + 1) c1) lab' := by
  have hlbl : lbl j xs.length ≥ 10 := by unfold lbl; omega
  have kblt := C.1
  have z1 : (w.alloc (.cells #[.slice a k c] e)).heap.size = w.heap.size + 1 := by simp
  have L1 := lies_lit w #[Value.slice a k c] e
  obtain ⟨v1, w1, hr1, g1, gr1, m1⟩ := run_pushR ty.uT ty.ie rfl (by decide) (by decide) ty1 (w.alloc (.cells #[.slice a k c] e)) B v xs.length xs (GRow.below p.r1 (alloc_below _ _)) ⟨w.heap.size, 0, none⟩ 1 1 [.slice a k c] rfl L1 (by intro y hy; simp at hy; subst hy; rfl) (by omega) (by omega)
  obtain ⟨a1, c1, e1, _⟩ := GRow.lies g1
  subst e1
  have k1 : Keep (fun b => v.ownBlock = some b) w w1 := ((Keep.refl _ w).alloc _).grown gr1 (fun b q _ => q)
  have kb1 : ¬ v.ownBlock = some kb := fun q => by have := p.l1 kb q; omega
  have C1 := C.keep k1 kb1
  have v1own : ∀ g, (Value.slice a1 (xs.length + 1) c1).ownBlock = some g → (v.ownBlock = some g) ∨ g = w.heap.size + 1 := by
    intro g q
    rcases m1 with m | m
    · exact .inl (by rw [← m]; exact q)
    · rw [m] at q
      cases q
      exact .inr z1
  have hjl : j < cs.length := (List.getElem?_eq_some_iff.1 h1).1
  have k2 : Keep (fun b => b = kb) w1 (w1.setCell ⟨kb, j, none⟩ (.slice a1 (xs.length + 1) c1)) := (Keep.refl (fun b => b = kb) w1).setCell (fun _ => rfl) _
  have C3 := C1.stored hjl (.slice a1 (xs.length + 1) c1)
  have s1 := k1.size
  have ngv1 : ∀ g, (Value.slice a1 (xs.length + 1) c1).ownBlock = some g → ¬ g = kb := by
    intro g q e
    rcases v1own g q with h | h
    · exact kb1 (by rw [← e]; exact h)
    · omega
  have G3 := GRow.keep g1 k2 ngv1
  have K2 : Keep (fun b => lab b = 0 ∨ lab b = j + 1) w (w1.setCell ⟨kb, j, none⟩ (.slice a1 (xs.length + 1) c1)) := by
    refine (k1.mono (T := fun b => lab b = 0 ∨ lab b = j + 1) (fun b _ q => .inr (p.l1 b q))).trans k2 (fun b _ q => ?_)
    have e : b = kb := q
    rw [e]
    exact .inl lk
  obtain ⟨lab', hlab⟩ : ∃ lab' : Nat → Nat, lab' = fun b => if b < w.heap.size then lab b else if (Value.slice a1 (xs.length + 1) c1).ownBlock = some b then j + 1 else 9 := ⟨_, rfl⟩
  have hold' : ∀ b, b < w.heap.size → lab' b = lab b := fun b hb => by rw [hlab]; exact if_pos hb
  refine ⟨a1, c1, w1, lab', hr1, C1.get j v h1, hold', ?_, C3, ⟨G3, ?_, ?_, ?_, ?_, ?_, p.len, ?_⟩, K2⟩
  · intro b hb
    rw [hlab]
    simp only
    rw [if_neg (by omega)]
    split
    · exact .inl rfl
    · exact .inr rfl
  · exact GRow.keep p.r2 K2 (fun g q s => by have := p.l2 g q; omega)
  · exact GRow.keep hv K2 (fun g q s => by have := lv g q; omega)
  · intro g q
    by_cases hg : g < w.heap.size
    · rw [hold' g hg]
      rcases v1own g q with h | h
      · exact p.l1 g h
      · omega
    · rw [hlab]
      simp only
      rw [if_neg hg, if_pos q]
  · exact fun g q => (hold' g (World.ownsRow.lt p.r2 g q).2).trans (p.l2 g q)
  · exact fun g q => (hold' g (World.ownsRow.lt hv g q).2).trans (lv g q)
  · intro i hi hi'
    refine (p.ent i hi hi').keep K2 (fun b hb hL s => ?_) hold'
    unfold lbl at hL
    omega
/-- The second. -/
structure Added2 (w : World) (B : Nat) (lab : Nat → Nat) (j : Nat) (e : TypeId) (kb : Nat) (cs : List Value) (v1 : Value) (xs ys : List Value) (mk : Nat → List Value) (v0 : Value) (w6 : World) (u0 u1 : Value) (lab' : Nat → Nat) : Prop where
  old : ∀ b, b < w.heap.size → lab' b = lab b
  new : ∀ b, w.heap.size ≤ b → lab' b = j + 2 ∨ lab' b = lbl j xs.length ∨ lab' b = 9
  cells : Cells w6 kb (cs.set (j + 1) u1)
  pr : Pr w6 B lab' j e v1 u1 (xs ++ [v0]) (ys ++ [u0]) mk
  keep : Keep (fun b => lab b = 0 ∨ lab b = j + 2 ∨ lab b = lbl j xs.length) w w6
theorem Mid.add2 {T e E : TypeId} {z : Value} {sz by_ : Nat} (ty : Ty T e E z sz by_) {w : World} {B : Nat} {lab : Nat → Nat} {j kb : Nat} {cs : List Value} {v1 u : Value} {xs ys : List Value} {mk : Nat → List Value} {a : Option Addr} {k c : Nat}
    (C : Cells w kb cs) (h2 : cs[j + 1]? = some u) (p : Mid w B lab j e E sz v1 u xs ys mk a k c) (lk : lab kb = 0)
    (hmk : (mk xs.length).length = sz) (hm1 : ∀ y ∈ mk xs.length, y.oneCell' = true) (hk : k ≤ 1000000) (hx : xs.length ≤ 1000000) (hB : B ≤ w.heap.size) (hj : j ≤ 4) (ty2 ty3 : TypeId) :
    ∃ a2 c2 w4 a3 c3 w5 lab', (Builtin.append_ #[e, e] ty2 #[.slice a k c, .slice (some ⟨w.heap.size, 0, none⟩) 1 1]).run Try.prog (w.alloc (.cells (mk xs.length).toArray E)) = .ok (.slice a2 (k + 1) c2) w4 ∧
          (Builtin.append_ #[T, T] ty3 #[u, .slice (some ⟨w4.heap.size, 0, none⟩) 1 1]).run Try.prog (w4.alloc (.cells #[.slice a2 (k + 1) c2] e)) = .ok (.slice a3 (xs.length + 1) c3) w5 ∧
          (w.cell? ⟨kb, j + 1, none⟩ = some u ∧ (w.alloc (.cells (mk xs.length).toArray E)).cell? ⟨kb, j + 1, none⟩ = some u ∧ w4.cell? ⟨kb, j + 1, none⟩ = some u ∧ (w4.alloc (.cells #[.slice a2 (k + 1) c2] e)).cell? ⟨kb, j + 1, none⟩ = some u) ∧
          (w5.cell? ⟨kb, j + 1, none⟩ = some u ∧ w5.frozen? ⟨kb, j + 1, none⟩ = false) ∧
          Added2 w B lab j e kb cs v1 xs ys mk (.slice a k c) (w5.setCell ⟨kb, j + 1, none⟩ (.slice a3 (xs.length + 1) c3)) (.slice a2 (k + 1) c2) (.slice a3 (xs.length + 1) c3) lab' := by
  have hlbl : lbl j xs.length ≥ 10 := by unfold lbl; omega
  have hjl2 : j + 1 < cs.length := (List.getElem?_eq_some_iff.1 h2).1
  have L3 := lies_lit w (mk xs.length).toArray E
  have z3 : (w.alloc (.cells (mk xs.length).toArray E)).heap.size = w.heap.size + 1 := by simp
  obtain ⟨u0, w4, hr2, g2, gr2, m2, hold⟩ := run_moreR ty.ue ty.iE ty.hz ty.h0 ty.hb ty2 (w.alloc (.cells (mk xs.length).toArray E)) B (.slice a k c) k _ (GRow.below p.hv (alloc_below _ _)) ⟨w.heap.size, 0, none⟩ (mk xs.length) (by rw [hmk, Nat.one_mul]) (by simpa using L3) hm1 (by omega) (by omega)
  have hold := hold a c rfl
  obtain ⟨a2, c2, e2, li2, _⟩ := GRow.lies g2
  subst e2
  rw [← rep_succ] at g2 li2
  have k4 : Keep (fun b => (Value.slice a k c).ownBlock = some b) w w4 := ((Keep.refl _ w).alloc _).grown gr2 (fun b q _ => q)
  have kbv : ¬ (Value.slice a k c).ownBlock = some kb := fun q => by have := p.lv kb q; omega
  have C4 := C.keep k4 kbv
  have s4 := k4.size
  have vlt : ∀ g, (Value.slice a k c).ownBlock = some g → g < w.heap.size := fun g q => (World.ownsRow.lt p.hv g q).2
  have u0own : ∀ g, (Value.slice a2 (k + 1) c2).ownBlock = some g → ((Value.slice a k c).ownBlock = some g) ∨ g = w.heap.size + 1 := by
    intro g q
    rcases m2 with m | m
    · exact .inl (by rw [← m]; exact q)
    · rw [m] at q
      cases q
      exact .inr z3
  have u0lt : ∀ g, (Value.slice a2 (k + 1) c2).ownBlock = some g → g < w4.heap.size := fun g q => (World.ownsRow.lt g2 g q).2
  have r24 := GRow.keep p.r2 k4 (fun g q s => by have := p.l2 g q; have := p.lv g s; omega)
  have L5 := lies_lit w4 #[Value.slice a2 (k + 1) c2] e
  have z5 : (w4.alloc (.cells #[.slice a2 (k + 1) c2] e)).heap.size = w4.heap.size + 1 := by simp
  have hyl := p.len
  obtain ⟨u1, w5, hr3, g3, gr3, m3⟩ := run_pushR ty.uT ty.ie rfl (by decide) (by decide) ty3 (w4.alloc (.cells #[.slice a2 (k + 1) c2] e)) B u ys.length ys (GRow.below r24 (alloc_below _ _)) ⟨w4.heap.size, 0, none⟩ 1 1 [.slice a2 (k + 1) c2] rfl L5 (by intro y hy; simp at hy; subst hy; rfl) (by omega) (by omega)
  obtain ⟨a3, c3, e3, _⟩ := GRow.lies g3
  rw [hyl] at e3
  subst e3
  have k5 : Keep (fun b => u.ownBlock = some b) w4 w5 := ((Keep.refl _ w4).alloc _).grown gr3 (fun b q _ => q)
  have kbu : ¬ u.ownBlock = some kb := fun q => by have := p.l2 kb q; omega
  have C5 := C4.keep k5 kbu
  have s5 := k5.size
  have ult : ∀ g, u.ownBlock = some g → g < w.heap.size := fun g q => (World.ownsRow.lt p.r2 g q).2
  have u1own : ∀ g, (Value.slice a3 (xs.length + 1) c3).ownBlock = some g → (u.ownBlock = some g) ∨ g = w4.heap.size + 1 := by
    intro g q
    rcases m3 with m | m
    · exact .inl (by rw [← m]; exact q)
    · rw [m] at q
      cases q
      exact .inr z5
  have k6 : Keep (fun b => b = kb) w5 (w5.setCell ⟨kb, j + 1, none⟩ (.slice a3 (xs.length + 1) c3)) := (Keep.refl (fun b => b = kb) w5).setCell (fun _ => rfl) _
  have ngu1 : ∀ g, (Value.slice a3 (xs.length + 1) c3).ownBlock = some g → ¬ g = kb := by
    intro g q e
    rcases u1own g q with h | h
    · exact kbu (by rw [← e]; exact h)
    · have := C4.1; omega
  have H6 := GRow.keep g3 k6 ngu1
  have C6 := C5.stored hjl2 (.slice a3 (xs.length + 1) c3) (j := j + 1)
  have K6 : Keep (fun b => lab b = 0 ∨ lab b = j + 2 ∨ lab b = lbl j xs.length) w (w5.setCell ⟨kb, j + 1, none⟩ (.slice a3 (xs.length + 1) c3)) := by
    refine ((k4.mono (T := fun b => lab b = 0 ∨ lab b = j + 2 ∨ lab b = lbl j xs.length) (fun b _ q => .inr (.inr (p.lv b q)))).trans k5 (fun b _ q => .inr (.inl (p.l2 b q)))).trans k6 (fun b _ q => ?_)
    have e : b = kb := q
    rw [e]
    exact .inl lk
  have G6 := GRow.keep p.r1 K6 (fun g q s => by have := p.l1 g q; omega)
  obtain ⟨lab', hlab⟩ : ∃ lab' : Nat → Nat, lab' = fun b => if b < w.heap.size then lab b else if (Value.slice a3 (xs.length + 1) c3).ownBlock = some b then j + 2 else if (Value.slice a2 (k + 1) c2).ownBlock = some b then lbl j xs.length else 9 := ⟨_, rfl⟩
  have hold' : ∀ b, b < w.heap.size → lab' b = lab b := fun b hb => by rw [hlab]; exact if_pos hb
  have hnew : ∀ b, w.heap.size ≤ b → lab' b = j + 2 ∨ lab' b = lbl j xs.length ∨ lab' b = 9 := by
    intro b hb
    rw [hlab]
    simp only
    rw [if_neg (by omega)]
    split
    · exact .inl rfl
    · split
      · exact .inr (.inl rfl)
      · exact .inr (.inr rfl)
  have lu1 : ∀ g, (Value.slice a3 (xs.length + 1) c3).ownBlock = some g → lab' g = j + 2 := by
    intro g q
    by_cases hg : g < w.heap.size
    · rw [hold' g hg]
      rcases u1own g q with h | h
      · exact p.l2 g h
      · omega
    · rw [hlab]
      simp only
      rw [if_neg hg, if_pos q]
  have lu0 : ∀ g, (Value.slice a2 (k + 1) c2).ownBlock = some g → lab' g = lbl j xs.length := by
    intro g q
    by_cases hg : g < w.heap.size
    · rw [hold' g hg]
      rcases u0own g q with h | h
      · exact p.lv g h
      · omega
    · rw [hlab]
      simp only
      have hlt4 := u0lt g q
      rw [if_neg hg, if_neg, if_pos q]
      intro q'
      rcases u1own g q' with h | h
      · exact hg (ult g h)
      · omega
  have lv0 : ∀ g, (Value.slice a k c).ownBlock = some g → lab' g = lbl j xs.length := fun g q => (hold' g (vlt g q)).trans (p.lv g q)
  have c4 : w4.cell? ⟨kb, j + 1, none⟩ = some u := (C4.get (j + 1) u h2).1
  have c3' : w.cell? ⟨kb, j + 1, none⟩ = some u := (C.get (j + 1) u h2).1
  refine ⟨a2, c2, w4, a3, c3, w5, lab', hr2, hr3, ⟨c3', ((alloc_below w _).cell (p := ⟨kb, j + 1, none⟩) C.1).trans c3', c4, ((alloc_below w4 _).cell (p := ⟨kb, j + 1, none⟩) C4.1).trans c4⟩, C5.get (j + 1) u h2, hold', hnew, C6, ?_, K6⟩
  refine ⟨by simpa using G6, by simpa [hyl] using H6, fun g q => (hold' g (World.ownsRow.lt p.r1 g q).2).trans (p.l1 g q), lu1, by simp [hyl], ?_⟩
  intro i hi hi'
  by_cases hlt : i < xs.length
  · rw [List.getElem_append_left hlt, List.getElem_append_left (by omega)]
    refine (p.ent i hlt (by omega)).keep K6 ?_ hold'
    intro b hb hL
    have : lbl j i ≥ 10 := by unfold lbl; omega
    have : lbl j i ≠ lbl j xs.length := by unfold lbl; omega
    omega
  · have hie : i = xs.length := by simp at hi; omega
    subst hie
    have hg1 : (xs ++ [Value.slice a k c])[xs.length]'hi = .slice a k c := by simp
    have hg2 : (ys ++ [Value.slice a2 (k + 1) c2])[xs.length]'hi' = .slice a2 (k + 1) c2 := by
      rw [List.getElem_append_right (by omega)]
      simp [hyl]
    rw [hg1, hg2]
    have n5 : ∀ g, (Value.slice a k c).ownBlock = some g → ¬ u.ownBlock = some g := fun g q s => by have := p.l2 g s; have := p.lv g q; omega
    have n6 : ∀ g, (Value.slice a k c).ownBlock = some g → ¬ g = kb := fun g q s => by rw [s] at q; exact kbv q
    have o5 : ∀ g, (Value.slice a2 (k + 1) c2).ownBlock = some g → ¬ u.ownBlock = some g := fun g q s => by
      rcases u0own g q with h | h
      · exact n5 g h s
      · have := ult g s; omega
    have o6 : ∀ g, (Value.slice a2 (k + 1) c2).ownBlock = some g → ¬ g = kb := fun g q s => by
      rcases u0own g q with h | h
      · exact n6 g h s
      · have := C.1; omega
    refine ⟨a, k, c, a2, c2, rfl, rfl, LiesL.of ((hold.keep k5 (fun ad q => n5 _ (own_addr q))).keep k6 (fun ad q => n6 _ (own_addr q))) (fun ad q => lv0 _ (own_addr q)), LiesL.of ((li2.keep k5 (fun ad q => o5 _ (own_addr q))).keep k6 (fun ad q => o6 _ (own_addr q))) (fun ad q => lu0 _ (own_addr q)), hk⟩
end Go.Proofs.Ytlibldioliicfaa
namespace Go.Proofs.Ytlibldioliicfaa
open Go.RowKit Go.QK
set_option maxRecDepth 100000
theorem Cells.ne {w : World} {kb : Nat} {cs : List Value} (h : Cells w kb cs) : kb < w.heap.size := h.1
/-- One element of a row is written over. -/
theorem rep_set4 (ls : List LiveM) (q : Nat) (hq : q < ls.length) (m : Int) : liveCs (ls.set q ⟨m, 0, false, false⟩) = ((((liveCs ls).set (q * 4) (.int .i64 m)).set (q * 4 + 1) (.int .i64 0)).set (q * 4 + 2) (.bool false)).set (q * 4 + 3) (.bool false) := by
  induction ls generalizing q with
  | nil => simp at hq
  | cons l ls ih =>
    cases q with
    | zero => simp [liveCs, liveC]
    | succ q =>
      have := ih q (by simpa using hq)
      have e1 : (q + 1) * 4 = q * 4 + 4 := by omega
      have e2 : q * 4 + 4 + 1 = q * 4 + 1 + 4 := by omega
      have e3 : q * 4 + 4 + 2 = q * 4 + 2 + 4 := by omega
      have e4 : q * 4 + 4 + 3 = q * 4 + 3 + 4 := by omega
      have s4 : ∀ (xs : List Value) (n : Nat) (y : Value), (liveC l ++ xs).set (n + 4) y = liveC l ++ xs.set n y := by
        intro xs n y
        rw [List.set_append_right _ _ (by simp [liveC])]
        simp [liveC]
      simp only [List.set_cons_succ, liveCs, List.flatMap_cons] at this ⊢
      rw [e1, e2, e3, e4, s4, s4, s4, s4, ← this]
theorem rep_set2 (ls : List DirtyM) (q : Nat) (hq : q < ls.length) (m : Int) : dirtyCs (ls.set q ⟨m, 0⟩) = ((dirtyCs ls).set (q * 2) (.int .i64 m)).set (q * 2 + 1) (.int .i64 0) := by
  induction ls generalizing q with
  | nil => simp at hq
  | cons l ls ih =>
    cases q with
    | zero => simp [dirtyCs, dirtyC]
    | succ q =>
      have := ih q (by simpa using hq)
      have e1 : (q + 1) * 2 = q * 2 + 2 := by omega
      have e2 : q * 2 + 2 + 1 = q * 2 + 1 + 2 := by omega
      have s4 : ∀ (xs : List Value) (n : Nat) (y : Value), (dirtyC l ++ xs).set (n + 2) y = dirtyC l ++ xs.set n y := by
        intro xs n y
        rw [List.set_append_right _ _ (by simp [dirtyC])]
        simp [dirtyC]
      simp only [List.set_cons_succ, dirtyCs, List.flatMap_cons] at this ⊢
      rw [e1, e2, s4, s4, ← this]
theorem marksL (ls : List LiveM) (m : LiveM) (q : Nat) (h : q < ls.length) : (List.replicate q m ++ ls.drop q).set q m = List.replicate (q + 1) m ++ ls.drop (q + 1) := by
  rw [List.set_append_right _ _ (by simp), List.length_replicate, Nat.sub_self, List.drop_eq_getElem_cons h, List.set_cons_zero, List.replicate_succ']
  simp
theorem marksD (ls : List DirtyM) (m : DirtyM) (q : Nat) (h : q < ls.length) : (List.replicate q m ++ ls.drop q).set q m = List.replicate (q + 1) m ++ ls.drop (q + 1) := by
  rw [List.set_append_right _ _ (by simp), List.length_replicate, Nat.sub_self, List.drop_eq_getElem_cons h, List.set_cons_zero, List.replicate_succ']
  simp
theorem rep_live (k : Nat) (m : LiveM) : liveCs (List.replicate k m) = rep k (liveC m) := by
  unfold rep
  induction k with
  | zero => rfl
  | succ k ih => simp [List.replicate_succ, liveCs] at ih ⊢; rw [ih]
theorem rep_dirty (k : Nat) (m : DirtyM) : dirtyCs (List.replicate k m) = rep k (dirtyC m) := by
  unfold rep
  induction k with
  | zero => rfl
  | succ k ih => simp [List.replicate_succ, dirtyCs] at ih ⊢; rw [ih]
/-- A cell of a row of the program's own is written. -/
theorem GRow.put {w : World} {B : Nat} {e : TypeId} {size n c g : Nat} {xs : List Value} (h : GRow w B e size (.slice (some ⟨g, 0, none⟩) n c) n xs) (j : Nat) (y : Value) : GRow (w.setCell ⟨g, j, none⟩ y) B e size (.slice (some ⟨g, 0, none⟩) n c) n (xs.set j y) :=
  (World.ownsRow.stored h j y).1
theorem GRow.cellAt {w : World} {B : Nat} {e : TypeId} {size n c g : Nat} {xs : List Value} (h : GRow w B e size (.slice (some ⟨g, 0, none⟩) n c) n xs) (j : Nat) (y : Value) (hy : xs[j]? = some y) : w.cell? ⟨g, j, none⟩ = some y ∧ w.frozen? ⟨g, j, none⟩ = false := by
  have q := World.ownsRow.cells h (g := g) rfl j y hy
  rw [addr_add] at q
  exact ⟨by simpa using q, World.ownsRow.frozenAt h j⟩
theorem GRow.addr {w : World} {B : Nat} {e : TypeId} {size n c : Nat} {a : Option Addr} {xs : List Value} (h : GRow w B e size (.slice a n c) n xs) (hn : 0 < n) : ∃ g, a = some ⟨g, 0, none⟩ := by
  rcases h.2 with ⟨q, h0⟩ | ⟨g, cap, cur, q, _⟩
  · omega
  · cases q
    exact ⟨g, rfl⟩
theorem GRow.live4 {w : World} {B g n c : Nat} {ls : List LiveM} (h : GRow w B 63 4 (.slice (some ⟨g, 0, none⟩) n c) n (liveCs ls)) (q : Nat) (hq : q < ls.length) :
    ∃ y : LiveM, (w.cell? ⟨g, q * 4, none⟩ = some (.int .i64 y.tx) ∧ w.frozen? ⟨g, q * 4, none⟩ = false) ∧ (w.cell? ⟨g, q * 4 + 1, none⟩ = some (.int .i64 y.last) ∧ w.frozen? ⟨g, q * 4 + 1, none⟩ = false) ∧ (w.cell? ⟨g, q * 4 + 2, none⟩ = some (.bool y.com) ∧ w.frozen? ⟨g, q * 4 + 2, none⟩ = false) ∧ (w.cell? ⟨g, q * 4 + 3, none⟩ = some (.bool y.und) ∧ w.frozen? ⟨g, q * 4 + 3, none⟩ = false) := by
  have hc := fun j hj => liveCs_get ls q hq j hj
  rw [Nat.mul_comm 4 q] at hc
  exact ⟨ls[q], h.cellAt _ _ (hc 0 (by omega)), h.cellAt _ _ (hc 1 (by omega)), h.cellAt _ _ (hc 2 (by omega)), h.cellAt _ _ (hc 3 (by omega))⟩
theorem GRow.dirty2 {w : World} {B g n c : Nat} {ls : List DirtyM} (h : GRow w B 65 2 (.slice (some ⟨g, 0, none⟩) n c) n (dirtyCs ls)) (q : Nat) (hq : q < ls.length) :
    ∃ y : DirtyM, (w.cell? ⟨g, q * 2, none⟩ = some (.int .i64 y.page) ∧ w.frozen? ⟨g, q * 2, none⟩ = false) ∧ (w.cell? ⟨g, q * 2 + 1, none⟩ = some (.int .i64 y.since) ∧ w.frozen? ⟨g, q * 2 + 1, none⟩ = false) := by
  have hc := fun j hj => dirtyCs_get ls q hq j hj
  rw [Nat.mul_comm 2 q] at hc
  exact ⟨ls[q], h.cellAt _ _ (hc 0 (by omega)), h.cellAt _ _ (hc 1 (by omega))⟩
/-- The rest of the book beside a pair of rows. -/
theorem Pr.on {S : Nat → Prop} {w w' : World} {B : Nat} {lab lab' : Nat → Nat} {j : Nat} {e : TypeId} {v u : Value} {xs ys : List Value} {mk : Nat → List Value} (h : Pr w B lab j e v u xs ys mk) (hk : Keep S w w') (hl : ∀ b, b < w.heap.size → lab' b = lab b) (hS : ∀ b, S b → lab b ≠ j + 1 ∧ lab b ≠ j + 2 ∧ ∀ i, lab b ≠ lbl j i) : Pr w' B lab' j e v u xs ys mk :=
  h.keep hk (fun b _ s => ⟨(hS b s).1, (hS b s).2.1, fun i _ => (hS b s).2.2 i⟩) hl
theorem Mid.on {S : Nat → Prop} {w w' : World} {B : Nat} {lab lab' : Nat → Nat} {j : Nat} {e E : TypeId} {sz : Nat} {v u : Value} {xs ys : List Value} {mk : Nat → List Value} {a : Option Addr} {k c : Nat} (h : Mid w B lab j e E sz v u xs ys mk a k c) (hk : Keep S w w') (hl : ∀ b, b < w.heap.size → lab' b = lab b) (hS : ∀ b, S b → lab b ≠ j + 1 ∧ lab b ≠ j + 2 ∧ ∀ i, lab b ≠ lbl j i) : Mid w' B lab' j e E sz v u xs ys mk a k c :=
  h.keep hk (fun b _ s => ⟨(hS b s).1, (hS b s).2.1, fun i _ => (hS b s).2.2 i⟩) hl
/-- Two lists that are nobody's get their labels. -/
theorem Bk.label2 {w : World} {B : Nat} {lab : Nat → Nat} {kb n m : Nat} {vB uB vL uL vD uD : Value} {xB yB xL yL xD yD : List Value} (h : Bk w B lab kb n m vB uB vL uL vD uD xB yB xL yL xD yD) (x y : Value) (hx : ∀ g, x.ownBlock = some g → lab g = 9 ∧ g < w.heap.size) (hy : ∀ g, y.ownBlock = some g → lab g = 9 ∧ g < w.heap.size) (ne : ∀ g, x.ownBlock = some g → y.ownBlock ≠ some g) :
    ∃ lab2, Bk w B lab2 kb n m vB uB vL uL vD uD xB yB xL yL xD yD ∧ (∀ g, x.ownBlock = some g → lab2 g = lbl 2 m) ∧ (∀ g, y.ownBlock = some g → lab2 g = lbl 4 m) ∧ (∀ b, ¬ x.ownBlock = some b → ¬ y.ownBlock = some b → lab2 b = lab b) := by
  have h1 := h.relabel x (lbl 2 m) hx
  have h2 := h1.relabel y (lbl 4 m) (fun g q => ⟨(if_neg (fun q' => ne g q' q)).trans (hy g q).1, (hy g q).2⟩)
  exact ⟨_, h2, fun g q => (if_neg (ne g q)).trans (if_pos q), fun g q => if_pos q, fun b q1 q2 => (if_neg q2).trans (if_neg q1)⟩
theorem lists_done {w wr wA wB wb wC wc wD : World} {B : Nat} {lab lab2 lab3 lab4 lab5 lab6 : Nat → Nat} {kb n m : Nat} {own : Nat → Prop} {vB uB vL1 uL1 vD1 uD0 uD1 y6 v0 : Value} {xB yB xL yL xD yD : List Value}
    (K0 : Keep own w wr) (K1 : Keep (fun b => lab2 b = 0 ∨ lab2 b = 2 + 1) wr wA) (K2 : Keep (fun b => lab3 b = 0 ∨ lab3 b = 4 + 1) wA wB) (Kb : Below wB.heap.size wB wb) (K3 : Keep (fun b => lab4 b = 0 ∨ lab4 b = 2 + 2 ∨ lab4 b = lbl 2 m) wb wC) (Kc : Below wC.heap.size wC wc)
    (A : Added2 wc B lab5 4 32 kb [vB, uB, vL1, uL1, vD1, uD0] vD1 xD yD mkD v0 wD y6 uD1 lab6)
    (o3 : ∀ b, b < wr.heap.size → lab3 b = lab2 b) (o4 : ∀ b, b < wA.heap.size → lab4 b = lab3 b) (o5 : ∀ b, b < wb.heap.size → lab5 b = lab4 b)
    (ln2 : ∀ b, ¬ own b → lab2 b = lab b) (lk5 : lab5 kb = 0) (kblt : kb < wc.heap.size) (sz : B ≤ w.heap.size)
    (pB : Pr wc B lab5 0 22 vB uB xB yB mkB) (pL : Pr wc B lab5 2 31 vL1 uL1 xL yL mkL) (nB : xB.length = n) (nL : xL.length = m + 1) (nD : xD.length = m) :
    ∃ lab', Kept w B lab kb n (m + 1) own wD lab' := by
  have s0 := K0.size
  have s1 := K1.size
  have s2 := K2.size
  have sb := Kb.size
  have s3 := K3.size
  have sc := Kc.size
  have s4 := A.keep.size
  have L3 : ∀ b, b < w.heap.size → lab3 b = lab2 b := fun b hb => o3 b (by omega)
  have L4 : ∀ b, b < w.heap.size → lab4 b = lab2 b := fun b hb => (o4 b (by omega)).trans (L3 b hb)
  have L5 : ∀ b, b < w.heap.size → lab5 b = lab2 b := fun b hb => (o5 b (by omega)).trans (L4 b hb)
  refine ⟨fun b => if b < wD.heap.size then lab6 b else 9, ?_, ?_, ?_⟩
  · intro b hb hn
    show (if b < wD.heap.size then lab6 b else 9) = lab b
    rw [if_pos (by omega), A.old b (by omega), L5 b hb, ln2 b hn]
  · have agree : ∀ b, b < wD.heap.size → (fun b => if b < wD.heap.size then lab6 b else 9) b = lab6 b := fun b hb => if_pos hb
    have agr : ∀ b, b < wc.heap.size → (fun b => if b < wD.heap.size then lab6 b else 9) b = lab5 b := fun b hb => (if_pos (by omega)).trans (A.old b hb)
    refine ⟨vB, uB, vL1, uL1, vD1, uD1, xB, yB, xL, yL, xD ++ [v0], yD ++ [y6], A.cells, (agr kb kblt).trans lk5, ?_, ?_, ?_, nB, nL, ?_, by omega, fun b hb => if_neg (by omega)⟩
    · refine pB.on A.keep agr (fun b s => ?_)
      refine ⟨by unfold lbl at *; omega, by unfold lbl at *; omega, fun i => ?_⟩
      unfold lbl at *
      omega
    · refine pL.on A.keep agr (fun b s => ?_)
      refine ⟨by unfold lbl at *; omega, by unfold lbl at *; omega, fun i => ?_⟩
      unfold lbl at *
      omega
    · exact A.pr.keep (Keep.refl (fun _ => False) _) (fun _ _ s => s.elim) agree
    · simp [nD]
  · have base : ∀ b, b < w.heap.size → lab2 b ≠ 9 → lab b ≠ 9 ∨ own b := by
      intro b hb h
      by_cases ho : own b
      · exact .inr ho
      · exact .inl (by rw [← ln2 b ho]; exact h)
    refine ((((((K0.mono (T := fun b => lab b ≠ 9 ∨ own b) (fun b _ q => .inr q)).trans K1 (fun b hb q => base b hb (by omega))).trans K2 (fun b hb q => base b hb (by have := L3 b hb; omega))).trans (Keep.of_below (S := fun _ => False) Kb) (fun _ _ q => q.elim)).trans K3 (fun b hb q => base b hb (by have := L4 b hb; unfold lbl at *; omega))).trans (Keep.of_below (S := fun _ => False) Kc) (fun _ _ q => q.elim)).trans A.keep (fun b hb q => base b hb (by have := L5 b hb; unfold lbl at *; omega))
set_option maxHeartbeats 0 in
theorem lists_any (w : World) (B : Nat) (lab : Nat → Nat) (kb n m : Nat) (h : BkE w B lab kb n m) (hm : m ≤ 100000) (r : RecM) (la da : Option Addr) (lc dc : Nat) (hL : LRow w B (.slice la r.live.length lc) r.live) (hD : DRow w B (.slice da r.dirty.length dc) r.dirty) (hll : r.live.length ≤ 1000000) (hdl : r.dirty.length ≤ 1000000)
    (lL : ∀ g, (Value.slice la r.live.length lc).ownBlock = some g → lab g = 9) (lD : ∀ g, (Value.slice da r.dirty.length dc).ownBlock = some g → lab g = 9) (ne : ∀ g, (Value.slice la r.live.length lc).ownBlock = some g → (Value.slice da r.dirty.length dc).ownBlock ≠ some g) :
    Calls Try.prog 38 #[.pointer (some ⟨kb, 0, none⟩), .agg (recC r la lc da dc)] w fun e w' => e = .returned (.tuple #[]) ∧ ∃ lab', Kept w B lab kb n (m + 1) (fun b => (Value.slice la r.live.length lc).ownBlock = some b ∨ (Value.slice da r.dirty.length dc).ownBlock = some b) w' lab' := by
  obtain ⟨q0, q1, q2, q3, q4, q5, q6, q7, q8, q9, q10, q11, q12, q13, live, dirty, q16⟩ := r
  simp only [recC] at *
  obtain ⟨vB, uB, vL, uL, vD, uD, xB, yB, xL, yL, xD, yD, h⟩ := h
  obtain ⟨lab2, h2, lv2, ld2, ln2⟩ := h.label2 (Value.slice la live.length lc) (Value.slice da dirty.length dc) (fun g q => ⟨lL g q, (World.ownsRow.lt hL g q).2⟩) (fun g q => ⟨lD g q, (World.ownsRow.lt hD g q).2⟩) ne
  clear h lL lD
  obtain ⟨aL, cL, eL, _⟩ := GRow.lies h2.pL.r1
  rw [h2.nL] at eL
  subst eL
  obtain ⟨aD, cD, eD, _⟩ := GRow.lies h2.pD.r1
  rw [h2.nD] at eD
  subst eD
  obtain ⟨mm, hmm⟩ : ∃ mm : Int, (m : Int) + 1000000 = mm := ⟨_, rfl⟩
  have hmL : mkL m = [.int .i64 mm, .int .i64 0, .bool false, .bool false] := by unfold mkL; rw [hmm]
  have hmD : mkD m = [.int .i64 mm, .int .i64 0] := by unfold mkD; rw [hmm]
  have e1 : IntKind.i64.wrap ((m : Int) + 1000000) = mm := by rw [IntKind.wrap_i64]; omega
  have H2 := hide h2
  have HML := hide hmL
  have HMD := hide hmD
  have HMM := hide hmm
  have HL := hide hL
  have HD := hide hD
  have k2 := (h2.cells.below (alloc_below w (.cells #[.int .i64 q0, .int .i64 q1, .int .i64 q2, .int .i64 q3, .int .i64 q4, .int .i64 q5, .int .i64 q6, .int .i64 q7, .int .i64 q8, .int .i64 q9, .int .i64 q10, .int .i64 q11, .int .i64 q12, .int .i64 q13, .slice la live.length lc, .slice da dirty.length dc, .int .i64 q16] 36))).get 2 _ rfl
  obtain ⟨k2, _⟩ := k2
  clear h2 hmL hmD hmm hL hD
  go_enter Try.func38, Try.ntmps38
  go_upto_region 4 with fail
  generalize hw0 : w.alloc (.cells #[.int .i64 q0, .int .i64 q1, .int .i64 q2, .int .i64 q3, .int .i64 q4, .int .i64 q5, .int .i64 q6, .int .i64 q7, .int .i64 q8, .int .i64 q9, .int .i64 q10, .int .i64 q11, .int .i64 q12, .int .i64 q13, .slice la live.length lc, .slice da dirty.length dc, .int .i64 q16] 36) = w0
  have b0 : Below w.heap.size w w0 := by rw [← hw0]; exact alloc_below _ _
  clear hw0 k2
  generalize Value.agg #[.int .i64 q0, .int .i64 q1, .int .i64 q2, .int .i64 q3, .int .i64 q4, .int .i64 q5, .int .i64 q6, .int .i64 q7, .int .i64 q8, .int .i64 q9, .int .i64 q10, .int .i64 q11, .int .i64 q12, .int .i64 q13, .slice la live.length lc, .slice da dirty.length dc, .int .i64 q16] = ra
  have kL0 := hide (GRow.below HL.out b0)
  have kD0 := hide (GRow.below HD.out b0)
  have CK0 := hide (H2.out.cells.below b0)
  have BB0 : Hid (Keep (fun _ => False) w w0) := hide (Keep.of_below b0)
  go_wp2_with fail
  go_loopw [7] (fun i wr => ∃ q : Nat, i = .int .i64 (q : Int) ∧ q ≤ live.length ∧ GRow wr B 63 4 (Value.slice la live.length lc) live.length (liveCs (List.replicate q ⟨mm, 0, false, false⟩ ++ live.drop q)) ∧ Keep (fun b => (Value.slice la live.length lc).ownBlock = some b) w0 wr) (fun i _ => live.length - (intOf i).toNat)
  case atStart => exact ⟨0, rfl, by omega, by simpa using kL0.out, Keep.refl _ _⟩
  case round =>
    obtain ⟨q, rfl, hq, ho, hk⟩ := hrel
    have HO := hide ho
    clear ho
    by_cases hlt : q < live.length
    · have d1 : decide ((q : Int) < (live.length : Int)) = true := decide_eq_true (by omega)
      have d2 : (q : Int) < (live.length : Int) := by omega
      have ew : IntKind.i64.wrap ((q : Int) + 1) = (q : Int) + 1 := by rw [IntKind.wrap_i64]; omega
      obtain ⟨g, e1'⟩ := HO.out.addr (by omega)
      subst e1'
      have hlen : (List.replicate q (⟨mm, 0, false, false⟩ : LiveM) ++ live.drop q).length = live.length := by simp; omega
      have st := (((HO.out.put (q * 4) (.int .i64 mm)).put (q * 4 + 1) (.int .i64 0)).put (q * 4 + 2) (.bool false)).put (q * 4 + 3) (.bool false)
      rw [← rep_set4 _ q (by omega) mm, marksL live ⟨mm, 0, false, false⟩ q hlt] at st
      obtain ⟨y, ⟨x0, z0⟩, ⟨x1, z1⟩, ⟨x2, z2⟩, ⟨x3, z3⟩⟩ := HO.out.live4 q (by omega)
      have kk := (((hk.setCell (g := g) (j := q * 4) (fun _ => rfl) (.int .i64 mm)).setCell (g := g) (j := q * 4 + 1) (fun _ => rfl) (.int .i64 0)).setCell (g := g) (j := q * 4 + 2) (fun _ => rfl) (.bool false)).setCell (g := g) (j := q * 4 + 3) (fun _ => rfl) (.bool false)
      have HST := hide st
      have HKK := hide kk
      clear st kk HO hk hlen
      go_wp2_with fail
      go_roundw
      case rel => exact ⟨q + 1, by go_num, by omega, HST.out, HKK.out⟩
      case measure => simp [intOf]; omega
    · have d1 : decide ((q : Int) < (live.length : Int)) = false := decide_eq_false (by omega)
      have hql : q = live.length := by omega
      have ho := HO.out
      rw [hql, List.drop_length, List.append_nil, rep_live] at ho
      have gL1 : Hid (GRow wr B 63 4 (Value.slice la live.length lc) live.length (rep live.length (mkL m))) := hide (by rw [HML.out]; exact ho)
      have KA := hide (BB0.out.mono (T := fun b => (Value.slice la live.length lc).ownBlock = some b) (fun _ _ s => s.elim) |>.trans hk (fun _ _ s => s))
      have kD1 := hide (GRow.keep kD0.out hk (fun g q s => ne g s q))
      clear ho HO hql hk kL0 kD0 CK0 BB0
      obtain ⟨wo, hwo⟩ : ∃ wo : World, wo = wr := ⟨_, rfl⟩
      subst hwo
      go_wp2_with fail
      go_loopw [8] (fun i wr2 => ∃ q : Nat, i = .int .i64 (q : Int) ∧ q ≤ dirty.length ∧ GRow wr2 B 65 2 (Value.slice da dirty.length dc) dirty.length (dirtyCs (List.replicate q ⟨mm, 0⟩ ++ dirty.drop q)) ∧ Keep (fun b => (Value.slice da dirty.length dc).ownBlock = some b) wo wr2) (fun i _ => dirty.length - (intOf i).toNat)
      case atStart => exact ⟨0, rfl, by omega, by simpa using kD1.out, Keep.refl _ _⟩
      case round =>
        clear kD1
        obtain ⟨q', rfl, hq', ho, hk⟩ := hrel
        have HO := hide ho
        clear ho
        by_cases hlt' : q' < dirty.length
        · have d1 : decide ((q' : Int) < (dirty.length : Int)) = true := decide_eq_true (by omega)
          have d2 : (q' : Int) < (dirty.length : Int) := by omega
          have ew : IntKind.i64.wrap ((q' : Int) + 1) = (q' : Int) + 1 := by rw [IntKind.wrap_i64]; omega
          obtain ⟨g, e1'⟩ := HO.out.addr (by omega)
          subst e1'
          have hlen : (List.replicate q' (⟨mm, 0⟩ : DirtyM) ++ dirty.drop q').length = dirty.length := by simp; omega
          have st := (HO.out.put (q' * 2) (.int .i64 mm)).put (q' * 2 + 1) (.int .i64 0)
          rw [← rep_set2 _ q' (by omega) mm, marksD dirty ⟨mm, 0⟩ q' hlt'] at st
          obtain ⟨y, ⟨x0, z0⟩, ⟨x1, z1⟩⟩ := HO.out.dirty2 q' (by omega)
          have kk := (hk.setCell (g := g) (j := q' * 2) (fun _ => rfl) (.int .i64 mm)).setCell (g := g) (j := q' * 2 + 1) (fun _ => rfl) (.int .i64 0)
          have HST := hide st
          have HKK := hide kk
          clear st kk HO hk hlen
          go_wp2_with fail
          go_roundw
          case rel => exact ⟨q' + 1, by go_num, by omega, HST.out, HKK.out⟩
          case measure => simp [intOf]; omega
        · have d1 : decide ((q' : Int) < (dirty.length : Int)) = false := decide_eq_false (by omega)
          have hql : q' = dirty.length := by omega
          have ho := HO.out
          rw [hql, List.drop_length, List.append_nil, rep_dirty] at ho
          have gD2 : GRow wr B 65 2 (Value.slice da dirty.length dc) dirty.length (rep dirty.length (mkD m)) := by rw [HMD.out]; exact ho
          have gL2 := GRow.keep gL1.out hk (fun g q s => ne g q s)
          have KB : Keep (fun b => (Value.slice la live.length lc).ownBlock = some b ∨ (Value.slice da dirty.length dc).ownBlock = some b) w wr := (KA.out.mono (T := fun b => (Value.slice la live.length lc).ownBlock = some b ∨ (Value.slice da dirty.length dc).ownBlock = some b) (fun _ _ s => .inl s)).trans hk (fun _ _ s => .inr s)
          clear ho HO hql hk KA gL1
          have H0 := H2.out
          have lS : ∀ b, ((Value.slice la live.length lc).ownBlock = some b ∨ (Value.slice da dirty.length dc).ownBlock = some b) → lab2 b = lbl 2 m ∨ lab2 b = lbl 4 m := fun b s => s.elim (fun s => .inl (lv2 b s)) (fun s => .inr (ld2 b s))
          have C2 := H0.cells.keep KB (fun s => by have := lS _ s; have := H0.lk; unfold lbl at *; omega)
          have pB2 := H0.pB.on (lab' := lab2) KB (fun _ _ => rfl) (fun b s => by
            have := lS b s
            refine ⟨by unfold lbl at *; omega, by unfold lbl at *; omega, fun i => ?_⟩
            unfold lbl at *
            omega)
          have pL2 : Pr wr B lab2 2 31 (.slice aL m cL) uL xL yL mkL := H0.pL.keep KB (fun b hb s => by
            have := lS b s
            have := H0.nL
            refine ⟨by unfold lbl at *; omega, by unfold lbl at *; omega, fun i hi => ?_⟩
            unfold lbl at *
            omega) (fun _ _ => rfl)
          have pD2 : Pr wr B lab2 4 32 (.slice aD m cD) uD xD yD mkD := H0.pD.keep KB (fun b hb s => by
            have := lS b s
            have := H0.nD
            refine ⟨by unfold lbl at *; omega, by unfold lbl at *; omega, fun i hi => ?_⟩
            unfold lbl at *
            omega) (fun _ _ => rfl)
          have sz2 : B ≤ wr.heap.size := Nat.le_trans H0.sz KB.size
          -- L's first row
          obtain ⟨a1, c1, w1, lab3, hr1, ⟨kz1, fz1⟩, A1⟩ := Pr.add1 ty54 (j := 2) (kb := kb) (cs := [vB, uB, .slice aL m cL, uL, .slice aD m cD, uD]) C2 rfl pL2 H0.lk (by rw [H0.nL]; exact gL2) (fun g q => by rw [H0.nL]; exact lv2 g q) (by have := H0.nL; omega) sz2 (by omega) 54
          rw [H0.nL] at hr1 A1
          have kzL := (C2.get 2 _ rfl).1
          have ke1 := A1.keep
          have sz1 := Nat.le_trans sz2 ke1.size
          have lk3 : lab3 kb = 0 := (A1.old kb C2.1).trans H0.lk
          have pB3 := pB2.on ke1 A1.old (fun b s => by
            skip
            refine ⟨by unfold lbl at *; omega, by unfold lbl at *; omega, fun i => ?_⟩
            unfold lbl at *
            omega)
          have pD3 := pD2.on ke1 A1.old (fun b s => by
            skip
            refine ⟨by unfold lbl at *; omega, by unfold lbl at *; omega, fun i => ?_⟩
            unfold lbl at *
            omega)
          have gD3 := GRow.keep gD2 ke1 (fun g q s => by have := ld2 g q; unfold lbl at *; omega)
          have C3 := A1.cells
          simp only [List.set_cons_zero, List.set_cons_succ] at C3
          have M3 := A1.mid
          have ld3 : ∀ g, (Value.slice da dirty.length dc).ownBlock = some g → lab3 g = lbl 4 m := fun g q => (A1.old g (World.ownsRow.lt gD2 g q).2).trans (ld2 g q)
          have new3 := A1.new
          have old3 := A1.old
          clear A1
          -- D's first row
          obtain ⟨a2, c2, w2, lab4, hr2, ⟨kz2, fz2⟩, A2⟩ := Pr.add1 ty55 (j := 4) (kb := kb) C3 rfl pD3 lk3 (by rw [H0.nD]; exact gD3) (fun g q => by rw [H0.nD]; exact ld3 g q) (by have := H0.nD; omega) sz1 (by omega) 55
          rw [H0.nD] at hr2 A2
          have kzD := (C3.get 4 _ rfl).1
          have ke2 := A2.keep
          have sz3 := Nat.le_trans sz1 ke2.size
          have lk4 : lab4 kb = 0 := (A2.old kb C3.1).trans lk3
          have pB4 := pB3.on ke2 A2.old (fun b s => by
            skip
            refine ⟨by unfold lbl at *; omega, by unfold lbl at *; omega, fun i => ?_⟩
            unfold lbl at *
            omega)
          have ML4 := M3.on ke2 A2.old (fun b s => by
            skip
            refine ⟨by unfold lbl at *; omega, by unfold lbl at *; omega, fun i => ?_⟩
            unfold lbl at *
            omega)
          have C4 := A2.cells
          simp only [List.set_cons_zero, List.set_cons_succ] at C4
          have MD4 := A2.mid
          have old4 := A2.old
          clear A2
          have HR1 := hide hr1
          have HR2 := hide hr2
          have BND := hide (And.intro H0.nB (And.intro H0.nL H0.nD))
          have HC := hide (And.intro C4 (And.intro pB4 (And.intro ML4 MD4)))
          have KBh := hide KB
          have KE1 := hide ke1
          have KE2 := hide ke2
          have OLD := hide (And.intro old3 old4)
          have LK := hide lk4
          have SZ := hide (And.intro sz2 (And.intro sz1 sz3))
          have HNB := hide (And.intro H0.sz H0.hi)
          have LS := hide lS
          clear hr1 hr2 H0 C2 C3 C4 pB2 pB3 pB4 pL2 pD2 pD3 gL2 gD2 gD3 ML4 MD4 M3 KB ke1 ke2 old3 old4 new3 ld3 lk3 lk4 sz2 sz1 sz3 lS H2 HL HD
          go_upto_region 13 with (at_builtin; refine wpList_run rfl (.tmp 47) (.tmp 49) rfl rfl rfl HR1.out ?_)
          generalize w1.setCell ⟨kb, 2, none⟩ (.slice a1 (m + 1) c1) = wA at *
          clear kz1 fz1 kzL HR1
          go_upto_region 14 with (at_builtin; refine wpList_run rfl (.tmp 57) (.tmp 59) rfl rfl rfl HR2.out ?_)
          generalize w2.setCell ⟨kb, 4, none⟩ (.slice a2 (m + 1) c2) = wB at *
          clear kz2 fz2 kzD HR2
          obtain ⟨C4, pB4, ML4, MD4⟩ := HC.out
          obtain ⟨nB, nL, nD⟩ := BND.out
          have dB : Below wB.heap.size wB wB.drew := (Below.refl _ _).drew
          have kdr : Keep (fun _ => False) wB wB.drew := Keep.of_below dB
          have C5 := C4.below dB
          have pB5 := pB4.on (lab' := lab4) kdr (fun _ _ => rfl) (fun _ s => s.elim)
          have ML5 := ML4.on (lab' := lab4) kdr (fun _ _ => rfl) (fun _ s => s.elim)
          have MD5 := MD4.on (lab' := lab4) kdr (fun _ _ => rfl) (fun _ s => s.elim)
          obtain ⟨a3, c3, w4, a4, c4, w5, lab5, hr3, hr4, hcs, ⟨kz5, fz5⟩, A3⟩ := Mid.add2 ty54 (j := 2) (kb := kb) C5 rfl ML5 LK.out (by rw [nL, HML.out]; rfl) (by rw [nL, HML.out]; intro y hy; simp at hy; rcases hy with rfl | rfl | rfl | rfl <;> rfl) hll (by omega) (Nat.le_trans SZ.out.2.2 dB.size) (by omega) 31 54
          rw [nL] at hr3 hr4 hcs A3
          rw [HML.out] at hr3 hcs
          have ke3 := A3.keep
          rw [nL] at ke3
          have old5 := A3.old
          have lk5 : lab5 kb = 0 := (old5 kb C5.1).trans LK.out
          have pB6 := pB5.on ke3 old5 (fun b s => by
            skip
            refine ⟨by unfold lbl at *; omega, by unfold lbl at *; omega, fun i => ?_⟩
            unfold lbl at *
            omega)
          have MD6 := MD5.on ke3 old5 (fun b s => by
            skip
            refine ⟨by unfold lbl at *; omega, by unfold lbl at *; omega, fun i => ?_⟩
            unfold lbl at *
            omega)
          have C6 := A3.cells
          simp only [List.set_cons_zero, List.set_cons_succ] at C6
          have HR3 := hide hr3
          have HR4 := hide hr4
          have HCS := hide hcs
          have PL6 := hide A3.pr
          have HC6 := hide (And.intro C6 (And.intro pB6 MD6))
          have KE3 := hide ke3
          have OLD5 := hide old5
          have LK5 := hide lk5
          clear hr3 hr4 hcs A3 ke3 old5 lk5 pB6 MD6 C6 pB5 ML5 MD5 C5 C4 pB4 ML4 MD4 HC kdr dB nB nL nD
          go_cut [67] (fun _ w' => w' = w5.setCell ⟨kb, 3, none⟩ (.slice a4 (m + 1) c4))
          case first =>
            refine wp_region_held_drew (S := fun _ => True) (by kernel_rfl) trivial (fun _ => ?_)
            generalize wB.drew = we at *
            refine take_at 0 (some 63) (v := ?_) rfl rfl (by kernel_rfl) (by kernel_rfl) (by kernel_rfl) (fun _ _ _ h => h) ⟨by rfl, ?_⟩ trivial ?_
            rotate_left
            · intro wq _; go_simp; try rfl
            simp only [Act.put, List.setIfInBounds_toArray, List.set_cons_zero, List.set_cons_succ]
            refine take_at 1 (some 64) (v := ?_) rfl rfl (by kernel_rfl) (by kernel_rfl) (by kernel_rfl) (fun _ _ _ h => h) ⟨by rfl, ?_⟩ trivial ?_
            rotate_left
            · intro wq _; go_simp; try rfl
            simp only [Act.put, List.setIfInBounds_toArray, List.set_cons_zero, List.set_cons_succ]
            refine take_at 2 (some 65) (v := ?_) rfl rfl (by kernel_rfl) (by kernel_rfl) (by kernel_rfl) (fun _ _ _ h => h) ⟨by rfl, ?_⟩ trivial ?_
            rotate_left
            · intro wq _; go_simp; try rfl
            simp only [Act.put, List.setIfInBounds_toArray, List.set_cons_zero, List.set_cons_succ]
            refine take_at 3 (some 66) (v := ?_) rfl rfl (by kernel_rfl) (by kernel_rfl) (by kernel_rfl) (fun _ _ _ h => h) ⟨by rfl, ?_⟩ trivial ?_
            rotate_left
            · intro wq _; go_simp; try rfl
            simp only [Act.put, List.setIfInBounds_toArray, List.set_cons_zero, List.set_cons_succ]
            refine take_at 5 (some 68) (v := ?_) rfl rfl (by kernel_rfl) (by kernel_rfl) (by kernel_rfl) (fun _ _ _ h => h) ⟨by rfl, ?_⟩ trivial ?_
            rotate_left
            · intro wq _; go_simp; try rfl
            simp only [Act.put, List.setIfInBounds_toArray, List.set_cons_zero, List.set_cons_succ]
            refine take_at 6 (some 69) (v := ?_) rfl rfl (by kernel_rfl) (by kernel_rfl) (by kernel_rfl) (fun _ _ _ h => h) ⟨by rfl, ?_⟩ trivial ?_
            rotate_left
            · intro wq _; go_simp; try rfl
            simp only [Act.put, List.setIfInBounds_toArray, List.set_cons_zero, List.set_cons_succ]
            refine take_at 7 (some 70) (v := ?_) rfl rfl (by kernel_rfl) (by kernel_rfl) (by kernel_rfl) (fun _ _ _ h => h) ⟨by rfl, ?_⟩ trivial ?_
            rotate_left
            · intro wq _; go_simp; try rfl
            simp only [Act.put, List.setIfInBounds_toArray, List.set_cons_zero, List.set_cons_succ]
            refine wpAnyH_ready (rs := [4, 8]) (by kernel_rfl) (by simp) ?_
            refine AllReadyH.cons rfl (fun K hK => ?_) (AllReadyH.cons rfl (fun K hK => ?_) AllReadyH.nil)
            · have cl := HCS.out.1
              go_simp
              go_wp2_with fail
              refine hK.out _ _ trivial (fun _ => ?_)
              clear hK K
              (try simp only [Act.put, List.setIfInBounds_toArray, List.set_cons_zero, List.set_cons_succ])
              clear cl
              refine wpAnyH_ready (rs := [8]) (by kernel_rfl) (by simp) ?_
              refine AllReadyH.cons rfl (fun K hK => ?_) AllReadyH.nil
              go_simp
              (try go_wp2_with fail)
              refine hK.out _ _ trivial (fun _ => ?_)
              clear hK K
              (try simp only [Act.put, List.setIfInBounds_toArray, List.set_cons_zero, List.set_cons_succ])
              refine wpAnyH_ready (rs := [9]) (by kernel_rfl) (by simp) ?_
              refine AllReadyH.cons rfl (fun K hK => ?_) AllReadyH.nil
              refine wp_run 72 (.tmp 68) (.tmp 71) rfl rfl rfl rfl rfl HR3.out ?_
              refine hK.out _ _ trivial (fun _ => ?_)
              clear hK K
              (try simp only [Act.put, List.setIfInBounds_toArray, List.set_cons_zero, List.set_cons_succ])
              refine wpAnyH_ready (rs := [10]) (by kernel_rfl) (by simp) ?_
              refine AllReadyH.cons rfl (fun K hK => ?_) AllReadyH.nil
              go_simp
              (try go_wp2_with fail)
              refine hK.out _ _ trivial (fun _ => ?_)
              clear hK K
              (try simp only [Act.put, List.setIfInBounds_toArray, List.set_cons_zero, List.set_cons_succ])
              refine wpAnyH_ready (rs := [11]) (by kernel_rfl) (by simp) ?_
              refine AllReadyH.cons rfl (fun K hK => ?_) AllReadyH.nil
              refine wp_run 74 (.tmp 67) (.tmp 73) rfl rfl rfl rfl rfl HR4.out ?_
              refine hK.out _ _ trivial (fun _ => ?_)
              clear hK K
              (try simp only [Act.put, List.setIfInBounds_toArray, List.set_cons_zero, List.set_cons_succ])
              refine take_at 12 (some 75) (v := ?_) rfl rfl (by kernel_rfl) (by kernel_rfl) (by kernel_rfl) (fun _ _ _ h => h) ⟨by rfl, ?_⟩ trivial ?_
              rotate_left
              · intro wq _; go_simp; try rfl
              simp only [Act.put, List.setIfInBounds_toArray, List.set_cons_zero, List.set_cons_succ]
              refine take_at 13 (some 76) (v := ?_) rfl rfl (by kernel_rfl) (by kernel_rfl) (by kernel_rfl) (fun _ _ _ h => h) ⟨by rfl, ?_⟩ trivial ?_
              rotate_left
              · intro wq _; go_simp; try rfl
              simp only [Act.put, List.setIfInBounds_toArray, List.set_cons_zero, List.set_cons_succ]
              refine wpAnyH_ready (rs := [14]) (by kernel_rfl) (by simp) ?_
              refine AllReadyH.cons rfl (fun K hK => ?_) AllReadyH.nil
              go_simp
              go_wp2_with fail
              refine hK.out _ _ trivial (fun _ => ?_)
              clear hK K
              (try simp only [Act.put, List.setIfInBounds_toArray, List.set_cons_zero, List.set_cons_succ])
              refine wpAnyH_done (by kernel_rfl) ?_ _
              go_wp2_with fail
              go_meet
              first | rfl | exact rfl
            · go_simp
              (try go_wp2_with fail)
              refine hK.out _ _ trivial (fun _ => ?_)
              clear hK K
              (try simp only [Act.put, List.setIfInBounds_toArray, List.set_cons_zero, List.set_cons_succ])
              refine wpAnyH_ready (rs := [4, 9]) (by kernel_rfl) (by simp) ?_
              refine AllReadyH.cons rfl (fun K hK => ?_) (AllReadyH.cons rfl (fun K hK => ?_) AllReadyH.nil)
              · have cl := HCS.out.2.1
                go_simp
                go_wp2_with fail
                refine hK.out _ _ trivial (fun _ => ?_)
                clear hK K
                (try simp only [Act.put, List.setIfInBounds_toArray, List.set_cons_zero, List.set_cons_succ])
                clear cl
                refine wpAnyH_ready (rs := [9]) (by kernel_rfl) (by simp) ?_
                refine AllReadyH.cons rfl (fun K hK => ?_) AllReadyH.nil
                refine wp_run 72 (.tmp 68) (.tmp 71) rfl rfl rfl rfl rfl HR3.out ?_
                refine hK.out _ _ trivial (fun _ => ?_)
                clear hK K
                (try simp only [Act.put, List.setIfInBounds_toArray, List.set_cons_zero, List.set_cons_succ])
                refine wpAnyH_ready (rs := [10]) (by kernel_rfl) (by simp) ?_
                refine AllReadyH.cons rfl (fun K hK => ?_) AllReadyH.nil
                go_simp
                (try go_wp2_with fail)
                refine hK.out _ _ trivial (fun _ => ?_)
                clear hK K
                (try simp only [Act.put, List.setIfInBounds_toArray, List.set_cons_zero, List.set_cons_succ])
                refine wpAnyH_ready (rs := [11]) (by kernel_rfl) (by simp) ?_
                refine AllReadyH.cons rfl (fun K hK => ?_) AllReadyH.nil
                refine wp_run 74 (.tmp 67) (.tmp 73) rfl rfl rfl rfl rfl HR4.out ?_
                refine hK.out _ _ trivial (fun _ => ?_)
                clear hK K
                (try simp only [Act.put, List.setIfInBounds_toArray, List.set_cons_zero, List.set_cons_succ])
                refine take_at 12 (some 75) (v := ?_) rfl rfl (by kernel_rfl) (by kernel_rfl) (by kernel_rfl) (fun _ _ _ h => h) ⟨by rfl, ?_⟩ trivial ?_
                rotate_left
                · intro wq _; go_simp; try rfl
                simp only [Act.put, List.setIfInBounds_toArray, List.set_cons_zero, List.set_cons_succ]
                refine take_at 13 (some 76) (v := ?_) rfl rfl (by kernel_rfl) (by kernel_rfl) (by kernel_rfl) (fun _ _ _ h => h) ⟨by rfl, ?_⟩ trivial ?_
                rotate_left
                · intro wq _; go_simp; try rfl
                simp only [Act.put, List.setIfInBounds_toArray, List.set_cons_zero, List.set_cons_succ]
                refine wpAnyH_ready (rs := [14]) (by kernel_rfl) (by simp) ?_
                refine AllReadyH.cons rfl (fun K hK => ?_) AllReadyH.nil
                go_simp
                go_wp2_with fail
                refine hK.out _ _ trivial (fun _ => ?_)
                clear hK K
                (try simp only [Act.put, List.setIfInBounds_toArray, List.set_cons_zero, List.set_cons_succ])
                refine wpAnyH_done (by kernel_rfl) ?_ _
                go_wp2_with fail
                go_meet
                first | rfl | exact rfl
              · refine wp_run 72 (.tmp 68) (.tmp 71) rfl rfl rfl rfl rfl HR3.out ?_
                refine hK.out _ _ trivial (fun _ => ?_)
                clear hK K
                (try simp only [Act.put, List.setIfInBounds_toArray, List.set_cons_zero, List.set_cons_succ])
                refine wpAnyH_ready (rs := [4, 10]) (by kernel_rfl) (by simp) ?_
                refine AllReadyH.cons rfl (fun K hK => ?_) (AllReadyH.cons rfl (fun K hK => ?_) AllReadyH.nil)
                · have cl := HCS.out.2.2.1
                  go_simp
                  go_wp2_with fail
                  refine hK.out _ _ trivial (fun _ => ?_)
                  clear hK K
                  (try simp only [Act.put, List.setIfInBounds_toArray, List.set_cons_zero, List.set_cons_succ])
                  clear cl
                  refine wpAnyH_ready (rs := [10]) (by kernel_rfl) (by simp) ?_
                  refine AllReadyH.cons rfl (fun K hK => ?_) AllReadyH.nil
                  go_simp
                  (try go_wp2_with fail)
                  refine hK.out _ _ trivial (fun _ => ?_)
                  clear hK K
                  (try simp only [Act.put, List.setIfInBounds_toArray, List.set_cons_zero, List.set_cons_succ])
                  refine wpAnyH_ready (rs := [11]) (by kernel_rfl) (by simp) ?_
                  refine AllReadyH.cons rfl (fun K hK => ?_) AllReadyH.nil
                  refine wp_run 74 (.tmp 67) (.tmp 73) rfl rfl rfl rfl rfl HR4.out ?_
                  refine hK.out _ _ trivial (fun _ => ?_)
                  clear hK K
                  (try simp only [Act.put, List.setIfInBounds_toArray, List.set_cons_zero, List.set_cons_succ])
                  refine take_at 12 (some 75) (v := ?_) rfl rfl (by kernel_rfl) (by kernel_rfl) (by kernel_rfl) (fun _ _ _ h => h) ⟨by rfl, ?_⟩ trivial ?_
                  rotate_left
                  · intro wq _; go_simp; try rfl
                  simp only [Act.put, List.setIfInBounds_toArray, List.set_cons_zero, List.set_cons_succ]
                  refine take_at 13 (some 76) (v := ?_) rfl rfl (by kernel_rfl) (by kernel_rfl) (by kernel_rfl) (fun _ _ _ h => h) ⟨by rfl, ?_⟩ trivial ?_
                  rotate_left
                  · intro wq _; go_simp; try rfl
                  simp only [Act.put, List.setIfInBounds_toArray, List.set_cons_zero, List.set_cons_succ]
                  refine wpAnyH_ready (rs := [14]) (by kernel_rfl) (by simp) ?_
                  refine AllReadyH.cons rfl (fun K hK => ?_) AllReadyH.nil
                  go_simp
                  go_wp2_with fail
                  refine hK.out _ _ trivial (fun _ => ?_)
                  clear hK K
                  (try simp only [Act.put, List.setIfInBounds_toArray, List.set_cons_zero, List.set_cons_succ])
                  refine wpAnyH_done (by kernel_rfl) ?_ _
                  go_wp2_with fail
                  go_meet
                  first | rfl | exact rfl
                · go_simp
                  (try go_wp2_with fail)
                  refine hK.out _ _ trivial (fun _ => ?_)
                  clear hK K
                  (try simp only [Act.put, List.setIfInBounds_toArray, List.set_cons_zero, List.set_cons_succ])
                  refine wpAnyH_ready (rs := [4]) (by kernel_rfl) (by simp) ?_
                  refine AllReadyH.cons rfl (fun K hK => ?_) AllReadyH.nil
                  have cl := HCS.out.2.2.2
                  go_simp
                  go_wp2_with fail
                  refine hK.out _ _ trivial (fun _ => ?_)
                  clear hK K
                  (try simp only [Act.put, List.setIfInBounds_toArray, List.set_cons_zero, List.set_cons_succ])
                  clear cl
                  refine wpAnyH_ready (rs := [11]) (by kernel_rfl) (by simp) ?_
                  refine AllReadyH.cons rfl (fun K hK => ?_) AllReadyH.nil
                  refine wp_run 74 (.tmp 67) (.tmp 73) rfl rfl rfl rfl rfl HR4.out ?_
                  refine hK.out _ _ trivial (fun _ => ?_)
                  clear hK K
                  (try simp only [Act.put, List.setIfInBounds_toArray, List.set_cons_zero, List.set_cons_succ])
                  refine take_at 12 (some 75) (v := ?_) rfl rfl (by kernel_rfl) (by kernel_rfl) (by kernel_rfl) (fun _ _ _ h => h) ⟨by rfl, ?_⟩ trivial ?_
                  rotate_left
                  · intro wq _; go_simp; try rfl
                  simp only [Act.put, List.setIfInBounds_toArray, List.set_cons_zero, List.set_cons_succ]
                  refine take_at 13 (some 76) (v := ?_) rfl rfl (by kernel_rfl) (by kernel_rfl) (by kernel_rfl) (fun _ _ _ h => h) ⟨by rfl, ?_⟩ trivial ?_
                  rotate_left
                  · intro wq _; go_simp; try rfl
                  simp only [Act.put, List.setIfInBounds_toArray, List.set_cons_zero, List.set_cons_succ]
                  refine wpAnyH_ready (rs := [14]) (by kernel_rfl) (by simp) ?_
                  refine AllReadyH.cons rfl (fun K hK => ?_) AllReadyH.nil
                  go_simp
                  go_wp2_with fail
                  refine hK.out _ _ trivial (fun _ => ?_)
                  clear hK K
                  (try simp only [Act.put, List.setIfInBounds_toArray, List.set_cons_zero, List.set_cons_succ])
                  refine wpAnyH_done (by kernel_rfl) ?_ _
                  go_wp2_with fail
                  go_meet
                  first | rfl | exact rfl
          case rest =>
            obtain ⟨wC, hwC⟩ : ∃ wC, wC = w5.setCell ⟨kb, 3, none⟩ (.slice a4 (m + 1) c4) := ⟨_, rfl⟩
            rw [← hwC] at hcut KE3 HC6 PL6
            clear hwC kz5 fz5 HR3 HR4 HCS
            have hcut' := hcut.symm
            clear hcut
            subst hcut'
            obtain ⟨C6, pB6, MD6⟩ := HC6.out
            obtain ⟨nB, nL, nD⟩ := BND.out
            have dC : Below wC.heap.size wC wC.drew := (Below.refl _ _).drew
            have kdr : Keep (fun _ => False) wC wC.drew := Keep.of_below dC
            have C7 := C6.below dC
            have pB7 := pB6.on (lab' := lab5) kdr (fun _ _ => rfl) (fun _ s => s.elim)
            have pL7 := PL6.out.on (lab' := lab5) kdr (fun _ _ => rfl) (fun _ s => s.elim)
            have MD7 := MD6.on (lab' := lab5) kdr (fun _ _ => rfl) (fun _ s => s.elim)
            have szD : B ≤ wC.drew.heap.size := Nat.le_trans (Nat.le_trans SZ.out.2.2 KE3.out.size) dC.size
            obtain ⟨a5, c5, w6, a6, c6, w7, lab6, hr5, hr6, hcs, ⟨kz7, fz7⟩, A4⟩ := Mid.add2 ty55 (j := 4) (kb := kb) C7 rfl MD7 LK5.out (by rw [nD, HMD.out]; rfl) (by rw [nD, HMD.out]; intro y hy; simp at hy; rcases hy with rfl | rfl <;> rfl) hdl (by omega) szD (by omega) 32 55
            rw [nD] at hr5 hr6 hcs A4
            rw [HMD.out] at hr5 hcs
            have HR5 := hide hr5
            have HR6 := hide hr6
            have HCS := hide hcs
            have DONE := hide (lists_done (own := fun b => (Value.slice la live.length lc).ownBlock = some b ∨ (Value.slice da dirty.length dc).ownBlock = some b) KBh.out KE1.out KE2.out (Below.refl _ _).drew KE3.out (Below.refl _ _).drew A4 OLD.out.1 OLD.out.2 OLD5.out (fun b hb => ln2 b (fun q => hb (.inl q)) (fun q => hb (.inr q))) LK5.out C7.1 HNB.out.1 pB7 pL7 nB (by simp [nL]) nD)
            clear hr5 hr6 hcs A4 szD MD7 pL7 pB7 C7 kdr dC nB nL nD MD6 pB6 C6 KE3 HC6 PL6 KE1 KE2 OLD OLD5 LK LK5 SZ HNB LS KBh BND
            go_upto_region 15 with fail
            refine wp_region_held_drew (S := fun _ => True) (by kernel_rfl) trivial (fun _ => ?_)
            generalize wC.drew = we at *
            refine take_at 0 (some 77) (v := ?_) rfl rfl (by kernel_rfl) (by kernel_rfl) (by kernel_rfl) (fun _ _ _ h => h) ⟨by rfl, ?_⟩ trivial ?_
            rotate_left
            · intro wq _; go_simp; try rfl
            simp only [Act.put, List.setIfInBounds_toArray, List.set_cons_zero, List.set_cons_succ]
            refine take_at 1 (some 78) (v := ?_) rfl rfl (by kernel_rfl) (by kernel_rfl) (by kernel_rfl) (fun _ _ _ h => h) ⟨by rfl, ?_⟩ trivial ?_
            rotate_left
            · intro wq _; go_simp; try rfl
            simp only [Act.put, List.setIfInBounds_toArray, List.set_cons_zero, List.set_cons_succ]
            refine take_at 2 (some 79) (v := ?_) rfl rfl (by kernel_rfl) (by kernel_rfl) (by kernel_rfl) (fun _ _ _ h => h) ⟨by rfl, ?_⟩ trivial ?_
            rotate_left
            · intro wq _; go_simp; try rfl
            simp only [Act.put, List.setIfInBounds_toArray, List.set_cons_zero, List.set_cons_succ]
            refine take_at 3 (some 80) (v := ?_) rfl rfl (by kernel_rfl) (by kernel_rfl) (by kernel_rfl) (fun _ _ _ h => h) ⟨by rfl, ?_⟩ trivial ?_
            rotate_left
            · intro wq _; go_simp; try rfl
            simp only [Act.put, List.setIfInBounds_toArray, List.set_cons_zero, List.set_cons_succ]
            refine take_at 5 (some 82) (v := ?_) rfl rfl (by kernel_rfl) (by kernel_rfl) (by kernel_rfl) (fun _ _ _ h => h) ⟨by rfl, ?_⟩ trivial ?_
            rotate_left
            · intro wq _; go_simp; try rfl
            simp only [Act.put, List.setIfInBounds_toArray, List.set_cons_zero, List.set_cons_succ]
            refine take_at 6 (some 83) (v := ?_) rfl rfl (by kernel_rfl) (by kernel_rfl) (by kernel_rfl) (fun _ _ _ h => h) ⟨by rfl, ?_⟩ trivial ?_
            rotate_left
            · intro wq _; go_simp; try rfl
            simp only [Act.put, List.setIfInBounds_toArray, List.set_cons_zero, List.set_cons_succ]
            refine take_at 7 (some 84) (v := ?_) rfl rfl (by kernel_rfl) (by kernel_rfl) (by kernel_rfl) (fun _ _ _ h => h) ⟨by rfl, ?_⟩ trivial ?_
            rotate_left
            · intro wq _; go_simp; try rfl
            simp only [Act.put, List.setIfInBounds_toArray, List.set_cons_zero, List.set_cons_succ]
            refine wpAnyH_ready (rs := [4, 8]) (by kernel_rfl) (by simp) ?_
            refine AllReadyH.cons rfl (fun K hK => ?_) (AllReadyH.cons rfl (fun K hK => ?_) AllReadyH.nil)
            · have cl := HCS.out.1
              go_simp
              go_wp2_with fail
              refine hK.out _ _ trivial (fun _ => ?_)
              clear hK K
              (try simp only [Act.put, List.setIfInBounds_toArray, List.set_cons_zero, List.set_cons_succ])
              clear cl
              refine wpAnyH_ready (rs := [8]) (by kernel_rfl) (by simp) ?_
              refine AllReadyH.cons rfl (fun K hK => ?_) AllReadyH.nil
              go_simp
              (try go_wp2_with fail)
              refine hK.out _ _ trivial (fun _ => ?_)
              clear hK K
              (try simp only [Act.put, List.setIfInBounds_toArray, List.set_cons_zero, List.set_cons_succ])
              refine wpAnyH_ready (rs := [9]) (by kernel_rfl) (by simp) ?_
              refine AllReadyH.cons rfl (fun K hK => ?_) AllReadyH.nil
              refine wp_run 86 (.tmp 82) (.tmp 85) rfl rfl rfl rfl rfl HR5.out ?_
              refine hK.out _ _ trivial (fun _ => ?_)
              clear hK K
              (try simp only [Act.put, List.setIfInBounds_toArray, List.set_cons_zero, List.set_cons_succ])
              refine wpAnyH_ready (rs := [10]) (by kernel_rfl) (by simp) ?_
              refine AllReadyH.cons rfl (fun K hK => ?_) AllReadyH.nil
              go_simp
              (try go_wp2_with fail)
              refine hK.out _ _ trivial (fun _ => ?_)
              clear hK K
              (try simp only [Act.put, List.setIfInBounds_toArray, List.set_cons_zero, List.set_cons_succ])
              refine wpAnyH_ready (rs := [11]) (by kernel_rfl) (by simp) ?_
              refine AllReadyH.cons rfl (fun K hK => ?_) AllReadyH.nil
              refine wp_run 88 (.tmp 81) (.tmp 87) rfl rfl rfl rfl rfl HR6.out ?_
              refine hK.out _ _ trivial (fun _ => ?_)
              clear hK K
              (try simp only [Act.put, List.setIfInBounds_toArray, List.set_cons_zero, List.set_cons_succ])
              refine take_at 12 (some 89) (v := ?_) rfl rfl (by kernel_rfl) (by kernel_rfl) (by kernel_rfl) (fun _ _ _ h => h) ⟨by rfl, ?_⟩ trivial ?_
              rotate_left
              · intro wq _; go_simp; try rfl
              simp only [Act.put, List.setIfInBounds_toArray, List.set_cons_zero, List.set_cons_succ]
              refine take_at 13 (some 90) (v := ?_) rfl rfl (by kernel_rfl) (by kernel_rfl) (by kernel_rfl) (fun _ _ _ h => h) ⟨by rfl, ?_⟩ trivial ?_
              rotate_left
              · intro wq _; go_simp; try rfl
              simp only [Act.put, List.setIfInBounds_toArray, List.set_cons_zero, List.set_cons_succ]
              refine wpAnyH_ready (rs := [14]) (by kernel_rfl) (by simp) ?_
              refine AllReadyH.cons rfl (fun K hK => ?_) AllReadyH.nil
              go_simp
              go_wp2_with fail
              refine hK.out _ _ trivial (fun _ => ?_)
              clear hK K
              (try simp only [Act.put, List.setIfInBounds_toArray, List.set_cons_zero, List.set_cons_succ])
              refine wpAnyH_done (by kernel_rfl) ?_ _
              clear kz7 fz7
              go_wp2_with fail
              go_end0
              exact ⟨rfl, DONE.out⟩
            · go_simp
              (try go_wp2_with fail)
              refine hK.out _ _ trivial (fun _ => ?_)
              clear hK K
              (try simp only [Act.put, List.setIfInBounds_toArray, List.set_cons_zero, List.set_cons_succ])
              refine wpAnyH_ready (rs := [4, 9]) (by kernel_rfl) (by simp) ?_
              refine AllReadyH.cons rfl (fun K hK => ?_) (AllReadyH.cons rfl (fun K hK => ?_) AllReadyH.nil)
              · have cl := HCS.out.2.1
                go_simp
                go_wp2_with fail
                refine hK.out _ _ trivial (fun _ => ?_)
                clear hK K
                (try simp only [Act.put, List.setIfInBounds_toArray, List.set_cons_zero, List.set_cons_succ])
                clear cl
                refine wpAnyH_ready (rs := [9]) (by kernel_rfl) (by simp) ?_
                refine AllReadyH.cons rfl (fun K hK => ?_) AllReadyH.nil
                refine wp_run 86 (.tmp 82) (.tmp 85) rfl rfl rfl rfl rfl HR5.out ?_
                refine hK.out _ _ trivial (fun _ => ?_)
                clear hK K
                (try simp only [Act.put, List.setIfInBounds_toArray, List.set_cons_zero, List.set_cons_succ])
                refine wpAnyH_ready (rs := [10]) (by kernel_rfl) (by simp) ?_
                refine AllReadyH.cons rfl (fun K hK => ?_) AllReadyH.nil
                go_simp
                (try go_wp2_with fail)
                refine hK.out _ _ trivial (fun _ => ?_)
                clear hK K
                (try simp only [Act.put, List.setIfInBounds_toArray, List.set_cons_zero, List.set_cons_succ])
                refine wpAnyH_ready (rs := [11]) (by kernel_rfl) (by simp) ?_
                refine AllReadyH.cons rfl (fun K hK => ?_) AllReadyH.nil
                refine wp_run 88 (.tmp 81) (.tmp 87) rfl rfl rfl rfl rfl HR6.out ?_
                refine hK.out _ _ trivial (fun _ => ?_)
                clear hK K
                (try simp only [Act.put, List.setIfInBounds_toArray, List.set_cons_zero, List.set_cons_succ])
                refine take_at 12 (some 89) (v := ?_) rfl rfl (by kernel_rfl) (by kernel_rfl) (by kernel_rfl) (fun _ _ _ h => h) ⟨by rfl, ?_⟩ trivial ?_
                rotate_left
                · intro wq _; go_simp; try rfl
                simp only [Act.put, List.setIfInBounds_toArray, List.set_cons_zero, List.set_cons_succ]
                refine take_at 13 (some 90) (v := ?_) rfl rfl (by kernel_rfl) (by kernel_rfl) (by kernel_rfl) (fun _ _ _ h => h) ⟨by rfl, ?_⟩ trivial ?_
                rotate_left
                · intro wq _; go_simp; try rfl
                simp only [Act.put, List.setIfInBounds_toArray, List.set_cons_zero, List.set_cons_succ]
                refine wpAnyH_ready (rs := [14]) (by kernel_rfl) (by simp) ?_
                refine AllReadyH.cons rfl (fun K hK => ?_) AllReadyH.nil
                go_simp
                go_wp2_with fail
                refine hK.out _ _ trivial (fun _ => ?_)
                clear hK K
                (try simp only [Act.put, List.setIfInBounds_toArray, List.set_cons_zero, List.set_cons_succ])
                refine wpAnyH_done (by kernel_rfl) ?_ _
                clear kz7 fz7
                go_wp2_with fail
                go_end0
                exact ⟨rfl, DONE.out⟩
              · refine wp_run 86 (.tmp 82) (.tmp 85) rfl rfl rfl rfl rfl HR5.out ?_
                refine hK.out _ _ trivial (fun _ => ?_)
                clear hK K
                (try simp only [Act.put, List.setIfInBounds_toArray, List.set_cons_zero, List.set_cons_succ])
                refine wpAnyH_ready (rs := [4, 10]) (by kernel_rfl) (by simp) ?_
                refine AllReadyH.cons rfl (fun K hK => ?_) (AllReadyH.cons rfl (fun K hK => ?_) AllReadyH.nil)
                · have cl := HCS.out.2.2.1
                  go_simp
                  go_wp2_with fail
                  refine hK.out _ _ trivial (fun _ => ?_)
                  clear hK K
                  (try simp only [Act.put, List.setIfInBounds_toArray, List.set_cons_zero, List.set_cons_succ])
                  clear cl
                  refine wpAnyH_ready (rs := [10]) (by kernel_rfl) (by simp) ?_
                  refine AllReadyH.cons rfl (fun K hK => ?_) AllReadyH.nil
                  go_simp
                  (try go_wp2_with fail)
                  refine hK.out _ _ trivial (fun _ => ?_)
                  clear hK K
                  (try simp only [Act.put, List.setIfInBounds_toArray, List.set_cons_zero, List.set_cons_succ])
                  refine wpAnyH_ready (rs := [11]) (by kernel_rfl) (by simp) ?_
                  refine AllReadyH.cons rfl (fun K hK => ?_) AllReadyH.nil
                  refine wp_run 88 (.tmp 81) (.tmp 87) rfl rfl rfl rfl rfl HR6.out ?_
                  refine hK.out _ _ trivial (fun _ => ?_)
                  clear hK K
                  (try simp only [Act.put, List.setIfInBounds_toArray, List.set_cons_zero, List.set_cons_succ])
                  refine take_at 12 (some 89) (v := ?_) rfl rfl (by kernel_rfl) (by kernel_rfl) (by kernel_rfl) (fun _ _ _ h => h) ⟨by rfl, ?_⟩ trivial ?_
                  rotate_left
                  · intro wq _; go_simp; try rfl
                  simp only [Act.put, List.setIfInBounds_toArray, List.set_cons_zero, List.set_cons_succ]
                  refine take_at 13 (some 90) (v := ?_) rfl rfl (by kernel_rfl) (by kernel_rfl) (by kernel_rfl) (fun _ _ _ h => h) ⟨by rfl, ?_⟩ trivial ?_
                  rotate_left
                  · intro wq _; go_simp; try rfl
                  simp only [Act.put, List.setIfInBounds_toArray, List.set_cons_zero, List.set_cons_succ]
                  refine wpAnyH_ready (rs := [14]) (by kernel_rfl) (by simp) ?_
                  refine AllReadyH.cons rfl (fun K hK => ?_) AllReadyH.nil
                  go_simp
                  go_wp2_with fail
                  refine hK.out _ _ trivial (fun _ => ?_)
                  clear hK K
                  (try simp only [Act.put, List.setIfInBounds_toArray, List.set_cons_zero, List.set_cons_succ])
                  refine wpAnyH_done (by kernel_rfl) ?_ _
                  clear kz7 fz7
                  go_wp2_with fail
                  go_end0
                  exact ⟨rfl, DONE.out⟩
                · go_simp
                  (try go_wp2_with fail)
                  refine hK.out _ _ trivial (fun _ => ?_)
                  clear hK K
                  (try simp only [Act.put, List.setIfInBounds_toArray, List.set_cons_zero, List.set_cons_succ])
                  refine wpAnyH_ready (rs := [4]) (by kernel_rfl) (by simp) ?_
                  refine AllReadyH.cons rfl (fun K hK => ?_) AllReadyH.nil
                  have cl := HCS.out.2.2.2
                  go_simp
                  go_wp2_with fail
                  refine hK.out _ _ trivial (fun _ => ?_)
                  clear hK K
                  (try simp only [Act.put, List.setIfInBounds_toArray, List.set_cons_zero, List.set_cons_succ])
                  clear cl
                  refine wpAnyH_ready (rs := [11]) (by kernel_rfl) (by simp) ?_
                  refine AllReadyH.cons rfl (fun K hK => ?_) AllReadyH.nil
                  refine wp_run 88 (.tmp 81) (.tmp 87) rfl rfl rfl rfl rfl HR6.out ?_
                  refine hK.out _ _ trivial (fun _ => ?_)
                  clear hK K
                  (try simp only [Act.put, List.setIfInBounds_toArray, List.set_cons_zero, List.set_cons_succ])
                  refine take_at 12 (some 89) (v := ?_) rfl rfl (by kernel_rfl) (by kernel_rfl) (by kernel_rfl) (fun _ _ _ h => h) ⟨by rfl, ?_⟩ trivial ?_
                  rotate_left
                  · intro wq _; go_simp; try rfl
                  simp only [Act.put, List.setIfInBounds_toArray, List.set_cons_zero, List.set_cons_succ]
                  refine take_at 13 (some 90) (v := ?_) rfl rfl (by kernel_rfl) (by kernel_rfl) (by kernel_rfl) (fun _ _ _ h => h) ⟨by rfl, ?_⟩ trivial ?_
                  rotate_left
                  · intro wq _; go_simp; try rfl
                  simp only [Act.put, List.setIfInBounds_toArray, List.set_cons_zero, List.set_cons_succ]
                  refine wpAnyH_ready (rs := [14]) (by kernel_rfl) (by simp) ?_
                  refine AllReadyH.cons rfl (fun K hK => ?_) AllReadyH.nil
                  go_simp
                  go_wp2_with fail
                  refine hK.out _ _ trivial (fun _ => ?_)
                  clear hK K
                  (try simp only [Act.put, List.setIfInBounds_toArray, List.set_cons_zero, List.set_cons_succ])
                  refine wpAnyH_done (by kernel_rfl) ?_ _
                  clear kz7 fz7
                  go_wp2_with fail
                  go_end0
                  exact ⟨rfl, DONE.out⟩

end Go.Proofs.Ytlibldioliicfaa
namespace Go.Proofs.Ytlibldioliicfaa
open Go.RowKit Go.QK
set_option maxRecDepth 100000
/-- A list of a pair of rows, as it is read: where its cells are. -/
theorem Pr.entry {w : World} {B : Nat} {lab : Nat → Nat} {j : Nat} {e : TypeId} {aV aU : Option Addr} {N cV cU : Nat} {xs ys : List Value} {mk : Nat → List Value} (p : Pr w B lab j e (.slice aV N cV) (.slice aU N cU) xs ys mk) (hN : xs.length = N) (i : Nat) (hi : i < N) :
    ∃ bV bU a k c a' c', aV = some ⟨bV, 0, none⟩ ∧ aU = some ⟨bU, 0, none⟩ ∧ w.cell? ⟨bV, i, none⟩ = some (.slice a k c) ∧ w.cell? ⟨bU, i, none⟩ = some (.slice a' (k + 1) c') ∧ k ≤ 1000000 ∧ Lies w a (rep k (mk i)) ∧ Lies w a' (rep (k + 1) (mk i)) := by
  have hy := p.len
  obtain ⟨a, k, c, a', c', e1, e2, l1, l2, hk⟩ := p.ent i (by omega) (by omega)
  obtain ⟨a1, c1, q1, li1, _, _, _, z1⟩ := GRow.lies p.r1
  obtain ⟨a2, c2, q2, li2, _, _, _, z2⟩ := GRow.lies p.r2
  obtain ⟨b1, o1, f1, _, h1⟩ := li1.cellAt i _ (List.getElem?_eq_getElem (by omega))
  obtain ⟨b2, o2, f2, _, h2⟩ := li2.cellAt i _ (List.getElem?_eq_getElem (by omega))
  have r1 := (z1 _ f1).1
  have r2 := (z2 _ f2).1
  simp only at r1 r2
  subst r1 r2
  rw [Nat.zero_add] at h1 h2
  simp only [Value.slice.injEq] at q1 q2
  obtain ⟨rfl, -, rfl⟩ := q1
  obtain ⟨rfl, -, rfl⟩ := q2
  exact ⟨b1, b2, a, k, c, a', c', f1, f2, by rw [h1, e1], by rw [h2, e2], hk, l1.lies, l2.lies⟩
theorem Lies.rep1 {w : World} {a : Option Addr} {k : Nat} {mk : List Value} (h : Lies w a (rep k mk)) (i : Nat) (hi : i < k) (y : Value) (hy : mk[0]? = some y) : ∃ b off, a = some ⟨b, off, none⟩ ∧ w.cell? ⟨b, off + i * mk.length, none⟩ = some y := by
  have hl : 0 < mk.length := (List.getElem?_eq_some_iff.1 hy).1
  obtain ⟨b, off, e, _, hc⟩ := h.cellAt (i * mk.length + 0) y ((rep_get k mk i 0 hi hl).trans hy)
  exact ⟨b, off, e, hc⟩
theorem dltT {a b : Nat} (h : a < b) : decide ((a : Int) < (b : Int)) = true := decide_eq_true (by omega)
theorem dltF {a b : Nat} (h : ¬ a < b) : decide ((a : Int) < (b : Int)) = false := decide_eq_false (by omega)
theorem dltT1 {a b : Nat} (h : a < b + 1) : decide ((a : Int) < (b : Int) + 1) = true := decide_eq_true (by omega)
theorem dltF1 {a b : Nat} (h : ¬ a < b + 1) : decide ((a : Int) < (b : Int) + 1) = false := decide_eq_false (by omega)
theorem ltI {a b : Nat} (h : a < b) : (a : Int) < (b : Int) := by omega
theorem ltI1 {a b : Nat} (h : a < b + 1) : (a : Int) < (b : Int) + 1 := by omega
theorem wrapS {a b : Nat} (h : a < b) (hb : b ≤ 2000000) : IntKind.i64.wrap ((a : Int) + 1) = (a : Int) + 1 := by rw [IntKind.wrap_i64]; omega
theorem wrapM {a b : Nat} (h : a < b) (hb : b ≤ 2000000) : IntKind.i64.wrap ((a : Int) + 1000000) = (a : Int) + 1000000 := by rw [IntKind.wrap_i64]; omega
set_option maxHeartbeats 0 in
theorem holds_any (w : World) (B : Nat) (lab : Nat → Nat) (kb n m : Nat) (h : BkE w B lab kb n m) (hn : n ≤ 100000) (hm : m ≤ 100000) :
    Calls Try.prog 20 #[.pointer (some ⟨kb, 0, none⟩)] w fun e w' => e = .returned (.bool true) ∧ w' = w := by
  obtain ⟨vB, uB, vL, uL, vD, uD, xB, yB, xL, yL, xD, yD, h⟩ := h
  obtain ⟨aB, cB, eB, _⟩ := GRow.lies h.pB.r1
  obtain ⟨aC, cC, eC, _⟩ := GRow.lies h.pB.r2
  obtain ⟨aL, cL, eL, _⟩ := GRow.lies h.pL.r1
  obtain ⟨aM, cM, eM, _⟩ := GRow.lies h.pL.r2
  obtain ⟨aD, cD, eD, _⟩ := GRow.lies h.pD.r1
  obtain ⟨aE, cE, eE, _⟩ := GRow.lies h.pD.r2
  have nB := h.nB
  have nL := h.nL
  have nD := h.nD
  rw [nB] at eB
  rw [h.pB.len, nB] at eC
  rw [nL] at eL
  rw [h.pL.len, nL] at eM
  rw [nD] at eD
  rw [h.pD.len, nD] at eE
  subst eB eC eL eM eD eE
  have k0 := (h.cells.get 0 _ rfl).1
  have k1 := (h.cells.get 1 _ rfl).1
  have k2 := (h.cells.get 2 _ rfl).1
  have k3 := (h.cells.get 3 _ rfl).1
  have k4 := (h.cells.get 4 _ rfl).1
  have k5 := (h.cells.get 5 _ rfl).1
  have PB := hide (fun i hi => h.pB.entry nB i hi)
  have PL := hide (fun i hi => h.pL.entry nL i hi)
  have PD := hide (fun i hi => h.pD.entry nD i hi)
  clear h nB nL nD
  go_enter Try.func20, Try.ntmps20
  go_wp2_with fail
  go_loopw [3] (fun i wr => ∃ k : Nat, i = .int .i64 (k : Int) ∧ k ≤ n ∧ wr = w) (fun i _ => n - (intOf i).toNat)
  case atStart => exact ⟨0, rfl, by omega, rfl⟩
  case round =>
    obtain ⟨k, rfl, hk, hw⟩ := hrel
    have hw' := hw.symm
    clear hw
    subst hw'
    by_cases hlt : k < n
    · have d1 : decide ((k : Int) < (n : Int)) = true := dltT (by assumption)
      have d2 : (k : Int) < (n : Int) := ltI (by assumption)
      obtain ⟨bV, bU, a, kk, c, a', c', rfl, rfl, hcV, hcU, hkk, li, li'⟩ := PB.out k hlt
      obtain ⟨mm, hmm⟩ : ∃ mm, mm = (3 * k + 1) % 256 := ⟨_, rfl⟩
      have e1 : IntKind.i64.wrap (3 * (k : Int)) = 3 * (k : Int) := by rw [IntKind.wrap_i64]; omega
      have e2 : IntKind.i64.wrap (3 * (k : Int) + 1) = 3 * (k : Int) + 1 := by rw [IntKind.wrap_i64]; omega
      have e3 : IntKind.u8.wrap (3 * (k : Int) + 1) = (mm : Int) := by rw [IntKind.wrap_u8]; omega
      have hmk : (mkB k)[0]? = some (.int .u8 (mm : Int)) := by unfold mkB; rw [← hmm]; rfl
      have LI := hide (fun i hi => li.rep1 i hi _ hmk)
      have LI' := hide (fun i hi => li'.rep1 i hi _ hmk)
      have ml : (mkB k).length = 1 := rfl
      rw [ml] at LI LI'
      simp only [Nat.mul_one] at LI LI'
      have ew : IntKind.i64.wrap ((k : Int) + 1) = (k : Int) + 1 := wrapS hlt (Nat.le_trans hn (by decide))
      clear li li' hmk ml hmm
      go_wp2_with fail
      go_loopw [5] (fun i wr => ∃ q : Nat, i = .int .i64 (q : Int) ∧ q ≤ kk + 1 ∧ wr = w) (fun i _ => kk + 1 - (intOf i).toNat)
      case atStart => exact ⟨0, rfl, by omega, rfl⟩
      case round =>
        obtain ⟨q, rfl, hq, hw⟩ := hrel
        have hw' := hw.symm
        clear hw
        subst hw'
        by_cases hlq : q < kk + 1
        · have g1 : decide ((q : Int) < (kk : Int) + 1) = true := dltT1 (by assumption)
          have g2 : (q : Int) < (kk : Int) + 1 := ltI1 (by assumption)
          have ew2 : IntKind.i64.wrap ((q : Int) + 1) = (q : Int) + 1 := wrapS hlq (by first | exact Nat.le_trans (Nat.succ_le_succ hkk) (by decide) | exact Nat.le_trans (Nat.succ_le_succ hkL) (by decide) | exact Nat.le_trans (Nat.succ_le_succ hkD) (by decide))
          obtain ⟨b2, o2, rfl, x2⟩ := LI'.out q hlq
          by_cases hlv : q < kk
          · have g3 : decide ((q : Int) < (kk : Int)) = true := dltT (by assumption)
            have g4 : (q : Int) < (kk : Int) := ltI (by assumption)
            obtain ⟨b1, o1, rfl, x1⟩ := LI.out q hlv
            go_wp2_with fail
            go_roundw
            case rel => exact ⟨q + 1, by go_num, hlq, by first | rfl | trivial⟩
            case measure => simp [intOf]; omega
          · have g3 : decide ((q : Int) < (kk : Int)) = false := dltF (by assumption)
            go_wp2_with fail
            go_roundw
            case rel => exact ⟨q + 1, by go_num, hlq, by first | rfl | trivial⟩
            case measure => simp [intOf]; omega
        · have g1 : decide ((q : Int) < (kk : Int) + 1) = false := dltF1 (by assumption)
          go_wp2_with fail
          go_roundw
          case rel => exact ⟨k + 1, by go_num, hlt, by first | rfl | trivial⟩
          case measure => simp [intOf]; omega
    · have d1 : decide ((k : Int) < (n : Int)) = false := dltF (by assumption)
      clear PB
      go_wp2_with fail
      go_loopw [6] (fun i wr => ∃ j : Nat, i = .int .i64 (j : Int) ∧ j ≤ m ∧ wr = w) (fun i _ => m - (intOf i).toNat)
      case atStart => exact ⟨0, rfl, by omega, rfl⟩
      case round =>
        obtain ⟨j, rfl, hj, hw⟩ := hrel
        have hw' := hw.symm
        clear hw
        subst hw'
        by_cases hlj : j < m
        · have d3 : decide ((j : Int) < (m : Int)) = true := dltT (by assumption)
          have d4 : (j : Int) < (m : Int) := ltI (by assumption)
          obtain ⟨bV, bU, a, kL, c, a', c', rfl, rfl, hcV, hcU, hkL, li, li'⟩ := PL.out j hlj
          obtain ⟨bX, bY, a2, kD, c2, a2', c2', rfl, rfl, hcX, hcY, hkD, lj, lj'⟩ := PD.out j hlj
          obtain ⟨mm, hmm⟩ : ∃ mm : Int, mm = (j : Int) + 1000000 := ⟨_, rfl⟩
          have e1 : IntKind.i64.wrap ((j : Int) + 1000000) = mm := (wrapM hlj (Nat.le_trans hm (by decide))).trans hmm.symm
          have hmL : (mkL j)[0]? = some (.int .i64 mm) := by unfold mkL; rw [← hmm]; rfl
          have hmD : (mkD j)[0]? = some (.int .i64 mm) := by unfold mkD; rw [← hmm]; rfl
          have LI := hide (fun i hi => li.rep1 i hi _ hmL)
          have LI' := hide (fun i hi => li'.rep1 i hi _ hmL)
          have LJ := hide (fun i hi => lj.rep1 i hi _ hmD)
          have LJ' := hide (fun i hi => lj'.rep1 i hi _ hmD)
          have ml : (mkL j).length = 4 := rfl
          have md : (mkD j).length = 2 := rfl
          rw [ml] at LI LI'
          rw [md] at LJ LJ'
          have ew : IntKind.i64.wrap ((j : Int) + 1) = (j : Int) + 1 := wrapS hlj (Nat.le_trans hm (by decide))
          clear li li' lj lj' hmL hmD ml md hmm
          go_wp2_with fail
          go_loopw [8] (fun i wr => ∃ q : Nat, i = .int .i64 (q : Int) ∧ q ≤ kL + 1 ∧ wr = w) (fun i _ => kL + 1 - (intOf i).toNat)
          case atStart => exact ⟨0, rfl, by omega, rfl⟩
          case round =>
            obtain ⟨q1, rfl, hq, hw⟩ := hrel
            have hw' := hw.symm
            clear hw
            subst hw'
            by_cases hlq : q1 < kL + 1
            · have g1 : decide ((q1 : Int) < (kL : Int) + 1) = true := dltT1 (by assumption)
              have g2 : (q1 : Int) < (kL : Int) + 1 := ltI1 (by assumption)
              have ew2 : IntKind.i64.wrap ((q1 : Int) + 1) = (q1 : Int) + 1 := wrapS hlq (by first | exact Nat.le_trans (Nat.succ_le_succ hkk) (by decide) | exact Nat.le_trans (Nat.succ_le_succ hkL) (by decide) | exact Nat.le_trans (Nat.succ_le_succ hkD) (by decide))
              obtain ⟨b2, o2, rfl, x2⟩ := LI'.out q1 hlq
              by_cases hlv : q1 < kL
              · have g3 : decide ((q1 : Int) < (kL : Int)) = true := dltT (by assumption)
                have g4 : (q1 : Int) < (kL : Int) := ltI (by assumption)
                obtain ⟨b1, o1, rfl, x1⟩ := LI.out q1 hlv
                go_wp2_with fail
                go_roundw
                case rel => exact ⟨q1 + 1, by go_num, hlq, by first | rfl | trivial⟩
                case measure => simp [intOf]; omega
              · have g3 : decide ((q1 : Int) < (kL : Int)) = false := dltF (by assumption)
                go_wp2_with fail
                go_roundw
                case rel => exact ⟨q1 + 1, by go_num, hlq, by first | rfl | trivial⟩
                case measure => simp [intOf]; omega
            · have g1 : decide ((q1 : Int) < (kL : Int) + 1) = false := dltF1 (by assumption)
              go_wp2_with fail
              go_loopw [9] (fun i wr => ∃ q : Nat, i = .int .i64 (q : Int) ∧ q ≤ kD + 1 ∧ wr = w) (fun i _ => kD + 1 - (intOf i).toNat)
              case atStart => exact ⟨0, rfl, by omega, rfl⟩
              case round =>
                obtain ⟨q2, rfl, hq, hw⟩ := hrel
                have hw' := hw.symm
                clear hw
                subst hw'
                by_cases hlq : q2 < kD + 1
                · have g1 : decide ((q2 : Int) < (kD : Int) + 1) = true := dltT1 (by assumption)
                  have g2 : (q2 : Int) < (kD : Int) + 1 := ltI1 (by assumption)
                  have ew2 : IntKind.i64.wrap ((q2 : Int) + 1) = (q2 : Int) + 1 := wrapS hlq (by first | exact Nat.le_trans (Nat.succ_le_succ hkk) (by decide) | exact Nat.le_trans (Nat.succ_le_succ hkL) (by decide) | exact Nat.le_trans (Nat.succ_le_succ hkD) (by decide))
                  obtain ⟨b2, o2, rfl, x2⟩ := LJ'.out q2 hlq
                  by_cases hlv : q2 < kD
                  · have g3 : decide ((q2 : Int) < (kD : Int)) = true := dltT (by assumption)
                    have g4 : (q2 : Int) < (kD : Int) := ltI (by assumption)
                    obtain ⟨b1, o1, rfl, x1⟩ := LJ.out q2 hlv
                    go_wp2_with fail
                    go_roundw
                    case rel => exact ⟨q2 + 1, by go_num, hlq, by first | rfl | trivial⟩
                    case measure => simp [intOf]; omega
                  · have g3 : decide ((q2 : Int) < (kD : Int)) = false := dltF (by assumption)
                    go_wp2_with fail
                    go_roundw
                    case rel => exact ⟨q2 + 1, by go_num, hlq, by first | rfl | trivial⟩
                    case measure => simp [intOf]; omega
                · have g1 : decide ((q2 : Int) < (kD : Int) + 1) = false := dltF1 (by assumption)
                  go_wp2_with fail
                  go_roundw
                  case rel => exact ⟨j + 1, by go_num, hlj, by first | rfl | trivial⟩
                  case measure => simp [intOf]; omega
        · have d3 : decide ((j : Int) < (m : Int)) = false := dltF (by assumption)
          go_wp2_with fail
          go_ret
          exact ⟨by first | rfl | simp, by first | rfl | trivial⟩
end Go.Proofs.Ytlibldioliicfaa
namespace Go.Proofs.Ytlibldioliicfaa
open Go.RowKit Go.QK
set_option maxRecDepth 100000
/-- A list with a mark behind it. -/
abbrev LentL (w : World) (B : Nat) (a : Option Addr) (c : Nat) (ls : List LiveM) : Prop := GRow w B 63 4 (.slice a (ls.length + 1) c) (ls.length + 1) (liveCs (ls ++ [(⟨23130, 0, false, false⟩ : LiveM)]))
abbrev LentD (w : World) (B : Nat) (a : Option Addr) (c : Nat) (ls : List DirtyM) : Prop := GRow w B 65 2 (.slice a (ls.length + 1) c) (ls.length + 1) (dirtyCs (ls ++ [(⟨23130, 0⟩ : DirtyM)]))
theorem lent_len {w : World} {B : Nat} {e : TypeId} {sz n c : Nat} {a : Option Addr} {xs : List Value} (h : GRow w B e sz (.slice a n c) n xs) : n ≤ c := by
  obtain ⟨a', c', e1, _, hn, _⟩ := GRow.lies h
  cases e1
  exact hn
theorem own_len (a : Option Addr) (n m c : Nat) : (Value.slice a n c).ownBlock = (Value.slice a m c).ownBlock := by cases a <;> rfl
set_option maxHeartbeats 0 in
theorem lent_any (r : RecM) (la da : Option Addr) (lc dc : Nat) (w : World) (hl : Lies w la (liveCs r.live)) (hd : Lies w da (dirtyCs r.dirty)) (hla : la = none → lc = 0 ∧ r.live.length = 0) (hda : da = none → dc = 0 ∧ r.dirty.length = 0) (hn : r.live.length ≤ 1000) (hm : r.dirty.length ≤ 1000) :
    Calls Try.prog 32 #[.agg (recC r la lc da dc)] w fun e w' => ∃ la' da' lc' dc', e = .returned (.agg (recC r la' lc' da' dc')) ∧ LentL w' w.heap.size la' lc' r.live ∧ LentD w' w.heap.size da' dc' r.dirty ∧ (∀ g, (Value.slice la' r.live.length lc').ownBlock = some g → (Value.slice da' r.dirty.length dc').ownBlock ≠ some g) ∧ Below w.heap.size w w' := by
  have C1 := fun w' a b => Own_any r la da lc dc w' a b hla hda (by omega) (by omega)
  obtain ⟨lsn, kind, tx, prev, wp, wi, sp, si, delta, id, grp, lo, hi, val, live, dirty, next⟩ := r
  simp only [recC] at *
  have R0 := (RBox.new w #[.int .i64 lsn, .int .i64 kind, .int .i64 tx, .int .i64 prev, .int .i64 wp, .int .i64 wi, .int .i64 sp, .int .i64 si, .int .i64 delta, .int .i64 id, .int .i64 grp, .int .i64 lo, .int .i64 hi, .int .i64 val, .slice la live.length lc, .slice da dirty.length dc, .int .i64 next] 36).below (alloc_below (w.alloc (.cells #[.int .i64 lsn, .int .i64 kind, .int .i64 tx, .int .i64 prev, .int .i64 wp, .int .i64 wi, .int .i64 sp, .int .i64 si, .int .i64 delta, .int .i64 id, .int .i64 grp, .int .i64 lo, .int .i64 hi, .int .i64 val, .slice la live.length lc, .slice da dirty.length dc, .int .i64 next] 36)) (.cells #[.int .i64 0, .int .i64 0, .int .i64 0, .int .i64 0, .int .i64 0, .int .i64 0, .int .i64 0, .int .i64 0, .int .i64 0, .int .i64 0, .int .i64 0, .int .i64 0, .int .i64 0, .int .i64 0, .slice none 0 0, .slice none 0 0, .int .i64 0] 36))
  have Z0 := RBox.new (w.alloc (.cells #[.int .i64 lsn, .int .i64 kind, .int .i64 tx, .int .i64 prev, .int .i64 wp, .int .i64 wi, .int .i64 sp, .int .i64 si, .int .i64 delta, .int .i64 id, .int .i64 grp, .int .i64 lo, .int .i64 hi, .int .i64 val, .slice la live.length lc, .slice da dirty.length dc, .int .i64 next] 36)) #[.int .i64 0, .int .i64 0, .int .i64 0, .int .i64 0, .int .i64 0, .int .i64 0, .int .i64 0, .int .i64 0, .int .i64 0, .int .i64 0, .int .i64 0, .int .i64 0, .int .i64 0, .int .i64 0, .slice none 0 0, .slice none 0 0, .int .i64 0] 36
  have sz : (w.alloc (.cells #[.int .i64 lsn, .int .i64 kind, .int .i64 tx, .int .i64 prev, .int .i64 wp, .int .i64 wi, .int .i64 sp, .int .i64 si, .int .i64 delta, .int .i64 id, .int .i64 grp, .int .i64 lo, .int .i64 hi, .int .i64 val, .slice la live.length lc, .slice da dirty.length dc, .int .i64 next] 36)).heap.size = w.heap.size + 1 := by simp
  rw [sz] at Z0
  have B0 := bnext (alloc_below w (.cells #[.int .i64 lsn, .int .i64 kind, .int .i64 tx, .int .i64 prev, .int .i64 wp, .int .i64 wi, .int .i64 sp, .int .i64 si, .int .i64 delta, .int .i64 id, .int .i64 grp, .int .i64 lo, .int .i64 hi, .int .i64 val, .slice la live.length lc, .slice da dirty.length dc, .int .i64 next] 36)) (alloc_below (w.alloc (.cells #[.int .i64 lsn, .int .i64 kind, .int .i64 tx, .int .i64 prev, .int .i64 wp, .int .i64 wi, .int .i64 sp, .int .i64 si, .int .i64 delta, .int .i64 id, .int .i64 grp, .int .i64 lo, .int .i64 hi, .int .i64 val, .slice la live.length lc, .slice da dirty.length dc, .int .i64 next] 36)) (.cells #[.int .i64 0, .int .i64 0, .int .i64 0, .int .i64 0, .int .i64 0, .int .i64 0, .int .i64 0, .int .i64 0, .int .i64 0, .int .i64 0, .int .i64 0, .int .i64 0, .int .i64 0, .int .i64 0, .slice none 0 0, .slice none 0 0, .int .i64 0] 36)) (Nat.le_refl _)
  generalize hw0 : (w.alloc (.cells #[.int .i64 lsn, .int .i64 kind, .int .i64 tx, .int .i64 prev, .int .i64 wp, .int .i64 wi, .int .i64 sp, .int .i64 si, .int .i64 delta, .int .i64 id, .int .i64 grp, .int .i64 lo, .int .i64 hi, .int .i64 val, .slice la live.length lc, .slice da dirty.length dc, .int .i64 next] 36)).alloc (.cells #[.int .i64 0, .int .i64 0, .int .i64 0, .int .i64 0, .int .i64 0, .int .i64 0, .int .i64 0, .int .i64 0, .int .i64 0, .int .i64 0, .int .i64 0, .int .i64 0, .int .i64 0, .int .i64 0, .slice none 0 0, .slice none 0 0, .int .i64 0] 36) = w0 at *
  have HW0 := hide hw0
  have HL := hide hl
  have HD := hide hd
  replace R0 := hide R0
  replace Z0 := hide Z0
  replace B0 := hide B0
  clear hw0 sz hl hd
  go_enter Try.func32, Try.ntmps32
  go_upto_region 1 with fail
  rw [HW0.out]
  clear HW0
  generalize Value.agg #[.int .i64 lsn, .int .i64 kind, .int .i64 tx, .int .i64 prev, .int .i64 wp, .int .i64 wi, .int .i64 sp, .int .i64 si, .int .i64 delta, .int .i64 id, .int .i64 grp, .int .i64 lo, .int .i64 hi, .int .i64 val, .slice la live.length lc, .slice da dirty.length dc, .int .i64 next] = ra
  go_wp2_with (refine wpList_load36g R0.out rfl rfl rfl ?_)
  refine (C1 _ (HL.out.below B0.out) (HD.out.below B0.out)).mono ?_
  rintro e w1 ⟨v1, rfl, o1, b1⟩
  obtain ⟨la1, da1, lc1, dc1, rfl, l1, d1, ld1⟩ := o1
  simp only [recC] at *
  have lt0 := Z0.out.lt
  have sb1 := b1.size
  have R1 := R0.out.below b1
  have Z1 := Z0.out.below b1
  have B1 := bnext B0.out b1 (Nat.le_refl _)
  have ll := fun g q => World.ownsRow.lt l1 g q
  have dl := fun g q => World.ownsRow.lt d1 g q
  have aR := R1.below (alloc_below w1 (.cells #[.int .i64 0, .int .i64 0, .int .i64 0, .int .i64 0, .int .i64 0, .int .i64 0, .int .i64 0, .int .i64 0, .int .i64 0, .int .i64 0, .int .i64 0, .int .i64 0, .int .i64 0, .int .i64 0, .slice none 0 0, .slice none 0 0, .int .i64 0] 36))
  have aZ := Z1.below (alloc_below w1 (.cells #[.int .i64 0, .int .i64 0, .int .i64 0, .int .i64 0, .int .i64 0, .int .i64 0, .int .i64 0, .int .i64 0, .int .i64 0, .int .i64 0, .int .i64 0, .int .i64 0, .int .i64 0, .int .i64 0, .slice none 0 0, .slice none 0 0, .int .i64 0] 36))
  have aB := bnext B1 (alloc_below w1 (.cells #[.int .i64 0, .int .i64 0, .int .i64 0, .int .i64 0, .int .i64 0, .int .i64 0, .int .i64 0, .int .i64 0, .int .i64 0, .int .i64 0, .int .i64 0, .int .i64 0, .int .i64 0, .int .i64 0, .slice none 0 0, .slice none 0 0, .int .i64 0] 36)) (Nat.le_refl _)
  have aL := GRow.below l1 (alloc_below w1 (.cells #[.int .i64 0, .int .i64 0, .int .i64 0, .int .i64 0, .int .i64 0, .int .i64 0, .int .i64 0, .int .i64 0, .int .i64 0, .int .i64 0, .int .i64 0, .int .i64 0, .int .i64 0, .int .i64 0, .slice none 0 0, .slice none 0 0, .int .i64 0] 36))
  have aD := GRow.below d1 (alloc_below w1 (.cells #[.int .i64 0, .int .i64 0, .int .i64 0, .int .i64 0, .int .i64 0, .int .i64 0, .int .i64 0, .int .i64 0, .int .i64 0, .int .i64 0, .int .i64 0, .int .i64 0, .int .i64 0, .int .i64 0, .slice none 0 0, .slice none 0 0, .int .i64 0] 36))
  have sB0 := B0.out.size
  clear C1 HL HD R0 Z0 B0 R1 Z1
  go_upto_region 2 with (refine wpList_store36 (RBox.new _ _ _) rfl rfl rfl rfl rfl ?_; intro w2 X2 hk2)
  have R2 := aR.keep hk2 (by omega)
  have Z2 := aZ.keep hk2 (by omega)
  have L2 := GRow.keep aL hk2 (fun g q s => by have := (ll g q).2; have e : g = w1.heap.size := s; omega)
  have D2 := GRow.keep aD hk2 (fun g q s => by have := (dl g q).2; have e : g = w1.heap.size := s; omega)
  have B2 : Below w.heap.size w w2 := aB.trans (hk2.below aB.size (fun k hk q => by have e : k = w1.heap.size := q; omega))
  have nL : ∀ g, (Value.slice la1 live.length lc1).ownBlock = some g → w0.heap.size ≤ g ∧ ¬ g = w1.heap.size := fun g q => ⟨(ll g q).1, by have := (ll g q).2; omega⟩
  have nD : ∀ g, (Value.slice da1 dirty.length dc1).ownBlock = some g → w0.heap.size ≤ g ∧ ¬ g = w1.heap.size := fun g q => ⟨(dl g q).1, by have := (dl g q).2; omega⟩
  have l01 : w.heap.size < w1.heap.size := by omega
  have l02 : w.heap.size + 1 < w1.heap.size := by omega
  have l03 : w0.heap.size ≤ w1.heap.size := sb1
  generalize w1.heap.size = b3 at *
  clear aR aZ aB aL aD hk2 ll dl l1 d1 B1 b1 sb1
  have b3lt := X2.lt
  have dr : Below w2.heap.size w2 w2.drew := (Below.refl _ _).drew
  have B3 := B2.drew
  have R3 := R2.below dr
  have Z3 := Z2.below dr
  have X3 := X2.below dr
  have L3 := GRow.below L2 dr
  have D3 := GRow.below D2 dr
  have b3d : b3 < w2.drew.heap.size := X3.lt
  have LI := lies_lit w2.drew #[.int .i64 23130, .int .i64 0, .bool false, .bool false] 63
  have z4 : (w2.drew.alloc (.cells #[.int .i64 23130, .int .i64 0, .bool false, .bool false] 63)).heap.size = w2.drew.heap.size + 1 := by simp
  have szw := B3.size
  obtain ⟨v5, w5, hrun, hr5, hg5, hv5⟩ := run_pushL 31 (w2.drew.alloc (.cells #[.int .i64 23130, .int .i64 0, .bool false, .bool false] 63)) w0.heap.size (Value.slice la1 live.length lc1) live (GRow.below L3 (alloc_below _ _)) ⟨w2.drew.heap.size, 0, none⟩ (⟨23130, 0, false, false⟩ : LiveM) LI (by omega) (by omega)
  obtain ⟨a5, c5, e5, _, hc5, _⟩ := GRow.lies hr5
  have hl5 : (live ++ [(⟨23130, 0, false, false⟩ : LiveM)]).length = live.length + 1 := by simp
  rw [hl5] at e5 hc5
  subst e5
  have k5 : Keep (fun b => (Value.slice la1 live.length lc1).ownBlock = some b) w2.drew w5 := ((Keep.refl _ w2.drew).alloc _).grown hg5 (fun b q _ => q)
  have nLw : ¬ (Value.slice la1 live.length lc1).ownBlock = some w.heap.size := fun q => by have := (nL _ q).1; omega
  have nLz : ¬ (Value.slice la1 live.length lc1).ownBlock = some (w.heap.size + 1) := fun q => by have := (nL _ q).1; omega
  have nL3 : ¬ (Value.slice la1 live.length lc1).ownBlock = some b3 := fun q => (nL _ q).2 rfl
  have R5 := R3.keep k5 nLw
  have Z5 := Z3.keep k5 nLz
  have X5 := X3.keep k5 nL3
  have D5 := GRow.keep D3 k5 (fun g q s => ld1 g s q)
  have k6 : Keep (fun b => b = b3) w5 (w5.setCell ⟨b3, 14, none⟩ (.slice a5 live.length c5)) := (Keep.refl (fun b => b = b3) w5).setCell (fun _ => rfl) _
  have o5 : ∀ g, (Value.slice a5 (live.length + 1) c5).ownBlock = some g → (Value.slice la1 live.length lc1).ownBlock = some g ∨ g = w2.drew.heap.size + 1 := by
    intro g q
    rcases hv5 with h | h
    · exact .inl (by rw [← h]; exact q)
    · rw [h] at q
      cases q
      exact .inr z4
  have n5 : ∀ g, (Value.slice a5 (live.length + 1) c5).ownBlock = some g → w0.heap.size ≤ g ∧ ¬ g = b3 ∧ ¬ (Value.slice da1 dirty.length dc1).ownBlock = some g := by
    intro g q
    rcases o5 g q with h | h
    · exact ⟨(nL g h).1, (nL g h).2, fun s => ld1 g h s⟩
    · refine ⟨by omega, by omega, fun s => ?_⟩
      have := (World.ownsRow.lt D3 g s).2
      omega
  have R6 := R5.keep k6 (by omega)
  have Z6 := Z5.keep k6 (by omega)
  have X6 := X5.setCell 14 (.slice a5 live.length c5)
  simp only [List.setIfInBounds_toArray, List.set_cons_zero, List.set_cons_succ] at X6
  have L6 := GRow.keep hr5 k6 (fun g q s => (n5 g q).2.1 s)
  rw [hl5] at L6
  have D6 := GRow.keep D5 k6 (fun g q s => (nD g q).2 s)
  have B5 : Below w.heap.size w w5 := B3.trans (k5.below B3.size (fun k hk q => by have := (nL k q).1; omega))
  have B6 : Below w.heap.size w (w5.setCell ⟨b3, 14, none⟩ (.slice a5 live.length c5)) := B5.trans (k6.below B5.size (fun k hk q => by have e : k = b3 := q; omega))
  have s1 := fun w => slice31 a5 (live.length + 1) c5 live.length (live.length : Int) w rfl (by omega)
  have CX := hide (And.intro (X3.cells.get 14 _ rfl).1 ((X3.below (alloc_below w2.drew (.cells #[.int .i64 23130, .int .i64 0, .bool false, .bool false] 63))).cells.get 14 _ rfl).1)
  have SX := hide (And.intro (R3.cells.get 14 _ rfl).1 (And.intro ((R3.below (alloc_below w2.drew (.cells #[.int .i64 23130, .int .i64 0, .bool false, .bool false] 63))).cells.get 14 _ rfl).1 (And.intro (R5.cells.get 14 _ rfl).1 (R6.cells.get 14 _ rfl).1)))
  have xz := X5.cells.get 14 _ rfl
  obtain ⟨xz, xf⟩ := xz
  have HRUN := hide hrun
  have R6 := hide R6
  have Z6 := hide Z6
  have X6 := hide X6
  have L6 := hide L6
  have D6 := hide D6
  have B6 := hide B6
  have N5 := hide n5
  have ND := hide nD
  clear hrun hr5 hg5 hv5 X5 R5 Z5 D5 k5 k6 B5 LI R3 Z3 X3 L3 D3 R2 Z2 X2 L2 D2 B2 B3 z4 nLw nLz nL3 o5 dr hl5 hc5 nL nD n5 b3lt b3d szw ld1
  simp only [Act.put]
  go_cut [16] (fun _ w' => w' = w5.setCell ⟨b3, 14, none⟩ (.slice a5 live.length c5))
  case first =>
    refine wp_region_held_drew (S := fun wq => wq.cell? ⟨w.heap.size, 14, none⟩ = some (.slice la live.length lc)) (by kernel_rfl) SX.out.1 (fun hS => ?_)
    generalize w2.drew = we at *
    refine take_at 0 (some 6) (v := ?_) rfl rfl (by kernel_rfl) (by kernel_rfl) (by kernel_rfl) (fun _ _ _ h => h) ⟨by rfl, ?_⟩ hS ?_
    rotate_left
    · intro wq hSw; go_simp; try rfl
    simp only [Act.put, List.setIfInBounds_toArray, List.set_cons_zero, List.set_cons_succ]
    refine take_at 1 (some 7) (v := ?_) rfl rfl (by kernel_rfl) (by kernel_rfl) (by kernel_rfl) (fun _ _ _ h => h) ⟨by rfl, ?_⟩ hS ?_
    rotate_left
    · intro wq hSw; go_simp; try rfl
    simp only [Act.put, List.setIfInBounds_toArray, List.set_cons_zero, List.set_cons_succ]
    refine take_at 3 (some 9) (v := ?_) rfl rfl (by kernel_rfl) (by kernel_rfl) (by kernel_rfl) (fun _ _ _ h => h) ⟨by rfl, ?_⟩ hS ?_
    rotate_left
    · intro wq hSw; go_simp; try rfl
    simp only [Act.put, List.setIfInBounds_toArray, List.set_cons_zero, List.set_cons_succ]
    refine take_at 6 (some 12) (v := ?_) rfl rfl (by kernel_rfl) (by kernel_rfl) (by kernel_rfl) (fun _ _ _ h => h) ⟨by rfl, ?_⟩ hS ?_
    rotate_left
    · intro wq hSw; go_simp; try rfl
    simp only [Act.put, List.setIfInBounds_toArray, List.set_cons_zero, List.set_cons_succ]
    refine take_at 7 (some 13) (v := ?_) rfl rfl (by kernel_rfl) (by kernel_rfl) (by kernel_rfl) (fun _ _ _ h => h) ⟨by rfl, ?_⟩ hS ?_
    rotate_left
    · intro wq hSw; go_simp; try rfl
    simp only [Act.put, List.setIfInBounds_toArray, List.set_cons_zero, List.set_cons_succ]
    refine take_at 8 (some 14) (v := ?_) rfl rfl (by kernel_rfl) (by kernel_rfl) (by kernel_rfl) (fun _ _ _ h => h) ⟨by rfl, ?_⟩ hS ?_
    rotate_left
    · intro wq hSw; have y0 := hSw; go_simp; try rfl
    simp only [Act.put, List.setIfInBounds_toArray, List.set_cons_zero, List.set_cons_succ]
    refine take_at 9 (some 15) (v := ?_) rfl rfl (by kernel_rfl) (by kernel_rfl) (by kernel_rfl) (fun _ _ _ h => h) ⟨by rfl, ?_⟩ hS ?_
    rotate_left
    · intro wq hSw; go_simp; try rfl
    simp only [Act.put, List.setIfInBounds_toArray, List.set_cons_zero, List.set_cons_succ]
    refine wpAnyH_ready (rs := [2, 4]) (by kernel_rfl) (by simp) ?_
    refine AllReadyH.cons rfl (fun K hK => ?_) (AllReadyH.cons rfl (fun K hK => ?_) AllReadyH.nil)
    · have cl := CX.out.1
      go_simp
      go_wp2_with fail
      refine hK.out _ _ SX.out.1 (fun hS => ?_)
      clear hK K
      (try simp only [Act.put, List.setIfInBounds_toArray, List.set_cons_zero, List.set_cons_succ])
      clear cl
      refine wpAnyH_ready (rs := [4]) (by kernel_rfl) (by simp) ?_
      refine AllReadyH.cons rfl (fun K hK => ?_) AllReadyH.nil
      go_simp
      (try go_wp2_with fail)
      refine hK.out _ _ SX.out.2.1 (fun hS => ?_)
      clear hK K
      (try simp only [Act.put, List.setIfInBounds_toArray, List.set_cons_zero, List.set_cons_succ])
      refine wpAnyH_ready (rs := [5]) (by kernel_rfl) (by simp) ?_
      refine AllReadyH.cons rfl (fun K hK => ?_) AllReadyH.nil
      refine wp_run 11 (.tmp 8) (.tmp 10) rfl rfl rfl rfl rfl HRUN.out ?_
      refine hK.out _ _ SX.out.2.2.1 (fun hS => ?_)
      clear hK K
      (try simp only [Act.put, List.setIfInBounds_toArray, List.set_cons_zero, List.set_cons_succ])
      refine take_at 10 (some 16) (v := ?_) rfl rfl (by kernel_rfl) (by kernel_rfl) (by kernel_rfl) (fun _ _ _ h => h) ⟨by rfl, ?_⟩ hS ?_
      rotate_left
      · intro wq hSw; go_simp; try rfl
      simp only [Act.put, List.setIfInBounds_toArray, List.set_cons_zero, List.set_cons_succ]
      refine take_at 11 (some 17) (v := ?_) rfl rfl (by kernel_rfl) (by kernel_rfl) (by kernel_rfl) (fun _ _ _ h => h) ⟨by rfl, ?_⟩ hS ?_
      rotate_left
      · intro wq hSw; go_simp; try rfl
      simp only [Act.put, List.setIfInBounds_toArray, List.set_cons_zero, List.set_cons_succ]
      refine take_at 12 (some 18) (v := ?_) rfl rfl (by kernel_rfl) (by kernel_rfl) (by kernel_rfl) (fun _ _ _ h => h) ⟨by rfl, ?_⟩ hS ?_
      rotate_left
      · intro wq hSw; go_simp; try rfl
      simp only [Act.put, List.setIfInBounds_toArray, List.set_cons_zero, List.set_cons_succ]
      refine wpAnyH_ready (rs := [13]) (by kernel_rfl) (by simp) ?_
      refine AllReadyH.cons rfl (fun K hK => ?_) AllReadyH.nil
      go_simp
      go_wp2_with fail
      refine hK.out _ _ SX.out.2.2.2 (fun hS => ?_)
      clear hK K
      (try simp only [Act.put, List.setIfInBounds_toArray, List.set_cons_zero, List.set_cons_succ])
      refine wpAnyH_done (by kernel_rfl) ?_ _
      go_wp2_with fail
      go_meet
      first | rfl | exact rfl
    · go_simp
      (try go_wp2_with fail)
      refine hK.out _ _ SX.out.2.1 (fun hS => ?_)
      clear hK K
      (try simp only [Act.put, List.setIfInBounds_toArray, List.set_cons_zero, List.set_cons_succ])
      refine wpAnyH_ready (rs := [2]) (by kernel_rfl) (by simp) ?_
      refine AllReadyH.cons rfl (fun K hK => ?_) AllReadyH.nil
      have cl := CX.out.2
      go_simp
      go_wp2_with fail
      refine hK.out _ _ SX.out.2.1 (fun hS => ?_)
      clear hK K
      (try simp only [Act.put, List.setIfInBounds_toArray, List.set_cons_zero, List.set_cons_succ])
      clear cl
      refine wpAnyH_ready (rs := [5]) (by kernel_rfl) (by simp) ?_
      refine AllReadyH.cons rfl (fun K hK => ?_) AllReadyH.nil
      refine wp_run 11 (.tmp 8) (.tmp 10) rfl rfl rfl rfl rfl HRUN.out ?_
      refine hK.out _ _ SX.out.2.2.1 (fun hS => ?_)
      clear hK K
      (try simp only [Act.put, List.setIfInBounds_toArray, List.set_cons_zero, List.set_cons_succ])
      refine take_at 10 (some 16) (v := ?_) rfl rfl (by kernel_rfl) (by kernel_rfl) (by kernel_rfl) (fun _ _ _ h => h) ⟨by rfl, ?_⟩ hS ?_
      rotate_left
      · intro wq hSw; go_simp; try rfl
      simp only [Act.put, List.setIfInBounds_toArray, List.set_cons_zero, List.set_cons_succ]
      refine take_at 11 (some 17) (v := ?_) rfl rfl (by kernel_rfl) (by kernel_rfl) (by kernel_rfl) (fun _ _ _ h => h) ⟨by rfl, ?_⟩ hS ?_
      rotate_left
      · intro wq hSw; go_simp; try rfl
      simp only [Act.put, List.setIfInBounds_toArray, List.set_cons_zero, List.set_cons_succ]
      refine take_at 12 (some 18) (v := ?_) rfl rfl (by kernel_rfl) (by kernel_rfl) (by kernel_rfl) (fun _ _ _ h => h) ⟨by rfl, ?_⟩ hS ?_
      rotate_left
      · intro wq hSw; go_simp; try rfl
      simp only [Act.put, List.setIfInBounds_toArray, List.set_cons_zero, List.set_cons_succ]
      refine wpAnyH_ready (rs := [13]) (by kernel_rfl) (by simp) ?_
      refine AllReadyH.cons rfl (fun K hK => ?_) AllReadyH.nil
      go_simp
      go_wp2_with fail
      refine hK.out _ _ SX.out.2.2.2 (fun hS => ?_)
      clear hK K
      (try simp only [Act.put, List.setIfInBounds_toArray, List.set_cons_zero, List.set_cons_succ])
      refine wpAnyH_done (by kernel_rfl) ?_ _
      go_wp2_with fail
      go_meet
      first | rfl | exact rfl
  case rest =>
    obtain ⟨w6, hw6⟩ : ∃ w6, w6 = w5.setCell ⟨b3, 14, none⟩ (.slice a5 live.length c5) := ⟨_, rfl⟩
    rw [← hw6] at hcut R6 Z6 X6 L6 D6 B6
    clear hw6 xz xf HRUN CX SX s1
    have hcut' := hcut.symm
    clear hcut
    subst hcut'
    have dr : Below w6.heap.size w6 w6.drew := (Below.refl _ _).drew
    have B7 := B6.out.drew
    have R7 := R6.out.below dr
    have Z7 := Z6.out.below dr
    have X7 := X6.out.below dr
    have L7 := GRow.below L6.out dr
    have D7 := GRow.below D6.out dr
    have b3d : b3 < w6.drew.heap.size := X7.lt
    have LI := lies_lit w6.drew #[.int .i64 23130, .int .i64 0] 65
    have z4 : (w6.drew.alloc (.cells #[.int .i64 23130, .int .i64 0] 65)).heap.size = w6.drew.heap.size + 1 := by simp
    have szw := B7.size
    obtain ⟨v8, w8, hrun, hr8, hg8, hv8⟩ := run_pushD 32 (w6.drew.alloc (.cells #[.int .i64 23130, .int .i64 0] 65)) w0.heap.size (Value.slice da1 dirty.length dc1) dirty (GRow.below D7 (alloc_below _ _)) ⟨w6.drew.heap.size, 0, none⟩ (⟨23130, 0⟩ : DirtyM) LI (by omega) (by omega)
    obtain ⟨a8, c8, e8, _, hc8, _⟩ := GRow.lies hr8
    have hl8 : (dirty ++ [(⟨23130, 0⟩ : DirtyM)]).length = dirty.length + 1 := by simp
    rw [hl8] at e8 hc8
    subst e8
    have n5 := N5.out
    have nD := ND.out
    have k8 : Keep (fun b => (Value.slice da1 dirty.length dc1).ownBlock = some b) w6.drew w8 := ((Keep.refl _ w6.drew).alloc _).grown hg8 (fun b q _ => q)
    have nDw : ¬ (Value.slice da1 dirty.length dc1).ownBlock = some w.heap.size := fun q => by have := (nD _ q).1; omega
    have nDz : ¬ (Value.slice da1 dirty.length dc1).ownBlock = some (w.heap.size + 1) := fun q => by have := (nD _ q).1; omega
    have nD3 : ¬ (Value.slice da1 dirty.length dc1).ownBlock = some b3 := fun q => (nD _ q).2 rfl
    have R8 := R7.keep k8 nDw
    have Z8 := Z7.keep k8 nDz
    have X8 := X7.keep k8 nD3
    have L8 := GRow.keep L7 k8 (fun g q s => (n5 g q).2.2 s)
    have k9 : Keep (fun b => b = b3) w8 (w8.setCell ⟨b3, 15, none⟩ (.slice a8 dirty.length c8)) := (Keep.refl (fun b => b = b3) w8).setCell (fun _ => rfl) _
    have o8 : ∀ g, (Value.slice a8 (dirty.length + 1) c8).ownBlock = some g → (Value.slice da1 dirty.length dc1).ownBlock = some g ∨ g = w6.drew.heap.size + 1 := by
      intro g q
      rcases hv8 with h | h
      · exact .inl (by rw [← h]; exact q)
      · rw [h] at q
        cases q
        exact .inr z4
    have n8 : ∀ g, (Value.slice a8 (dirty.length + 1) c8).ownBlock = some g → w0.heap.size ≤ g ∧ ¬ g = b3 ∧ ¬ (Value.slice a5 (live.length + 1) c5).ownBlock = some g := by
      intro g q
      rcases o8 g q with h | h
      · exact ⟨(nD g h).1, (nD g h).2, fun s => (n5 g s).2.2 h⟩
      · refine ⟨by omega, by omega, fun s => ?_⟩
        have := (World.ownsRow.lt L7 g s).2
        omega
    have R9 := R8.keep k9 (by omega)
    have Z9 := Z8.keep k9 (by omega)
    have X9 := X8.setCell 15 (.slice a8 dirty.length c8)
    simp only [List.setIfInBounds_toArray, List.set_cons_zero, List.set_cons_succ] at X9
    have L9 := GRow.keep L8 k9 (fun g q s => (n5 g q).2.1 s)
    have D9 := GRow.keep hr8 k9 (fun g q s => (n8 g q).2.1 s)
    rw [hl8] at D9
    have B8 : Below w.heap.size w w8 := B7.trans (k8.below B7.size (fun k hk q => by have := (nD k q).1; omega))
    have B9 : Below w.heap.size w (w8.setCell ⟨b3, 15, none⟩ (.slice a8 dirty.length c8)) := B8.trans (k9.below B8.size (fun k hk q => by have e : k = b3 := q; omega))
    have s1 := fun w => slice32 a8 (dirty.length + 1) c8 dirty.length (dirty.length : Int) w rfl (by omega)
    have CX := hide (And.intro (X7.cells.get 15 _ rfl).1 ((X7.below (alloc_below w6.drew (.cells #[.int .i64 23130, .int .i64 0] 65))).cells.get 15 _ rfl).1)
    have SX := hide (And.intro (R7.cells.get 15 _ rfl).1 (And.intro ((R7.below (alloc_below w6.drew (.cells #[.int .i64 23130, .int .i64 0] 65))).cells.get 15 _ rfl).1 (And.intro (R8.cells.get 15 _ rfl).1 (R9.cells.get 15 _ rfl).1)))
    have xz := X8.cells.get 15 _ rfl
    obtain ⟨xz, xf⟩ := xz
    have HRUN := hide hrun
    have Z9 := hide Z9
    have X9 := hide X9
    have L9 := hide L9
    have D9 := hide D9
    have B9 := hide B9
    have N8 := hide n8
    clear hrun hr8 hg8 hv8 X8 R8 Z8 L8 R9 k8 k9 B8 LI R7 Z7 X7 L7 D7 R6 Z6 X6 L6 D6 B6 B7 z4 nDw nDz nD3 o8 dr hl8 hc8 n8 b3d szw n5 nD
    go_upto_region 3 with fail
    go_cut [29] (fun _ w' => w' = w8.setCell ⟨b3, 15, none⟩ (.slice a8 dirty.length c8))
    case first =>
      refine wp_region_held_drew (S := fun wq => wq.cell? ⟨w.heap.size, 15, none⟩ = some (.slice da dirty.length dc)) (by kernel_rfl) SX.out.1 (fun hS => ?_)
      generalize w6.drew = we at *
      refine take_at 0 (some 19) (v := ?_) rfl rfl (by kernel_rfl) (by kernel_rfl) (by kernel_rfl) (fun _ _ _ h => h) ⟨by rfl, ?_⟩ hS ?_
      rotate_left
      · intro wq hSw; go_simp; try rfl
      simp only [Act.put, List.setIfInBounds_toArray, List.set_cons_zero, List.set_cons_succ]
      refine take_at 1 (some 20) (v := ?_) rfl rfl (by kernel_rfl) (by kernel_rfl) (by kernel_rfl) (fun _ _ _ h => h) ⟨by rfl, ?_⟩ hS ?_
      rotate_left
      · intro wq hSw; go_simp; try rfl
      simp only [Act.put, List.setIfInBounds_toArray, List.set_cons_zero, List.set_cons_succ]
      refine take_at 3 (some 22) (v := ?_) rfl rfl (by kernel_rfl) (by kernel_rfl) (by kernel_rfl) (fun _ _ _ h => h) ⟨by rfl, ?_⟩ hS ?_
      rotate_left
      · intro wq hSw; go_simp; try rfl
      simp only [Act.put, List.setIfInBounds_toArray, List.set_cons_zero, List.set_cons_succ]
      refine take_at 6 (some 25) (v := ?_) rfl rfl (by kernel_rfl) (by kernel_rfl) (by kernel_rfl) (fun _ _ _ h => h) ⟨by rfl, ?_⟩ hS ?_
      rotate_left
      · intro wq hSw; go_simp; try rfl
      simp only [Act.put, List.setIfInBounds_toArray, List.set_cons_zero, List.set_cons_succ]
      refine take_at 7 (some 26) (v := ?_) rfl rfl (by kernel_rfl) (by kernel_rfl) (by kernel_rfl) (fun _ _ _ h => h) ⟨by rfl, ?_⟩ hS ?_
      rotate_left
      · intro wq hSw; go_simp; try rfl
      simp only [Act.put, List.setIfInBounds_toArray, List.set_cons_zero, List.set_cons_succ]
      refine take_at 8 (some 27) (v := ?_) rfl rfl (by kernel_rfl) (by kernel_rfl) (by kernel_rfl) (fun _ _ _ h => h) ⟨by rfl, ?_⟩ hS ?_
      rotate_left
      · intro wq hSw; have y0 := hSw; go_simp; try rfl
      simp only [Act.put, List.setIfInBounds_toArray, List.set_cons_zero, List.set_cons_succ]
      refine take_at 9 (some 28) (v := ?_) rfl rfl (by kernel_rfl) (by kernel_rfl) (by kernel_rfl) (fun _ _ _ h => h) ⟨by rfl, ?_⟩ hS ?_
      rotate_left
      · intro wq hSw; go_simp; try rfl
      simp only [Act.put, List.setIfInBounds_toArray, List.set_cons_zero, List.set_cons_succ]
      refine wpAnyH_ready (rs := [2, 4]) (by kernel_rfl) (by simp) ?_
      refine AllReadyH.cons rfl (fun K hK => ?_) (AllReadyH.cons rfl (fun K hK => ?_) AllReadyH.nil)
      · have cl := CX.out.1
        go_simp
        go_wp2_with fail
        refine hK.out _ _ SX.out.1 (fun hS => ?_)
        clear hK K
        (try simp only [Act.put, List.setIfInBounds_toArray, List.set_cons_zero, List.set_cons_succ])
        clear cl
        refine wpAnyH_ready (rs := [4]) (by kernel_rfl) (by simp) ?_
        refine AllReadyH.cons rfl (fun K hK => ?_) AllReadyH.nil
        go_simp
        (try go_wp2_with fail)
        refine hK.out _ _ SX.out.2.1 (fun hS => ?_)
        clear hK K
        (try simp only [Act.put, List.setIfInBounds_toArray, List.set_cons_zero, List.set_cons_succ])
        refine wpAnyH_ready (rs := [5]) (by kernel_rfl) (by simp) ?_
        refine AllReadyH.cons rfl (fun K hK => ?_) AllReadyH.nil
        refine wp_run 24 (.tmp 21) (.tmp 23) rfl rfl rfl rfl rfl HRUN.out ?_
        refine hK.out _ _ SX.out.2.2.1 (fun hS => ?_)
        clear hK K
        (try simp only [Act.put, List.setIfInBounds_toArray, List.set_cons_zero, List.set_cons_succ])
        refine take_at 10 (some 29) (v := ?_) rfl rfl (by kernel_rfl) (by kernel_rfl) (by kernel_rfl) (fun _ _ _ h => h) ⟨by rfl, ?_⟩ hS ?_
        rotate_left
        · intro wq hSw; go_simp; try rfl
        simp only [Act.put, List.setIfInBounds_toArray, List.set_cons_zero, List.set_cons_succ]
        refine take_at 11 (some 30) (v := ?_) rfl rfl (by kernel_rfl) (by kernel_rfl) (by kernel_rfl) (fun _ _ _ h => h) ⟨by rfl, ?_⟩ hS ?_
        rotate_left
        · intro wq hSw; go_simp; try rfl
        simp only [Act.put, List.setIfInBounds_toArray, List.set_cons_zero, List.set_cons_succ]
        refine take_at 12 (some 31) (v := ?_) rfl rfl (by kernel_rfl) (by kernel_rfl) (by kernel_rfl) (fun _ _ _ h => h) ⟨by rfl, ?_⟩ hS ?_
        rotate_left
        · intro wq hSw; go_simp; try rfl
        simp only [Act.put, List.setIfInBounds_toArray, List.set_cons_zero, List.set_cons_succ]
        refine wpAnyH_ready (rs := [13]) (by kernel_rfl) (by simp) ?_
        refine AllReadyH.cons rfl (fun K hK => ?_) AllReadyH.nil
        go_simp
        go_wp2_with fail
        refine hK.out _ _ SX.out.2.2.2 (fun hS => ?_)
        clear hK K
        (try simp only [Act.put, List.setIfInBounds_toArray, List.set_cons_zero, List.set_cons_succ])
        refine wpAnyH_done (by kernel_rfl) ?_ _
        go_wp2_with fail
        go_meet
        first | rfl | exact rfl
      · go_simp
        (try go_wp2_with fail)
        refine hK.out _ _ SX.out.2.1 (fun hS => ?_)
        clear hK K
        (try simp only [Act.put, List.setIfInBounds_toArray, List.set_cons_zero, List.set_cons_succ])
        refine wpAnyH_ready (rs := [2]) (by kernel_rfl) (by simp) ?_
        refine AllReadyH.cons rfl (fun K hK => ?_) AllReadyH.nil
        have cl := CX.out.2
        go_simp
        go_wp2_with fail
        refine hK.out _ _ SX.out.2.1 (fun hS => ?_)
        clear hK K
        (try simp only [Act.put, List.setIfInBounds_toArray, List.set_cons_zero, List.set_cons_succ])
        clear cl
        refine wpAnyH_ready (rs := [5]) (by kernel_rfl) (by simp) ?_
        refine AllReadyH.cons rfl (fun K hK => ?_) AllReadyH.nil
        refine wp_run 24 (.tmp 21) (.tmp 23) rfl rfl rfl rfl rfl HRUN.out ?_
        refine hK.out _ _ SX.out.2.2.1 (fun hS => ?_)
        clear hK K
        (try simp only [Act.put, List.setIfInBounds_toArray, List.set_cons_zero, List.set_cons_succ])
        refine take_at 10 (some 29) (v := ?_) rfl rfl (by kernel_rfl) (by kernel_rfl) (by kernel_rfl) (fun _ _ _ h => h) ⟨by rfl, ?_⟩ hS ?_
        rotate_left
        · intro wq hSw; go_simp; try rfl
        simp only [Act.put, List.setIfInBounds_toArray, List.set_cons_zero, List.set_cons_succ]
        refine take_at 11 (some 30) (v := ?_) rfl rfl (by kernel_rfl) (by kernel_rfl) (by kernel_rfl) (fun _ _ _ h => h) ⟨by rfl, ?_⟩ hS ?_
        rotate_left
        · intro wq hSw; go_simp; try rfl
        simp only [Act.put, List.setIfInBounds_toArray, List.set_cons_zero, List.set_cons_succ]
        refine take_at 12 (some 31) (v := ?_) rfl rfl (by kernel_rfl) (by kernel_rfl) (by kernel_rfl) (fun _ _ _ h => h) ⟨by rfl, ?_⟩ hS ?_
        rotate_left
        · intro wq hSw; go_simp; try rfl
        simp only [Act.put, List.setIfInBounds_toArray, List.set_cons_zero, List.set_cons_succ]
        refine wpAnyH_ready (rs := [13]) (by kernel_rfl) (by simp) ?_
        refine AllReadyH.cons rfl (fun K hK => ?_) AllReadyH.nil
        go_simp
        go_wp2_with fail
        refine hK.out _ _ SX.out.2.2.2 (fun hS => ?_)
        clear hK K
        (try simp only [Act.put, List.setIfInBounds_toArray, List.set_cons_zero, List.set_cons_succ])
        refine wpAnyH_done (by kernel_rfl) ?_ _
        go_wp2_with fail
        go_meet
        first | rfl | exact rfl
    case rest =>
      obtain ⟨w9, hw9⟩ : ∃ w9, w9 = w8.setCell ⟨b3, 15, none⟩ (.slice a8 dirty.length c8) := ⟨_, rfl⟩
      rw [← hw9] at hcut Z9 X9 L9 D9 B9
      clear hw9 xz xf HRUN CX SX s1
      have hcut' := hcut.symm
      clear hcut
      subst hcut'
      go_wp2_with (first | refine wpList_load36 X9.out rfl rfl ?_ | (refine wpList_store36 Z9.out rfl rfl rfl rfl rfl ?_; intro wf hbf hkf))
      have hw0w : w.heap.size + 1 < w0.heap.size := lt0
      have hfL : ∀ g, (Value.slice a5 (live.length + 1) c5).ownBlock = some g → ¬ g = w.heap.size + 1 := fun g q => by have := (N5.out g q).1; omega
      have hfD : ∀ g, (Value.slice a8 (dirty.length + 1) c8).ownBlock = some g → ¬ g = w.heap.size + 1 := fun g q => by have := (N8.out g q).1; omega
      exact bodyPost_ret (results_box rfl _ _ rfl hbf rfl) rfl ⟨a5, a8, c5, c8, rfl, GRow.mono (GRow.keep L9.out hkf hfL) (by omega), GRow.mono (GRow.keep D9.out hkf hfD) (by omega), fun g q s => (N8.out g ((own_len _ _ _ _).trans s)).2.2 ((own_len _ _ _ _).trans q), B9.out.trans (hkf.below B9.out.size (fun k hk q => by have e : k = w.heap.size + 1 := q; omega))⟩
end Go.Proofs.Ytlibldioliicfaa
namespace Go.Proofs.Ytlibldioliicfaa
open Go.RowKit Go.QK
set_option maxRecDepth 100000
theorem liveCs_last (ls : List LiveM) (y : LiveM) : (liveCs (ls ++ [y]))[ls.length * 4]? = some (.int .i64 y.tx) := by
  have := liveCs_get (ls ++ [y]) ls.length (by simp) 0 (by omega)
  rw [Nat.mul_comm] at this
  simpa [liveC] using this
theorem dirtyCs_last (ls : List DirtyM) (y : DirtyM) : (dirtyCs (ls ++ [y]))[ls.length * 2]? = some (.int .i64 y.page) := by
  have := dirtyCs_get (ls ++ [y]) ls.length (by simp) 0 (by omega)
  rw [Nat.mul_comm] at this
  simpa [dirtyC] using this
theorem LentL.front {w : World} {B : Nat} {a : Option Addr} {c : Nat} {ls : List LiveM} (h : LentL w B a c ls) : Lies w a (liveCs ls) := by
  obtain ⟨a', c', e, li, _⟩ := GRow.lies h
  cases e
  rw [show liveCs (ls ++ [(⟨23130, 0, false, false⟩ : LiveM)]) = liveCs ls ++ liveC ⟨23130, 0, false, false⟩ by simp [liveCs]] at li
  exact li.front
theorem LentD.front {w : World} {B : Nat} {a : Option Addr} {c : Nat} {ls : List DirtyM} (h : LentD w B a c ls) : Lies w a (dirtyCs ls) := by
  obtain ⟨a', c', e, li, _⟩ := GRow.lies h
  cases e
  rw [show dirtyCs (ls ++ [(⟨23130, 0⟩ : DirtyM)]) = dirtyCs ls ++ dirtyC ⟨23130, 0⟩ by simp [dirtyCs]] at li
  exact li.front
set_option maxHeartbeats 0 in
theorem kept_any (r : RecM) (B : Nat) (la da la' da' : Option Addr) (lc dc lc' dc' : Nat) (w : World) (hL : LentL w B la lc r.live) (hD : LentD w B da dc r.dirty) (hl' : Lies w la' (liveCs r.live)) (hd' : Lies w da' (dirtyCs r.dirty)) (hn : r.live.length ≤ 1000) (hm : r.dirty.length ≤ 1000) :
    Calls Try.prog 35 #[.agg (recC r la lc da dc), .agg (recC r la' lc' da' dc')] w fun e w' => e = .returned (.bool true) ∧ Below w.heap.size w w' := by
  have C1 := fun w' a b c d => Same_true r la da la' da' lc dc lc' dc' w' a b c d (by omega) (by omega)
  have hlc := lent_len hL
  have hdc := lent_len hD
  have fL := LentL.front hL
  have fD := LentD.front hD
  obtain ⟨gL, eL⟩ := GRow.addr hL (by omega)
  obtain ⟨gD, eD⟩ := GRow.addr hD (by omega)
  subst eL eD
  obtain ⟨lsn, kind, tx, prev, wp, wi, sp, si, delta, id, grp, lo, hi, val, live, dirty, next⟩ := r
  simp only [recC] at *
  have xL := (GRow.cellAt hL (live.length * 4) _ (liveCs_last live _)).1
  have xD := (GRow.cellAt hD (dirty.length * 2) _ (dirtyCs_last dirty _)).1
  have bL := (World.ownsRow.lt hL gL rfl).2
  have bD := (World.ownsRow.lt hD gD rfl).2
  have R0 := (RBox.new w #[.int .i64 lsn, .int .i64 kind, .int .i64 tx, .int .i64 prev, .int .i64 wp, .int .i64 wi, .int .i64 sp, .int .i64 si, .int .i64 delta, .int .i64 id, .int .i64 grp, .int .i64 lo, .int .i64 hi, .int .i64 val, .slice (some ⟨gL, 0, none⟩) live.length lc, .slice (some ⟨gD, 0, none⟩) dirty.length dc, .int .i64 next] 36).below (alloc_below _ (.cells #[.int .i64 lsn, .int .i64 kind, .int .i64 tx, .int .i64 prev, .int .i64 wp, .int .i64 wi, .int .i64 sp, .int .i64 si, .int .i64 delta, .int .i64 id, .int .i64 grp, .int .i64 lo, .int .i64 hi, .int .i64 val, .slice la' live.length lc', .slice da' dirty.length dc', .int .i64 next] 36))
  have Q0 := RBox.new (w.alloc (.cells #[.int .i64 lsn, .int .i64 kind, .int .i64 tx, .int .i64 prev, .int .i64 wp, .int .i64 wi, .int .i64 sp, .int .i64 si, .int .i64 delta, .int .i64 id, .int .i64 grp, .int .i64 lo, .int .i64 hi, .int .i64 val, .slice (some ⟨gL, 0, none⟩) live.length lc, .slice (some ⟨gD, 0, none⟩) dirty.length dc, .int .i64 next] 36)) #[.int .i64 lsn, .int .i64 kind, .int .i64 tx, .int .i64 prev, .int .i64 wp, .int .i64 wi, .int .i64 sp, .int .i64 si, .int .i64 delta, .int .i64 id, .int .i64 grp, .int .i64 lo, .int .i64 hi, .int .i64 val, .slice la' live.length lc', .slice da' dirty.length dc', .int .i64 next] 36
  have sz : (w.alloc (.cells #[.int .i64 lsn, .int .i64 kind, .int .i64 tx, .int .i64 prev, .int .i64 wp, .int .i64 wi, .int .i64 sp, .int .i64 si, .int .i64 delta, .int .i64 id, .int .i64 grp, .int .i64 lo, .int .i64 hi, .int .i64 val, .slice (some ⟨gL, 0, none⟩) live.length lc, .slice (some ⟨gD, 0, none⟩) dirty.length dc, .int .i64 next] 36)).heap.size = w.heap.size + 1 := by simp
  rw [sz] at Q0
  have B0 := bnext (alloc_below w (.cells #[.int .i64 lsn, .int .i64 kind, .int .i64 tx, .int .i64 prev, .int .i64 wp, .int .i64 wi, .int .i64 sp, .int .i64 si, .int .i64 delta, .int .i64 id, .int .i64 grp, .int .i64 lo, .int .i64 hi, .int .i64 val, .slice (some ⟨gL, 0, none⟩) live.length lc, .slice (some ⟨gD, 0, none⟩) dirty.length dc, .int .i64 next] 36)) (alloc_below _ (.cells #[.int .i64 lsn, .int .i64 kind, .int .i64 tx, .int .i64 prev, .int .i64 wp, .int .i64 wi, .int .i64 sp, .int .i64 si, .int .i64 delta, .int .i64 id, .int .i64 grp, .int .i64 lo, .int .i64 hi, .int .i64 val, .slice la' live.length lc', .slice da' dirty.length dc', .int .i64 next] 36)) (Nat.le_refl _)
  generalize hw0 : (w.alloc (.cells #[.int .i64 lsn, .int .i64 kind, .int .i64 tx, .int .i64 prev, .int .i64 wp, .int .i64 wi, .int .i64 sp, .int .i64 si, .int .i64 delta, .int .i64 id, .int .i64 grp, .int .i64 lo, .int .i64 hi, .int .i64 val, .slice (some ⟨gL, 0, none⟩) live.length lc, .slice (some ⟨gD, 0, none⟩) dirty.length dc, .int .i64 next] 36)).alloc (.cells #[.int .i64 lsn, .int .i64 kind, .int .i64 tx, .int .i64 prev, .int .i64 wp, .int .i64 wi, .int .i64 sp, .int .i64 si, .int .i64 delta, .int .i64 id, .int .i64 grp, .int .i64 lo, .int .i64 hi, .int .i64 val, .slice la' live.length lc', .slice da' dirty.length dc', .int .i64 next] 36) = w0 at *
  have s1 := fun w => slice31 (some ⟨gL, 0, none⟩) live.length lc (live.length + 1) ((live.length : Int) + 1) w (by omega) hlc
  have s2 := fun w => slice32 (some ⟨gD, 0, none⟩) dirty.length dc (dirty.length + 1) ((dirty.length : Int) + 1) w (by omega) hdc
  have e1 : IntKind.i64.wrap ((live.length : Int) + 1) = (live.length : Int) + 1 := by rw [IntKind.wrap_i64]; omega
  have e2 : IntKind.i64.wrap ((dirty.length : Int) + 1) = (dirty.length : Int) + 1 := by rw [IntKind.wrap_i64]; omega
  have HW0 := hide hw0
  have CC := hide (C1 w0 (fL.below B0) (fD.below B0) (hl'.below B0) (hd'.below B0))
  have XL := hide (fun w' (h : Below w.heap.size w w') => (h.cell (p := ⟨gL, live.length * 4, none⟩) bL).trans xL)
  have XD := hide (fun w' (h : Below w.heap.size w w') => (h.cell (p := ⟨gD, dirty.length * 2, none⟩) bD).trans xD)
  replace R0 := hide R0
  replace Q0 := hide Q0
  replace B0 := hide B0
  clear hw0 sz C1 fL fD hl' hd' hL hD xL xD bL bD
  go_enter Try.func35, Try.ntmps35
  go_upto_region 1 with fail
  rw [HW0.out]
  clear HW0
  generalize Value.agg #[.int .i64 lsn, .int .i64 kind, .int .i64 tx, .int .i64 prev, .int .i64 wp, .int .i64 wi, .int .i64 sp, .int .i64 si, .int .i64 delta, .int .i64 id, .int .i64 grp, .int .i64 lo, .int .i64 hi, .int .i64 val, .slice (some ⟨gL, 0, none⟩) live.length lc, .slice (some ⟨gD, 0, none⟩) dirty.length dc, .int .i64 next] = ra
  generalize Value.agg #[.int .i64 lsn, .int .i64 kind, .int .i64 tx, .int .i64 prev, .int .i64 wp, .int .i64 wi, .int .i64 sp, .int .i64 si, .int .i64 delta, .int .i64 id, .int .i64 grp, .int .i64 lo, .int .i64 hi, .int .i64 val, .slice la' live.length lc', .slice da' dirty.length dc', .int .i64 next] = rb
  have r14 := (R0.out.cells.get 14 _ rfl).1
  have r15 := (R0.out.cells.get 15 _ rfl).1
  have q14 := (Q0.out.cells.get 14 _ rfl).1
  have q15 := (Q0.out.cells.get 15 _ rfl).1
  go_upto_region 3 with fail
  clear r14 r15 q14 q15 s1 s2
  go_wp2_with (first | refine wpList_load36g R0.out rfl rfl rfl ?_ | refine wpList_load36g Q0.out rfl rfl rfl ?_)
  refine CC.out.mono ?_
  rintro e w1 ⟨rfl, b1⟩
  have B1 := bnext B0.out b1 (Nat.le_refl _)
  have Q1 := Q0.out.below b1
  have q14 := (Q1.cells.get 14 _ rfl).1
  have q15 := (Q1.cells.get 15 _ rfl).1
  have xL := XL.out _ B1
  have xD := XD.out _ B1
  have d1 : decide ((live.length : Int) < (live.length : Int) + 1) = true := decide_eq_true (by omega)
  have d2 : decide ((dirty.length : Int) < (dirty.length : Int) + 1) = true := decide_eq_true (by omega)
  have d3 : (live.length : Int) < (live.length : Int) + 1 := by omega
  have d4 : (dirty.length : Int) < (dirty.length : Int) + 1 := by omega
  clear CC XL XD R0 Q0 Q1 b1 B0
  go_wp2_with fail
  go_ret
  exact ⟨by first | rfl | simp, B1⟩
end Go.Proofs.Ytlibldioliicfaa
namespace Go.Proofs.Ytlibldioliicfaa
open Go.RowKit Go.QK
theorem set_last (ls : List LiveM) (i : Nat) (hi : i < ls.length) (y : Int) : liveCs (ls.set i { ls[i] with last := y }) = (liveCs ls).set (i * 4 + 1) (.int .i64 y) := by
  induction ls generalizing i with
  | nil => simp at hi
  | cons l ls ih =>
    cases i with
    | zero => simp [liveCs, liveC]
    | succ i =>
      have := ih i (by simpa using hi)
      have e1 : (i + 1) * 4 + 1 = i * 4 + 1 + 4 := by omega
      have s4 : ∀ (xs : List Value) (n : Nat) (y : Value), (liveC l ++ xs).set (n + 4) y = liveC l ++ xs.set n y := by
        intro xs n y
        rw [List.set_append_right _ _ (by simp [liveC])]
        simp [liveC]
      simp only [List.set_cons_succ, liveCs, List.flatMap_cons, List.getElem_cons_succ] at this ⊢
      rw [e1, s4, ← this]
theorem set_since (ls : List DirtyM) (i : Nat) (hi : i < ls.length) (y : Int) : dirtyCs (ls.set i { ls[i] with since := y }) = (dirtyCs ls).set (i * 2 + 1) (.int .i64 y) := by
  induction ls generalizing i with
  | nil => simp at hi
  | cons l ls ih =>
    cases i with
    | zero => simp [dirtyCs, dirtyC]
    | succ i =>
      have := ih i (by simpa using hi)
      have e1 : (i + 1) * 2 + 1 = i * 2 + 1 + 2 := by omega
      have s4 : ∀ (xs : List Value) (n : Nat) (y : Value), (dirtyC l ++ xs).set (n + 2) y = dirtyC l ++ xs.set n y := by
        intro xs n y
        rw [List.set_append_right _ _ (by simp [dirtyC])]
        simp [dirtyC]
      simp only [List.set_cons_succ, dirtyCs, List.flatMap_cons, List.getElem_cons_succ] at this ⊢
      rw [e1, s4, ← this]
theorem LRow.setLast {w : World} {B g c : Nat} {ls : List LiveM} (h : LRow w B (.slice (some ⟨g, 0, none⟩) ls.length c) ls) (i : Nat) (hi : i < ls.length) (y : Int) : LRow (w.setCell ⟨g, i * 4 + 1, none⟩ (.int .i64 y)) B (.slice (some ⟨g, 0, none⟩) ls.length c) (ls.set i { ls[i] with last := y }) := by
  have q := GRow.put h (i * 4 + 1) (.int .i64 y)
  unfold LRow
  rw [List.length_set, set_last ls i hi y]
  exact q
theorem DRow.setSince {w : World} {B g c : Nat} {ls : List DirtyM} (h : DRow w B (.slice (some ⟨g, 0, none⟩) ls.length c) ls) (i : Nat) (hi : i < ls.length) (y : Int) : DRow (w.setCell ⟨g, i * 2 + 1, none⟩ (.int .i64 y)) B (.slice (some ⟨g, 0, none⟩) ls.length c) (ls.set i { ls[i] with since := y }) := by
  have q := GRow.put h (i * 2 + 1) (.int .i64 y)
  unfold DRow
  rw [List.length_set, set_since ls i hi y]
  exact q
theorem LentL.setLast {w : World} {B g c : Nat} {ls : List LiveM} (h : LentL w B (some ⟨g, 0, none⟩) c ls) (i : Nat) (hi : i < ls.length) (y : Int) : LentL (w.setCell ⟨g, i * 4 + 1, none⟩ (.int .i64 y)) B (some ⟨g, 0, none⟩) c (ls.set i { ls[i] with last := y }) := by
  have q := GRow.put h (i * 4 + 1) (.int .i64 y)
  unfold LentL
  rw [List.length_set]
  have e := set_last (ls ++ [⟨23130, 0, false, false⟩]) i (by simp; omega) y
  rw [List.set_append_left _ _ hi, List.getElem_append_left hi] at e
  rw [e]
  exact q
theorem LentD.setSince {w : World} {B g c : Nat} {ls : List DirtyM} (h : LentD w B (some ⟨g, 0, none⟩) c ls) (i : Nat) (hi : i < ls.length) (y : Int) : LentD (w.setCell ⟨g, i * 2 + 1, none⟩ (.int .i64 y)) B (some ⟨g, 0, none⟩) c (ls.set i { ls[i] with since := y }) := by
  have q := GRow.put h (i * 2 + 1) (.int .i64 y)
  unfold LentD
  rw [List.length_set]
  have e := set_since (ls ++ [⟨23130, 0⟩]) i (by simp; omega) y
  rw [List.set_append_left _ _ hi, List.getElem_append_left hi] at e
  rw [e]
  exact q
end Go.Proofs.Ytlibldioliicfaa
