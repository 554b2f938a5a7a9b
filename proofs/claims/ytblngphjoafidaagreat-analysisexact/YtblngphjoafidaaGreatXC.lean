import Derived.Test.YtblngphjoafidaaGreatXB
import Derived.Deep.QuietTactic
import Derived.BigQuiet
namespace Go.Proofs.YtblngphjoafidaaGreat
open Go.RowKit Go.QK Go.Maps Go.QM Go.QT
set_option linter.all false
set_option maxRecDepth 100000
/-- 'append(v, y)' of one element: the old list's cells are as they were. -/
theorem run_moreR {t e : TypeId} {z : Value} {size bytes : Nat} (hu : Tryz.prog.underlying t = some (.slice e)) (hin : (Tryz.prog.info? e).map (fun i => (i.zero, i.size, i.bytes)) = some (some z, size, bytes)) (hz : z.cells.size = size) (hs : 0 < size) (hby : bytes ≤ 100) (ty : TypeId) (x : World)
    (B : Nat) (v : Value) (n : Nat) (xs : List Value) (hown : GRow x B e size v n xs) (ad : Addr) (news : List Value) (hl : news.length = 1 * size) (hnews : Lies x (some ad) news) (h1 : ∀ u ∈ news, u.oneCell' = true) (h63 : n + 1 ≤ 2000000) (hB : B ≤ x.heap.size) :
    ∃ v' x', (Builtin.append_ #[t, t] ty #[v, .slice (some ad) 1 1]).run Tryz.prog x = .ok v' x' ∧ GRow x' B e size v' (n + 1) (xs ++ news) ∧ x.grownBy x' v.ownBlock ∧ (v'.ownBlock = v.ownBlock ∨ v'.ownBlock = some x.heap.size) ∧ (∀ a c, v = .slice a n c → Lies x' a xs) := by
  obtain ⟨v', x', hr, q2, q3, q4⟩ := run_pushR hu hin hz hs hby ty x B v n xs hown ad 1 1 news hl hnews h1 h63 hB
  refine ⟨v', x', hr, q2, q3, q4, ?_⟩
  intro a c hv
  obtain ⟨i0, hi, h0, h2, h3⟩ := info_of hin
  have hnews' : ∀ j u, news[j]? = some u → x.cell? (ad.add j) = some u := by
    intro j u hj
    obtain ⟨b, off, e1, _, hc⟩ := hnews.cellAt j u hj
    cases e1
    rw [addr_add]
    exact hc
  rcases hown.2 with ⟨q, hn⟩ | ⟨g, cap, cur, q, hbg, hg, hnc, hcm, hcs, htake⟩
  · have := hown.1
    rw [hn] at this
    exact .inl (List.eq_nil_of_length_eq_zero (by omega))
  · rw [q] at hv
    cases hv
    by_cases hroom : n + 1 ≤ c
    · have hfit : n * i0.size + news.length ≤ cur.size := by
        rw [h2, hl, hcs]
        have : (n + 1) * size ≤ c * size := Nat.mul_le_mul hroom (Nat.le_refl _)
        rw [Nat.add_mul] at this
        omega
      have hq := run_append_room (P := Tryz.prog) x t ty e i0 hu hi g n c cur hg ad 1 1 news (by rw [h2]; exact hl) hnews' h1 hroom hfit
      rw [← q, hr] at hq
      simp only [Result.ok.injEq] at hq
      rw [hq.1] at q2
      obtain ⟨a', c', e1, hli, _⟩ := GRow.lies q2
      cases e1
      rcases hli with hl0 | ⟨b, off, e2, hlt, hc⟩
      · exact .inl (List.append_eq_nil_iff.1 hl0).1
      · refine .inr ⟨b, off, e2, hlt, fun i hi => ?_⟩
        have := hc i (by rw [List.length_append]; omega)
        rw [this, List.getElem_append_left hi]
    · have hq := run_append_grow (P := Tryz.prog) x t ty e i0 z hu hi h0 ⟨g, 0, none⟩ n c xs (by rw [h2]; exact hown.1) (World.ownsRow.cells hown (g := g) (by rw [q]; rfl)) ad 1 1 news (by rw [h2]; exact hl) hnews' (by omega) (by omega) (growslice_fits (by omega) (by
        rw [h3]
        have : (n + 1) * bytes ≤ 2000000 * 100 := Nat.mul_le_mul h63 hby
        omega))
      rw [← q, hr] at hq
      simp only [Result.ok.injEq] at hq
      obtain ⟨a', c', e1, hli, _⟩ := GRow.lies hown
      rw [q] at e1
      cases e1
      rw [hq.2]
      exact hli.below ((Below.refl _ x).drew.alloc (Nat.le_refl _) _)
/-! The book of what was handed out: four rows of lists. -/
/-- A list whose elements all bear the mark m in their first cell. -/
def Mk (w : World) (sz : Nat) (lv : Value) (m : Int) : Prop := ∃ a n c, lv = .slice a n c ∧ n ≤ 1000 ∧ (n = 0 ∨ ∃ g, a = some ⟨g, 0, none⟩ ∧ g < w.heap.size ∧ ∀ i, i < n → w.cell? ⟨g, i * sz, none⟩ = some (.int .i64 m))
theorem Mk.keep {T : Nat → Prop} {w w' : World} {sz : Nat} {lv : Value} {m : Int} (h : Mk w sz lv m) (hk : Keep T w w') (hn : ∀ g, lv.ownBlock = some g → ¬ T g) : Mk w' sz lv m := by
  obtain ⟨a, n, c, rfl, hl, h⟩ := h
  refine ⟨a, n, c, rfl, hl, ?_⟩
  rcases h with h | ⟨g, rfl, hg, hc⟩
  · exact .inl h
  · exact .inr ⟨g, rfl, Nat.lt_of_lt_of_le hg hk.size, fun i hi => (hk.cell (p := ⟨g, i * sz, none⟩) hg (hn g rfl)).trans (hc i hi)⟩
def eT : Nat → TypeId
  | 0 => 31
  | 1 => 31
  | 2 => 32
  | _ => 32
def tT : Nat → TypeId
  | 0 => 27
  | 1 => 27
  | 2 => 28
  | _ => 28
def zT : Nat → Nat
  | 0 => 4
  | 1 => 4
  | 2 => 2
  | _ => 2
/-- The book in the blocks of S: the first K lists of each row bear their marks. -/
structure BK (w : World) (S : Nat → Prop) (b : Nat) (vs : List Value) (Rs : List (List Value)) (K : Nat) : Prop where
  lt : ∀ k, S k → k < w.heap.size
  sb : S b
  box : Cells w b vs
  l1 : vs.length = 4
  l2 : Rs.length = 4
  row : ∀ (j : Nat) (v : Value) (R : List Value), vs[j]? = some v → Rs[j]? = some R → GRow w 0 (eT j) 1 v R.length R
  rs : ∀ (j : Nat) (v : Value) (g : Nat), vs[j]? = some v → v.ownBlock = some g → S g ∧ g ≠ b
  ap : ∀ (i j : Nat) (v u : Value) (g : Nat), i ≠ j → vs[i]? = some v → vs[j]? = some u → v.ownBlock = some g → u.ownBlock ≠ some g
  mks : ∀ (j : Nat) (R : List Value) (k : Nat) (lv : Value), k < K → Rs[j]? = some R → R[k]? = some lv → Mk w (zT j) lv (1000000 + (k : Int)) ∧ ∀ g, lv.ownBlock = some g → S g ∧ g ≠ b ∧ ∀ (i : Nat) (v : Value), vs[i]? = some v → v.ownBlock ≠ some g
section
variable {T S : Nat → Prop} {w w' : World} {b K : Nat} {vs : List Value} {Rs : List (List Value)}
theorem BK.keep (h : BK w S b vs Rs K) (hk : Keep T w w') (hn : ∀ k, S k → ¬ T k) : BK w' S b vs Rs K :=
  ⟨fun k q => Nat.lt_of_lt_of_le (h.lt k q) hk.size, h.sb, h.box.keep hk (hn b h.sb), h.l1, h.l2, fun j v R h1 h2 => GRow.keep (h.row j v R h1 h2) hk (fun g hg => hn g (h.rs j v g h1 hg).1), h.rs, h.ap, fun j R k lv h0 h1 h2 => ⟨(h.mks j R k lv h0 h1 h2).1.keep hk (fun g hg => hn g ((h.mks j R k lv h0 h1 h2).2 g hg).1), (h.mks j R k lv h0 h1 h2).2⟩⟩
theorem BK.below (h : BK w S b vs Rs K) (hk : Below w.heap.size w w') : BK w' S b vs Rs K := h.keep (Keep.of_below (S := fun _ => False) hk) (fun _ _ => id)
/-- The lists number K bear their marks too. -/
theorem BK.close (h : BK w S b vs Rs K) (hm : ∀ (j : Nat) (R : List Value), Rs[j]? = some R → ∃ lv, R[K]? = some lv ∧ Mk w (zT j) lv (1000000 + (K : Int)) ∧ ∀ g, lv.ownBlock = some g → g < w.heap.size ∧ ¬ S g) :
    BK w (fun k => S k ∨ ∃ (j : Nat) (R : List Value) (lv : Value), Rs[j]? = some R ∧ R[K]? = some lv ∧ lv.ownBlock = some k) b vs Rs (K + 1) := by
  refine ⟨?_, .inl h.sb, h.box, h.l1, h.l2, h.row, fun j v g h1 h2 => ⟨.inl (h.rs j v g h1 h2).1, (h.rs j v g h1 h2).2⟩, h.ap, ?_⟩
  · rintro k (q | ⟨j, R, lv, h1, h2, h3⟩)
    · exact h.lt k q
    · obtain ⟨lv', h4, _, h5⟩ := hm j R h1
      rw [h4] at h2
      cases h2
      exact (h5 k h3).1
  · intro j R k lv hk hR hl
    by_cases e : k < K
    · obtain ⟨m1, m2⟩ := h.mks j R k lv e hR hl
      exact ⟨m1, fun g hg => ⟨.inl (m2 g hg).1, (m2 g hg).2⟩⟩
    · have ek : k = K := by omega
      subst ek
      obtain ⟨lv', h4, h5, h6⟩ := hm j R hR
      rw [hl] at h4
      cases h4
      exact ⟨h5, fun g hg => ⟨.inr ⟨j, R, lv, hR, hl, hg⟩, fun q => (h6 g hg).2 (by rw [q]; exact h.sb), fun i v hv q => (h6 g hg).2 (h.rs i v g hv q).1⟩⟩
end
theorem under58 (j : Nat) : Tryz.prog.underlying (tT j) = some (.slice (eT j)) := by
  unfold tT eT
  split <;> first | exact Tryz.underlying27 | exact Tryz.underlying28
theorem infoS (j : Nat) : (Tryz.prog.info? (eT j)).map (fun i => (i.zero, i.size, i.bytes)) = some (some (.slice none 0 0), 1, 24) := by
  unfold eT
  split <;> kernel_rfl
theorem lies_new (w : World) (l : List Value) (t : TypeId) : Lies (w.alloc (.cells l.toArray t)) (some ⟨w.heap.size, 0, none⟩) l := lies_lit2 w l.toArray t
theorem lies_val (w : World) (v : Value) (t : TypeId) : Lies (w.alloc (.cells #[v] t)) (some ⟨w.heap.size, 0, none⟩) [v] := lies_new w [v] t
/-- One more list goes into row j, behind the first K. -/
theorem BK.push {w : World} {S : Nat → Prop} {b K : Nat} {vs : List Value} {Rs : List (List Value)} (h : BK w S b vs Rs K) {j : Nat} {v : Value} {R : List Value} (hj : vs[j]? = some v) (hR : Rs[j]? = some R) (hl : R.length ≤ 1000) (hK : K ≤ R.length) (a : Option Addr) (n c : Nat) (ty : TypeId) :
    ∃ a' n' c' w2, (Builtin.append_ #[tT j, tT j] ty #[v, .slice (some ⟨w.heap.size, 0, none⟩) 1 1]).run Tryz.prog (w.alloc (.cells #[.slice a n c] (eT j))) = .ok (.slice a' n' c') w2 ∧ Cells w2 b vs ∧ Keep (fun z => v.ownBlock = some z) w w2 ∧
      ∃ S', BK (w2.setCell ⟨b, j, none⟩ (.slice a' n' c')) S' b (vs.set j (.slice a' n' c')) (Rs.set j (R ++ [.slice a n c])) K ∧ (∀ k, k < w.heap.size → S' k → S k) ∧ Keep S w (w2.setCell ⟨b, j, none⟩ (.slice a' n' c')) := by
  have A1 := alloc_below w (.cells #[.slice a n c] (eT j))
  have h1 := h.below A1
  obtain ⟨v', w2, hr, hO, hg, hn⟩ := run_pushR (under58 j) (infoS j) rfl (by decide) (by decide) ty (w.alloc (.cells #[.slice a n c] (eT j))) 0 v R.length R (h1.row j v R hj hR) ⟨w.heap.size, 0, none⟩ 1 1 [.slice a n c] rfl (lies_val w _ _) (by intro u hu; simp at hu; subst hu; rfl) (by omega) (Nat.zero_le _)
  obtain ⟨a', c', e, -⟩ := GRow.lies hO
  subst e
  have K2 : Keep (fun z => v.ownBlock = some z) w w2 := (Keep.of_below A1).trans ((Keep.refl (fun z => v.ownBlock = some z) _).grown hg (fun _ e _ => e)) (fun _ _ q => q)
  have bx : Cells w2 b vs := h.box.keep K2 (fun q => (h.rs j v b hj q).2 rfl)
  refine ⟨a', R.length + 1, c', w2, hr, bx, K2, ?_⟩
  have K3 : Keep (fun z => z = b) w2 (w2.setCell ⟨b, j, none⟩ (.slice a' (R.length + 1) c')) := (Keep.refl (fun z => z = b) w2).setCell (fun _ => rfl) _
  have hjl : j < vs.length := (List.getElem?_eq_some_iff.1 hj).1
  have sz : w.heap.size < w2.heap.size := by have := (K2.size); have := hg.size; simp at this; omega
  have nb : ∀ g, (Value.slice a' (R.length + 1) c').ownBlock = some g → (v.ownBlock = some g ∨ w.heap.size < g) ∧ g < w2.heap.size := fun g q => by
    have hlt := (World.ownsRow.lt hO g q).2
    rcases hn with e | e
    · exact ⟨.inl (by rw [← e]; exact q), hlt⟩
    · rw [e] at q
      cases q
      exact ⟨.inr (by simp), hlt⟩
  have hvs : ∀ (i : Nat) (u : Value), (vs.set j (.slice a' (R.length + 1) c'))[i]? = some u → (i = j ∧ u = .slice a' (R.length + 1) c') ∨ (i ≠ j ∧ vs[i]? = some u) := fun i u q => by
    by_cases e : j = i
    · subst e
      rw [List.getElem?_set_self hjl] at q
      exact .inl ⟨rfl, by cases q; rfl⟩
    · rw [List.getElem?_set_ne e] at q
      exact .inr ⟨fun z => e z.symm, q⟩
  have hjR : j < Rs.length := (List.getElem?_eq_some_iff.1 hR).1
  have hRs : ∀ (i : Nat) (Q : List Value), (Rs.set j (R ++ [.slice a n c]))[i]? = some Q → (i = j ∧ Q = R ++ [.slice a n c]) ∨ (i ≠ j ∧ Rs[i]? = some Q) := fun i Q q => by
    by_cases e : j = i
    · subst e
      rw [List.getElem?_set_self hjR] at q
      exact .inl ⟨rfl, by cases q; rfl⟩
    · rw [List.getElem?_set_ne e] at q
      exact .inr ⟨fun z => e z.symm, q⟩
  refine ⟨fun k => S k ∨ (Value.slice a' (R.length + 1) c').ownBlock = some k, ⟨?_, .inl h.sb, ?_, by rw [List.length_set]; exact h.l1, by rw [List.length_set]; exact h.l2, ?_, ?_, ?_, ?_⟩, ?_, ?_⟩
  · intro k q
    have : k < w2.heap.size := by
      rcases q with q | q
      · exact Nat.lt_of_lt_of_le (h.lt k q) K2.size
      · exact (nb k q).2
    simpa using this
  · exact bx.stored (by omega) _
  · intro i u Q hu hQ
    rcases hvs i u hu with ⟨rfl, rfl⟩ | ⟨ne, hu⟩
    · rcases hRs i Q hQ with ⟨_, rfl⟩ | ⟨ne, _⟩
      · rw [List.length_append]
        exact GRow.keep hO K3 (fun g q z => by
          rcases (nb g q).1 with y | y
          · exact (h.rs i v g hj y).2 z
          · have := h.lt b h.sb; omega)
      · exact absurd rfl ne
    · rcases hRs i Q hQ with ⟨e, _⟩ | ⟨_, hQ⟩
      · exact absurd e ne
      · exact GRow.keep (GRow.keep (h.row i u Q hu hQ) K2 (fun g q z => h.ap j i v u g (fun e => ne e.symm) hj hu z q)) K3 (fun g q z => (h.rs i u g hu q).2 z)
  · intro i u g hu q
    rcases hvs i u hu with ⟨_, rfl⟩ | ⟨_, hu⟩
    · rcases (nb g q).1 with y | y
      · exact ⟨.inl (h.rs j v g hj y).1, (h.rs j v g hj y).2⟩
      · exact ⟨.inr q, fun e => by have := h.lt b h.sb; omega⟩
    · exact ⟨.inl (h.rs i u g hu q).1, (h.rs i u g hu q).2⟩
  · intro i k u x g ne hu hx q1 q2
    rcases hvs i u hu with ⟨ei, rfl⟩ | ⟨ni, hu⟩
    · rcases hvs k x hx with ⟨ek, rfl⟩ | ⟨nk, hx⟩
      · omega
      · rcases (nb g q1).1 with y | y
        · exact h.ap j k v x g (fun e => nk e.symm) hj hx y q2
        · have := h.lt g (h.rs k x g hx q2).1; omega
    · rcases hvs k x hx with ⟨ek, rfl⟩ | ⟨nk, hx⟩
      · rcases (nb g q2).1 with y | y
        · exact h.ap i j u v g ni hu hj q1 y
        · have := h.lt g (h.rs i u g hu q1).1; omega
      · exact h.ap i k u x g ne hu hx q1 q2
  · intro i Q k lv hk hQ hlv
    have fromOld : ∀ R', Rs[i]? = some R' → R'[k]? = some lv → Mk (w2.setCell ⟨b, j, none⟩ (.slice a' (R.length + 1) c')) (zT i) lv (1000000 + (k : Int)) ∧ ∀ g, lv.ownBlock = some g → (S g ∨ (Value.slice a' (R.length + 1) c').ownBlock = some g) ∧ g ≠ b ∧ ∀ (i : Nat) (u : Value), (vs.set j (.slice a' (R.length + 1) c'))[i]? = some u → u.ownBlock ≠ some g := fun R' h3 h4 => by
      obtain ⟨m1, m2⟩ := h.mks i R' k lv hk h3 h4
      refine ⟨(m1.keep K2 (fun g q z => (m2 g q).2.2 j v hj z)).keep K3 (fun g q z => (m2 g q).2.1 z), fun g q => ⟨.inl (m2 g q).1, (m2 g q).2.1, fun i u hu z => ?_⟩⟩
      rcases hvs i u hu with ⟨_, rfl⟩ | ⟨_, hu⟩
      · rcases (nb g z).1 with y | y
        · exact (m2 g q).2.2 j v hj y
        · have := h.lt g (m2 g q).1; omega
      · exact (m2 g q).2.2 i u hu z
    rcases hRs i Q hQ with ⟨ei, rfl⟩ | ⟨ni, hQ⟩
    · subst ei
      rw [List.getElem?_append_left (by omega)] at hlv
      exact fromOld R hR hlv
    · exact fromOld Q hQ hlv
  · intro k hk q
    rcases q with q | q
    · exact q
    · rcases (nb k q).1 with y | y
      · exact (h.rs j v k hj y).1
      · omega
  · exact (K2.mono (fun k _ q => (h.rs j v k hj q).1)).trans K3 (fun k _ q => by rw [q]; exact h.sb)
end Go.Proofs.YtblngphjoafidaaGreat

namespace Go.Proofs.YtblngphjoafidaaGreat
open Go.RowKit Go.QK Go.Maps Go.QM Go.QT
set_option maxRecDepth 100000
/-- A row of the program's own whose first k elements bear the mark m. -/
def GM (w : World) (e : TypeId) (sz : Nat) (v : Value) (n : Nat) (m : Int) (k : Nat) : Prop := ∃ X, GRow w 0 e sz v n X ∧ ∀ j, j < k → X[j * sz]? = some (.int .i64 m)
theorem GM.start {w : World} {e : TypeId} {sz : Nat} {v : Value} {n : Nat} {X : List Value} (h : GRow w 0 e sz v n X) (m : Int) : GM w e sz v n m 0 := ⟨X, h, fun j hj => by omega⟩
theorem GM.keep {T : Nat → Prop} {w w' : World} {e : TypeId} {sz : Nat} {v : Value} {n : Nat} {m : Int} {k : Nat} (h : GM w e sz v n m k) (hk : Keep T w w') (hn : ∀ g, v.ownBlock = some g → ¬ T g) : GM w' e sz v n m k := by
  obtain ⟨X, h1, h2⟩ := h
  exact ⟨X, GRow.keep h1 hk hn, h2⟩
theorem GM.below {w w' : World} {e : TypeId} {sz : Nat} {v : Value} {n : Nat} {m : Int} {k : Nat} (h : GM w e sz v n m k) (hk : Below w.heap.size w w') : GM w' e sz v n m k := h.keep (Keep.of_below (S := fun _ => False) hk) (fun _ _ => id)
theorem GM.mark {w : World} {e : TypeId} {sz : Nat} {v : Value} {n : Nat} {m : Int} (h : GM w e sz v n m n) (hn : n ≤ 1000) : Mk w sz v m := by
  obtain ⟨X, h1, h2⟩ := h
  obtain ⟨a, c, e1, hl, _, _, _, hz⟩ := GRow.lies h1
  refine ⟨a, n, c, e1, hn, ?_⟩
  by_cases h0 : n = 0
  · exact .inl h0
  · rcases hl with hl | ⟨g, off, ha, hlt, hc⟩
    · have := h2 0 (by omega)
      rw [hl] at this
      simp at this
    · have := hz _ ha
      obtain ⟨rfl, _⟩ := this
      refine .inr ⟨g, ha, hlt, fun i hi => ?_⟩
      obtain ⟨hi2, hi3⟩ := List.getElem?_eq_some_iff.1 (h2 i hi)
      have := hc (i * sz) hi2
      rw [Nat.zero_add, hi3] at this
      exact this
/-- One more element is written over, cell by cell. -/
theorem GM.cell {w : World} {e : TypeId} {sz : Nat} {g n cap : Nat} {m : Int} {k : Nat} (h : GM w e sz (.slice (some ⟨g, 0, none⟩) n cap) n m k) (i : Nat) (u : Value) (hi : ∀ j, j < k → j * sz ≠ i) : GM (w.setCell ⟨g, i, none⟩ u) e sz (.slice (some ⟨g, 0, none⟩) n cap) n m k := by
  obtain ⟨X, h1, h2⟩ := h
  refine ⟨X.set i u, (World.ownsRow.stored h1 i u).1, fun j hj => ?_⟩
  rw [List.getElem?_set_ne (fun q => hi j hj q.symm)]
  exact h2 j hj
theorem GM.first {w : World} {e : TypeId} {sz : Nat} {g n cap : Nat} {m : Int} {k : Nat} (h : GM w e sz (.slice (some ⟨g, 0, none⟩) n cap) n m k) (hk : k < n) (hs : 0 < sz) : GM (w.setCell ⟨g, k * sz, none⟩ (.int .i64 m)) e sz (.slice (some ⟨g, 0, none⟩) n cap) n m (k + 1) := by
  obtain ⟨X, h1, h2⟩ := h
  have hl := h1.1
  have hlt : k * sz < X.length := by rw [hl]; exact Nat.mul_lt_mul_of_pos_right hk hs
  refine ⟨X.set (k * sz) (.int .i64 m), (World.ownsRow.stored h1 _ _).1, fun j hj => ?_⟩
  by_cases q : j = k
  · subst q
    rw [List.getElem?_set_self hlt]
  · rw [List.getElem?_set_ne (fun z => q (Nat.eq_of_mul_eq_mul_right hs z.symm))]
    exact h2 j (by omega)
theorem GM.at {w : World} {e : TypeId} {sz : Nat} {g n cap : Nat} {m : Int} {k i j : Nat} (h : GM w e sz (.slice (some ⟨g, 0, none⟩) n cap) n m k) (hi : i < n) (hj : j < sz) : (∃ u, w.cell? ⟨g, i * sz + j, none⟩ = some u) ∧ w.frozen? ⟨g, i * sz + j, none⟩ = false ∧ g < w.heap.size := by
  obtain ⟨X, h1, h2⟩ := h
  have hl := h1.1
  have hlt : i * sz + j < X.length := by
    rw [hl]
    have : (i + 1) * sz ≤ n * sz := Nat.mul_le_mul_right _ hi
    rw [Nat.succ_mul] at this
    omega
  refine ⟨⟨X[i * sz + j], ?_⟩, World.ownsRow.frozenAt h1 _, (World.ownsRow.lt h1 g rfl).2⟩
  obtain ⟨a, c, e1, hlies, _⟩ := GRow.lies h1
  cases e1
  rcases hlies with q | ⟨g', off, ha, _, hc⟩
  · rw [q] at hlt; simp at hlt
  · cases ha
    have := hc (i * sz + j) hlt
    rw [Nat.zero_add] at this
    exact this
/-- 'append(v, element with the mark)': v is marked as it was, the new list whole. -/
theorem GM.more {w : World} {t e : TypeId} {z : Value} {sz bytes : Nat} (hu : Tryz.prog.underlying t = some (.slice e)) (hin : (Tryz.prog.info? e).map (fun i => (i.zero, i.size, i.bytes)) = some (some z, sz, bytes)) (hz : z.cells.size = sz) (hs : 0 < sz) (hby : bytes ≤ 100) (ty : TypeId) {v : Value} {n : Nat} {m : Int} (h : GM w e sz v n m n) (hn : n ≤ 900) (news : List Value) (hl : news.length = 1 * sz) (h0 : news[0]? = some (.int .i64 m)) (h1 : ∀ u ∈ news, u.oneCell' = true) :
    ∃ a' n' c' w2, (Builtin.append_ #[t, t] ty #[v, .slice (some ⟨w.heap.size, 0, none⟩) 1 1]).run Tryz.prog (w.alloc (.cells news.toArray e)) = .ok (.slice a' n' c') w2 ∧ Mk w2 sz (.slice a' n' c') m ∧ Mk w2 sz v m ∧ Keep (fun z => v.ownBlock = some z) w w2 ∧ (∀ g, (Value.slice a' n' c').ownBlock = some g → (v.ownBlock = some g ∨ w.heap.size < g) ∧ g < w2.heap.size) := by
  have A1 := alloc_below w (.cells news.toArray e)
  obtain ⟨X, g1, g2⟩ := h.below A1
  obtain ⟨v', w2, hr, hO, hg, hnn, hold⟩ := run_moreR hu hin hz hs hby ty (w.alloc (.cells news.toArray e)) 0 v n X g1 ⟨w.heap.size, 0, none⟩ news hl (lies_new w news e) h1 (by omega) (Nat.zero_le _)
  obtain ⟨a', c', e', -⟩ := GRow.lies hO
  subst e'
  have K2 : Keep (fun z => v.ownBlock = some z) w w2 := (Keep.of_below A1).trans ((Keep.refl (fun z => v.ownBlock = some z) _).grown hg (fun _ e _ => e)) (fun _ _ q => q)
  have hXl := g1.1
  refine ⟨a', n + 1, c', w2, hr, ?_, ?_, K2, fun g q => ⟨?_, (World.ownsRow.lt hO g q).2⟩⟩
  · refine GM.mark (e := e) ⟨X ++ news, hO, fun j hj => ?_⟩ (by omega)
    by_cases q : j < n
    · have hlt : j * sz < X.length := by rw [hXl]; exact Nat.mul_lt_mul_of_pos_right q hs
      rw [List.getElem?_append_left hlt]
      exact g2 j q
    · have ej : j = n := by omega
      subst ej
      rw [List.getElem?_append_right (by omega), hXl, Nat.sub_self]
      exact h0
  · obtain ⟨a, c, e1, _, _, _, _, hzz⟩ := GRow.lies g1
    refine ⟨a, n, c, e1, by omega, ?_⟩
    by_cases q0 : n = 0
    · exact .inl q0
    · rcases hold a c e1 with q | ⟨g, off, ha, hlt, hc⟩
      · have := g2 0 (by omega)
        rw [q] at this
        simp at this
      · obtain ⟨rfl, _⟩ := hzz _ ha
        refine .inr ⟨g, ha, hlt, fun i hi => ?_⟩
        obtain ⟨hi2, hi3⟩ := List.getElem?_eq_some_iff.1 (g2 i hi)
        have := hc (i * sz) hi2
        rw [Nat.zero_add, hi3] at this
        exact this
  · rcases hnn with q2 | q2
    · exact .inl (by rw [← q2]; exact q)
    · rw [q2] at q
      cases q
      exact .inr (by simp)
end Go.Proofs.YtblngphjoafidaaGreat

set_option linter.all false
namespace Go.Proofs.YtblngphjoafidaaGreat
open Go.RowKit Go.QK Go.Maps Go.QM Go.QT
set_option maxRecDepth 100000
theorem four {α : Type} {l : List α} (h : l.length = 4) : ∃ a b c d, l = [a, b, c, d] := by
  match l, h with
  | [a, b, c, d], _ => exact ⟨a, b, c, d, rfl⟩
theorem Mk.at {w : World} {sz : Nat} {a : Option Addr} {n c : Nat} {m : Int} (h : Mk w sz (.slice a n c) m) {i : Nat} (hi : i < n) : ∃ g, a = some ⟨g, 0, none⟩ ∧ w.cell? ⟨g, i * sz, none⟩ = some (.int .i64 m) := by
  obtain ⟨a', n', c', e, -, h⟩ := h
  cases e
  rcases h with h | ⟨g, h1, -, h3⟩
  · omega
  · exact ⟨g, h1, h3 i hi⟩
theorem Mk.form {w : World} {sz : Nat} {v : Value} {m : Int} (h : Mk w sz v m) : ∃ a n c, v = .slice a n c ∧ n ≤ 1000 := by
  obtain ⟨a, n, c, e, hn, -⟩ := h
  exact ⟨a, n, c, e, hn⟩
/-- A list of the book, with its mark. -/
theorem BK.listAt {w : World} {S : Nat → Prop} {b K : Nat} {vs : List Value} {Rs : List (List Value)} (h : BK w S b vs Rs K) {j k : Nat} {v : Value} {R : List Value} (hv : vs[j]? = some v) (hR : Rs[j]? = some R) (hl : R.length = K) (hk : k < K) :
    ∃ pb po q a n c, v = .slice (some ⟨pb, po, none⟩) K q ∧ w.cell? ⟨b, j, none⟩ = some v ∧ w.cell? ⟨pb, po + k, none⟩ = some (.slice a n c) ∧ n ≤ 1000 ∧ Mk w (zT j) (.slice a n c) (1000000 + (k : Int)) := by
  obtain ⟨p, q, e, l, -⟩ := GRow.lies (h.row j v R hv hR)
  obtain ⟨lv, hlv⟩ : ∃ lv, R[k]? = some lv := ⟨_, List.getElem?_eq_getElem (by omega)⟩
  obtain ⟨pb, po, rfl, -, hc⟩ := l.cellAt k lv hlv
  obtain ⟨hm, -⟩ := h.mks j R k lv hk hR hlv
  obtain ⟨a, n, c, rfl, hn⟩ := hm.form
  exact ⟨pb, po, q, a, n, c, by rw [e, hl], (h.box.get j v hv).1, hc, hn, hm⟩
set_option maxHeartbeats 8000000 in
theorem holds_any (S : Nat → Prop) (b K : Nat) (vs : List Value) (Rs : List (List Value)) (w : World) (h : BK w S b vs Rs K) (hK : ∀ (j : Nat) (R : List Value), Rs[j]? = some R → R.length = K) (hK2 : K ≤ 200) :
    Calls Tryz.prog 13 #[ptr b] w fun e w' => e = .returned (.bool true) ∧ w = w' := by
  obtain ⟨v0, v1, v2, v3, rfl⟩ := four h.l1
  obtain ⟨R0, R1, R2, R3, rfl⟩ := four h.l2
  obtain ⟨pp0, qq0, e0, -⟩ := GRow.lies (h.row 0 v0 R0 rfl rfl)
  rw [hK 0 R0 rfl] at e0
  have kk0 := (h.box.get 0 v0 rfl).1
  rw [e0] at kk0
  have HB := hide h
  have HK := hide hK
  have E0 := hide e0
  clear h hK e0
  go_enter Tryz.func13, Tryz.ntmps13
  go_wp2_with fail
  go_loop [3] (fun v => ∃ k : Nat, v = .int .i64 (k : Int) ∧ k ≤ K) (fun v => K - (intOf v).toNat)
  case atStart => exact ⟨0, rfl, Nat.zero_le _⟩
  case round =>
    obtain ⟨k, rfl, hk⟩ := hrel
    by_cases hlt : k < K
    · have dK : decide ((k : Int) < (K : Int)) = true := decide_eq_true (by omega)
      have bK : (k : Int) < (K : Int) := by omega
      obtain ⟨p0, o0, q0, a0, n0, c0, f0, k0, y0, l0, m0⟩ := HB.out.listAt (j := 0) rfl rfl (HK.out 0 R0 rfl) hlt
      rw [f0] at k0
      obtain ⟨p1, o1, q1, a1, n1, c1, f1, k1, y1, l1, m1⟩ := HB.out.listAt (j := 1) rfl rfl (HK.out 1 R1 rfl) hlt
      rw [f1] at k1
      obtain ⟨p2, o2, q2, a2, n2, c2, f2, k2, y2, l2, m2⟩ := HB.out.listAt (j := 2) rfl rfl (HK.out 2 R2 rfl) hlt
      rw [f2] at k2
      obtain ⟨p3, o3, q3, a3, n3, c3, f3, k3, y3, l3, m3⟩ := HB.out.listAt (j := 3) rfl rfl (HK.out 3 R3 rfl) hlt
      rw [f3] at k3
      have M0 := hide m0
      have M1 := hide m1
      have M2 := hide m2
      have M3 := hide m3
      clear f0 f1 f2 f3 m0 m1 m2 m3 kk0
      obtain ⟨m, hm⟩ : ∃ m : Int, m = 1000000 + (k : Int) := ⟨_, rfl⟩
      rw [← hm] at M0
      rw [← hm] at M1
      rw [← hm] at M2
      rw [← hm] at M3
      have wm : IntKind.i64.wrap (1000000 + (k : Int)) = m := by rw [IntKind.wrap_i64, hm]; omega
      clear hm
      go_wp2_with fail
      go_loop [5] (fun v => ∃ i : Nat, v = .int .i64 (i : Int) ∧ i ≤ n1) (fun v => n1 - (intOf v).toNat)
      case atStart => exact ⟨0, rfl, Nat.zero_le _⟩
      case round =>
        obtain ⟨i, rfl, hi⟩ := hrel
        by_cases hlt : i < n1
        · obtain ⟨g1, e1, z1⟩ := Mk.at M1.out hlt
          subst e1
          change w.cell? ⟨g1, i * 4, none⟩ = _ at z1
          by_cases hlj : i < n0
          · obtain ⟨g0, e0, z0⟩ := Mk.at M0.out hlj
            subst e0
            change w.cell? ⟨g0, i * 4, none⟩ = _ at z0
            go_wp2_with fail
            go_round
            case rel => first | exact ⟨i + 1, by go_num, by omega⟩ | ((repeat apply Exists.intro); exact ⟨⟨i + 1, by go_num, by omega⟩, rfl⟩)
            case measure => simp [intOf]; omega
          · go_wp2_with fail
            go_round
            case rel => first | exact ⟨i + 1, by go_num, by omega⟩ | ((repeat apply Exists.intro); exact ⟨⟨i + 1, by go_num, by omega⟩, rfl⟩)
            case measure => simp [intOf]; omega
        · go_wp2_with fail
          clear hlt hi
          go_loop [6] (fun v => ∃ i : Nat, v = .int .i64 (i : Int) ∧ i ≤ n3) (fun v => n3 - (intOf v).toNat)
          case atStart => exact ⟨0, rfl, Nat.zero_le _⟩
          case round =>
            obtain ⟨i, rfl, hi⟩ := hrel
            by_cases hlt : i < n3
            · obtain ⟨g3, e3, z3⟩ := Mk.at M3.out hlt
              subst e3
              change w.cell? ⟨g3, i * 2, none⟩ = _ at z3
              by_cases hlj : i < n2
              · obtain ⟨g2, e2, z2⟩ := Mk.at M2.out hlj
                subst e2
                change w.cell? ⟨g2, i * 2, none⟩ = _ at z2
                go_wp2_with fail
                go_round
                case rel => first | exact ⟨i + 1, by go_num, by omega⟩ | ((repeat apply Exists.intro); exact ⟨⟨i + 1, by go_num, by omega⟩, rfl⟩)
                case measure => simp [intOf]; omega
              · go_wp2_with fail
                go_round
                case rel => first | exact ⟨i + 1, by go_num, by omega⟩ | ((repeat apply Exists.intro); exact ⟨⟨i + 1, by go_num, by omega⟩, rfl⟩)
                case measure => simp [intOf]; omega
            · go_wp2_with fail
              go_round
              case rel => first | exact ⟨k + 1, by go_num, by omega⟩ | ((repeat apply Exists.intro); exact ⟨⟨k + 1, by go_num, by omega⟩, rfl⟩)
              case measure => simp [intOf]; omega
    · obtain rfl : k = K := by omega
      have dK : decide ((k : Int) < (k : Int)) = false := decide_eq_false (by omega)
      go_wp2_with fail
      go_ret
      exact ⟨rfl, rfl⟩
end Go.Proofs.YtblngphjoafidaaGreat

set_option linter.all false
namespace Go.Proofs.YtblngphjoafidaaGreat
open Go.RowKit Go.QK Go.Maps Go.QM Go.QT
set_option maxRecDepth 100000
/-! Records that are lent: each list has a mark behind it, and so has the list of them. -/
abbrev mkLv : LiveM := ⟨23130, 0, false, false⟩
abbrev mkDt : DirtyM := ⟨23130, 0⟩
def mkRx : RX := ⟨bare 0 0 23130 0, none, 0, none, 0⟩
structure LentX (w : World) (B : Nat) (x : RX) : Prop where
  li : GRow w B 58 4 (.slice x.la (x.r.live.length + 1) x.lc) (x.r.live.length + 1) (liveCs (x.r.live ++ [mkLv]))
  di : GRow w B 60 2 (.slice x.da (x.r.dirty.length + 1) x.dc) (x.r.dirty.length + 1) (dirtyCs (x.r.dirty ++ [mkDt]))
  tx : I64 x.r.tx
structure Lnt (w : World) (B : Nat) (a : Option Addr) (c : Nat) (xs : List RX) : Prop where
  row : GRow w B 55 17 (.slice a (xs.length + 1) c) (xs.length + 1) (rowsC rxC (xs ++ [mkRx]))
  each : ∀ x ∈ xs, LentX w B x
theorem LentX.below {w w' : World} {B : Nat} {x : RX} (h : LentX w B x) (hb : Below w.heap.size w w') : LentX w' B x := ⟨GRow.below h.li hb, GRow.below h.di hb, h.tx⟩
theorem Lnt.below {w w' : World} {B : Nat} {a : Option Addr} {c : Nat} {xs : List RX} (h : Lnt w B a c xs) (hb : Below w.heap.size w w') : Lnt w' B a c xs := ⟨GRow.below h.row hb, fun x hx => (h.each x hx).below hb⟩
/-- A row that has at least one element: where it lies. -/
theorem grow_at {w : World} {B e size n c : Nat} {a : Option Addr} {xs : List Value} (h : GRow w B e size (.slice a n c) n xs) (hn : 0 < n) : ∃ g, a = some ⟨g, 0, none⟩ ∧ n ≤ c ∧ B ≤ g ∧ g < w.heap.size ∧ Lies w a xs := by
  obtain ⟨a', c', e1, hl, hc, _⟩ := GRow.lies h
  cases e1
  have hlt := World.ownsRow.lt h
  rcases h.2 with ⟨q, q2⟩ | ⟨g, cap, cur, q, h1, h2, h3, h4, _⟩
  · omega
  · cases q
    exact ⟨g, rfl, h3, h1, (hlt g rfl).2, hl⟩
theorem LentX.in_ {w : World} {B : Nat} {x : RX} (h : LentX w B x) : RXIn w x := by
  obtain ⟨g1, e1, -, -, -, l1⟩ := grow_at h.li (Nat.succ_pos _)
  obtain ⟨g2, e2, -, -, -, l2⟩ := grow_at h.di (Nat.succ_pos _)
  rw [liveCs_append] at l1
  rw [dirtyCs_append] at l2
  exact ⟨l1.front, l2.front, h.tx⟩
theorem Lnt.recs {w : World} {B : Nat} {a : Option Addr} {c : Nat} {xs : List RX} (h : Lnt w B a c xs) : RecsAt w a xs := by
  obtain ⟨g1, e1, -, -, -, l1⟩ := grow_at h.row (Nat.succ_pos _)
  rw [rowsC_app] at l1
  exact ⟨l1.front, fun x hx => (h.each x hx).in_⟩
/-- The three marks. -/
theorem Lnt.mark {w : World} {B : Nat} {a : Option Addr} {c : Nat} {xs : List RX} (h : Lnt w B a c xs) : ∃ g, a = some ⟨g, 0, none⟩ ∧ xs.length + 1 ≤ c ∧ B ≤ g ∧ g < w.heap.size ∧ w.cell? ⟨g, xs.length * 17 + 2, none⟩ = some (.int .i64 23130) := by
  obtain ⟨g, rfl, hc, hB, hg, l1⟩ := grow_at h.row (Nat.succ_pos _)
  obtain ⟨b, o, e, -, sel⟩ := Lies.rowAt rxC 17 (fun _ => rfl) l1 xs.length (by simp) (by decide)
  cases e
  have := sel 2 (.int .i64 23130) (by simp [mkRx, rxC, rxA, recC, bare])
  rw [Nat.zero_add] at this
  exact ⟨g, rfl, hc, hB, hg, this⟩
theorem LentX.marks {w : World} {B : Nat} {x : RX} (h : LentX w B x) : ∃ g d, x.la = some ⟨g, 0, none⟩ ∧ x.da = some ⟨d, 0, none⟩ ∧ x.r.live.length + 1 ≤ x.lc ∧ x.r.dirty.length + 1 ≤ x.dc ∧ g < w.heap.size ∧ d < w.heap.size ∧ w.cell? ⟨g, x.r.live.length * 4, none⟩ = some (.int .i64 23130) ∧ w.cell? ⟨d, x.r.dirty.length * 2, none⟩ = some (.int .i64 23130) := by
  obtain ⟨g, e1, hc1, -, hg, l1⟩ := grow_at h.li (Nat.succ_pos _)
  obtain ⟨d, e2, hc2, -, hd, l2⟩ := grow_at h.di (Nat.succ_pos _)
  rw [e1] at l1
  rw [e2] at l2
  obtain ⟨b1, o1, q1, -, c1, -⟩ := l1.liveAt x.r.live.length (by simp)
  obtain ⟨b2, o2, q2, -, c2, -⟩ := l2.dirtyAt x.r.dirty.length (by simp)
  cases q1
  cases q2
  simp only [List.getElem_concat_length, Nat.zero_add] at c1 c2
  exact ⟨g, d, e1, e2, hc1, hc2, hg, hd, c1, c2⟩
end Go.Proofs.YtblngphjoafidaaGreat

set_option linter.all false
namespace Go.Proofs.YtblngphjoafidaaGreat
open Go.RowKit Go.QK Go.Maps Go.QM Go.QT
set_option maxRecDepth 100000
/-! Rows of different elements lie apart. -/
theorem grow_ty {w : World} {B e size n g : Nat} {v : Value} {xs : List Value} (h : GRow w B e size v n xs) (hg : v.ownBlock = some g) : ∃ cur, w.heap[g]? = some (.cells cur e (0, 0)) := by
  rcases h.2 with ⟨q, _⟩ | ⟨g', cap, cur, q, _, h2, _⟩
  · rw [q] at hg; cases hg
  · rw [q] at hg; cases hg; exact ⟨cur, h2⟩
theorem grow_apart {w : World} {B e size n B' e' size' n' : Nat} {v v' : Value} {xs xs' : List Value} (h : GRow w B e size v n xs) (h' : GRow w B' e' size' v' n' xs') (he : e ≠ e') : ∀ g, v.ownBlock = some g → v'.ownBlock ≠ some g := by
  intro g q q'
  obtain ⟨c1, e1⟩ := grow_ty h q
  obtain ⟨c2, e2⟩ := grow_ty h' q'
  rw [e1] at e2
  cases e2
  exact he rfl
theorem box_apart {w : World} {b t B e size n : Nat} {cs : Array Value} {v : Value} {xs : List Value} (h : RBox w b t cs) (h' : GRow w B e size v n xs) (he : t ≠ e) : v.ownBlock ≠ some b := by
  intro q'
  obtain ⟨c2, e2⟩ := grow_ty h' q'
  rw [show w.heap[b]? = some (.cells cs t (0, 0)) from h] at e2
  cases e2
  exact he rfl
theorem own_len (a : Option Addr) (n m c : Nat) : (Value.slice a n c).ownBlock = (Value.slice a m c).ownBlock := by cases a <;> rfl
theorem grow_open {w : World} {B e size n : Nat} {v : Value} {xs : List Value} (h : GRow w B e size v n xs) (hn : 0 < n) : ∃ g c, v = .slice (some ⟨g, 0, none⟩) n c ∧ n ≤ c := by
  rcases h.2 with ⟨_, q⟩ | ⟨g', cap, cur, q, _, _, h3, _⟩
  · omega
  · exact ⟨g', cap, q, h3⟩
theorem liveCs_mark : liveCs [mkLv] = [.int .i64 23130, .int .i64 0, .bool false, .bool false] := rfl
theorem dirtyCs_mark : dirtyCs [mkDt] = [.int .i64 23130, .int .i64 0] := rfl
theorem push_live (ty : TypeId) (w : World) (B nl lc : Nat) (la : Option Addr) (ls : List LiveM) (G : GRow w B 58 4 (.slice la nl lc) nl (liveCs ls)) (hn : nl ≤ 1000) (hB : B ≤ w.heap.size) :
    ∃ g5 c5 w5, (Builtin.append_ #[31, 31] ty #[.slice la nl lc, .slice (some ⟨w.heap.size, 0, none⟩) 1 1]).run Tryz.prog (w.alloc (.cells #[.int .i64 23130, .int .i64 0, .bool false, .bool false] 58)) = .ok (.slice (some ⟨g5, 0, none⟩) (nl + 1) c5) w5 ∧ nl + 1 ≤ c5 ∧ GRow w5 B 58 4 (.slice (some ⟨g5, 0, none⟩) (nl + 1) c5) (nl + 1) (liveCs (ls ++ [mkLv])) ∧ Keep (fun g => (Value.slice la nl lc).ownBlock = some g) w w5 := by
  have A1 := alloc_below w (.cells #[.int .i64 23130, .int .i64 0, .bool false, .bool false] 58)
  obtain ⟨v', w2, hr, hO, hg, -⟩ := run_pushR Tryz.underlying31 info26 rfl (by decide) (by decide) ty (w.alloc (.cells #[.int .i64 23130, .int .i64 0, .bool false, .bool false] 58)) B (.slice la nl lc) nl (liveCs ls) (GRow.below G A1) ⟨w.heap.size, 0, none⟩ 1 1 (liveCs [mkLv]) rfl (lies_new w _ _) (liveCs_one _) (by omega) (by simp; omega)
  rw [← liveCs_append] at hO
  obtain ⟨g, c, rfl, hc⟩ := grow_open hO (Nat.succ_pos _)
  exact ⟨g, c, w2, hr, hc, hO, (Keep.of_below A1).trans ((Keep.refl (fun z => (Value.slice la nl lc).ownBlock = some z) _).grown hg (fun _ e _ => e)) (fun _ _ q => q)⟩
theorem push_dirty (ty : TypeId) (w : World) (B nl lc : Nat) (la : Option Addr) (ls : List DirtyM) (G : GRow w B 60 2 (.slice la nl lc) nl (dirtyCs ls)) (hn : nl ≤ 1000) (hB : B ≤ w.heap.size) :
    ∃ g5 c5 w5, (Builtin.append_ #[32, 32] ty #[.slice la nl lc, .slice (some ⟨w.heap.size, 0, none⟩) 1 1]).run Tryz.prog (w.alloc (.cells #[.int .i64 23130, .int .i64 0] 60)) = .ok (.slice (some ⟨g5, 0, none⟩) (nl + 1) c5) w5 ∧ nl + 1 ≤ c5 ∧ GRow w5 B 60 2 (.slice (some ⟨g5, 0, none⟩) (nl + 1) c5) (nl + 1) (dirtyCs (ls ++ [mkDt])) ∧ Keep (fun g => (Value.slice la nl lc).ownBlock = some g) w w5 := by
  have A1 := alloc_below w (.cells #[.int .i64 23130, .int .i64 0] 60)
  obtain ⟨v', w2, hr, hO, hg, -⟩ := run_pushR Tryz.underlying32 info52 rfl (by decide) (by decide) ty (w.alloc (.cells #[.int .i64 23130, .int .i64 0] 60)) B (.slice la nl lc) nl (dirtyCs ls) (GRow.below G A1) ⟨w.heap.size, 0, none⟩ 1 1 (dirtyCs [mkDt]) rfl (lies_new w _ _) (dirtyCs_one _) (by omega) (by simp; omega)
  rw [← dirtyCs_append] at hO
  obtain ⟨g, c, rfl, hc⟩ := grow_open hO (Nat.succ_pos _)
  exact ⟨g, c, w2, hr, hc, hO, (Keep.of_below A1).trans ((Keep.refl (fun z => (Value.slice la nl lc).ownBlock = some z) _).grown hg (fun _ e _ => e)) (fun _ _ q => q)⟩
/-- One record that is being lent: at block bx, with lists of its own; E what is behind them (nothing yet, or a mark). -/
structure Ld (w : World) (B bx : Nat) (r : RecM) (la : Option Addr) (nl lc : Nat) (da : Option Addr) (nd dc : Nat) (el : List LiveM) (ed : List DirtyM) : Prop where
  box : RBox w bx 55 (rxA ⟨r, la, lc, da, dc⟩)
  li : GRow w B 58 4 (.slice la (nl + el.length) lc) (nl + el.length) (liveCs (r.live ++ el))
  di : GRow w B 60 2 (.slice da (nd + ed.length) dc) (nd + ed.length) (dirtyCs (r.dirty ++ ed))
  el : nl = r.live.length
  ed : nd = r.dirty.length
  bb : B ≤ bx
  bs : B ≤ w.heap.size
section
variable {w w' : World} {B bx : Nat} {r : RecM} {la da : Option Addr} {nl lc nd dc : Nat} {el : List LiveM} {ed : List DirtyM}
theorem Ld.below (h : Ld w B bx r la nl lc da nd dc el ed) (hb : Below w.heap.size w w') : Ld w' B bx r la nl lc da nd dc el ed := ⟨h.box.below hb, GRow.below h.li hb, GRow.below h.di hb, h.el, h.ed, h.bb, Nat.le_trans h.bs hb.size⟩
theorem Ld.live (ty : TypeId) (h : Ld w B bx r la nl lc da nd dc [] ed) (hn : nl ≤ 1000) :
    ∃ g5 c5 w5, (Builtin.append_ #[31, 31] ty #[.slice la nl lc, .slice (some ⟨w.heap.size, 0, none⟩) 1 1]).run Tryz.prog (w.alloc (.cells #[.int .i64 23130, .int .i64 0, .bool false, .bool false] 58)) = .ok (.slice (some ⟨g5, 0, none⟩) (nl + 1) c5) w5 ∧ nl ≤ c5 ∧ RBox w5 bx 55 (rxA ⟨r, la, lc, da, dc⟩) ∧ Ld (w5.setCell ⟨bx, 14, none⟩ (.slice (some ⟨g5, 0, none⟩) nl c5)) B bx r (some ⟨g5, 0, none⟩) nl c5 da nd dc [mkLv] ed ∧ Below B w (w5.setCell ⟨bx, 14, none⟩ (.slice (some ⟨g5, 0, none⟩) nl c5)) := by
  obtain ⟨g5, c5, w5, hr, hc, hO, hk⟩ := push_live ty w B nl lc la r.live (by have := h.li; rw [List.append_nil] at this; exact this) hn h.bs
  have X5 := h.box.keep hk (by rw [own_len la nl (nl + ([] : List LiveM).length) lc]; exact box_apart h.box h.li (by decide))
  have D5 := GRow.keep h.di hk (fun g q s => grow_apart h.di h.li (by decide) g q (by rw [own_len la _ nl lc]; exact s))
  have K6 : Keep (fun b => b = bx) w5 (w5.setCell ⟨bx, 14, none⟩ (.slice (some ⟨g5, 0, none⟩) nl c5)) := (Keep.refl (fun b => b = bx) w5).setCell (fun _ => rfl) _
  refine ⟨g5, c5, w5, hr, by omega, X5, ⟨?_, ?_, ?_, h.el, h.ed, h.bb, Nat.le_trans h.bs (Nat.le_trans hk.size K6.size)⟩, ?_⟩
  · have q := X5.setCell 14 (.slice (some ⟨g5, 0, none⟩) nl c5)
    rw [h.el] at q ⊢
    exact q
  · exact GRow.keep hO K6 (fun g q s => box_apart X5 hO (by decide) (by rw [← s]; exact q))
  · exact GRow.keep D5 K6 (fun g q s => box_apart X5 D5 (by decide) (by rw [← s]; exact q))
  · have b1 : Below B w w5 := hk.below h.bs (fun k hk q => by have := (World.ownsRow.lt h.li k (by rw [own_len la _ nl lc]; exact q)).1; omega)
    exact b1.trans (K6.below (Nat.le_trans h.bs hk.size) (fun k hk q => by have := h.bb; omega))
theorem Ld.dirty (ty : TypeId) (h : Ld w B bx r la nl lc da nd dc el []) (hn : nd ≤ 1000) :
    ∃ g5 c5 w5, (Builtin.append_ #[32, 32] ty #[.slice da nd dc, .slice (some ⟨w.heap.size, 0, none⟩) 1 1]).run Tryz.prog (w.alloc (.cells #[.int .i64 23130, .int .i64 0] 60)) = .ok (.slice (some ⟨g5, 0, none⟩) (nd + 1) c5) w5 ∧ nd ≤ c5 ∧ RBox w5 bx 55 (rxA ⟨r, la, lc, da, dc⟩) ∧ Ld (w5.setCell ⟨bx, 15, none⟩ (.slice (some ⟨g5, 0, none⟩) nd c5)) B bx r la nl lc (some ⟨g5, 0, none⟩) nd c5 el [mkDt] ∧ Below B w (w5.setCell ⟨bx, 15, none⟩ (.slice (some ⟨g5, 0, none⟩) nd c5)) := by
  obtain ⟨g5, c5, w5, hr, hc, hO, hk⟩ := push_dirty ty w B nd dc da r.dirty (by have := h.di; rw [List.append_nil] at this; exact this) hn h.bs
  have X5 := h.box.keep hk (by rw [own_len da nd (nd + ([] : List DirtyM).length) dc]; exact box_apart h.box h.di (by decide))
  have L5 := GRow.keep h.li hk (fun g q s => grow_apart h.li h.di (by decide) g q (by rw [own_len da _ nd dc]; exact s))
  have K6 : Keep (fun b => b = bx) w5 (w5.setCell ⟨bx, 15, none⟩ (.slice (some ⟨g5, 0, none⟩) nd c5)) := (Keep.refl (fun b => b = bx) w5).setCell (fun _ => rfl) _
  refine ⟨g5, c5, w5, hr, by omega, X5, ⟨?_, ?_, ?_, h.el, h.ed, h.bb, Nat.le_trans h.bs (Nat.le_trans hk.size K6.size)⟩, ?_⟩
  · have q := X5.setCell 15 (.slice (some ⟨g5, 0, none⟩) nd c5)
    rw [h.ed] at q ⊢
    exact q
  · exact GRow.keep L5 K6 (fun g q s => box_apart X5 L5 (by decide) (by rw [← s]; exact q))
  · exact GRow.keep hO K6 (fun g q s => box_apart X5 hO (by decide) (by rw [← s]; exact q))
  · have b1 : Below B w w5 := hk.below h.bs (fun k hk q => by have := (World.ownsRow.lt h.di k (by rw [own_len da _ nd dc]; exact q)).1; omega)
    exact b1.trans (K6.below (Nat.le_trans h.bs hk.size) (fun k hk q => by have := h.bb; omega))
theorem Ld.lent (h : Ld w B bx r la nl lc da nd dc [mkLv] [mkDt]) (ht : I64 r.tx) : LentX w B ⟨r, la, lc, da, dc⟩ := by
  have l := h.li
  have d := h.di
  rw [h.el] at l
  rw [h.ed] at d
  exact ⟨l, d, ht⟩
end
theorem LentX.mono {w : World} {B B' : Nat} {x : RX} (h : LentX w B x) (hb : B' ≤ B) : LentX w B' x := ⟨GRow.mono h.li hb, GRow.mono h.di hb, h.tx⟩
theorem LentX.keep {S : Nat → Prop} {w w' : World} {B : Nat} {x : RX} (h : LentX w B x) (hk : Keep S w w') (h1 : ∀ g, (Value.slice x.la (x.r.live.length + 1) x.lc).ownBlock = some g → ¬ S g) (h2 : ∀ g, (Value.slice x.da (x.r.dirty.length + 1) x.dc).ownBlock = some g → ¬ S g) : LentX w' B x := ⟨GRow.keep h.li hk h1, GRow.keep h.di hk h2, h.tx⟩
/-- What becomes of a row of records leaves their lists alone. -/
theorem LentX.rowKeep {w w' : World} {B B' n : Nat} {x : RX} {v : Value} {xs : List Value} (h : LentX w B x) (hr : GRow w B' 55 17 v n xs) (hk : Keep (fun g => v.ownBlock = some g) w w') : LentX w' B x :=
  h.keep hk (fun g q s => grow_apart hr h.li (by decide) g s q) (fun g q s => grow_apart hr h.di (by decide) g s q)
end Go.Proofs.YtblngphjoafidaaGreat
