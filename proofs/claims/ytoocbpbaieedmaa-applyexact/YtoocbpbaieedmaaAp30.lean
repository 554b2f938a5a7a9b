import Derived.Test.YtoocbpbaieedmaaAp12
namespace Go.Proofs.Ytoocbpbaieedmaa
open Go.RowKit Go.QK Quota
set_option maxRecDepth 100000
/-- 'append(v, y)' of one element: the old list's cells are as they were. -/
theorem run_moreR {t e : TypeId} {z : Value} {size bytes : Nat} (hu : Try.prog.underlying t = some (.slice e)) (hin : (Try.prog.info? e).map (fun i => (i.zero, i.size, i.bytes)) = some (some z, size, bytes)) (hz : z.cells.size = size) (hs : 0 < size) (hby : bytes ≤ 100) (ty : TypeId) (x : World)
    (B : Nat) (v : Value) (n : Nat) (xs : List Value) (hown : GRow x B e size v n xs) (ad : Addr) (news : List Value) (hl : news.length = 1 * size) (hnews : Lies x (some ad) news) (h1 : ∀ u ∈ news, u.oneCell' = true) (h63 : n + 1 ≤ 2000000) (hB : B ≤ x.heap.size) :
    ∃ v' x', (Builtin.append_ #[t, t] ty #[v, .slice (some ad) 1 1]).run Try.prog x = .ok v' x' ∧ GRow x' B e size v' (n + 1) (xs ++ news) ∧ x.grownBy x' v.ownBlock ∧ (v'.ownBlock = v.ownBlock ∨ v'.ownBlock = some x.heap.size) ∧ (∀ a c, v = .slice a n c → Lies x' a xs) := by
  obtain ⟨v', x', hr, q2, q3, q4⟩ := run_pushR hu hin hz hs hby ty x B v n xs hown ad 1 1 news hl hnews h1 h63 hB
  refine ⟨v', x', hr, q2, q3, q4, ?_⟩
  intro a c hv
  obtain ⟨i0, hi, h0, h2, h3⟩ := info_of hin
  have hnews' : ∀ j u, news[j]? = some u → x.cell? (ad.add j) = some u := by
    intro j u hj
    obtain ⟨b, off, e1, _, hc⟩ := hnews.cellAt j u hj
    cases e1
    rw [addr_add]
    exact hc
  rcases hown.2 with ⟨q, hn⟩ | ⟨g, cap, cur, q, hbg, hg, hnc, hcm, hcs, htake⟩
  · have := hown.1
    rw [hn] at this
    exact .inl (List.eq_nil_of_length_eq_zero (by omega))
  · rw [q] at hv
    cases hv
    by_cases hroom : n + 1 ≤ c
    · have hfit : n * i0.size + news.length ≤ cur.size := by
        rw [h2, hl, hcs]
        have : (n + 1) * size ≤ c * size := Nat.mul_le_mul hroom (Nat.le_refl _)
        rw [Nat.add_mul] at this
        omega
      have hq := run_append_room (P := Try.prog) x t ty e i0 hu hi g n c cur hg ad 1 1 news (by rw [h2]; exact hl) hnews' h1 hroom hfit
      rw [← q, hr] at hq
      simp only [Result.ok.injEq] at hq
      rw [hq.1] at q2
      obtain ⟨a', c', e1, hli, _⟩ := GRow.lies q2
      cases e1
      rcases hli with hl0 | ⟨b, off, e2, hlt, hc⟩
      · exact .inl (List.append_eq_nil_iff.1 hl0).1
      · refine .inr ⟨b, off, e2, hlt, fun i hi => ?_⟩
        have := hc i (by rw [List.length_append]; omega)
        rw [this, List.getElem_append_left hi]
    · have hq := run_append_grow (P := Try.prog) x t ty e i0 z hu hi h0 ⟨g, 0, none⟩ n c xs (by rw [h2]; exact hown.1) (World.ownsRow.cells hown (g := g) (by rw [q]; rfl)) ad 1 1 news (by rw [h2]; exact hl) hnews' (by omega) (by omega) (growslice_fits (by omega) (by
        rw [h3]
        have : (n + 1) * bytes ≤ 2000000 * 100 := Nat.mul_le_mul h63 hby
        omega))
      rw [← q, hr] at hq
      simp only [Result.ok.injEq] at hq
      obtain ⟨a', c', e1, hli, _⟩ := GRow.lies hown
      rw [q] at e1
      cases e1
      rw [hq.2]
      exact hli.below ((Below.refl _ x).drew.alloc (Nat.le_refl _) _)
/-! The book of what was handed out: six rows of lists. -/
/-- A list whose elements all bear the mark m in their first cell. -/
def Mk (w : World) (sz : Nat) (lv : Value) (m : Int) : Prop := ∃ a n c, lv = .slice a n c ∧ n ≤ 1000 ∧ (n = 0 ∨ ∃ g, a = some ⟨g, 0, none⟩ ∧ g < w.heap.size ∧ ∀ i, i < n → w.cell? ⟨g, i * sz, none⟩ = some (.int .i64 m))
theorem Mk.keep {T : Nat → Prop} {w w' : World} {sz : Nat} {lv : Value} {m : Int} (h : Mk w sz lv m) (hk : Keep T w w') (hn : ∀ g, lv.ownBlock = some g → ¬ T g) : Mk w' sz lv m := by
  obtain ⟨a, n, c, rfl, hl, h⟩ := h
  refine ⟨a, n, c, rfl, hl, ?_⟩
  rcases h with h | ⟨g, rfl, hg, hc⟩
  · exact .inl h
  · exact .inr ⟨g, rfl, Nat.lt_of_lt_of_le hg hk.size, fun i hi => (hk.cell (p := ⟨g, i * sz, none⟩) hg (hn g rfl)).trans (hc i hi)⟩
def eT : Nat → TypeId
  | 0 => 22
  | 1 => 22
  | 2 => 23
  | 3 => 23
  | 4 => 71
  | _ => 71
def tT : Nat → TypeId
  | 0 => 58
  | 1 => 58
  | 2 => 59
  | 3 => 59
  | 4 => 60
  | _ => 60
def zT : Nat → Nat
  | 0 => 5
  | 1 => 5
  | 2 => 2
  | 3 => 2
  | 4 => 1
  | _ => 1
/-- The book in the blocks of S: the first K lists of each row bear their marks. -/
structure BK (w : World) (S : Nat → Prop) (b : Nat) (vs : List Value) (Rs : List (List Value)) (K : Nat) : Prop where
  lt : ∀ k, S k → k < w.heap.size
  sb : S b
  box : Cells w b vs
  l1 : vs.length = 6
  l2 : Rs.length = 6
  row : ∀ (j : Nat) (v : Value) (R : List Value), vs[j]? = some v → Rs[j]? = some R → GRow w 0 (eT j) 1 v R.length R
  rs : ∀ (j : Nat) (v : Value) (g : Nat), vs[j]? = some v → v.ownBlock = some g → S g ∧ g ≠ b
  ap : ∀ (i j : Nat) (v u : Value) (g : Nat), i ≠ j → vs[i]? = some v → vs[j]? = some u → v.ownBlock = some g → u.ownBlock ≠ some g
  mks : ∀ (j : Nat) (R : List Value) (k : Nat) (lv : Value), k < K → Rs[j]? = some R → R[k]? = some lv → Mk w (zT j) lv (1000000 + (k : Int)) ∧ ∀ g, lv.ownBlock = some g → S g ∧ g ≠ b ∧ ∀ (i : Nat) (v : Value), vs[i]? = some v → v.ownBlock ≠ some g
section
variable {T S : Nat → Prop} {w w' : World} {b K : Nat} {vs : List Value} {Rs : List (List Value)}
theorem BK.keep (h : BK w S b vs Rs K) (hk : Keep T w w') (hn : ∀ k, S k → ¬ T k) : BK w' S b vs Rs K :=
  ⟨fun k q => Nat.lt_of_lt_of_le (h.lt k q) hk.size, h.sb, h.box.keep hk (hn b h.sb), h.l1, h.l2, fun j v R h1 h2 => GRow.keep (h.row j v R h1 h2) hk (fun g hg => hn g (h.rs j v g h1 hg).1), h.rs, h.ap, fun j R k lv h0 h1 h2 => ⟨(h.mks j R k lv h0 h1 h2).1.keep hk (fun g hg => hn g ((h.mks j R k lv h0 h1 h2).2 g hg).1), (h.mks j R k lv h0 h1 h2).2⟩⟩
theorem BK.below (h : BK w S b vs Rs K) (hk : Below w.heap.size w w') : BK w' S b vs Rs K := h.keep (Keep.of_below (S := fun _ => False) hk) (fun _ _ => id)
/-- The lists number K bear their marks too. -/
theorem BK.close (h : BK w S b vs Rs K) (hm : ∀ (j : Nat) (R : List Value), Rs[j]? = some R → ∃ lv, R[K]? = some lv ∧ Mk w (zT j) lv (1000000 + (K : Int)) ∧ ∀ g, lv.ownBlock = some g → g < w.heap.size ∧ ¬ S g) :
    BK w (fun k => S k ∨ ∃ (j : Nat) (R : List Value) (lv : Value), Rs[j]? = some R ∧ R[K]? = some lv ∧ lv.ownBlock = some k) b vs Rs (K + 1) := by
  refine ⟨?_, .inl h.sb, h.box, h.l1, h.l2, h.row, fun j v g h1 h2 => ⟨.inl (h.rs j v g h1 h2).1, (h.rs j v g h1 h2).2⟩, h.ap, ?_⟩
  · rintro k (q | ⟨j, R, lv, h1, h2, h3⟩)
    · exact h.lt k q
    · obtain ⟨lv', h4, _, h5⟩ := hm j R h1
      rw [h4] at h2
      cases h2
      exact (h5 k h3).1
  · intro j R k lv hk hR hl
    by_cases e : k < K
    · obtain ⟨m1, m2⟩ := h.mks j R k lv e hR hl
      exact ⟨m1, fun g hg => ⟨.inl (m2 g hg).1, (m2 g hg).2⟩⟩
    · have ek : k = K := by omega
      subst ek
      obtain ⟨lv', h4, h5, h6⟩ := hm j R hR
      rw [hl] at h4
      cases h4
      exact ⟨h5, fun g hg => ⟨.inr ⟨j, R, lv, hR, hl, hg⟩, fun q => (h6 g hg).2 (by rw [q]; exact h.sb), fun i v hv q => (h6 g hg).2 (h.rs i v g hv q).1⟩⟩
end
theorem under58 (j : Nat) : Try.prog.underlying (tT j) = some (.slice (eT j)) := by
  unfold tT eT
  split <;> first | exact Try.underlying58 | exact Try.underlying59 | exact Try.underlying60
theorem infoS (j : Nat) : (Try.prog.info? (eT j)).map (fun i => (i.zero, i.size, i.bytes)) = some (some (.slice none 0 0), 1, 24) := by
  unfold eT
  split <;> kernel_rfl
theorem lies_val (w : World) (v : Value) (t : TypeId) : Lies (w.alloc (.cells #[v] t)) (some ⟨w.heap.size, 0, none⟩) [v] := lies_new w [v] t
/-- One more list goes into row j, behind the first K. -/
theorem BK.push {w : World} {S : Nat → Prop} {b K : Nat} {vs : List Value} {Rs : List (List Value)} (h : BK w S b vs Rs K) {j : Nat} {v : Value} {R : List Value} (hj : vs[j]? = some v) (hR : Rs[j]? = some R) (hl : R.length ≤ 1000) (hK : K ≤ R.length) (a : Option Addr) (n c : Nat) (ty : TypeId) :
    ∃ a' n' c' w2, (Builtin.append_ #[tT j, tT j] ty #[v, .slice (some ⟨w.heap.size, 0, none⟩) 1 1]).run Try.prog (w.alloc (.cells #[.slice a n c] (eT j))) = .ok (.slice a' n' c') w2 ∧ Cells w2 b vs ∧ Keep (fun z => v.ownBlock = some z) w w2 ∧
      ∃ S', BK (w2.setCell ⟨b, j, none⟩ (.slice a' n' c')) S' b (vs.set j (.slice a' n' c')) (Rs.set j (R ++ [.slice a n c])) K ∧ (∀ k, k < w.heap.size → S' k → S k) ∧ Keep S w (w2.setCell ⟨b, j, none⟩ (.slice a' n' c')) := by
  have A1 := alloc_below w (.cells #[.slice a n c] (eT j))
  have h1 := h.below A1
  obtain ⟨v', w2, hr, hO, hg, hn⟩ := run_pushR (under58 j) (infoS j) rfl (by decide) (by decide) ty (w.alloc (.cells #[.slice a n c] (eT j))) 0 v R.length R (h1.row j v R hj hR) ⟨w.heap.size, 0, none⟩ 1 1 [.slice a n c] rfl (lies_val w _ _) (by intro u hu; simp at hu; subst hu; rfl) (by omega) (Nat.zero_le _)
  obtain ⟨a', c', e, -⟩ := GRow.lies hO
  subst e
  have K2 : Keep (fun z => v.ownBlock = some z) w w2 := (Keep.of_below A1).trans ((Keep.refl (fun z => v.ownBlock = some z) _).grown hg (fun _ e _ => e)) (fun _ _ q => q)
  have bx : Cells w2 b vs := h.box.keep K2 (fun q => (h.rs j v b hj q).2 rfl)
  refine ⟨a', R.length + 1, c', w2, hr, bx, K2, ?_⟩
  have K3 : Keep (fun z => z = b) w2 (w2.setCell ⟨b, j, none⟩ (.slice a' (R.length + 1) c')) := (Keep.refl (fun z => z = b) w2).setCell (fun _ => rfl) _
  have hjl : j < vs.length := (List.getElem?_eq_some_iff.1 hj).1
  have sz : w.heap.size < w2.heap.size := by have := (K2.size); have := hg.size; simp at this; omega
  have nb : ∀ g, (Value.slice a' (R.length + 1) c').ownBlock = some g → (v.ownBlock = some g ∨ w.heap.size < g) ∧ g < w2.heap.size := fun g q => by
    have hlt := (World.ownsRow.lt hO g q).2
    rcases hn with e | e
    · exact ⟨.inl (by rw [← e]; exact q), hlt⟩
    · rw [e] at q
      cases q
      exact ⟨.inr (by simp), hlt⟩
  have hvs : ∀ (i : Nat) (u : Value), (vs.set j (.slice a' (R.length + 1) c'))[i]? = some u → (i = j ∧ u = .slice a' (R.length + 1) c') ∨ (i ≠ j ∧ vs[i]? = some u) := fun i u q => by
    by_cases e : j = i
    · subst e
      rw [List.getElem?_set_self hjl] at q
      exact .inl ⟨rfl, by cases q; rfl⟩
    · rw [List.getElem?_set_ne e] at q
      exact .inr ⟨fun z => e z.symm, q⟩
  have hjR : j < Rs.length := (List.getElem?_eq_some_iff.1 hR).1
  have hRs : ∀ (i : Nat) (Q : List Value), (Rs.set j (R ++ [.slice a n c]))[i]? = some Q → (i = j ∧ Q = R ++ [.slice a n c]) ∨ (i ≠ j ∧ Rs[i]? = some Q) := fun i Q q => by
    by_cases e : j = i
    · subst e
      rw [List.getElem?_set_self hjR] at q
      exact .inl ⟨rfl, by cases q; rfl⟩
    · rw [List.getElem?_set_ne e] at q
      exact .inr ⟨fun z => e z.symm, q⟩
  refine ⟨fun k => S k ∨ (Value.slice a' (R.length + 1) c').ownBlock = some k, ⟨?_, .inl h.sb, ?_, by rw [List.length_set]; exact h.l1, by rw [List.length_set]; exact h.l2, ?_, ?_, ?_, ?_⟩, ?_, ?_⟩
  · intro k q
    have : k < w2.heap.size := by
      rcases q with q | q
      · exact Nat.lt_of_lt_of_le (h.lt k q) K2.size
      · exact (nb k q).2
    simpa using this
  · exact bx.stored (by omega) _
  · intro i u Q hu hQ
    rcases hvs i u hu with ⟨rfl, rfl⟩ | ⟨ne, hu⟩
    · rcases hRs i Q hQ with ⟨_, rfl⟩ | ⟨ne, _⟩
      · rw [List.length_append]
        exact GRow.keep hO K3 (fun g q z => by
          rcases (nb g q).1 with y | y
          · exact (h.rs i v g hj y).2 z
          · have := h.lt b h.sb; omega)
      · exact absurd rfl ne
    · rcases hRs i Q hQ with ⟨e, _⟩ | ⟨_, hQ⟩
      · exact absurd e ne
      · exact GRow.keep (GRow.keep (h.row i u Q hu hQ) K2 (fun g q z => h.ap j i v u g (fun e => ne e.symm) hj hu z q)) K3 (fun g q z => (h.rs i u g hu q).2 z)
  · intro i u g hu q
    rcases hvs i u hu with ⟨_, rfl⟩ | ⟨_, hu⟩
    · rcases (nb g q).1 with y | y
      · exact ⟨.inl (h.rs j v g hj y).1, (h.rs j v g hj y).2⟩
      · exact ⟨.inr q, fun e => by have := h.lt b h.sb; omega⟩
    · exact ⟨.inl (h.rs i u g hu q).1, (h.rs i u g hu q).2⟩
  · intro i k u x g ne hu hx q1 q2
    rcases hvs i u hu with ⟨ei, rfl⟩ | ⟨ni, hu⟩
    · rcases hvs k x hx with ⟨ek, rfl⟩ | ⟨nk, hx⟩
      · omega
      · rcases (nb g q1).1 with y | y
        · exact h.ap j k v x g (fun e => nk e.symm) hj hx y q2
        · have := h.lt g (h.rs k x g hx q2).1; omega
    · rcases hvs k x hx with ⟨ek, rfl⟩ | ⟨nk, hx⟩
      · rcases (nb g q2).1 with y | y
        · exact h.ap i j u v g ni hu hj q1 y
        · have := h.lt g (h.rs i u g hu q1).1; omega
      · exact h.ap i k u x g ne hu hx q1 q2
  · intro i Q k lv hk hQ hlv
    have fromOld : ∀ R', Rs[i]? = some R' → R'[k]? = some lv → Mk (w2.setCell ⟨b, j, none⟩ (.slice a' (R.length + 1) c')) (zT i) lv (1000000 + (k : Int)) ∧ ∀ g, lv.ownBlock = some g → (S g ∨ (Value.slice a' (R.length + 1) c').ownBlock = some g) ∧ g ≠ b ∧ ∀ (i : Nat) (u : Value), (vs.set j (.slice a' (R.length + 1) c'))[i]? = some u → u.ownBlock ≠ some g := fun R' h3 h4 => by
      obtain ⟨m1, m2⟩ := h.mks i R' k lv hk h3 h4
      refine ⟨(m1.keep K2 (fun g q z => (m2 g q).2.2 j v hj z)).keep K3 (fun g q z => (m2 g q).2.1 z), fun g q => ⟨.inl (m2 g q).1, (m2 g q).2.1, fun i u hu z => ?_⟩⟩
      rcases hvs i u hu with ⟨_, rfl⟩ | ⟨_, hu⟩
      · rcases (nb g z).1 with y | y
        · exact (m2 g q).2.2 j v hj y
        · have := h.lt g (m2 g q).1; omega
      · exact (m2 g q).2.2 i u hu z
    rcases hRs i Q hQ with ⟨ei, rfl⟩ | ⟨ni, hQ⟩
    · subst ei
      rw [List.getElem?_append_left (by omega)] at hlv
      exact fromOld R hR hlv
    · exact fromOld Q hQ hlv
  · intro k hk q
    rcases q with q | q
    · exact q
    · rcases (nb k q).1 with y | y
      · exact (h.rs j v k hj y).1
      · omega
  · exact (K2.mono (fun k _ q => (h.rs j v k hj q).1)).trans K3 (fun k _ q => by rw [q]; exact h.sb)
end Go.Proofs.Ytoocbpbaieedmaa
