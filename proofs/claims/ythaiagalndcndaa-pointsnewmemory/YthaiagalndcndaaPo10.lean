import Derived.Test.YthaiagalndcndaaPo9
namespace Go.Proofs.Ythaiagalndcndaa
open Go.RowKit Go.QK Go.Maps Go.QM Go.QP
set_option maxRecDepth 100000
theorem run_pushB {t e : TypeId} {z : Value} {size bytes : Nat} (hu : Try.prog.underlying t = some (.slice e)) (hin : (Try.prog.info? e).map (fun i => (i.zero, i.size, i.bytes)) = some (some z, size, bytes)) (hz : z.cells.size = size) (hs : 0 < size) (ty : TypeId) (x : World)
    (B : Nat) (v : Value) (n : Nat) (xs : List Value) (hown : GRow x B e size v n xs) (ad : Addr) (m c : Nat) (news : List Value) (hl : news.length = m * size) (hnews : Lies x (some ad) news) (h1 : ∀ u ∈ news, u.oneCell' = true) (h63 : n + m ≤ maxLen) (hby : (n + m) * bytes ≤ 140737488355328) (hB : B ≤ x.heap.size) :
    ∃ v' x', (Builtin.append_ #[t, t] ty #[v, .slice (some ad) m c]).run Try.prog x = .ok v' x' ∧ GRow x' B e size v' (n + m) (xs ++ news) ∧ x.grownBy x' v.ownBlock ∧ (v'.ownBlock = v.ownBlock ∨ v'.ownBlock = some x.heap.size) := by
  obtain ⟨i0, hi, h0, h2, h3⟩ := info_of hin
  obtain ⟨v', w', hr, q2, q3, q4, q5⟩ := run_append_own_at (P := Try.prog) x B t ty e i0 z size bytes hu hi h0 h2 h3 hz hs v n xs hown ad m c news hl
    (by
      intro j u hj
      obtain ⟨b, off, e1, _, hc⟩ := hnews.cellAt j u hj
      cases e1
      rw [addr_add]
      exact hc) h1 h63 hby hB
  exact ⟨v', w', hr, q2, q3, q5⟩
theorem wpList_appB {t e : TypeId} {z : Value} {size bytes : Nat} (hu : Try.prog.underlying t = some (.slice e)) (hin : (Try.prog.info? e).map (fun i => (i.zero, i.size, i.bytes)) = some (some z, size, bytes)) (hz : z.cells.size = size) (hs0 : 0 < size)
    {w : World} {ops : Array Oper} {rest : List Oper} {o : Oper} {a : Act} {Q : Exit → Act → World → Prop} (hgd : o.guard = none) (s x : Operand) (ho : o.op = .call { callee := .builtin .append, args := #[s, x], argTypes := #[t, t] })
    (B : Nat) (v : Value) (n : Nat) (xs : List Value) (hs : a.eval s = v) (hown : GRow w B e size v n xs) (ax : Option Addr) (m c : Nat) (news : List Value) (hx : a.eval x = .slice ax m c) (hl : news.length = m * size) (hnews : Lies w ax news) (h1 : ∀ u ∈ news, u.oneCell' = true) (hnil : ax = none → c = 0 ∧ m = 0) (h63 : n + m ≤ maxLen) (hby : (n + m) * bytes ≤ 140737488355328) (hB : B ≤ w.heap.size)
    (h : ∀ v' w', GRow w' B e size v' (n + m) (xs ++ news) → w.grownBy w' v.ownBlock → (v'.ownBlock = v.ownBlock ∨ v'.ownBlock = some w.heap.size) → wpList Try.prog ops Q rest (a.put o.dst v') w') : wpList Try.prog ops Q (o :: rest) a w := by
  cases ax with
  | none =>
    obtain ⟨rfl, rfl⟩ := hnil rfl
    obtain ⟨i0, hi, h0, h2, h3⟩ := info_of hin
    have e0 : news = [] := List.eq_nil_of_length_eq_zero (by omega)
    subst e0
    refine wpList_append_own_none hgd s x t ho B e i0 size hu hi v n _ hs hown hx ?_
    exact h v w (by simpa using hown) (World.grownBy.refl _ _) (.inl rfl)
  | some ad =>
    obtain ⟨v', x', hr, q2, q3, q4⟩ := run_pushB hu hin hz hs0 o.type w B v n xs hown ad m c news hl hnews h1 h63 hby hB
    exact wpList_run hgd s x ho hs hx hr (h v' x' q2 q3 q4)
theorem slice_to {a : Option Addr} {n cap : Nat} (k : Nat) (w : World) (h : k ≤ cap) (h4 : a = none → cap = 0) :
    (Instr.slice 23 (.slice a n cap) none (some (.int .i64 k)) none).run Try.prog w = .ok (.slice a k cap) w := by
  cases a with
  | none =>
    obtain rfl := h4 rfl
    obtain rfl : k = 0 := by omega
    go_simp
  | some ad =>
    obtain ⟨b, off, sp⟩ := ad
    go_simp
theorem grow_form {w : World} {B e size n : Nat} {v : Value} {xs : List Value} (h : GRow w B e size v n xs) (hn : 0 < n) : ∃ g cap, v = .slice (some ⟨g, 0, none⟩) n cap ∧ n ≤ cap ∧ cap ≤ maxLen ∧ B ≤ g ∧ g < w.heap.size := by
  have hlt := World.ownsRow.lt h
  rcases h.2 with ⟨q, q2⟩ | ⟨g, cap, cur, q, h1, h2, h3, h4, _⟩
  · omega
  · exact ⟨g, cap, q, h3, h4, h1, (hlt g (by rw [q]; rfl)).2⟩
abbrev mkD : Dr := (-7, -8)
/-- A list with a mark behind it, in a block of its own. -/
structure Lent (w : World) (B g k cap : Nat) (l : List Dr) : Prop where
  row : GRow w B 28 2 (.slice (some ⟨g, 0, none⟩) (k + 1) cap) (k + 1) (drs (l ++ [mkD]))
  len : k = l.length
section
variable {w w' : World} {B g k cap : Nat} {l : List Dr}
theorem Lent.keep {S : Nat → Prop} (h : Lent w B g k cap l) (hk : Keep S w w') (hn : ¬ S g) : Lent w' B g k cap l := ⟨GRow.keep h.row hk (fun z hz => by cases hz; exact hn), h.len⟩
theorem Lent.below (h : Lent w B g k cap l) (hb : Below w.heap.size w w') : Lent w' B g k cap l := h.keep (Keep.of_below (S := fun _ => False) hb) id
theorem Lent.mono {B' : Nat} (h : Lent w B g k cap l) (hb : B' ≤ B) : Lent w B' g k cap l := ⟨GRow.mono h.row hb, h.len⟩
theorem Lent.all (h : Lent w B g k cap l) : Lies w (some ⟨g, 0, none⟩) (drs (l ++ [mkD])) ∧ k + 1 ≤ cap ∧ cap ≤ maxLen ∧ B ≤ g ∧ g < w.heap.size := by
  obtain ⟨a, c, e, li, h1, h2, _⟩ := GRow.lies h.row
  cases e
  have := World.ownsRow.lt h.row g rfl
  exact ⟨li, h1, h2, this.1, this.2⟩
theorem Lies.front {w : World} {a : Option Addr} {xs ys : List Value} (h : Lies w a (xs ++ ys)) : Lies w a xs := by
  rcases h with h | ⟨b, off, e, hb, hc⟩
  · exact .inl (List.append_eq_nil_iff.1 h).1
  · refine .inr ⟨b, off, e, hb, fun i hi => ?_⟩
    have := hc i (by simp; omega)
    rw [this, List.getElem_append_left hi]
theorem Lent.sl (h : Lent w B g k cap l) (hl : k ≤ 100000) : Sl w (some ⟨g, 0, none⟩) k cap l := by
  have hh := h.all.1
  rw [drs_append] at hh
  exact ⟨⟨hh.front, by show l.length ≤ 100000; rw [← h.len]; exact hl, nofun⟩, h.len⟩
theorem Lent.mark (h : Lent w B g k cap l) : w.cell? ⟨g, k * 2, none⟩ = some (.int .i64 (-7)) ∧ w.cell? ⟨g, k * 2 + 1, none⟩ = some (.int .i64 (-8)) := by
  obtain ⟨b, off, e, _, c0, c1⟩ := h.all.1.dr (k := k) (by rw [h.len]; simp)
  cases e
  have e : ∀ hh, (l ++ [mkD])[k]'hh = mkD := by
    intro hh
    have hl := h.len
    subst hl
    simp
  rw [e] at c0 c1
  rw [Nat.zero_add] at c0 c1
  exact ⟨c0, c1⟩
end
theorem take_len2 (l : List Dr) (n : Nat) (h : 2000 < l.length) (hn : n = (l.take 2000).length) : n = 2000 := by rw [hn]; simp; omega
set_option maxHeartbeats 1000000 in
theorem lent_any (a : Option Addr) (n c : Nat) (l : List Dr) (w : World) (h : Lies w a (drs l)) (hn : n = l.length) (hc : n ≤ c) (hnil : a = none → c = 0 ∧ n = 0) :
    Calls Try.prog 12 #[.slice a n c] w fun e w' => ∃ g k cap l', e = .returned (.slice (some ⟨g, 0, none⟩) k cap) ∧ Lent w' w.heap.size g k cap l' ∧ k ≤ 2000 ∧ Below w.heap.size w w' := by
  by_cases hbig : 2000 < n
  · have h2 : Lies w a (drs (l.take 2000)) := by
      have e : drs l = drs (l.take 2000) ++ drs (l.drop 2000) := by rw [← drs_append, List.take_append_drop]
      rw [e] at h
      exact h.front
    have hl2 : 2000 = (l.take 2000).length := by simp; omega
    obtain ⟨ad, rfl⟩ : ∃ ad, a = some ad := by
      cases a with
      | none => have := hnil rfl; omega
      | some ad => exact ⟨ad, rfl⟩
    generalize l.take 2000 = l2 at *
    have HL := hide h2
    have HN := hide hl2
    have hsl := fun wq => slice_to (a := some ad) (n := n) 2000 wq (show 2000 ≤ c by omega) (by nofun)
    clear h2 hl2 h hn hnil
    go_enter Try.func12, Try.ntmps12
    go_upto_region 3 with fail
    have hz : (2000 : Nat) ≤ 2000 := by omega
    go_wp2_with (at_builtin; first
      | (refine wpList_appR Try.underlying23 info28 rfl (by decide) (by decide) rfl (.const (.slice none 0 0)) (.tmp _) rfl w.heap.size (.slice none 0 0) 0 [] rfl (World.ownsRow_nil _ _ _ _) (some ad) 2000 c (drs l2) rfl (by rw [drs_len, ← HN.out]) HL.out (drs_one _) (by nofun) (by omega) (Nat.le_refl _) ?_; intro v1 w1 q1 q2 q3; rw [Nat.zero_add, List.nil_append] at q1; have Q1 := hide q1; have BB := hide ((Below.refl w.heap.size w).grown q2 (Nat.le_refl _) (fun j hj => by cases hj)); obtain ⟨av, cv, hv, -⟩ := GRow.lies q1; subst hv; clear q1 q2 q3)
      | (refine wpList_appR Try.underlying23 info28 rfl (by decide) (by decide) rfl (.tmp _) (.tmp _) rfl w.heap.size (.slice av 2000 cv) 2000 (drs l2) rfl (GRow.below Q1.out (alloc_below _ _)) (some ⟨w1.heap.size, 0, none⟩) 1 1 (drs [mkD]) rfl rfl (lies_new2 _ mkD 28) (drs_one _) (by nofun) (by omega) (by have := BB.out.size; simp; omega) ?_; intro v2 w2 r1 r2 r3; obtain ⟨g, cap, hv2, hcap, hmax, hg1, hg2⟩ := grow_form r1 (by omega); subst hv2; have R1 := hide (show Lent w2 w.heap.size g 2000 cap l2 from ⟨by rw [drs_append]; exact r1, HN.out⟩); have BC := hide ((BB.out.alloc BB.out.size _).trans ((grown_keep r2).below (by have := BB.out.size; simp; omega) (fun z hz q => by have := (World.ownsRow.lt Q1.out z q).1; omega))); have hs2 := fun wq => slice_to (a := some ⟨g, 0, none⟩) (n := 2000 + 1) 2000 wq (show 2000 ≤ cap by omega) (by nofun); clear r1 r2 r3))
    go_ret
    exact ⟨g, 2000, cap, l2, rfl, R1.out, hz, BC.out⟩
  · have hl : n ≤ 2000 := by omega
    have HL := hide h
    have HN := hide hn
    have HNIL := hide hnil
    clear h hn hnil
    generalize l = l2 at *
    go_enter Try.func12, Try.ntmps12
    go_upto_region 3 with fail
    have hz : (n : Nat) ≤ 2000 := by omega
    go_wp2_with (at_builtin; first
      | (refine wpList_appR Try.underlying23 info28 rfl (by decide) (by decide) rfl (.const (.slice none 0 0)) (.tmp _) rfl w.heap.size (.slice none 0 0) 0 [] rfl (World.ownsRow_nil _ _ _ _) a n c (drs l2) rfl (by rw [drs_len, ← HN.out]) HL.out (drs_one _) HNIL.out (by omega) (Nat.le_refl _) ?_; intro v1 w1 q1 q2 q3; rw [Nat.zero_add, List.nil_append] at q1; have Q1 := hide q1; have BB := hide ((Below.refl w.heap.size w).grown q2 (Nat.le_refl _) (fun j hj => by cases hj)); obtain ⟨av, cv, hv, -⟩ := GRow.lies q1; subst hv; clear q1 q2 q3)
      | (refine wpList_appR Try.underlying23 info28 rfl (by decide) (by decide) rfl (.tmp _) (.tmp _) rfl w.heap.size (.slice av n cv) n (drs l2) rfl (GRow.below Q1.out (alloc_below _ _)) (some ⟨w1.heap.size, 0, none⟩) 1 1 (drs [mkD]) rfl rfl (lies_new2 _ mkD 28) (drs_one _) (by nofun) (by omega) (by have := BB.out.size; simp; omega) ?_; intro v2 w2 r1 r2 r3; obtain ⟨g, cap, hv2, hcap, hmax, hg1, hg2⟩ := grow_form r1 (by omega); subst hv2; have R1 := hide (show Lent w2 w.heap.size g n cap l2 from ⟨by rw [drs_append]; exact r1, HN.out⟩); have BC := hide ((BB.out.alloc BB.out.size _).trans ((grown_keep r2).below (by have := BB.out.size; simp; omega) (fun z hz q => by have := (World.ownsRow.lt Q1.out z q).1; omega))); have hs2 := fun wq => slice_to (a := some ⟨g, 0, none⟩) (n := n + 1) n wq (show n ≤ cap by omega) (by nofun); clear r1 r2 r3))
    go_ret
    exact ⟨g, n, cap, l2, rfl, R1.out, hz, BC.out⟩

end Go.Proofs.Ythaiagalndcndaa
