import Derived.Test.YtokcocmenndlmaaTx12
namespace Go.Proofs.Ytokcocmenndlmaa
open Go.RowKit Go.QK Go.Maps Go.QM Go.QT
set_option maxRecDepth 100000
theorem wrapK {z : Int} (h : I64 z) : IntKind.i64.wrap z = z := by
  unfold I64 at h
  simp [IntKind.wrap, IntKind.bits, IntKind.signed]
  omega
theorem row_pos {w : World} {B n e : Nat} {v : Value} {xs : List Value} (h : GRow w B e 4 v n xs) (hn : 0 < n) : ∃ g cap, v = .slice (some ⟨g, 0, none⟩) n cap ∧ B ≤ g ∧ g < w.heap.size ∧ Lies w (some ⟨g, 0, none⟩) xs ∧ n ≤ cap ∧ cap ≤ maxLen := by
  obtain ⟨a, c, ea, hl, h1, h2, -⟩ := GRow.lies h
  have hlt := World.ownsRow.lt h
  rcases h.2 with ⟨_, q⟩ | ⟨g, cap, cur, q, _⟩
  · omega
  · rw [q] at ea
    cases ea
    exact ⟨g, c, q, (hlt g (by rw [q]; rfl)).1, (hlt g (by rw [q]; rfl)).2, hl, h1, h2⟩
theorem LSt.aside {w wr w' : World} {b m q : Nat} {t : TbM} {v : Value} {k : Nat} (h : LSt w wr b m t v k) (hk : Keep (fun z => z = q) wr w') (h1 : b < q) (h2 : m < q) (h3 : ∀ g, v.ownBlock = some g → g < q) : LSt w w' b m t v k :=
  ⟨h.pt.keep hk (by omega) (by omega), GRow.keep h.row hk (fun g hg e => by have := h3 g hg; omega), h.ap, h.nx, h.la, h.be.trans (hk.below h.be.size (fun z hz e => by have := h.lo; omega)), h.lo⟩
theorem newBox {w w' : World} {o : Obj} (h : Keep (fun k => k = w.heap.size) (w.alloc o) w') : Below w.heap.size w w' := by
  have h1 := alloc_below w o
  exact h1.trans (h.below h1.size (fun k hk q => by omega))
theorem noteX (b m : Nat) (t t' : TbM) (lsn k tx prev E : Int) (w : World) (h : PT w b m t) (hi : I64 tx) (hE : t.noteE lsn k tx prev = E) (hT : t.noteT lsn k tx prev = t') : Calls Try.prog 12 #[ptr b, .agg (litR lsn k tx prev)] w fun e w' => e = .returned (.int .i64 E) ∧ PT w' b m t' ∧ Keep (fun z => z = b ∨ z = m) w w' := by
  refine (note_any b m t (litR lsn k tx prev) lsn k tx prev w h (litR_rec _ _ _ _ hi)).mono ?_
  rintro e w' ⟨h1, h2, h3⟩
  rw [hE] at h1
  rw [hT] at h2
  exact ⟨h1, h2, h3⟩
theorem rows_set4 (L : List Lv) (r : Nat) (y : Lv) (hr : r < L.length) : ((((rowsC lvC L).set (r * 4) (.int .i64 y.tx)).set (r * 4 + 1) (.int .i64 y.last)).set (r * 4 + 2) (.bool y.com)).set (r * 4 + 3) (.bool y.und) = rowsC lvC (L.set r y) := by
  induction L generalizing r with
  | nil => simp at hr
  | cons x l ih =>
    have e : ∀ z : Lv, ∀ l : List Lv, rowsC lvC (z :: l) = .int .i64 z.tx :: .int .i64 z.last :: .bool z.com :: .bool z.und :: rowsC lvC l := fun z l => rfl
    cases r with
    | zero => simp [e]
    | succ r =>
      have := ih r (by simpa using hr)
      rw [e, show (r + 1) * 4 = r * 4 + 1 + 1 + 1 + 1 by omega]
      simp only [List.set_cons_succ]
      rw [this, e]
theorem row_set4 {w : World} {B e g n c : Nat} {L : List Lv} {r : Nat} (h : GRow w B e 4 (.slice (some ⟨g, 0, none⟩) n c) n (rowsC lvC L)) (hr : r < L.length) (y : Lv) :
    GRow ((((w.setCell ⟨g, r * 4, none⟩ (.int .i64 y.tx)).setCell ⟨g, r * 4 + 1, none⟩ (.int .i64 y.last)).setCell ⟨g, r * 4 + 2, none⟩ (.bool y.com)).setCell ⟨g, r * 4 + 3, none⟩ (.bool y.und)) B e 4 (.slice (some ⟨g, 0, none⟩) n c) n (rowsC lvC (L.set r y)) := by
  have h1 := (World.ownsRow.stored h (r * 4) (.int .i64 y.tx)).1
  have h2 := (World.ownsRow.stored h1 (r * 4 + 1) (.int .i64 y.last)).1
  have h3 := (World.ownsRow.stored h2 (r * 4 + 2) (.bool y.com)).1
  have h4 := (World.ownsRow.stored h3 (r * 4 + 3) (.bool y.und)).1
  rw [rows_set4 L r y hr] at h4
  exact h4
theorem row_frozen {w : World} {B e g n c : Nat} {xs : List Value} (h : GRow w B e 4 (.slice (some ⟨g, 0, none⟩) n c) n xs) (j : Nat) : w.frozen? ⟨g, j, none⟩ = false := World.ownsRow.frozenAt h j
/-- 'l[n:]' of a slice of elements of four cells. -/
def dropA4 (a : Option Addr) (cap n : Nat) : Option Addr := if cap = n then a else a.map (fun x => x.add (n * 4))
theorem slice_from4 {t e : TypeId} (ht : Try.prog.underlying t = some (.slice e)) (hz : ∀ w, (Go.sizeOf e).run Try.prog w = .ok 4 w) (a : Option Addr) (n cap k : Nat) (w : World) (h : k ≤ n) (h2 : n ≤ cap) :
    (Instr.slice t (.slice a n cap) (some (.int .i64 k)) none none).run Try.prog w = .ok (.slice (dropA4 a cap k) (n - k) (cap - k)) w := by
  unfold dropA4
  by_cases q : cap = k
  · subst q
    have hn : n = cap := by omega
    subst hn
    go_simp
  · have q' : ¬ k = cap := fun r => q r.symm
    rw [if_neg q]
    go_simp
theorem lies_drop4 {w : World} {g cap k : Nat} {L : List Lv} (h : Lies w (some ⟨g, 0, none⟩) (rowsC lvC L)) (hc : L.length ≤ cap) (hg : g < w.heap.size) : Lies w (dropA4 (some ⟨g, 0, none⟩) cap k) (rowsC lvC (L.drop k)) := by
  by_cases hk : L.length ≤ k
  · refine .inl ?_
    rw [List.drop_eq_nil_of_le hk]
    rfl
  · refine .inr ⟨g, k * 4, ?_, hg, fun i hi => ?_⟩
    · unfold dropA4
      rw [if_neg (by omega)]
      simp [addr_add]
    · have hl := rowsC_len lvC 4 (fun _ => rfl) (L.drop k)
      have hi' : i / 4 < (L.drop k).length := by omega
      have e := rowsC_get lvC 4 (fun _ => rfl) (L.drop k) (i / 4) hi' (i % 4) (by omega)
      rw [Nat.div_add_mod, List.getElem?_eq_getElem hi] at e
      have hk2 : k + i / 4 < L.length := by simp at hi'; omega
      obtain ⟨bl, off, ha, -, hc2⟩ := Lies.rowAt lvC 4 (fun _ => rfl) h (k + i / 4) hk2 (by omega)
      cases ha
      rw [List.getElem_drop] at e
      have := hc2 (i % 4) _ e.symm
      rw [← this]
      congr 2
      omega
theorem lies_take4 {w : World} {g : Nat} {L : List Lv} (h : Lies w (some ⟨g, 0, none⟩) (rowsC lvC L)) (k : Nat) (hg : g < w.heap.size) : Lies w (some ⟨g, 0, none⟩) (rowsC lvC (L.take k)) := by
  refine .inr ⟨g, 0, rfl, hg, fun i hi => ?_⟩
  have hl := rowsC_len lvC 4 (fun _ => rfl) (L.take k)
  have hi' : i / 4 < (L.take k).length := by omega
  have e := rowsC_get lvC 4 (fun _ => rfl) (L.take k) (i / 4) hi' (i % 4) (by omega)
  rw [Nat.div_add_mod, List.getElem?_eq_getElem hi] at e
  have hk2 : i / 4 < L.length := by simp at hi'; omega
  obtain ⟨bl, off, ha, -, hc2⟩ := Lies.rowAt lvC 4 (fun _ => rfl) h (i / 4) hk2 (by omega)
  cases ha
  rw [List.getElem_take] at e
  have := hc2 (i % 4) _ e.symm
  rw [← this]
  congr 2
  omega
theorem wrote4 {w w20 : World} {B xb g n c r : Nat} {L : List Lv} (h : GRow w B 58 4 (.slice (some ⟨g, 0, none⟩) n c) n (rowsC lvC L)) (hr : r < L.length) (y : Lv) (hne : g ≠ xb) {u1 u2 u3 : Value}
    (hw : w20 = ((((((w.setCell ⟨xb, 1, none⟩ u1).setCell ⟨xb, 2, none⟩ u2).setCell ⟨xb, 3, none⟩ u3).setCell ⟨g, r * 4, none⟩ (.int .i64 y.tx)).setCell ⟨g, r * 4 + 1, none⟩ (.int .i64 y.last)).setCell ⟨g, r * 4 + 2, none⟩ (.bool y.com)).setCell ⟨g, r * 4 + 3, none⟩ (.bool y.und)) :
    GRow w20 B 58 4 (.slice (some ⟨g, 0, none⟩) n c) n (rowsC lvC (L.set r y)) ∧ Keep (fun z => z = xb ∨ z = g) w w20 := by
  have k1 : Keep (fun z => z = xb) w (((w.setCell ⟨xb, 1, none⟩ u1).setCell ⟨xb, 2, none⟩ u2).setCell ⟨xb, 3, none⟩ u3) := (((Keep.refl (fun z => z = xb) w).setCell (g := xb) (j := 1) (fun _ => rfl) u1).setCell (g := xb) (j := 2) (fun _ => rfl) u2).setCell (g := xb) (j := 3) (fun _ => rfl) u3
  have h1 := GRow.keep h k1 (fun g0 hg0 q => by
    have e : g = g0 := by simpa [Value.ownBlock] using hg0
    omega)
  refine ⟨by rw [hw]; exact row_set4 h1 hr y, ?_⟩
  rw [hw]
  have k2 := k1.mono (T := fun z => z = xb ∨ z = g) (fun _ _ q => .inl q)
  exact (((k2.setCell (g := g) (j := r * 4) (fun _ => .inr rfl) _).setCell (g := g) (j := r * 4 + 1) (fun _ => .inr rfl) _).setCell (g := g) (j := r * 4 + 2) (fun _ => .inr rfl) _).setCell (g := g) (j := r * 4 + 3) (fun _ => .inr rfl) _
theorem LSt.setR {w w16 w20 : World} {b m g xb c r k : Nat} {t t' : TbM} {y : Lv} (P : PT w16 b m t') (ht : t' = ⟨t.L.set r y, t.next⟩) (hrow : GRow w20 w.heap.size 58 4 (.slice (some ⟨g, 0, none⟩) t.L.length c) t.L.length (rowsC lvC (t.L.set r y))) (hk : Keep (fun z => z = xb ∨ z = g) w16 w20) (hb : Below w.heap.size w w16)
    (ss : t.next ≤ (k : Int) + 1 ∧ (∀ x ∈ t.L, x.last < 2 * (k : Int) + 1) ∧ (w.heap.size ≤ b ∧ w.heap.size ≤ m)) (ord : b ≠ xb ∧ m ≠ xb ∧ b ≠ g ∧ m ≠ g) (lo : w.heap.size ≤ xb ∧ w.heap.size ≤ g) (hy : y.last = 2 * (k : Int) + 1) :
    LSt w w20 b m t' (.slice (some ⟨g, 0, none⟩) t.L.length c) (k + 1) := by
  refine ⟨P.keep hk (by omega) (by omega), ?_, ?_, ?_, ?_, hb.trans (hk.below hb.size (fun z hz q => by omega)), ss.2.2⟩
  · rw [ht]
    simp only [List.length_set]
    exact hrow
  · intro g0 hg0
    have e : g = g0 := by simpa [Value.ownBlock] using hg0
    omega
  · rw [ht]
    show t.next ≤ _
    have := ss.1
    omega
  · intro x hx
    rw [ht] at hx
    rcases List.mem_or_eq_of_mem_set hx with q | q
    · have := ss.2.1 x q; omega
    · rw [q, hy]; omega
theorem slice_to4 {t e : TypeId} (ht : Try.prog.underlying t = some (.slice e)) (hz : ∀ w, (Go.sizeOf e).run Try.prog w = .ok 4 w) (a : Addr) (n cap k : Nat) (w : World) (h : k ≤ n) (h2 : n ≤ cap) :
    (Instr.slice t (.slice (some a) n cap) none (some (.int .i64 k)) none).run Try.prog w = .ok (.slice (some a) k cap) w := by
  have h3 : k ≤ cap := by omega
  go_simp
theorem slice_from4' {t e : TypeId} (ht : Try.prog.underlying t = some (.slice e)) (hz : ∀ w, (Go.sizeOf e).run Try.prog w = .ok 4 w) (a : Option Addr) (n cap k : Nat) (w : World) (h : k + 1 ≤ n) (h2 : n ≤ cap) :
    (Instr.slice t (.slice a n cap) (some (.int .i64 ((k : Int) + 1))) none none).run Try.prog w = .ok (.slice (dropA4 a cap (k + 1)) (n - (k + 1)) (cap - (k + 1))) w := by
  have := slice_from4 ht hz a n cap (k + 1) w h h2
  simpa using this
theorem set_cut {L : List Lv} (hr : Rise L) {r : Nat} (hk : r < L.length) (y : Lv) : (L.set r y).take r ++ (L.set r y).drop (r + 1) = delT L L[r].tx := by
  rw [List.take_set_of_le (Nat.le_refl _), List.drop_set_of_lt (by omega)]
  exact take_drop_del hr hk
theorem drop4_some (g vc k : Nat) : ∃ ad, dropA4 (some ⟨g, 0, none⟩) vc k = some ad := by
  unfold dropA4
  split
  · exact ⟨_, rfl⟩
  · exact ⟨_, rfl⟩
/-- 'append(append(nil, l[:r]..), l[r+1:]..)': a new row of all the others. -/
theorem cut_row {x : World} {B g n c r : Nat} {L : List Lv} (h : GRow x B 58 4 (.slice (some ⟨g, 0, none⟩) n c) n (rowsC lvC L)) (hn : n = L.length) (hr : r < n) (h32 : n ≤ 32) (hB : B ≤ x.heap.size) (hc : n ≤ c) :
    ∃ v1 x1 v2 x2, (Builtin.append_ #[56, 56] 56 #[.slice none 0 0, .slice (some ⟨g, 0, none⟩) r c]).run Try.prog x = .ok v1 x1 ∧ (Builtin.append_ #[56, 56] 56 #[v1, .slice (dropA4 (some ⟨g, 0, none⟩) c (r + 1)) (n - (r + 1)) (c - (r + 1))]).run Try.prog x1 = .ok v2 x2 ∧
      GRow x2 B 58 4 v2 (L.take r ++ L.drop (r + 1)).length (rowsC lvC (L.take r ++ L.drop (r + 1))) ∧ (∀ q, v2.ownBlock = some q → x.heap.size ≤ q) ∧ Below x.heap.size x x2 := by
  have hg := (World.ownsRow.lt h g rfl).2
  have hl : Lies x (some ⟨g, 0, none⟩) (rowsC lvC L) := by
    obtain ⟨a, c', e, hl, _⟩ := GRow.lies h
    cases e
    exact hl
  have len1 := rowsC_len lvC 4 (fun _ => rfl) (L.take r)
  have len2 := rowsC_len lvC 4 (fun _ => rfl) (L.drop (r + 1))
  have one : ∀ l : List Lv, ∀ u ∈ rowsC lvC l, u.oneCell' = true := by
    intro l u hu
    unfold rowsC at hu
    obtain ⟨y, _, hy⟩ := List.mem_flatMap.1 hu
    exact lvC_one y u hy
  obtain ⟨v1, x1, r1, o1, g1, n1⟩ := run_pushR Try.underlying56 info58 rfl (by decide) (by decide) 56 x B (.slice none 0 0) 0 [] (World.ownsRow_nil _ _ _ _) ⟨g, 0, none⟩ r c (rowsC lvC (L.take r)) (by rw [len1]; simp; omega) (lies_take4 hl r hg) (one _) (by omega) hB
  have b1 : Below x.heap.size x x1 := (Below.refl _ x).grown g1 (Nat.le_refl _) (fun j hj => by simp [Value.ownBlock] at hj)
  obtain ⟨ad, had⟩ := drop4_some g c (r + 1)
  have l2 := lies_drop4 (k := r + 1) (hl.below b1) (by omega : L.length ≤ c) (Nat.lt_of_lt_of_le hg b1.size)
  rw [had] at l2
  obtain ⟨v2, x2, r2, o2, g2, n2⟩ := run_pushR Try.underlying56 info58 rfl (by decide) (by decide) 56 x1 B v1 (0 + r) _ o1 ad (n - (r + 1)) (c - (r + 1)) (rowsC lvC (L.drop (r + 1))) (by rw [len2]; simp; omega) l2 (one _) (by omega) (Nat.le_trans hB b1.size)
  have hv1 : ∀ q, v1.ownBlock = some q → x.heap.size ≤ q := by
    intro q hq
    rcases n1 with e | e
    · rw [e] at hq; simp [Value.ownBlock] at hq
    · rw [e] at hq; cases hq; exact Nat.le_refl _
  refine ⟨v1, x1, v2, x2, r1, by rw [had]; exact r2, ?_, ?_, ?_⟩
  · have e1 : 0 + r + (n - (r + 1)) = (L.take r ++ L.drop (r + 1)).length := by simp; omega
    have e2 : [] ++ rowsC lvC (L.take r) ++ rowsC lvC (L.drop (r + 1)) = rowsC lvC (L.take r ++ L.drop (r + 1)) := by simp [rowsC]
    rw [e1, e2] at o2
    exact o2
  · intro q hq
    rcases n2 with e | e
    · rw [e] at hq; exact hv1 q hq
    · rw [e] at hq; cases hq; exact b1.size
  · exact b1.trans (((Below.refl x.heap.size x1).grown g2 b1.size (fun j hj => hv1 j hj)))
end Go.Proofs.Ytokcocmenndlmaa
