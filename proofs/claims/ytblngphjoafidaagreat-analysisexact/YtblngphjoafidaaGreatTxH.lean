import Derived.Test.YtblngphjoafidaaGreatTx9
set_option linter.all false
namespace Go.Proofs.YtblngphjoafidaaGreat
open Go.RowKit Go.QK Go.Maps Go.QM Go.QT
set_option maxRecDepth 100000
theorem isLsn_of {n : Int} (h1 : 1 ≤ n) (h2 : n ≤ 2147483647) : isLsn n = true := by unfold isLsn; simp [h1, h2]
theorem set_setT {L : List Lv} (hr : Rise L) {k : Nat} (hk : k < L.length) {v : Lv} (hv : v.tx = L[k].tx) : L.set k v = setT L v := by
  unfold setT
  apply List.ext_getElem (by simp)
  intro i h1 h2
  simp only [List.getElem_map]
  rw [List.getElem_set]
  simp only [List.length_set] at h1
  by_cases e : k = i
  · subst e
    rw [if_pos rfl, if_pos hv.symm]
  · rw [if_neg e, if_neg]
    intro hq
    have hq : L[i].tx = L[k].tx := hq.trans hv
    rcases Nat.lt_or_gt_of_ne e with q | q
    · have := List.pairwise_iff_getElem.1 hr k i hk h1 q; omega
    · have := List.pairwise_iff_getElem.1 hr i k h1 hk q; omega
theorem take_drop_del {L : List Lv} (hr : Rise L) {k : Nat} (hk : k < L.length) : L.take k ++ L.drop (k + 1) = delT L L[k].tx := by
  induction L generalizing k with
  | nil => simp at hk
  | cons x r ih =>
    obtain ⟨h1, h2⟩ := List.pairwise_cons.1 hr
    unfold delT at ih ⊢
    cases k with
    | zero =>
      simp
      rw [List.filter_eq_self.2]
      intro y hy
      have := h1 y hy
      simp
      omega
    | succ k =>
      have hk' : k < r.length := by simpa using hk
      have i := ih h2 hk'
      have := h1 r[k] (List.getElem_mem hk')
      have e : (x.tx == r[k].tx) = false := by simp; omega
      simp only [List.take_succ_cons, List.drop_succ_cons, List.cons_append, List.getElem_cons_succ, List.filter_cons, e]
      rw [i]
      rfl
theorem row_pos {w : World} {B n e : Nat} {v : Value} {xs : List Value} (h : GRow w B e 4 v n xs) (hn : 0 < n) : ∃ g cap, v = .slice (some ⟨g, 0, none⟩) n cap ∧ B ≤ g ∧ g < w.heap.size ∧ Lies w (some ⟨g, 0, none⟩) xs ∧ n ≤ cap ∧ cap ≤ maxLen := by
  obtain ⟨a, c, ea, hl, h1, h2, -⟩ := GRow.lies h
  have hlt := World.ownsRow.lt h
  rcases h.2 with ⟨_, q⟩ | ⟨g, cap, cur, q, _⟩
  · omega
  · rw [q] at ea
    cases ea
    exact ⟨g, c, q, (hlt g (by rw [q]; rfl)).1, (hlt g (by rw [q]; rfl)).2, hl, h1, h2⟩
def dropA4 (a : Option Addr) (cap n : Nat) : Option Addr := if cap = n then a else a.map (fun x => x.add (n * 4))
theorem slice_from4 {t e : TypeId} (ht : Tryz.prog.underlying t = some (.slice e)) (hz : ∀ w, (Go.sizeOf e).run Tryz.prog w = .ok 4 w) (a : Option Addr) (n cap k : Nat) (w : World) (h : k ≤ n) (h2 : n ≤ cap) :
    (Instr.slice t (.slice a n cap) (some (.int .i64 k)) none none).run Tryz.prog w = .ok (.slice (dropA4 a cap k) (n - k) (cap - k)) w := by
  unfold dropA4
  by_cases q : cap = k
  · subst q
    have hn : n = cap := by omega
    subst hn
    go_simp
  · have q' : ¬ k = cap := fun r => q r.symm
    rw [if_neg q]
    go_simp
theorem lies_drop4 {w : World} {g cap k : Nat} {L : List Lv} (h : Lies w (some ⟨g, 0, none⟩) (rowsC lvC L)) (hc : L.length ≤ cap) (hg : g < w.heap.size) : Lies w (dropA4 (some ⟨g, 0, none⟩) cap k) (rowsC lvC (L.drop k)) := by
  by_cases hk : L.length ≤ k
  · refine .inl ?_
    rw [List.drop_eq_nil_of_le hk]
    rfl
  · refine .inr ⟨g, k * 4, ?_, hg, fun i hi => ?_⟩
    · unfold dropA4
      rw [if_neg (by omega)]
      simp [addr_add]
    · have hl := rowsC_len lvC 4 (fun _ => rfl) (L.drop k)
      have hi' : i / 4 < (L.drop k).length := by omega
      have e := rowsC_get lvC 4 (fun _ => rfl) (L.drop k) (i / 4) hi' (i % 4) (by omega)
      rw [Nat.div_add_mod, List.getElem?_eq_getElem hi] at e
      have hk2 : k + i / 4 < L.length := by simp at hi'; omega
      obtain ⟨bl, off, ha, -, hc2⟩ := Lies.rowAt lvC 4 (fun _ => rfl) h (k + i / 4) hk2 (by omega)
      cases ha
      rw [List.getElem_drop] at e
      have := hc2 (i % 4) _ e.symm
      rw [← this]
      congr 2
      omega
theorem lies_take4 {w : World} {g : Nat} {L : List Lv} (h : Lies w (some ⟨g, 0, none⟩) (rowsC lvC L)) (k : Nat) (hg : g < w.heap.size) : Lies w (some ⟨g, 0, none⟩) (rowsC lvC (L.take k)) := by
  refine .inr ⟨g, 0, rfl, hg, fun i hi => ?_⟩
  have hl := rowsC_len lvC 4 (fun _ => rfl) (L.take k)
  have hi' : i / 4 < (L.take k).length := by omega
  have e := rowsC_get lvC 4 (fun _ => rfl) (L.take k) (i / 4) hi' (i % 4) (by omega)
  rw [Nat.div_add_mod, List.getElem?_eq_getElem hi] at e
  have hk2 : i / 4 < L.length := by simp at hi'; omega
  obtain ⟨bl, off, ha, -, hc2⟩ := Lies.rowAt lvC 4 (fun _ => rfl) h (i / 4) hk2 (by omega)
  cases ha
  rw [List.getElem_take] at e
  have := hc2 (i % 4) _ e.symm
  rw [← this]
  congr 2
  omega
theorem slice_to4 {t e : TypeId} (ht : Tryz.prog.underlying t = some (.slice e)) (hz : ∀ w, (Go.sizeOf e).run Tryz.prog w = .ok 4 w) (a : Addr) (n cap k : Nat) (w : World) (h : k ≤ n) (h2 : n ≤ cap) :
    (Instr.slice t (.slice (some a) n cap) none (some (.int .i64 k)) none).run Tryz.prog w = .ok (.slice (some a) k cap) w := by
  have h3 : k ≤ cap := by omega
  go_simp
theorem slice_from4' {t e : TypeId} (ht : Tryz.prog.underlying t = some (.slice e)) (hz : ∀ w, (Go.sizeOf e).run Tryz.prog w = .ok 4 w) (a : Option Addr) (n cap k : Nat) (w : World) (h : k + 1 ≤ n) (h2 : n ≤ cap) :
    (Instr.slice t (.slice a n cap) (some (.int .i64 ((k : Int) + 1))) none none).run Tryz.prog w = .ok (.slice (dropA4 a cap (k + 1)) (n - (k + 1)) (cap - (k + 1))) w := by
  have := slice_from4 ht hz a n cap (k + 1) w h h2
  simpa using this
theorem drop4_some (g vc k : Nat) : ∃ ad, dropA4 (some ⟨g, 0, none⟩) vc k = some ad := by
  unfold dropA4
  split
  · exact ⟨_, rfl⟩
  · exact ⟨_, rfl⟩
end Go.Proofs.YtblngphjoafidaaGreat
