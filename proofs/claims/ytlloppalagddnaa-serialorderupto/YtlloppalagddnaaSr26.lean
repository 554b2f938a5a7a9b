import Derived.Test.YtlloppalagddnaaSr24
import Derived.Test.YtlloppalagddnaaSr25
set_option linter.all false
namespace Go.Proofs.Ytlloppalagddnaa
open Go.RowKit Go.QK Quota Go.Maps Go.QM Go.QS
set_option maxRecDepth 100000
/-! 'turned': the runs in another order, each one's holdings turned round. -/
theorem info82 : (Try.prog.info? 82).map (fun i => (i.zero, i.size, i.bytes)) = some (some (.agg #[.int .i64 0, .slice none 0 0]), 2, 32) := by kernel_rfl
theorem ris_len (l : List RI) : (rowsC riC l).length = l.length * 2 := rowsC_n riC 2 (fun _ => rfl) l
theorem ris_one (l : List RI) : ∀ u ∈ rowsC riC l, u.oneCell' = true := rowsC_one riC (fun _ => rfl) l
theorem ris_app (a b : List RI) : rowsC riC (a ++ b) = rowsC riC a ++ rowsC riC b := rowsC_app riC a b
theorem ris_take (l : List RI) (k : Nat) : rowsC riC (l.take k) = (rowsC riC l).take (k * 2) := by
  induction l generalizing k with
  | nil => simp [rowsC]
  | cons x r ih =>
    cases k with
    | zero => simp [rowsC]
    | succ k =>
      rw [List.take_succ_cons]
      show rowsC riC ([x] ++ r.take k) = (rowsC riC ([x] ++ r)).take _
      rw [ris_app, ris_app, ih, show (k + 1) * 2 = (rowsC riC [x]).length + k * 2 from by rw [ris_len]; simp; omega, List.take_length_add_append]
theorem ris_drop (l : List RI) (k : Nat) : rowsC riC (l.drop k) = (rowsC riC l).drop (k * 2) := by
  have e : rowsC riC l = (rowsC riC l).take (k * 2) ++ rowsC riC (l.drop k) := by
    rw [← ris_take, ← ris_app, List.take_append_drop]
  by_cases h : k ≤ l.length
  · conv => rhs; rw [e]
    rw [List.drop_left' (by rw [← ris_take, ris_len]; simp; omega)]
  · rw [List.drop_eq_nil_of_le (by omega), List.drop_eq_nil_of_le (by rw [ris_len]; omega)]
    rfl
def dropR (ad : Addr) (cap k : Nat) : Addr := if cap = k then ad else ad.add (k * 2)
theorem slice36to {g n cap : Nat} (k : Nat) (w : World) (h : k ≤ cap) : (Instr.slice 36 (.slice (some ⟨g, 0, none⟩) n cap) none (some (.int .i64 k)) none).run Try.prog w = .ok (.slice (some ⟨g, 0, none⟩) k cap) w := by go_simp
theorem slice36from {g n cap : Nat} (k : Nat) (w : World) (h : k ≤ n) (h2 : n ≤ cap) : (Instr.slice 36 (.slice (some ⟨g, 0, none⟩) n cap) (some (.int .i64 k)) none none).run Try.prog w = .ok (.slice (some (dropR ⟨g, 0, none⟩ cap k)) (n - k) (cap - k)) w := by
  unfold dropR
  by_cases q : cap = k
  · subst q
    have hn : n = cap := by omega
    subst hn
    go_simp
  · have q' : ¬ k = cap := fun r => q r.symm
    rw [if_neg q]
    go_simp
theorem lies_takeN {w : World} {a : Option Addr} {cs : List Value} (h : Lies w a cs) (n : Nat) : Lies w a (cs.take n) := by
  rcases h with rfl | ⟨b, off, ha, hlt, hc⟩
  · exact .inl (by simp)
  · refine .inr ⟨b, off, ha, hlt, fun i hi => ?_⟩
    rw [hc i (by simp at hi; omega)]
    simp
theorem lies_dropR {w : World} {ad : Addr} {cs : List Value} (h : Lies w (some ad) cs) {cap k n : Nat} (hl : cs.length = n * 2) (hn : n ≤ cap) : Lies w (some (dropR ad cap k)) (cs.drop (k * 2)) := by
  by_cases q : n ≤ k
  · exact .inl (List.drop_eq_nil_of_le (by omega))
  · unfold dropR
    rw [if_neg (by omega)]
    rcases h with rfl | ⟨b, off, ha, hlt, hc⟩
    · exact .inl (by simp)
    · cases ha
      refine .inr ⟨b, off + k * 2, by simp [Addr.add], hlt, fun i hi => ?_⟩
      have := hc (k * 2 + i) (by simp at hi; omega)
      rw [← Nat.add_assoc] at this
      rw [this]
      simp
theorem run_ri36 (x : World) (B : Nat) (v : Value) (rs : List RI) (hown : GRow x B 82 2 v rs.length (rowsC riC rs)) (r : RI) (hl : (rs.length + 1) * 32 ≤ 140737488355328) (hB : B ≤ x.heap.size) :
    ∃ v' x', (Builtin.append_ #[36, 36] 36 #[v, .slice (some ⟨x.heap.size, 0, none⟩) 1 1]).run Try.prog (x.alloc (.cells #[.int .i64 r.tx, .slice r.a r.l.length r.c] 82)) = .ok v' x' ∧ GRow x' B 82 2 v' (rs ++ [r]).length (rowsC riC (rs ++ [r])) ∧ Keep (fun z => v.ownBlock = some z) x x' ∧ (v'.ownBlock = v.ownBlock ∨ ∃ z, v'.ownBlock = some z ∧ x.heap.size ≤ z) := by
  obtain ⟨v', x', h1, h2, h3, h4⟩ := run_pushW Try.underlying36 info82 rfl (by decide) 36 (x.alloc (.cells #[.int .i64 r.tx, .slice r.a r.l.length r.c] 82)) B v rs.length (rowsC riC rs) (GRow.below hown (alloc_below _ _)) ⟨x.heap.size, 0, none⟩ 1 1 (rowsC riC [r]) rfl (lies_one riC x r #[.int .i64 r.tx, .slice r.a r.l.length r.c] 82 rfl) (rowsC_one riC (fun _ => rfl) _) hl (by decide) (by simp; omega)
  refine ⟨v', x', h1, by rw [rowsC_app, List.length_append]; exact h2, ((Keep.refl (fun z => v.ownBlock = some z) x).alloc _).grown h3 (fun g hg _ => hg), ?_⟩
  rcases h4 with q | q
  · exact .inl q
  · refine .inr ⟨_, q, ?_⟩
    have := (alloc_below x (.cells #[.int .i64 r.tx, .slice r.a r.l.length r.c] 82)).size
    omega
/-- A run whose nets are a row of its own. -/
def NO (w : World) (B : Nat) (r : RI) : Prop := GRow w B 74 3 (.slice r.a r.l.length r.c) r.l.length (hns r.l)
structure Tn (w wr : World) (N : Nat) (rs : List RI) (lv ov : Value) (L O : List RI) : Prop where
  left : GRow wr N 82 2 lv L.length (rowsC riC L)
  out : GRow wr N 82 2 ov O.length (rowsC riC O)
  apart : ∀ g, lv.ownBlock = some g → ov.ownBlock ≠ some g
  mem : ∀ r ∈ L, r ∈ rs
  nets : ∀ r ∈ O, NO wr N r
  perm : (netsOf O ++ (netsOf L).map List.reverse).Perm ((netsOf rs).map List.reverse)
  len : L.length + O.length = rs.length
  below : Below N w wr
theorem perm_cut {α : Type} (L : List α) (j : Nat) (hj : j < L.length) : (L[j] :: (L.take j ++ L.drop (j + 1))).Perm L := by
  have e : L = L.take j ++ (L[j] :: L.drop (j + 1)) := by rw [List.getElem_cons_drop, List.take_append_drop]
  conv => rhs; rw [e]
  exact List.perm_middle.symm
theorem Tn.perm' {w wr : World} {N : Nat} {rs : List RI} {lv ov : Value} {L O : List RI} (h : Tn w wr N rs lv ov L O) (j : Nat) (hj : j < L.length) (r : RI) (hr : r.l = L[j].l.reverse) :
    (netsOf (O ++ [r]) ++ (netsOf (L.take j ++ L.drop (j + 1))).map List.reverse).Perm ((netsOf rs).map List.reverse) := by
  refine List.Perm.trans ?_ h.perm
  have e1 : netsOf (O ++ [r]) = netsOf O ++ [L[j].l.reverse] := by simp [netsOf, hr]
  rw [e1, List.append_assoc]
  refine List.Perm.append_left _ ?_
  have := ((perm_cut L j hj).map RI.l).map List.reverse
  simpa [netsOf] using this
/-- The two appends that make 'left' without its element at j. -/
theorem cut36 (x : World) (g cap B : Nat) (L : List RI) (hown : GRow x B 82 2 (.slice (some ⟨g, 0, none⟩) L.length cap) L.length (rowsC riC L)) (j : Nat) (hj : j < L.length) (h63 : L.length * 32 ≤ 140737488355328) :
    ∃ v1 x1 v2 x2, (Builtin.append_ #[36, 36] 36 #[.slice none 0 0, .slice (some ⟨g, 0, none⟩) j cap]).run Try.prog x = .ok v1 x1 ∧ Below x.heap.size x x1 ∧
      (Builtin.append_ #[36, 36] 36 #[v1, .slice (some (dropR ⟨g, 0, none⟩ cap (j + 1))) (L.length - (j + 1)) (cap - (j + 1))]).run Try.prog x1 = .ok v2 x2 ∧ Below x.heap.size x x2 ∧
      GRow x2 x.heap.size 82 2 v2 (L.take j ++ L.drop (j + 1)).length (rowsC riC (L.take j ++ L.drop (j + 1))) := by
  have hlen := ris_len L
  obtain ⟨a, c, e1, hl, hnc, _, _, _⟩ := GRow.lies hown
  cases e1
  have one := ris_one L
  obtain ⟨v1, x1, r1, g1, gr1, o1⟩ := run_pushW Try.underlying36 info82 rfl (by decide) 36 x x.heap.size (.slice none 0 0) 0 [] (World.ownsRow_nil _ _ _ _) ⟨g, 0, none⟩ j cap ((rowsC riC L).take (j * 2)) (by simp; omega) (lies_takeN hl _) (fun u hu => one u (List.mem_of_mem_take hu)) (by omega) (by decide) (Nat.le_refl _)
  have b1 : Below x.heap.size x x1 := (Below.refl _ _).grown gr1 (Nat.le_refl _) (by nofun)
  have hl1 : Lies x1 (some ⟨g, 0, none⟩) (rowsC riC L) := hl.below b1
  obtain ⟨v2, x2, r2, g2, gr2, o2⟩ := run_pushW Try.underlying36 info82 rfl (by decide) 36 x1 x.heap.size v1 (0 + j) ([] ++ (rowsC riC L).take (j * 2)) g1 (dropR ⟨g, 0, none⟩ cap (j + 1)) (L.length - (j + 1)) (cap - (j + 1)) ((rowsC riC L).drop ((j + 1) * 2)) (by simp; omega) (lies_dropR hl1 hlen hnc) (fun u hu => one u (List.mem_of_mem_drop hu)) (by omega) (by decide) b1.size
  have b2 : Below x.heap.size x x2 := b1.grown gr2 b1.size (fun k hk => (World.ownsRow.lt g1 k hk).1)
  refine ⟨v1, x1, v2, x2, r1, b1, r2, b2, ?_⟩
  have e3 : (L.take j ++ L.drop (j + 1)).length = 0 + j + (L.length - (j + 1)) := by simp; omega
  rw [e3, ris_app, ris_take, ris_drop]
  simpa using g2
end Go.Proofs.Ytlloppalagddnaa
