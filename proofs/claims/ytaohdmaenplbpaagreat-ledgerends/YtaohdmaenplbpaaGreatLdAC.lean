import Derived.Test.YtaohdmaenplbpaaGreatLdAB
set_option linter.all false
namespace Go.Proofs.YtaohdmaenplbpaaGreat
open Go.RowKit Go.QK Quota Go.Maps Go.QM
set_option maxRecDepth 100000
theorem Left.step {S : Nat → Prop} {w0 w w' : World} {lb : Nat} {C : Ctrs} {H : Helds} (h : Left S w w' lb C H) (g : ∀ z, S z → w0.heap.size ≤ z) (b : Below w0.heap.size w0 w) : ∃ S', LG S' w' lb C H ∧ (∀ z, S' z → w0.heap.size ≤ z) ∧ Below w0.heap.size w0 w' := by
  obtain ⟨S', h', k, n⟩ := h
  have hs := b.size
  refine ⟨S', h', fun z hz => ?_, b.trans (k.below b.size (fun z hz q => by have := g z q; omega))⟩
  rcases n z hz with q | q
  · exact g z q
  · omega
theorem i64_of {z : Int} (h : fitB z = true) : I64 z := fitB_true.1 h
def C1 : Ctrs := [(1, ⟨1, ⟨0, 100, 50, []⟩⟩)]
def C2 : Ctrs := [(1, ⟨1, ⟨0, 100, 50, []⟩⟩), (2, ⟨1, ⟨0, 100, 20, []⟩⟩)]
def C3 : Ctrs := [(1, ⟨1, ⟨0, 100, 50, [(1, -50)]⟩⟩), (2, ⟨1, ⟨0, 100, 20, []⟩⟩)]
def C4 : Ctrs := [(1, ⟨1, ⟨0, 100, 50, [(1, -50)]⟩⟩), (2, ⟨1, ⟨0, 100, 20, [(1, 80)]⟩⟩)]
def H3 : Helds := [(1, [1])]
def H4 : Helds := [(1, [1, 2])]
theorem c1 : newL [] 1 1 0 100 50 = 0 ∧ makeL [] 1 1 0 100 50 = C1 := ⟨by decide, by rfl⟩
theorem c2 : newL C1 2 1 0 100 20 = 0 ∧ makeL C1 2 1 0 100 20 = C2 := ⟨by decide, by rfl⟩
theorem c3 : mayL C2 1 1 (-50) = 0 ∧ addL C2 1 1 (-50) = C3 ∧ heldA C2 [] 1 1 (-50) = H3 := ⟨by decide, by rfl, by rfl⟩
theorem c4 : mayL C3 2 1 (-1) = 110 := by decide
theorem c5 : mayL C3 1 2 80 = 0 ∧ addL C3 1 2 80 = C4 ∧ heldA C3 H3 1 2 80 = H4 := ⟨by decide, by rfl, by rfl⟩
theorem c6 : sumA C4 1 = (100, 20, 150) ∧ sumE C4 1 = 0 := ⟨by decide, by decide⟩
theorem c7 : readA C4 1 = rng 0 50 ∧ readF C4 1 = 0 := ⟨by rfl, by decide⟩
theorem c8 : heldR H4 1 = [1, 2] := by
  show List.mergeSort [1, 2] _ = _
  exact List.mergeSort_of_pairwise (by simp)
theorem c9 : rowsC (hdR C4 1) [1, 2] = [.int .i64 1, .int .i64 1, .int .i64 (-50), .int .i64 1, .int .i64 2, .int .i64 80] := by rfl
theorem c10 : heldR (delM H4 1) 1 = [] := by
  show List.mergeSort [] _ = _
  exact List.mergeSort_nil
theorem c11 {G : Prs (Int × Int × Int)} (hu : Up G) (hg : ∀ g, getM G g = if thereG C4 g then some (sumG C4 g, lowG C4 g, highG C4 g) else none) : G.length = 1 := by
  have e : G = [(1, 100, 20, 150)] := by
    refine up_ext hu (List.pairwise_singleton _ _) (fun k => ?_)
    rw [hg k]
    by_cases q : k = 1
    · subst q; rfl
    · have h1 : thereG C4 k = false := by
        have q' : ¬ (1 : Int) = k := fun e => q e.symm
        simp [thereG, C4, q']
      have q' : ¬ (1 : Int) = k := fun e => q e.symm
      rw [h1]
      simp [getM, q']
  rw [e]; rfl
set_option maxHeartbeats 8000000 in
theorem first_any (w : World) : Calls Tryz.prog 10 #[] w fun r w' => r = .returned (.bool true) ∧ Below w.heap.size w w' := by
  have K := lg_new w
  go_enter Tryz.func10, Tryz.ntmps10
  go_wp2_with fail
  refine K.mono ?_
  rintro r w1 ⟨lb, S, rfl, h, g, b⟩
  clear K
  have K := lg_create (id := 1) (grp := 1) h (lo := 0) (hi := 100) (v := 50) (i64_of (by decide)) (i64_of (by decide)) (i64_of (by decide))
  rw [c1.1] at K
  rw [c1.2] at K
  go_wp2_with fail
  refine K.mono ?_
  rintro r w2 ⟨rfl, q⟩
  replace q := q.step g b
  clear K h g b
  clear S
  obtain ⟨S, h, g, b⟩ := q
  have K := lg_create (id := 2) (grp := 1) h (lo := 0) (hi := 100) (v := 20) (i64_of (by decide)) (i64_of (by decide)) (i64_of (by decide))
  rw [c2.1] at K
  rw [c2.2] at K
  go_wp2_with fail
  refine K.mono ?_
  rintro r w3 ⟨rfl, q⟩
  replace q := q.step g b
  clear K h g b
  clear S
  obtain ⟨S, h, g, b⟩ := q
  have K := lg_add h (tx := 1) (id := 1) (d := -50) (i64_of (by decide)) (i64_of (by decide)) (i64_of (by decide)) (fun c e => by cases e; decide) (by decide)
  rw [c3.1] at K
  rw [c3.2.1] at K
  rw [c3.2.2] at K
  go_wp2_with fail
  refine K.mono ?_
  rintro r w4 ⟨rfl, q⟩
  replace q := q.step g b
  clear K h g b
  clear S
  obtain ⟨S, h, g, b⟩ := q
  have K := lg_may h (tx := 2) (id := 1) (d := -1) (i64_of (by decide)) (i64_of (by decide)) (i64_of (by decide))
  rw [c4] at K
  go_wp2_with fail
  refine K.mono ?_
  rintro r w5 ⟨rfl, q⟩
  replace b := b.trans (q.mono b.size)
  replace h := h.below q
  clear K q
  have K := lg_add h (tx := 1) (id := 2) (d := 80) (i64_of (by decide)) (i64_of (by decide)) (i64_of (by decide)) (fun c e => by cases e; decide) (by decide)
  rw [c5.1] at K
  rw [c5.2.1] at K
  rw [c5.2.2] at K
  go_wp2_with fail
  refine K.mono ?_
  rintro r w6 ⟨rfl, q⟩
  replace q := q.step g b
  clear K h g b
  clear S
  obtain ⟨S, h, g, b⟩ := q
  have K := lg_sum h (g := 1) (i64_of (by decide))
  rw [c6.1] at K
  rw [c6.2] at K
  go_wp2_with fail
  refine K.mono ?_
  rintro r w7 ⟨rfl, q⟩
  replace b := b.trans (q.mono b.size)
  replace h := h.below q
  clear K q
  have K := lg_worst h (g := 1) (i64_of (by decide))
  rw [c6.1] at K
  rw [c6.2] at K
  go_wp2_with fail
  refine K.mono ?_
  rintro r w8 ⟨rfl, q⟩
  replace b := b.trans (q.mono b.size)
  replace h := h.below q
  clear K q
  have al := alloc_below w8 (.cells #[.int .i64 20, .int .i64 150] 38)
  have cw := Cells.new w8 #[.int .i64 20, .int .i64 150] 38
  replace b := b.trans (al.mono b.size)
  replace h := h.below al
  have K := lg_read h (id := 1) (i64_of (by decide))
  rw [c7.1] at K
  rw [c7.2] at K
  go_wp2_with fail
  refine K.mono ?_
  rintro r w9 ⟨rfl, q⟩
  replace b := b.trans (q.mono b.size)
  replace h := h.below q
  replace cw := cw.below q
  clear al
  clear K q
  have al := alloc_below w9 (.cells #[.int .i64 0, .int .i64 50] 38)
  have cr := Cells.new w9 #[.int .i64 0, .int .i64 50] 38
  replace b := b.trans (al.mono b.size)
  replace h := h.below al
  try replace cw := cw.below al
  have K := lg_copy h (by decide)
  go_wp2_with fail
  refine K.mono ?_
  rintro r w10 ⟨lc, T, rfl, hc, gc, q⟩
  have ap : ∀ z, T z → ¬ S z := fun z hz hs => by have := gc z hz; have := h.lt z hs; omega
  have gT : ∀ z, T z → w.heap.size ≤ z := fun z hz => by have := gc z hz; have := b.size; omega
  replace b := b.trans (q.mono b.size)
  replace h := h.below q
  replace cw := cw.below q
  replace cr := cr.below q
  have d0 := (cw.get 0 _ rfl).1
  have d1 := (cw.get 1 _ rfl).1
  have d2 := (cr.get 0 _ rfl).1
  have d3 := (cr.get 1 _ rfl).1
  clear K q gc al
  have K := lg_holdings h (tx := 1) (i64_of (by decide))
  rw [c8, c9] at K
  go_wp2_with fail
  refine K.mono ?_
  rintro r w11 ⟨v, rfl, row, q⟩
  obtain ⟨a, cp, rfl, hl, -, -, hn, ha⟩ := GRow.lies row
  replace b := b.trans (q.mono b.size)
  replace h := h.below q
  replace hc := hc.below q
  clear K q row
  obtain ⟨bb, off, rfl, hb1, e0⟩ := hl.cellAt 0 _ rfl
  obtain ⟨ho, -⟩ := ha _ rfl
  simp only at ho
  subst ho
  obtain ⟨_, _, q1, -, e1⟩ := hl.cellAt 1 _ rfl
  cases q1
  obtain ⟨_, _, q2, -, e2⟩ := hl.cellAt 2 _ rfl
  cases q2
  simp only [Nat.zero_add] at e0 e1 e2
  clear hl hn ha d0 d1 d2 d3 cw cr
  have K := lg_counters h
  go_wp2_with fail
  refine K.mono ?_
  rintro r w12 ⟨v, rfl, row, -, q⟩
  obtain ⟨a, cp', rfl, -⟩ := GRow.lies row
  replace b := b.trans (q.mono b.size)
  replace h := h.below q
  replace hc := hc.below q
  clear K q row
  rw [show C4.length = 2 from rfl]
  obtain ⟨G, hu, hg, K⟩ := lg_groups h
  rw [c11 hu hg] at K
  clear hu hg
  go_wp2_with fail
  refine K.mono ?_
  rintro r w13 ⟨v, rfl, row, -, q⟩
  obtain ⟨a, cp', rfl, -⟩ := GRow.lies row
  replace b := b.trans (q.mono b.size)
  replace h := h.below q
  replace hc := hc.below q
  clear K q row
  have K := lg_settle h (tx := 1) (i64_of (by decide))
  rw [show (idsOf H4 1).length = 2 from rfl] at K
  go_wp2_with fail
  refine K.mono ?_
  rintro r w14 ⟨rfl, q⟩
  obtain ⟨-, -, k, -⟩ := id q
  replace hc := hc.keep k ap
  replace q := q.step g b
  obtain ⟨-, -, -, b2⟩ := q
  clear K k h g b ap
  have K := lg_release hc (tx := 1) (i64_of (by decide))
  rw [show (idsOf H4 1).length = 2 from rfl] at K
  go_wp2_with fail
  refine K.mono ?_
  rintro r w15 ⟨rfl, q⟩
  replace q := q.step gT b2
  clear K hc gT b2
  obtain ⟨T', hc, -, b⟩ := q
  have K := lg_holdings hc (tx := 1) (i64_of (by decide))
  rw [c10] at K
  go_wp2_with fail
  refine K.mono ?_
  rintro r w16 ⟨v, rfl, row, q⟩
  obtain ⟨a, cp', rfl, -⟩ := GRow.lies row
  replace b := b.trans (q.mono b.size)
  clear K q row hc
  go_wp2_with fail
  go_ret
  exact ⟨rfl, b⟩
end Go.Proofs.YtaohdmaenplbpaaGreat
