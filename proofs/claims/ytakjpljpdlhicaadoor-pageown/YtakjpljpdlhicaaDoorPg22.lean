import Derived.Test.YtakjpljpdlhicaaDoorPg21
namespace Go.Proofs.YtakjpljpdlhicaaDoor
open Go.RowKit Go.QK Go.Pg
set_option maxRecDepth 100000
theorem ref_any (p : PageM) (t : At) (w : World) : Calls Tryd.prog 17 #[pageV p t] w fun e w' => e = .returned (pageV p t) ∧ Below w.heap.size w w' := by
  obtain ⟨num, lsn, cs, gs⟩ := p
  obtain ⟨ta, tc, tb, td⟩ := t
  simp only [pageV]
  generalize cs.length = n
  generalize gs.length = m
  go_enter Tryd.func17, Tryd.ntmps17
  go_wp2_with fail
  exact bodyPost_ret (v := .agg #[.int .i64 num, .int .i64 lsn, .slice ta n tc, .slice tb m td]) (by simp [results, Tryd.results17, go_sem]) rfl ⟨rfl, bnext (alloc_below _ _) (alloc_below _ _) (Nat.le_refl _)⟩
theorem back_any (p : PageM) (t : At) (w : World) : Calls Tryd.prog 14 #[pageV p t] w fun e w' => e = .returned (pageV p t) ∧ Below w.heap.size w w' := by
  obtain ⟨num, lsn, cs, gs⟩ := p
  obtain ⟨ta, tc, tb, td⟩ := t
  simp only [pageV]
  generalize cs.length = n
  generalize gs.length = m
  go_enter Tryd.func14, Tryd.ntmps14
  go_wp2_with fail
  exact bodyPost_ret (v := .agg #[.int .i64 num, .int .i64 lsn, .slice ta n tc, .slice tb m td]) (by simp [results, Tryd.results14, go_sem]) rfl ⟨rfl, bnext (alloc_below _ _) (alloc_below _ _) (Nat.le_refl _)⟩
theorem PageOut.keep {S : Nat → Prop} {w w' : World} {B : Nat} {v : Value} {p : PageM} (h : PageOut w B v p) (b : Keep S w w') (hS : ∀ g, B ≤ g → ¬ S g) : PageOut w' B v p := by
  obtain ⟨v1, v2, h1, h2, h3⟩ := h
  exact ⟨v1, v2, h1, h2.keep b (fun g hg => hS g (World.ownsRow.lt h2 g hg).1), h3.keep b (fun g hg => hS g (World.ownsRow.lt h3 g hg).1)⟩
theorem PageOut.mono {w : World} {B B' : Nat} {v : Value} {p : PageM} (h : PageOut w B v p) (hb : B' ≤ B) : PageOut w B' v p := by
  obtain ⟨v1, v2, h1, h2, h3⟩ := h
  exact ⟨v1, v2, h1, h2.mono hb, h3.mono hb⟩
set_option maxHeartbeats 8000000 in
theorem right_any (p : PageM) (t : At) (w : World) (h : PageIn w p t) :
    Calls Tryd.prog 12 #[pageV p t] w fun e w' => ∃ q v, e = .returned v ∧ checkE q = 0 ∧ q.Fit ∧ PageOut w' w.heap.size v q ∧ Below w.heap.size w w' := by
  have RF := fun w => ref_any p t w
  have MD := fun w' (b : Below w.heap.size w w') => made_any p t w' (h.below b)
  obtain ⟨num, lsn, cs, gs⟩ := p
  obtain ⟨ta, tc, tb, td⟩ := t
  simp only [pageV] at *
  clear h
  go_enter Tryd.func12, Tryd.ntmps12
  go_wp2_with fail
  refine (RF _).mono ?_
  rintro e w2 ⟨rfl, b2⟩
  have bw2 := bnext (bnext (alloc_below w _) (alloc_below _ _) (Nat.le_refl _)) b2 (Nat.le_refl _)
  have d2 : Cells w2 (w.heap.size + 1) [.int .i64 0, .int .i64 0, .slice none 0 0, .slice none 0 0] := by
    have q := Cells.new (w.alloc (.cells #[.int .i64 num, .int .i64 lsn, .slice ta cs.length tc, .slice tb gs.length td] 34)) #[.int .i64 0, .int .i64 0, .slice none 0 0, .slice none 0 0] 27
    rw [World.size_alloc] at q
    exact q.below b2
  have D2 := hide d2
  have BW2 := hide bw2
  clear d2 bw2 b2
  go_wp2_with fail
  refine (MD w2 BW2.out).mono ?_
  rintro e w3 ⟨q, v, rfl, hck, hfit, ho, b3⟩
  obtain ⟨⟨a, c, b, d⟩, rfl, -, -, -, -⟩ := PageOut.open_ ho
  have D3 := hide (D2.out.below b3)
  have BW3 := hide (bnext BW2.out b3 (Nat.le_refl _))
  have O3 := hide ho
  have Z2 := hide D2.out.1
  obtain ⟨qn, ql, qc, qg⟩ := q
  simp only [pageV] at O3 ⊢
  have HCK := hide hck
  have HFI := hide hfit
  clear hck hfit ho b3
  go_upto_region 2 with fail
  refine named (P := Code.wp _ _ _ _) ?_
  intro w4 hw4
  have b4 : Below w3.heap.size w3 w4 := by rw [hw4]; exact alloc_below _ _
  have c4 : Cells w4 w3.heap.size [.int .i64 qn, .int .i64 ql, .slice a qc.length c, .slice b qg.length d] := by rw [hw4]; exact Cells.new w3 _ _
  have d4 := D3.out.below b4
  have bw4 := bnext BW3.out b4 (Nat.le_refl _)
  have o4 := O3.out.below b4
  obtain ⟨G, hG⟩ : ∃ G, G = w3.heap.size := ⟨_, rfl⟩
  rw [← hG] at c4 ⊢
  have K8 := ((((Keep.refl (fun i => i = w.heap.size + 1) w4).setCell (g := w.heap.size + 1) (j := 0) (fun _ => rfl) (.int .i64 qn)).setCell (g := w.heap.size + 1) (j := 1) (fun _ => rfl) (.int .i64 ql)).setCell (g := w.heap.size + 1) (j := 2) (fun _ => rfl) (.slice a qc.length c)).setCell (g := w.heap.size + 1) (j := 3) (fun _ => rfl) (.slice b qg.length d)
  have C8 := (((d4.stored (j := 0) (by simp) (.int .i64 qn)).stored (j := 1) (by simp) (.int .i64 ql)).stored (j := 2) (by simp) (.slice a qc.length c)).stored (j := 3) (by simp) (.slice b qg.length d)
  have hz2 := Z2.out
  have O8 := hide (PageOut.mono (PageOut.keep o4 K8 (fun g hg q => by omega)) (show w.heap.size ≤ w2.heap.size by omega))
  have BF := hide (bw4.trans (K8.below bw4.size (fun i hi q => by omega)))
  obtain ⟨k0, _⟩ := C8.get 0 _ rfl
  obtain ⟨k1, _⟩ := C8.get 1 _ rfl
  obtain ⟨k2, _⟩ := C8.get 2 _ rfl
  obtain ⟨k3, _⟩ := C8.get 3 _ rfl
  obtain ⟨g0, x0⟩ := c4.get 0 _ rfl
  obtain ⟨g1, x1⟩ := c4.get 1 _ rfl
  obtain ⟨g2, x2⟩ := c4.get 2 _ rfl
  obtain ⟨g3, x3⟩ := c4.get 3 _ rfl
  obtain ⟨y0, z0⟩ := d4.get 0 _ rfl
  obtain ⟨y1, z1⟩ := d4.get 1 _ rfl
  obtain ⟨y2, z2⟩ := d4.get 2 _ rfl
  obtain ⟨y3, z3⟩ := d4.get 3 _ rfl
  clear hw4 b4 c4 d4 bw4 o4 hG K8 C8 hz2 Z2
  go_wp2_with fail
  refine bodyPost_ret (v := .agg #[.int .i64 qn, .int .i64 ql, .slice a qc.length c, .slice b qg.length d]) (by simp only [results, Tryd.results12]; simp [go_sem, k0, k1, k2, k3]) rfl ?_
  exact ⟨_, _, rfl, HCK.out, HFI.out, O8.out, BF.out⟩
end Go.Proofs.YtakjpljpdlhicaaDoor
