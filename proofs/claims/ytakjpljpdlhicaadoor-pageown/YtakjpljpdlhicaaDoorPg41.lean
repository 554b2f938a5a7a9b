import Derived.Test.YtakjpljpdlhicaaDoorPg33
set_option linter.all false
namespace Go.Proofs.YtakjpljpdlhicaaDoor
open Go.RowKit Go.QK Go.Pg
set_option maxRecDepth 100000
set_option maxHeartbeats 8000000 in
/-- 'own' of PageOwn: the same page, with lists of its own. -/
theorem own_any (p : PageM) (t : At) (w : World) (hcs : Lies w t.a (ctrsC p.cs)) (hgs : Lies w t.b (grpsC p.gs)) (hna : t.a = none → t.c = 0 ∧ p.cs.length = 0) (hnb : t.b = none → t.d = 0 ∧ p.gs.length = 0) (hl1 : p.cs.length * 40 + 40 ≤ 140737488355328) (hl2 : p.gs.length * 16 + 16 ≤ 140737488355328) :
    Calls Tryd.prog 43 #[pageV p t] w fun e w' => ∃ v, e = .returned v ∧ PageOut w' w.heap.size v p ∧ Below w.heap.size w w' := by
  have KB := hide (fun w' => back_any p t w')
  obtain ⟨num, lsn, cs, gs⟩ := p
  obtain ⟨ta, tc, tb, td⟩ := t
  simp only [pageV] at *
  have HCS := hide hcs
  have HGS := hide hgs
  have HNA := hide hna
  have HNB := hide hnb
  clear hcs hgs hna hnb
  go_enter Tryd.func43, Tryd.ntmps43
  go_upto_region 1 with fail
  refine named (P := Code.wp _ _ _ _) ?_
  intro w2 hw2
  obtain ⟨N, hN⟩ : ∃ N, N = w.heap.size := ⟨_, rfl⟩
  have b2 : Below w.heap.size w w2 := by rw [hw2]; exact bnext (alloc_below _ _) (alloc_below _ _) (Nat.le_refl _)
  have z2 : w2.heap.size = N + 2 := by rw [hw2, hN]; simp
  have c2 : Cells w2 N [.int .i64 num, .int .i64 lsn, .slice ta cs.length tc, .slice tb gs.length td] := by rw [hw2, hN]; exact (Cells.new w #[.int .i64 num, .int .i64 lsn, .slice ta cs.length tc, .slice tb gs.length td] 27).below (alloc_below _ _)
  have d2 : Cells w2 (N + 1) [.int .i64 0, .int .i64 0, .slice none 0 0, .slice none 0 0] := by
    rw [hw2, hN]
    have q := Cells.new (w.alloc (.cells #[.int .i64 num, .int .i64 lsn, .slice ta cs.length tc, .slice tb gs.length td] 27)) #[.int .i64 0, .int .i64 0, .slice none 0 0, .slice none 0 0] 38
    rw [World.size_alloc] at q
    exact q
  have Z2 := hide z2
  have B2 := hide b2
  have C2 := hide c2
  have D2 := hide d2
  have HN := hide hN
  rw [← hN]
  clear hw2 z2 b2 c2 d2 hN
  obtain ⟨g0, -⟩ := C2.out.get 0 _ rfl
  obtain ⟨g1, -⟩ := C2.out.get 1 _ rfl
  obtain ⟨g2, -⟩ := C2.out.get 2 _ rfl
  obtain ⟨g3, -⟩ := C2.out.get 3 _ rfl
  go_wp2_with fail
  clear g0 g1 g2 g3
  refine (KB.out w2).mono ?_
  rintro e w3 ⟨rfl, b3⟩
  go_upto_region 4 with fail
  refine named (P := Code.wp _ _ _ _) ?_
  intro w4 hw4
  obtain ⟨q, hq⟩ : ∃ q, q = w3.heap.size := ⟨_, rfl⟩
  have Q4 := hide (show Cells w4 q [.int .i64 num, .int .i64 lsn, .slice ta cs.length tc, .slice tb gs.length td] by rw [hw4, hq]; exact Cells.new w3 #[.int .i64 num, .int .i64 lsn, .slice ta cs.length tc, .slice tb gs.length td] 38)
  have A4 := hide (show Below w3.heap.size w3 w4 by rw [hw4]; exact alloc_below _ _)
  have C4 := hide ((C2.out.below b3).below A4.out)
  have D4 := hide ((D2.out.below b3).below A4.out)
  have B4 := hide (bnext (bnext B2.out b3 (Nat.le_refl _)) A4.out (Nat.le_refl _))
  have ZQ := hide (show N + 2 ≤ q ∧ q < w4.heap.size by have := Z2.out; have := b3.size; have := Q4.out.1; omega)
  rw [← hq]
  clear hw4 hq b3 C2 D2 B2 Z2 A4
  obtain ⟨g2, -⟩ := C4.out.get 2 _ rfl
  obtain ⟨y2, z2⟩ := Q4.out.get 2 _ rfl
  go_upto_region 5 with (at_builtin; refine wpList_appW Tryd.underlying24 info57 rfl (by decide) (by decide) rfl (.tmp 8) (.tmp 10) rfl w4.heap.size (.slice none 0 0) 0 [] rfl (World.ownsRow_nil _ _ _ _) ta cs.length tc (ctrsC cs) rfl (ctrsC_length cs) (HCS.out.below B4.out) (ctrsC_one cs) HNA.out (by omega) (Nat.le_refl _) ?_; intro v5 w5 q1 q2 q3; obtain ⟨a1, c1, e1, -⟩ := GRow.lies q1; subst e1; rw [Nat.zero_add, List.nil_append] at q1; have b5 : Below w4.heap.size w4 w5 := (Below.refl _ _).grown q2 (Nat.le_refl _) (by nofun); clear y2 z2 g2; obtain ⟨y2, z2⟩ := (Q4.out.below b5).get 2 _ rfl)
  refine named (P := Code.wp _ _ _ _) ?_
  intro w6 hw6
  try simp only [Nat.zero_add] at hw6
  have K6 : Keep (fun i => i = q) w5 w6 := by rw [hw6]; exact (Keep.refl (fun i => i = q) w5).setCell (g := q) (j := 2) (fun _ => rfl) _
  have Q6 := hide (show Cells w6 q [.int .i64 num, .int .i64 lsn, .slice a1 cs.length c1, .slice tb gs.length td] by rw [hw6]; exact (Q4.out.below b5).stored (j := 2) (by simp) _)
  have C6 := hide ((C4.out.below b5).keep K6 (by have := ZQ.out; omega))
  have D6 := hide ((D4.out.below b5).keep K6 (by have := ZQ.out; omega))
  have b45 := bnext B4.out b5 (Nat.le_refl _)
  have B6 := hide (b45.trans (K6.below b45.size (fun i hi e => by have := ZQ.out; have := HN.out; omega)))
  have R6 := hide (GRow.keep q1 K6 (fun g hg e => by have := (World.ownsRow.lt q1 g hg).1; have := ZQ.out; omega))
  have Z6 := hide (show N + 2 ≤ w6.heap.size ∧ q < w6.heap.size ∧ w4.heap.size ≤ w6.heap.size by have := ZQ.out; have := b5.size; have := K6.size; omega)
  clear hw6 K6 q1 q2 q3 b5 b45 y2 z2 Q4 C4 D4
  try simp only [Nat.zero_add]
  obtain ⟨g3, -⟩ := C6.out.get 3 _ rfl
  obtain ⟨y2, z2⟩ := Q6.out.get 3 _ rfl
  go_upto_region 6 with (at_builtin; refine wpList_appW Tryd.underlying25 info59 rfl (by decide) (by decide) rfl (.tmp 13) (.tmp 15) rfl w6.heap.size (.slice none 0 0) 0 [] rfl (World.ownsRow_nil _ _ _ _) tb gs.length td (grpsC gs) rfl (grpsC_length gs) (HGS.out.below B6.out) (grpsC_one gs) HNB.out (by omega) (Nat.le_refl _) ?_; intro v7 w7 q1 q2 q3; obtain ⟨a2, c2, e1, -⟩ := GRow.lies q1; subst e1; rw [Nat.zero_add, List.nil_append] at q1; have b7 : Below w6.heap.size w6 w7 := (Below.refl _ _).grown q2 (Nat.le_refl _) (by nofun); clear y2 z2 g3; obtain ⟨y2, z2⟩ := (Q6.out.below b7).get 3 _ rfl)
  refine named (P := Code.wp _ _ _ _) ?_
  intro w8 hw8
  try simp only [Nat.zero_add] at hw8
  have K8 : Keep (fun i => i = q) w7 w8 := by rw [hw8]; exact (Keep.refl (fun i => i = q) w7).setCell (g := q) (j := 3) (fun _ => rfl) _
  have Q8 := hide (show Cells w8 q [.int .i64 num, .int .i64 lsn, .slice a1 cs.length c1, .slice a2 gs.length c2] by rw [hw8]; exact (Q6.out.below b7).stored (j := 3) (by simp) _)
  have D8 := hide ((D6.out.below b7).keep K8 (by have := ZQ.out; omega))
  have b67 := bnext B6.out b7 (Nat.le_refl _)
  have B8 := hide (b67.trans (K8.below b67.size (fun i hi e => by have := ZQ.out; have := HN.out; omega)))
  have R8 := hide (GRow.keep q1 K8 (fun g hg e => by have := (World.ownsRow.lt q1 g hg).1; have := Z6.out; omega))
  have S8 := hide (GRow.keep (GRow.below R6.out b7) K8 (fun g hg e => by have := (World.ownsRow.lt R6.out g hg).1; have := ZQ.out; omega))
  clear hw8 K8 q1 q2 q3 b7 b67 y2 z2 Q6 C6 D6 R6
  try simp only [Nat.zero_add]
  have K9 := hide (((((Keep.refl (fun i => i = N + 1) w8).setCell (g := N + 1) (j := 0) (fun _ => rfl) (.int .i64 num)).setCell (g := N + 1) (j := 1) (fun _ => rfl) (.int .i64 lsn)).setCell (g := N + 1) (j := 2) (fun _ => rfl) (.slice a1 cs.length c1)).setCell (g := N + 1) (j := 3) (fun _ => rfl) (.slice a2 gs.length c2))
  have C9 := hide ((((D8.out.stored (j := 0) (by simp) (.int .i64 num)).stored (j := 1) (by simp) (.int .i64 lsn)).stored (j := 2) (by simp) (.slice a1 cs.length c1)).stored (j := 3) (by simp) (.slice a2 gs.length c2))
  obtain ⟨g0, -⟩ := Q8.out.get 0 _ rfl
  obtain ⟨y0, z0⟩ := D8.out.get 0 _ rfl
  obtain ⟨k0, _⟩ := C9.out.get 0 _ rfl
  obtain ⟨g1, -⟩ := Q8.out.get 1 _ rfl
  obtain ⟨y1, z1⟩ := D8.out.get 1 _ rfl
  obtain ⟨k1, _⟩ := C9.out.get 1 _ rfl
  obtain ⟨g2, -⟩ := Q8.out.get 2 _ rfl
  obtain ⟨y2, z2⟩ := D8.out.get 2 _ rfl
  obtain ⟨k2, _⟩ := C9.out.get 2 _ rfl
  obtain ⟨g3, -⟩ := Q8.out.get 3 _ rfl
  obtain ⟨y3, z3⟩ := D8.out.get 3 _ rfl
  obtain ⟨k3, _⟩ := C9.out.get 3 _ rfl
  have F1 := hide (GRow.keep S8.out K9.out (fun g hg e => by have := (World.ownsRow.lt S8.out g hg).1; have := ZQ.out; omega))
  have F2 := hide (GRow.keep R8.out K9.out (fun g hg e => by have := (World.ownsRow.lt R8.out g hg).1; have := Z6.out; omega))
  have FB := hide (B8.out.trans (K9.out.below B8.out.size (fun i hi e => by have := HN.out; omega)))
  have Z9 := hide (show w.heap.size ≤ w4.heap.size ∧ w.heap.size ≤ w6.heap.size by have := ZQ.out; have := Z6.out; have := HN.out; omega)
  go_wp2_with fail
  refine bodyPost_ret (v := .agg #[.int .i64 num, .int .i64 lsn, .slice a1 cs.length c1, .slice a2 gs.length c2]) (by simp only [results, Tryd.results43]; simp [go_sem, k0, k1, k2, k3]) rfl ?_
  exact ⟨_, rfl, ⟨_, _, rfl, GRow.mono F1.out Z9.out.1, GRow.mono F2.out Z9.out.2⟩, FB.out⟩
end Go.Proofs.YtakjpljpdlhicaaDoor
