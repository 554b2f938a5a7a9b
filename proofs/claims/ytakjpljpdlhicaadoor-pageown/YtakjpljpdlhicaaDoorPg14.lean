import Derived.Test.YtakjpljpdlhicaaDoorPg12
import Derived.Test.YtakjpljpdlhicaaDoorPg13
namespace Go.Proofs.YtakjpljpdlhicaaDoor
open Go.RowKit Go.QK Go.Pg
set_option maxRecDepth 100000
set_option maxHeartbeats 4000000 in
theorem encode_bad (p : PageM) (t : At) (w : World) (h : PageIn w p t) (hc : checkE p ≠ 0) :
    Calls Tryd.prog 11 #[pageV p t] w fun e w' => e = .returned (.tuple #[.slice none 0 0, .int .i64 (checkE p)]) ∧ Below w.heap.size w w' := by
  have CK := fun w' (b : Below w.heap.size w w') => check_any p t w' (h.below b)
  generalize checkE p = ce at *
  have hd : (ce != 0) = true := by simp; exact hc
  obtain ⟨num, lsn, cs, gs⟩ := p
  obtain ⟨ta, tc, tb, td⟩ := t
  simp only [pageV] at *
  clear h hc
  go_enter Tryd.func11, Tryd.ntmps11
  go_wp2_with fail
  refine (CK _ (alloc_below _ _)).mono ?_
  rintro e w1 ⟨rfl, b1⟩
  have B1 := hide (bnext (alloc_below _ _) b1 (Nat.le_refl _))
  clear b1
  go_wp2_with fail
  exact bodyPost_ret (v := .tuple #[.slice none 0 0, .int .i64 ce]) (by simp [results, Tryd.results11, go_sem]) rfl ⟨rfl, B1.out⟩
set_option maxHeartbeats 4000000 in
theorem encode_ok (p : PageM) (t : At) (w : World) (h : PageIn w p t) (ht : Tab w) (hc : checkE p = 0) :
    Calls Tryd.prog 11 #[pageV p t] w fun e w' => ∃ g, e = .returned (.tuple #[.slice (some ⟨g, 0, none⟩) 1024 1024, .int .i64 0]) ∧ w.heap.size ≤ g ∧ OwnB w' w.heap.size (.slice (some ⟨g, 0, none⟩) 1024 1024) (encB p) ∧ Below w.heap.size w w' := by
  have CK := fun w' (b : Below w.heap.size w w') => check_any p t w' (h.below b)
  rw [hc] at CK
  have IE := fun w => isEmpty_any p t w
  have LP := fun g w' (b : Below w.heap.size w w') (hg : w.heap.size ≤ g) (hne : isEmpty p = false) (o : OwnB w' w.heap.size (.slice (some ⟨g, 0, none⟩) 1024 1024) (zs 1024)) => layPage_any p t g w.heap.size w w' h b hg hc hne (ht.below b) (by have := ht.1; omega) o
  have hE : isEmpty p = true → encB p = zs 1024 := by intro q; unfold encB; rw [q]; rfl
  generalize isEmpty p = em at *
  generalize encB p = EN at *
  obtain ⟨num, lsn, cs, gs⟩ := p
  obtain ⟨ta, tc, tb, td⟩ := t
  simp only [pageV] at *
  have HEE := hide hE
  clear h hc hE ht
  obtain ⟨w2, hw2⟩ : ∃ w2, w2 = w.alloc (.cells #[.int .i64 num, .int .i64 lsn, .slice ta cs.length tc, .slice tb gs.length td] 27) := ⟨_, rfl⟩
  have b2 : Below w.heap.size w w2 := by rw [hw2]; exact alloc_below _ _
  have c2 : Cells w2 w.heap.size [.int .i64 num, .int .i64 lsn, .slice ta cs.length tc, .slice tb gs.length td] := by rw [hw2]; exact Cells.new w _ _
  have HW := hide hw2
  clear hw2
  go_enter Tryd.func11, Tryd.ntmps11
  go_upto_region 1 with fail
  rw [← HW.out]
  obtain ⟨g0, x0⟩ := c2.get 0 _ rfl
  obtain ⟨g1, x1⟩ := c2.get 1 _ rfl
  obtain ⟨g2, x2⟩ := c2.get 2 _ rfl
  obtain ⟨g3, x3⟩ := c2.get 3 _ rfl
  go_wp2_with fail
  refine (CK _ b2).mono ?_
  rintro e w3 ⟨rfl, b3⟩
  clear g0 g1 g2 g3 x0 x1 x2 x3
  obtain ⟨w4, m4, o4, b4, z4⟩ := makeB w3 1024 (by decide)
  have m4 : (Instr.makeSlice 22 (.int .i64 1024) (.int .i64 1024)).run Tryd.prog w3 = .ok (.slice (some ⟨w3.heap.size, 0, none⟩) 1024 1024) w4 := m4
  have c4 := (c2.below b3).below b4
  have bw3 := bnext b2 b3 (Nat.le_refl _)
  have bw4 := bnext bw3 b4 (Nat.le_refl _)
  have zz := bw3.size
  have OW4 := hide (GRow.mono (B' := w.heap.size) o4 zz)
  have BW4 := hide bw4
  have C4 := hide c4
  have ZZ := hide zz
  obtain ⟨g0, x0⟩ := c4.get 0 _ rfl
  obtain ⟨g1, x1⟩ := c4.get 1 _ rfl
  obtain ⟨g2, x2⟩ := c4.get 2 _ rfl
  obtain ⟨g3, x3⟩ := c4.get 3 _ rfl
  clear c4 bw3 bw4 b2 b3 b4 c2 zz o4 z4 HW
  obtain ⟨G, hG⟩ : ∃ G, G = w3.heap.size := ⟨_, rfl⟩
  rw [← hG] at m4 OW4 ZZ
  clear hG
  go_wp2_with fail
  refine (IE _).mono ?_
  rintro e w5 ⟨rfl, b5⟩
  have c5 := C4.out.below b5
  have OW5 := hide (Owns.below OW4.out b5)
  have BW5 := hide (bnext BW4.out b5 (Nat.le_refl _))
  clear g0 g1 g2 g3 x0 x1 x2 x3 m4 b5
  obtain ⟨g0, x0⟩ := c5.get 0 _ rfl
  obtain ⟨g1, x1⟩ := c5.get 1 _ rfl
  obtain ⟨g2, x2⟩ := c5.get 2 _ rfl
  obtain ⟨g3, x3⟩ := c5.get 3 _ rfl
  clear c5 C4 OW4 BW4
  cases em with
  | true =>
    go_wp2_with fail
    exact bodyPost_ret (v := .tuple #[.slice (some ⟨G, 0, none⟩) 1024 1024, .int .i64 0]) (by simp [results, Tryd.results11, go_sem]) rfl ⟨G, rfl, ZZ.out, by rw [HEE.out (by simp)]; exact OW5.out, BW5.out⟩
  | false =>
    go_wp2_with fail
    refine (LP G w5 BW5.out ZZ.out trivial OW5.out).mono ?_
    rintro e w6 ⟨rfl, o6, k6⟩
    have O6 := hide o6
    have B6 := hide (BW5.out.trans (k6.below BW5.out.size (fun k hk q => by have := ZZ.out; omega)))
    clear o6 k6 g0 g1 g2 g3 x0 x1 x2 x3
    go_wp2_with fail
    exact bodyPost_ret (v := .tuple #[.slice (some ⟨G, 0, none⟩) 1024 1024, .int .i64 0]) (by simp [results, Tryd.results11, go_sem]) rfl ⟨G, rfl, ZZ.out, O6.out, B6.out⟩
end Go.Proofs.YtakjpljpdlhicaaDoor
