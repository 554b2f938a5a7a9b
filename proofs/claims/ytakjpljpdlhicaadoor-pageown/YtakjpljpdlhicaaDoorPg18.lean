import Derived.Test.YtakjpljpdlhicaaDoorPg17
import Derived.Test.YtakjpljpdlhicaaDoorPg14
namespace Go.Proofs.YtakjpljpdlhicaaDoor
open Go.RowKit Go.QK Go.Pg
set_option maxRecDepth 100000
theorem PageOut.open_ {w : World} {B : Nat} {v : Value} {p : PageM} (h : PageOut w B v p) : ∃ t, v = pageV p t ∧ Lies w t.a (ctrsC p.cs) ∧ Lies w t.b (grpsC p.gs) ∧ (t.a = none → t.c = 0) ∧ (t.b = none → t.d = 0) := by
  obtain ⟨v1, v2, rfl, h2, h3⟩ := h
  obtain ⟨a, c, rfl, l1, _, _, n1, -⟩ := GRow.lies h2
  obtain ⟨b, d, rfl, l2, _, _, n2, -⟩ := GRow.lies h3
  exact ⟨⟨a, c, b, d⟩, rfl, l1, l2, n1, n2⟩
theorem ctrsC_one (cs : List CtrM) : ∀ u ∈ ctrsC cs, u.oneCell' = true := by
  intro u hu
  obtain ⟨l, _, hl⟩ := List.mem_flatMap.1 hu
  simp [ctrC] at hl
  rcases hl with rfl | rfl | rfl | rfl | rfl <;> rfl
theorem grpsC_one (cs : List GrpM) : ∀ u ∈ grpsC cs, u.oneCell' = true := by
  intro u hu
  obtain ⟨l, _, hl⟩ := List.mem_flatMap.1 hu
  simp [grpC] at hl
  rcases hl with rfl | rfl <;> rfl
theorem ctrsC_length : (cs : List CtrM) → (ctrsC cs).length = cs.length * 5
  | [] => rfl
  | c :: cs => by
    have := ctrsC_length cs
    simp only [ctrsC, rowsC, List.flatMap_cons, List.length_append, List.length_cons] at *
    rw [this]
    simp [ctrC]
    omega
theorem grpsC_length : (cs : List GrpM) → (grpsC cs).length = cs.length * 2
  | [] => rfl
  | c :: cs => by
    have := grpsC_length cs
    simp only [grpsC, rowsC, List.flatMap_cons, List.length_append, List.length_cons] at *
    rw [this]
    simp [grpC]
    omega
set_option maxHeartbeats 8000000 in
theorem copy_any (p : PageM) (t : At) (w : World) (hcs : Lies w t.a (ctrsC p.cs)) (hgs : Lies w t.b (grpsC p.gs)) (hna : t.a = none → t.c = 0 ∧ p.cs.length = 0) (hnb : t.b = none → t.d = 0 ∧ p.gs.length = 0) (hl1 : p.cs.length ≤ 1000000) (hl2 : p.gs.length ≤ 1000000) :
    Calls Tryd.prog 19 #[pageV p t] w fun e w' => ∃ v, e = .returned v ∧ PageOut w' w.heap.size v p ∧ Below w.heap.size w w' := by
  obtain ⟨num, lsn, cs, gs⟩ := p
  obtain ⟨ta, tc, tb, td⟩ := t
  simp only [pageV] at *
  have HCS := hide hcs
  have HGS := hide hgs
  have HNA := hide hna
  have HNB := hide hnb
  clear hcs hgs hna hnb
  go_enter Tryd.func19, Tryd.ntmps19
  go_upto_region 1 with fail
  refine named (P := Code.wp _ _ _ _) ?_
  intro w2 hw2
  have b2 : Below w.heap.size w w2 := by rw [hw2]; exact bnext (alloc_below _ _) (alloc_below _ _) (Nat.le_refl _)
  have z2 : w2.heap.size = w.heap.size + 2 := by rw [hw2]; simp
  have c2 : Cells w2 w.heap.size [.int .i64 num, .int .i64 lsn, .slice ta cs.length tc, .slice tb gs.length td] := by rw [hw2]; exact (Cells.new w _ _).below (alloc_below _ _)
  have d2 : Cells w2 (w.heap.size + 1) [.int .i64 0, .int .i64 0, .slice none 0 0, .slice none 0 0] := by
    rw [hw2]
    have q := Cells.new (w.alloc (.cells #[.int .i64 num, .int .i64 lsn, .slice ta cs.length tc, .slice tb gs.length td] 27)) #[.int .i64 0, .int .i64 0, .slice none 0 0, .slice none 0 0] 27
    rw [World.size_alloc] at q
    exact q
  have Z2 := hide z2
  have B2 := hide b2
  have C2 := hide c2
  have D2 := hide d2
  obtain ⟨g2, x2⟩ := c2.get 2 _ rfl
  clear hw2 z2 b2 c2 d2
  go_upto_region 2 with (at_builtin; refine wpList_appR Tryd.underlying24 info57 rfl (by decide) (by decide) rfl (.const (.slice none 0 0)) (.tmp _) rfl (w.heap.size + 2) (.slice none 0 0) 0 [] rfl (World.ownsRow_nil _ _ _ _) ta cs.length tc (ctrsC cs) rfl (ctrsC_length cs) (HCS.out.below B2.out) (ctrsC_one cs) HNA.out (by omega) (by have := Z2.out; omega) ?_; intro v' w3 q1 q2 q3; obtain ⟨a1, c1, rfl, -, -, -, -, -⟩ := GRow.lies q1; have b3 : Below w2.heap.size w2 w3 := (Below.refl _ _).grown q2 (Nat.le_refl _) (by nofun); obtain ⟨g3, x3⟩ := (C2.out.below b3).get 2 _ rfl; clear g2 x2)
  refine named (P := Code.wp _ _ _ _) ?_
  intro w4 hw4
  rw [Nat.zero_add, List.nil_append] at q1
  try simp only [Nat.zero_add] at hw4
  have K4 : Keep (fun i => i = w.heap.size) w3 w4 := by rw [hw4]; exact (Keep.refl (fun i => i = w.heap.size) w3).setCell (g := w.heap.size) (j := 2) (fun _ => rfl) _
  have c4 : Cells w4 w.heap.size [.int .i64 num, .int .i64 lsn, .slice a1 cs.length c1, .slice tb gs.length td] := by rw [hw4]; exact (C2.out.below b3).stored (j := 2) (by simp) _
  have d4 : Cells w4 (w.heap.size + 1) [.int .i64 0, .int .i64 0, .slice none 0 0, .slice none 0 0] := (D2.out.below b3).keep K4 (by omega)
  have r4 : GRow w4 (w.heap.size + 2) 57 5 (.slice a1 cs.length c1) cs.length (ctrsC cs) := GRow.keep q1 K4 (fun g hg q => by have := (World.ownsRow.lt q1 g hg).1; omega)
  have bw3 := bnext B2.out b3 (Nat.le_refl _)
  have bw4 : Below w.heap.size w w4 := bw3.trans (K4.below bw3.size (fun i hi q => by omega))
  have z4 : w.heap.size + 2 ≤ w4.heap.size := by have := Z2.out; have := b3.size; have := K4.size; omega
  have Z4 := hide z4
  have BW4 := hide bw4
  have C4 := hide c4
  have D4 := hide d4
  have R4 := hide r4
  clear hw4 K4 d4 r4 bw3 bw4 q1 q2 q3 b3 g3 x3 C2 D2 B2 Z2 z4
  obtain ⟨g2, x2⟩ := c4.get 3 _ rfl
  clear c4
  try simp only [Nat.zero_add]
  go_upto_region 3 with (at_builtin; refine wpList_appR Tryd.underlying25 info59 rfl (by decide) (by decide) rfl (.const (.slice none 0 0)) (.tmp _) rfl (w.heap.size + 2) (.slice none 0 0) 0 [] rfl (World.ownsRow_nil _ _ _ _) tb gs.length td (grpsC gs) rfl (grpsC_length gs) (HGS.out.below BW4.out) (grpsC_one gs) HNB.out (by omega) Z4.out ?_; intro v' w5 q1 q2 q3; obtain ⟨a2, c2, rfl, -, -, -, -, -⟩ := GRow.lies q1; have b5 : Below w4.heap.size w4 w5 := (Below.refl _ _).grown q2 (Nat.le_refl _) (by nofun); obtain ⟨g3, x3⟩ := (C4.out.below b5).get 3 _ rfl; clear g2 x2)
  refine named (P := Code.wp _ _ _ _) ?_
  intro w6 hw6
  rw [Nat.zero_add, List.nil_append] at q1
  try simp only [Nat.zero_add] at hw6
  have K6 : Keep (fun i => i = w.heap.size) w5 w6 := by rw [hw6]; exact (Keep.refl (fun i => i = w.heap.size) w5).setCell (g := w.heap.size) (j := 3) (fun _ => rfl) _
  have c6 : Cells w6 w.heap.size [.int .i64 num, .int .i64 lsn, .slice a1 cs.length c1, .slice a2 gs.length c2] := by rw [hw6]; exact (C4.out.below b5).stored (j := 3) (by simp) _
  have d6 : Cells w6 (w.heap.size + 1) [.int .i64 0, .int .i64 0, .slice none 0 0, .slice none 0 0] := (D4.out.below b5).keep K6 (by omega)
  have r6 : GRow w6 (w.heap.size + 2) 59 2 (.slice a2 gs.length c2) gs.length (grpsC gs) := GRow.keep q1 K6 (fun g hg q => by have := (World.ownsRow.lt q1 g hg).1; omega)
  have s6 : GRow w6 (w.heap.size + 2) 57 5 (.slice a1 cs.length c1) cs.length (ctrsC cs) := GRow.keep (GRow.below R4.out b5) K6 (fun g hg q => by have := (World.ownsRow.lt R4.out g hg).1; omega)
  have bw5 := bnext BW4.out b5 (Nat.le_refl _)
  have bw6 : Below w.heap.size w w6 := bw5.trans (K6.below bw5.size (fun i hi q => by omega))
  have K8 := ((((Keep.refl (fun i => i = w.heap.size + 1) w6).setCell (g := w.heap.size + 1) (j := 0) (fun _ => rfl) (.int .i64 num)).setCell (g := w.heap.size + 1) (j := 1) (fun _ => rfl) (.int .i64 lsn)).setCell (g := w.heap.size + 1) (j := 2) (fun _ => rfl) (.slice a1 cs.length c1)).setCell (g := w.heap.size + 1) (j := 3) (fun _ => rfl) (.slice a2 gs.length c2)
  have C8 := (((d6.stored (j := 0) (by simp) (.int .i64 num)).stored (j := 1) (by simp) (.int .i64 lsn)).stored (j := 2) (by simp) (.slice a1 cs.length c1)).stored (j := 3) (by simp) (.slice a2 gs.length c2)
  have R8 := hide (GRow.mono (B' := w.heap.size) (GRow.keep r6 K8 (fun g hg q => by have := (World.ownsRow.lt r6 g hg).1; omega)) (by omega))
  have S8 := hide (GRow.mono (B' := w.heap.size) (GRow.keep s6 K8 (fun g hg q => by have := (World.ownsRow.lt s6 g hg).1; omega)) (by omega))
  have BF := hide (bw6.trans (K8.below bw6.size (fun i hi q => by omega)))
  obtain ⟨k0, _⟩ := C8.get 0 _ rfl
  obtain ⟨k1, _⟩ := C8.get 1 _ rfl
  obtain ⟨k2, _⟩ := C8.get 2 _ rfl
  obtain ⟨k3, _⟩ := C8.get 3 _ rfl
  obtain ⟨g0, x0⟩ := c6.get 0 _ rfl
  obtain ⟨g1, x1⟩ := c6.get 1 _ rfl
  obtain ⟨g2, x2⟩ := c6.get 2 _ rfl
  obtain ⟨g4, x4⟩ := c6.get 3 _ rfl
  obtain ⟨y0, u0⟩ := d6.get 0 _ rfl
  obtain ⟨y1, u1⟩ := d6.get 1 _ rfl
  obtain ⟨y2, u2⟩ := d6.get 2 _ rfl
  obtain ⟨y3, u3⟩ := d6.get 3 _ rfl
  clear hw6 K6 K8 C8 c6 d6 r6 s6 bw5 bw6 q1 q2 q3 b5 g3 x3 C4 D4 BW4 Z4 R4
  try simp only [Nat.zero_add]
  go_wp2_with fail
  refine bodyPost_ret (v := .agg #[.int .i64 num, .int .i64 lsn, .slice a1 cs.length c1, .slice a2 gs.length c2]) (by simp only [results, Tryd.results19]; simp [go_sem, k0, k1, k2, k3]) rfl ?_
  exact ⟨_, rfl, ⟨_, _, rfl, S8.out, R8.out⟩, BF.out⟩

/-! The page of the examples. -/
def p0 : PageM := ⟨2, 258, [], [⟨7, -1⟩]⟩
theorem p0_ok : checkE p0 = 0 := by decide
theorem p0_full : isEmpty p0 = false := by decide
theorem p0_fit : p0.Fit := ⟨⟨by decide, by decide⟩, ⟨by decide, by decide⟩, by simp [p0], by simp [p0, GrpM.Fit, fit]⟩
theorem p0_enc : ∃ s, encB p0 = headB p0 s ++ restB p0 := ⟨_, by unfold encB; rw [p0_full]; rfl⟩
theorem p0_12 : (encB p0).take 12 = [113, 2, 2, 0, 1, 0, 0, 0, 2, 1, 0, 0] := by
  obtain ⟨s, h⟩ := p0_enc
  have e : headB p0 s = numsB [1, 1, 2, 2, 2, 4] [113, kindOf p0, un p0.num, countOf p0, 0, un p0.lsn] ++ bytesOf 4 s := by simp [headB, headS, headN, numsB]
  rw [h, e, List.append_assoc, List.take_left' (show (numsB [1, 1, 2, 2, 2, 4] [113, kindOf p0, un p0.num, countOf p0, 0, un p0.lsn]).length = 12 from numsB_length _ _ rfl)]
  decide
theorem p0_28 : ((encB p0).drop 16).take 12 = [7, 0, 0, 0, 255, 255, 255, 255, 255, 255, 255, 255] := by
  obtain ⟨s, h⟩ := p0_enc
  rw [h, List.drop_left' (by simp)]
  unfold restB
  rw [List.take_left' (by decide)]
  decide
theorem p0_dec : decE (encB p0) 2 = 0 ∧ decP (encB p0) 2 = p0 := by
  have h := dec_full p0_ok p0_fit p0_full 2 ⟨by decide, by decide⟩
  exact ⟨h.1, h.2 rfl⟩
theorem str12 : strOf [113, 2, 2, 0, 1, 0, 0, 0, 2, 1, 0, 0] = ⟨#[113, 2, 2, 0, 1, 0, 0, 0, 2, 1, 0, 0]⟩ := by rfl
theorem str28 : strOf [7, 0, 0, 0, 255, 255, 255, 255, 255, 255, 255, 255] = ⟨#[7, 0, 0, 0, 255, 255, 255, 255, 255, 255, 255, 255]⟩ := by rfl
end Go.Proofs.YtakjpljpdlhicaaDoor
