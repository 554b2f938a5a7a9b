import Derived.Test.YtoocbpbaieedmaaAp1
namespace Go.Proofs.Ytoocbpbaieedmaa
open Go.RowKit Go.QK Quota
set_option maxRecDepth 100000
theorem info32 : (Try.prog.info? 32).map (fun i => (i.zero, i.size, i.bytes)) = some (some (.agg #[.int .i64 0, .int .i64 0, .int .i64 0, .int .i64 0, .int .i64 0]), 5, 40) := by kernel_rfl
theorem info69 : (Try.prog.info? 69).map (fun i => (i.zero, i.size, i.bytes)) = some (some (.agg #[.int .i64 0, .int .i64 0]), 2, 16) := by kernel_rfl
theorem rowsC_len {α : Type} (f : α → List Value) (n : Nat) (hf : ∀ x, (f x).length = n) : (ls : List α) → (rowsC f ls).length = ls.length * n
  | [] => by simp [rowsC]
  | l :: ls => by
    have := rowsC_len f n hf ls
    have h2 := hf l
    simp only [rowsC, List.flatMap_cons, List.length_append, List.length_cons] at *
    rw [this, h2, Nat.succ_mul]
    omega
theorem ctr_one (cs : List Ctr) : ∀ u ∈ rowsC ctrC cs, u.oneCell' = true := by
  intro u hu
  obtain ⟨l, _, hl⟩ := List.mem_flatMap.1 hu
  simp [ctrC] at hl
  rcases hl with rfl | rfl | rfl | rfl | rfl <;> rfl
theorem grp_one (cs : List Grp) : ∀ u ∈ rowsC grpC cs, u.oneCell' = true := by
  intro u hu
  obtain ⟨l, _, hl⟩ := List.mem_flatMap.1 hu
  simp [grpC] at hl
  rcases hl with rfl | rfl <;> rfl
/-- A page that came out: its lists are new, and lie apart. -/
def PgOut (w : World) (B : Nat) (v : Value) (p : Pg) : Prop :=
  ∃ v1 v2, v = .agg (pgA p.num p.lsn v1 v2) ∧ GRow w B 32 5 v1 p.cs.length (rowsC ctrC p.cs) ∧ GRow w B 69 2 v2 p.gs.length (rowsC grpC p.gs) ∧ (∀ g, v1.ownBlock = some g → v2.ownBlock ≠ some g)
theorem PgOut.none (w : World) (B : Nat) : PgOut w B (.agg (pgA 0 0 (.slice .none 0 0) (.slice .none 0 0))) none_ := ⟨_, _, rfl, World.ownsRow_nil _ _ _ _, World.ownsRow_nil _ _ _ _, nofun⟩
theorem PgOut.below {w w' : World} {B : Nat} {v : Value} {p : Pg} (h : PgOut w B v p) (hb : Below w.heap.size w w') : PgOut w' B v p := by
  obtain ⟨v1, v2, e, h1, h2, h3⟩ := h
  exact ⟨v1, v2, e, GRow.below h1 hb, GRow.below h2 hb, h3⟩
theorem PgOut.mono {w : World} {B B' : Nat} {v : Value} {p : Pg} (h : PgOut w B v p) (hb : B' ≤ B) : PgOut w B' v p := by
  obtain ⟨v1, v2, e, h1, h2, h3⟩ := h
  exact ⟨v1, v2, e, GRow.mono h1 hb, GRow.mono h2 hb, h3⟩
theorem PgOut.in_ {w : World} {B : Nat} {v : Value} {p : Pg} (h : PgOut w B v p) : ∃ t, v = pgV p t ∧ PIn w p t := by
  obtain ⟨v1, v2, rfl, h1, h2, h3⟩ := h
  obtain ⟨a, c, rfl, l1, m1, _, n1, -⟩ := GRow.lies h1
  obtain ⟨b, d, rfl, l2, m2, _, n2, -⟩ := GRow.lies h2
  exact ⟨⟨a, c, b, d⟩, rfl, ⟨l1, l2, fun e => ⟨n1 e, by have := n1 e; omega⟩, fun e => ⟨n2 e, by have := n2 e; omega⟩, m1, m2⟩⟩
set_option maxHeartbeats 8000000 in
theorem copy_any (p : Pg) (t : At) (w : World) (h : PIn w p t) (hl1 : p.cs.length ≤ 1000000) (hl2 : p.gs.length ≤ 1000000) :
    Calls Try.prog 23 #[pgV p t] w fun e w' => ∃ v, e = .returned v ∧ PgOut w' w.heap.size v p ∧ Below w.heap.size w w' := by
  obtain ⟨num, lsn, cs, gs⟩ := p
  obtain ⟨ta, tc, tb, td⟩ := t
  obtain ⟨hcs, hgs, hna, hnb, -, -⟩ := h
  simp only [pgV, pgA] at *
  have HCS := hide hcs
  have HGS := hide hgs
  have HNA := hide hna
  have HNB := hide hnb
  clear hcs hgs hna hnb
  go_enter Try.func23, Try.ntmps23
  go_upto_region 1 with fail
  refine named (P := Code.wp _ _ _ _) ?_
  intro w2 hw2
  have b2 : Below w.heap.size w w2 := by rw [hw2]; exact bnext (alloc_below _ _) (alloc_below _ _) (Nat.le_refl _)
  have z2 : w2.heap.size = w.heap.size + 2 := by rw [hw2]; simp
  have c2 : Cells w2 w.heap.size [.int .i64 num, .int .i64 lsn, .slice ta cs.length tc, .slice tb gs.length td] := by rw [hw2]; exact (Cells.new w _ _).below (alloc_below _ _)
  have d2 : Cells w2 (w.heap.size + 1) [.int .i64 0, .int .i64 0, .slice none 0 0, .slice none 0 0] := by
    rw [hw2]
    have q := Cells.new (w.alloc (.cells #[.int .i64 num, .int .i64 lsn, .slice ta cs.length tc, .slice tb gs.length td] 40)) #[.int .i64 0, .int .i64 0, .slice none 0 0, .slice none 0 0] 40
    rw [World.size_alloc] at q
    exact q
  have Z2 := hide z2
  have B2 := hide b2
  have C2 := hide c2
  have D2 := hide d2
  obtain ⟨g2, x2⟩ := c2.get 2 _ rfl
  clear hw2 z2 b2 c2 d2
  go_upto_region 2 with (at_builtin; refine wpList_appR Try.underlying22 info32 rfl (by decide) (by decide) rfl (.const (.slice none 0 0)) (.tmp _) rfl (w.heap.size + 2) (.slice none 0 0) 0 [] rfl (World.ownsRow_nil _ _ _ _) ta cs.length tc (rowsC ctrC cs) rfl (rowsC_len ctrC 5 (fun _ => rfl) cs) (HCS.out.below B2.out) (ctr_one cs) HNA.out (by omega) (by have := Z2.out; omega) ?_; intro v' w3 q1 q2 q3; obtain ⟨a1, c1, rfl, -, -, -, -, -⟩ := GRow.lies q1; have b3 : Below w2.heap.size w2 w3 := (Below.refl _ _).grown q2 (Nat.le_refl _) (by nofun); obtain ⟨g3, x3⟩ := (C2.out.below b3).get 2 _ rfl; clear g2 x2)
  refine named (P := Code.wp _ _ _ _) ?_
  intro w4 hw4
  rw [Nat.zero_add, List.nil_append] at q1
  try simp only [Nat.zero_add] at hw4
  have K4 : Keep (fun i => i = w.heap.size) w3 w4 := by rw [hw4]; exact (Keep.refl (fun i => i = w.heap.size) w3).setCell (g := w.heap.size) (j := 2) (fun _ => rfl) _
  have c4 : Cells w4 w.heap.size [.int .i64 num, .int .i64 lsn, .slice a1 cs.length c1, .slice tb gs.length td] := by rw [hw4]; exact (C2.out.below b3).stored (j := 2) (by simp) _
  have d4 : Cells w4 (w.heap.size + 1) [.int .i64 0, .int .i64 0, .slice none 0 0, .slice none 0 0] := (D2.out.below b3).keep K4 (by omega)
  have r4 : GRow w4 (w.heap.size + 2) 32 5 (.slice a1 cs.length c1) cs.length (rowsC ctrC cs) := GRow.keep q1 K4 (fun g hg q => by have := (World.ownsRow.lt q1 g hg).1; omega)
  have bw3 := bnext B2.out b3 (Nat.le_refl _)
  have bw4 : Below w.heap.size w w4 := bw3.trans (K4.below bw3.size (fun i hi q => by omega))
  have z4 : w.heap.size + 2 ≤ w4.heap.size := by have := Z2.out; have := b3.size; have := K4.size; omega
  have Z4 := hide z4
  have BW4 := hide bw4
  have C4 := hide c4
  have D4 := hide d4
  have R4 := hide r4
  clear hw4 K4 d4 r4 bw3 bw4 q1 q2 q3 b3 g3 x3 C2 D2 B2 Z2 z4
  obtain ⟨g2, x2⟩ := c4.get 3 _ rfl
  clear c4
  try simp only [Nat.zero_add]
  go_upto_region 3 with (at_builtin; refine wpList_appR Try.underlying23 info69 rfl (by decide) (by decide) rfl (.const (.slice none 0 0)) (.tmp _) rfl (w.heap.size + 2) (.slice none 0 0) 0 [] rfl (World.ownsRow_nil _ _ _ _) tb gs.length td (rowsC grpC gs) rfl (rowsC_len grpC 2 (fun _ => rfl) gs) (HGS.out.below BW4.out) (grp_one gs) HNB.out (by omega) Z4.out ?_; intro v' w5 q1 q2 q3; obtain ⟨a2, c2, rfl, -, -, -, -, -⟩ := GRow.lies q1; have b5 : Below w4.heap.size w4 w5 := (Below.refl _ _).grown q2 (Nat.le_refl _) (by nofun); obtain ⟨g3, x3⟩ := (C4.out.below b5).get 3 _ rfl; clear g2 x2)
  refine named (P := Code.wp _ _ _ _) ?_
  intro w6 hw6
  rw [Nat.zero_add, List.nil_append] at q1
  try simp only [Nat.zero_add] at hw6
  have K6 : Keep (fun i => i = w.heap.size) w5 w6 := by rw [hw6]; exact (Keep.refl (fun i => i = w.heap.size) w5).setCell (g := w.heap.size) (j := 3) (fun _ => rfl) _
  have c6 : Cells w6 w.heap.size [.int .i64 num, .int .i64 lsn, .slice a1 cs.length c1, .slice a2 gs.length c2] := by rw [hw6]; exact (C4.out.below b5).stored (j := 3) (by simp) _
  have d6 : Cells w6 (w.heap.size + 1) [.int .i64 0, .int .i64 0, .slice none 0 0, .slice none 0 0] := (D4.out.below b5).keep K6 (by omega)
  have r6 : GRow w6 (w.heap.size + 2) 69 2 (.slice a2 gs.length c2) gs.length (rowsC grpC gs) := GRow.keep q1 K6 (fun g hg q => by have := (World.ownsRow.lt q1 g hg).1; omega)
  have s6 : GRow w6 (w.heap.size + 2) 32 5 (.slice a1 cs.length c1) cs.length (rowsC ctrC cs) := GRow.keep (GRow.below R4.out b5) K6 (fun g hg q => by have := (World.ownsRow.lt R4.out g hg).1; omega)
  have AP := hide (show ∀ g, (Value.slice a1 cs.length c1).ownBlock = some g → (Value.slice a2 gs.length c2).ownBlock ≠ some g from fun g hg hg2 => by
    have u1 := (World.ownsRow.lt R4.out g hg).2
    rw [Nat.zero_add] at q3
    rcases q3 with q3 | q3
    · have e : some g = _ := hg2.symm.trans q3
      cases e
    · have e : some g = some w4.heap.size := hg2.symm.trans q3
      cases e
      omega)
  have bw5 := bnext BW4.out b5 (Nat.le_refl _)
  have bw6 : Below w.heap.size w w6 := bw5.trans (K6.below bw5.size (fun i hi q => by omega))
  have K8 := ((((Keep.refl (fun i => i = w.heap.size + 1) w6).setCell (g := w.heap.size + 1) (j := 0) (fun _ => rfl) (.int .i64 num)).setCell (g := w.heap.size + 1) (j := 1) (fun _ => rfl) (.int .i64 lsn)).setCell (g := w.heap.size + 1) (j := 2) (fun _ => rfl) (.slice a1 cs.length c1)).setCell (g := w.heap.size + 1) (j := 3) (fun _ => rfl) (.slice a2 gs.length c2)
  have C8 := (((d6.stored (j := 0) (by simp) (.int .i64 num)).stored (j := 1) (by simp) (.int .i64 lsn)).stored (j := 2) (by simp) (.slice a1 cs.length c1)).stored (j := 3) (by simp) (.slice a2 gs.length c2)
  have R8 := hide (GRow.mono (B' := w.heap.size) (GRow.keep r6 K8 (fun g hg q => by have := (World.ownsRow.lt r6 g hg).1; omega)) (by omega))
  have S8 := hide (GRow.mono (B' := w.heap.size) (GRow.keep s6 K8 (fun g hg q => by have := (World.ownsRow.lt s6 g hg).1; omega)) (by omega))
  have BF := hide (bw6.trans (K8.below bw6.size (fun i hi q => by omega)))
  obtain ⟨k0, _⟩ := C8.get 0 _ rfl
  obtain ⟨k1, _⟩ := C8.get 1 _ rfl
  obtain ⟨k2, _⟩ := C8.get 2 _ rfl
  obtain ⟨k3, _⟩ := C8.get 3 _ rfl
  obtain ⟨g0, x0⟩ := c6.get 0 _ rfl
  obtain ⟨g1, x1⟩ := c6.get 1 _ rfl
  obtain ⟨g2, x2⟩ := c6.get 2 _ rfl
  obtain ⟨g4, x4⟩ := c6.get 3 _ rfl
  obtain ⟨y0, u0⟩ := d6.get 0 _ rfl
  obtain ⟨y1, u1⟩ := d6.get 1 _ rfl
  obtain ⟨y2, u2⟩ := d6.get 2 _ rfl
  obtain ⟨y3, u3⟩ := d6.get 3 _ rfl
  clear hw6 K6 K8 C8 c6 d6 r6 s6 bw5 bw6 q1 q2 q3 b5 g3 x3 C4 D4 BW4 Z4 R4
  try simp only [Nat.zero_add]
  go_wp2_with fail
  refine bodyPost_ret (v := .agg #[.int .i64 num, .int .i64 lsn, .slice a1 cs.length c1, .slice a2 gs.length c2]) (by simp only [results, Try.results23]; simp [go_sem, k0, k1, k2, k3]) rfl ?_
  exact ⟨_, rfl, ⟨_, _, rfl, S8.out, R8.out, AP.out⟩, BF.out⟩

set_option maxHeartbeats 8000000 in
theorem own_any (p : Pg) (t : At) (w : World) (h : PIn w p t) (hl1 : p.cs.length ≤ 1000000) (hl2 : p.gs.length ≤ 1000000) :
    Calls Try.prog 17 #[pgV p t] w fun e w' => ∃ v, e = .returned v ∧ PgOut w' w.heap.size v p ∧ Below w.heap.size w w' := by
  obtain ⟨num, lsn, cs, gs⟩ := p
  obtain ⟨ta, tc, tb, td⟩ := t
  obtain ⟨hcs, hgs, hna, hnb, -, -⟩ := h
  simp only [pgV, pgA] at *
  have HCS := hide hcs
  have HGS := hide hgs
  have HNA := hide hna
  have HNB := hide hnb
  clear hcs hgs hna hnb
  go_enter Try.func17, Try.ntmps17
  go_upto_region 1 with fail
  refine named (P := Code.wp _ _ _ _) ?_
  intro w2 hw2
  have b2 : Below w.heap.size w w2 := by rw [hw2]; exact bnext (alloc_below _ _) (alloc_below _ _) (Nat.le_refl _)
  have z2 : w2.heap.size = w.heap.size + 2 := by rw [hw2]; simp
  have c2 : Cells w2 w.heap.size [.int .i64 num, .int .i64 lsn, .slice ta cs.length tc, .slice tb gs.length td] := by rw [hw2]; exact (Cells.new w _ _).below (alloc_below _ _)
  have d2 : Cells w2 (w.heap.size + 1) [.int .i64 0, .int .i64 0, .slice none 0 0, .slice none 0 0] := by
    rw [hw2]
    have q := Cells.new (w.alloc (.cells #[.int .i64 num, .int .i64 lsn, .slice ta cs.length tc, .slice tb gs.length td] 25)) #[.int .i64 0, .int .i64 0, .slice none 0 0, .slice none 0 0] 25
    rw [World.size_alloc] at q
    exact q
  have Z2 := hide z2
  have B2 := hide b2
  have C2 := hide c2
  have D2 := hide d2
  obtain ⟨g2, x2⟩ := c2.get 2 _ rfl
  clear hw2 z2 b2 c2 d2
  go_upto_region 2 with (at_builtin; refine wpList_appR Try.underlying22 info32 rfl (by decide) (by decide) rfl (.const (.slice none 0 0)) (.tmp _) rfl (w.heap.size + 2) (.slice none 0 0) 0 [] rfl (World.ownsRow_nil _ _ _ _) ta cs.length tc (rowsC ctrC cs) rfl (rowsC_len ctrC 5 (fun _ => rfl) cs) (HCS.out.below B2.out) (ctr_one cs) HNA.out (by omega) (by have := Z2.out; omega) ?_; intro v' w3 q1 q2 q3; obtain ⟨a1, c1, rfl, -, -, -, -, -⟩ := GRow.lies q1; have b3 : Below w2.heap.size w2 w3 := (Below.refl _ _).grown q2 (Nat.le_refl _) (by nofun); obtain ⟨g3, x3⟩ := (C2.out.below b3).get 2 _ rfl; clear g2 x2)
  refine named (P := Code.wp _ _ _ _) ?_
  intro w4 hw4
  rw [Nat.zero_add, List.nil_append] at q1
  try simp only [Nat.zero_add] at hw4
  have K4 : Keep (fun i => i = w.heap.size) w3 w4 := by rw [hw4]; exact (Keep.refl (fun i => i = w.heap.size) w3).setCell (g := w.heap.size) (j := 2) (fun _ => rfl) _
  have c4 : Cells w4 w.heap.size [.int .i64 num, .int .i64 lsn, .slice a1 cs.length c1, .slice tb gs.length td] := by rw [hw4]; exact (C2.out.below b3).stored (j := 2) (by simp) _
  have d4 : Cells w4 (w.heap.size + 1) [.int .i64 0, .int .i64 0, .slice none 0 0, .slice none 0 0] := (D2.out.below b3).keep K4 (by omega)
  have r4 : GRow w4 (w.heap.size + 2) 32 5 (.slice a1 cs.length c1) cs.length (rowsC ctrC cs) := GRow.keep q1 K4 (fun g hg q => by have := (World.ownsRow.lt q1 g hg).1; omega)
  have bw3 := bnext B2.out b3 (Nat.le_refl _)
  have bw4 : Below w.heap.size w w4 := bw3.trans (K4.below bw3.size (fun i hi q => by omega))
  have z4 : w.heap.size + 2 ≤ w4.heap.size := by have := Z2.out; have := b3.size; have := K4.size; omega
  have Z4 := hide z4
  have BW4 := hide bw4
  have C4 := hide c4
  have D4 := hide d4
  have R4 := hide r4
  clear hw4 K4 d4 r4 bw3 bw4 q1 q2 q3 b3 g3 x3 C2 D2 B2 Z2 z4
  obtain ⟨g2, x2⟩ := c4.get 3 _ rfl
  clear c4
  try simp only [Nat.zero_add]
  go_upto_region 3 with (at_builtin; refine wpList_appR Try.underlying23 info69 rfl (by decide) (by decide) rfl (.const (.slice none 0 0)) (.tmp _) rfl (w.heap.size + 2) (.slice none 0 0) 0 [] rfl (World.ownsRow_nil _ _ _ _) tb gs.length td (rowsC grpC gs) rfl (rowsC_len grpC 2 (fun _ => rfl) gs) (HGS.out.below BW4.out) (grp_one gs) HNB.out (by omega) Z4.out ?_; intro v' w5 q1 q2 q3; obtain ⟨a2, c2, rfl, -, -, -, -, -⟩ := GRow.lies q1; have b5 : Below w4.heap.size w4 w5 := (Below.refl _ _).grown q2 (Nat.le_refl _) (by nofun); obtain ⟨g3, x3⟩ := (C4.out.below b5).get 3 _ rfl; clear g2 x2)
  refine named (P := Code.wp _ _ _ _) ?_
  intro w6 hw6
  rw [Nat.zero_add, List.nil_append] at q1
  try simp only [Nat.zero_add] at hw6
  have K6 : Keep (fun i => i = w.heap.size) w5 w6 := by rw [hw6]; exact (Keep.refl (fun i => i = w.heap.size) w5).setCell (g := w.heap.size) (j := 3) (fun _ => rfl) _
  have c6 : Cells w6 w.heap.size [.int .i64 num, .int .i64 lsn, .slice a1 cs.length c1, .slice a2 gs.length c2] := by rw [hw6]; exact (C4.out.below b5).stored (j := 3) (by simp) _
  have d6 : Cells w6 (w.heap.size + 1) [.int .i64 0, .int .i64 0, .slice none 0 0, .slice none 0 0] := (D4.out.below b5).keep K6 (by omega)
  have r6 : GRow w6 (w.heap.size + 2) 69 2 (.slice a2 gs.length c2) gs.length (rowsC grpC gs) := GRow.keep q1 K6 (fun g hg q => by have := (World.ownsRow.lt q1 g hg).1; omega)
  have s6 : GRow w6 (w.heap.size + 2) 32 5 (.slice a1 cs.length c1) cs.length (rowsC ctrC cs) := GRow.keep (GRow.below R4.out b5) K6 (fun g hg q => by have := (World.ownsRow.lt R4.out g hg).1; omega)
  have AP := hide (show ∀ g, (Value.slice a1 cs.length c1).ownBlock = some g → (Value.slice a2 gs.length c2).ownBlock ≠ some g from fun g hg hg2 => by
    have u1 := (World.ownsRow.lt R4.out g hg).2
    rw [Nat.zero_add] at q3
    rcases q3 with q3 | q3
    · have e : some g = _ := hg2.symm.trans q3
      cases e
    · have e : some g = some w4.heap.size := hg2.symm.trans q3
      cases e
      omega)
  have bw5 := bnext BW4.out b5 (Nat.le_refl _)
  have bw6 : Below w.heap.size w w6 := bw5.trans (K6.below bw5.size (fun i hi q => by omega))
  have K8 := ((((Keep.refl (fun i => i = w.heap.size + 1) w6).setCell (g := w.heap.size + 1) (j := 0) (fun _ => rfl) (.int .i64 num)).setCell (g := w.heap.size + 1) (j := 1) (fun _ => rfl) (.int .i64 lsn)).setCell (g := w.heap.size + 1) (j := 2) (fun _ => rfl) (.slice a1 cs.length c1)).setCell (g := w.heap.size + 1) (j := 3) (fun _ => rfl) (.slice a2 gs.length c2)
  have C8 := (((d6.stored (j := 0) (by simp) (.int .i64 num)).stored (j := 1) (by simp) (.int .i64 lsn)).stored (j := 2) (by simp) (.slice a1 cs.length c1)).stored (j := 3) (by simp) (.slice a2 gs.length c2)
  have R8 := hide (GRow.mono (B' := w.heap.size) (GRow.keep r6 K8 (fun g hg q => by have := (World.ownsRow.lt r6 g hg).1; omega)) (by omega))
  have S8 := hide (GRow.mono (B' := w.heap.size) (GRow.keep s6 K8 (fun g hg q => by have := (World.ownsRow.lt s6 g hg).1; omega)) (by omega))
  have BF := hide (bw6.trans (K8.below bw6.size (fun i hi q => by omega)))
  obtain ⟨k0, _⟩ := C8.get 0 _ rfl
  obtain ⟨k1, _⟩ := C8.get 1 _ rfl
  obtain ⟨k2, _⟩ := C8.get 2 _ rfl
  obtain ⟨k3, _⟩ := C8.get 3 _ rfl
  obtain ⟨g0, x0⟩ := c6.get 0 _ rfl
  obtain ⟨g1, x1⟩ := c6.get 1 _ rfl
  obtain ⟨g2, x2⟩ := c6.get 2 _ rfl
  obtain ⟨g4, x4⟩ := c6.get 3 _ rfl
  obtain ⟨y0, u0⟩ := d6.get 0 _ rfl
  obtain ⟨y1, u1⟩ := d6.get 1 _ rfl
  obtain ⟨y2, u2⟩ := d6.get 2 _ rfl
  obtain ⟨y3, u3⟩ := d6.get 3 _ rfl
  clear hw6 K6 K8 C8 c6 d6 r6 s6 bw5 bw6 q1 q2 q3 b5 g3 x3 C4 D4 BW4 Z4 R4
  try simp only [Nat.zero_add]
  go_wp2_with fail
  refine bodyPost_ret (v := .agg #[.int .i64 num, .int .i64 lsn, .slice a1 cs.length c1, .slice a2 gs.length c2]) (by simp only [results, Try.results17]; simp [go_sem, k0, k1, k2, k3]) rfl ?_
  exact ⟨_, rfl, ⟨_, _, rfl, S8.out, R8.out, AP.out⟩, BF.out⟩

end Go.Proofs.Ytoocbpbaieedmaa
