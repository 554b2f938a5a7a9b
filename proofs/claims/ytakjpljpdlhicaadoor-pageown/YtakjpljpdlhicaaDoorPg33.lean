import Derived.Test.YtakjpljpdlhicaaDoorPg24
import Derived.Test.YtakjpljpdlhicaaDoorPg27
import Derived.Test.YtakjpljpdlhicaaDoorPg22
namespace Go.Proofs.YtakjpljpdlhicaaDoor
open Go.RowKit Go.QK Go.Pg
set_option linter.all false
set_option maxRecDepth 100000
/-! The same as before, for lists of whatever length a slice may have. -/
theorem run_pushW {t e : TypeId} {z : Value} {size bytes : Nat} (hu : Tryd.prog.underlying t = some (.slice e)) (hin : (Tryd.prog.info? e).map (fun i => (i.zero, i.size, i.bytes)) = some (some z, size, bytes)) (hz : z.cells.size = size) (hs : 0 < size) (ty : TypeId) (x : World)
    (B : Nat) (v : Value) (n : Nat) (xs : List Value) (hown : GRow x B e size v n xs) (ad : Addr) (m c : Nat) (news : List Value) (hl : news.length = m * size) (hnews : Lies x (some ad) news) (h1 : ∀ u ∈ news, u.oneCell' = true) (h63 : (n + m) * bytes ≤ 140737488355328) (hb1 : 0 < bytes) (hB : B ≤ x.heap.size) :
    ∃ v' x', (Builtin.append_ #[t, t] ty #[v, .slice (some ad) m c]).run Tryd.prog x = .ok v' x' ∧ GRow x' B e size v' (n + m) (xs ++ news) ∧ x.grownBy x' v.ownBlock ∧ (v'.ownBlock = v.ownBlock ∨ v'.ownBlock = some x.heap.size) := by
  obtain ⟨i0, hi, h0, h2, h3⟩ := info_of hin
  obtain ⟨v', w', hr, q2, q3, q4, q5⟩ := run_append_own_at (P := Tryd.prog) x B t ty e i0 z size bytes hu hi h0 h2 h3 hz hs v n xs hown ad m c news hl
    (by
      intro j u hj
      obtain ⟨b, off, e1, _, hc⟩ := hnews.cellAt j u hj
      cases e1
      rw [addr_add]
      exact hc) h1 (by unfold maxLen; have := Nat.le_mul_of_pos_right (n + m) hb1; omega) h63 hB
  exact ⟨v', w', hr, q2, q3, q5⟩

theorem wpList_appW {t e : TypeId} {z : Value} {size bytes : Nat} (hu : Tryd.prog.underlying t = some (.slice e)) (hin : (Tryd.prog.info? e).map (fun i => (i.zero, i.size, i.bytes)) = some (some z, size, bytes)) (hz : z.cells.size = size) (hs0 : 0 < size) (hb1 : 0 < bytes)
    {w : World} {ops : Array Oper} {rest : List Oper} {o : Oper} {a : Act} {Q : Exit → Act → World → Prop} (hgd : o.guard = none) (s x : Operand) (ho : o.op = .call { callee := .builtin .append, args := #[s, x], argTypes := #[t, t] })
    (B : Nat) (v : Value) (n : Nat) (xs : List Value) (hs : a.eval s = v) (hown : GRow w B e size v n xs) (ax : Option Addr) (m c : Nat) (news : List Value) (hx : a.eval x = .slice ax m c) (hl : news.length = m * size) (hnews : Lies w ax news) (h1 : ∀ u ∈ news, u.oneCell' = true) (hnil : ax = none → c = 0 ∧ m = 0) (h63 : (n + m) * bytes ≤ 140737488355328) (hB : B ≤ w.heap.size)
    (h : ∀ v' w', GRow w' B e size v' (n + m) (xs ++ news) → w.grownBy w' v.ownBlock → (v'.ownBlock = v.ownBlock ∨ v'.ownBlock = some w.heap.size) → wpList Tryd.prog ops Q rest (a.put o.dst v') w') : wpList Tryd.prog ops Q (o :: rest) a w := by
  cases ax with
  | none =>
    obtain ⟨rfl, rfl⟩ := hnil rfl
    obtain ⟨i0, hi, h0, h2, h3⟩ := info_of hin
    have e0 : news = [] := List.eq_nil_of_length_eq_zero (by omega)
    subst e0
    refine wpList_append_own_none hgd s x t ho B e i0 size hu hi v n _ hs hown hx ?_
    exact h v w (by simpa using hown) (World.grownBy.refl _ _) (.inl rfl)
  | some ad =>
    obtain ⟨v', x', hr, q2, q3, q4⟩ := run_pushW hu hin hz hs0 o.type w B v n xs hown ad m c news hl hnews h1 h63 hb1 hB
    exact wpList_run hgd s x ho hs hx hr (h v' x' q2 q3 q4)

set_option maxHeartbeats 8000000 in
theorem copyW (p : PageM) (t : At) (w : World) (hcs : Lies w t.a (ctrsC p.cs)) (hgs : Lies w t.b (grpsC p.gs)) (hna : t.a = none → t.c = 0 ∧ p.cs.length = 0) (hnb : t.b = none → t.d = 0 ∧ p.gs.length = 0) (hl1 : p.cs.length * 40 + 40 ≤ 140737488355328) (hl2 : p.gs.length * 16 + 16 ≤ 140737488355328) :
    Calls Tryd.prog 19 #[pageV p t] w fun e w' => ∃ v, e = .returned v ∧ PageOut w' w.heap.size v p ∧ Below w.heap.size w w' := by
  obtain ⟨num, lsn, cs, gs⟩ := p
  obtain ⟨ta, tc, tb, td⟩ := t
  simp only [pageV] at *
  have HCS := hide hcs
  have HGS := hide hgs
  have HNA := hide hna
  have HNB := hide hnb
  clear hcs hgs hna hnb
  go_enter Tryd.func19, Tryd.ntmps19
  go_upto_region 1 with fail
  refine named (P := Code.wp _ _ _ _) ?_
  intro w2 hw2
  have b2 : Below w.heap.size w w2 := by rw [hw2]; exact bnext (alloc_below _ _) (alloc_below _ _) (Nat.le_refl _)
  have z2 : w2.heap.size = w.heap.size + 2 := by rw [hw2]; simp
  have c2 : Cells w2 w.heap.size [.int .i64 num, .int .i64 lsn, .slice ta cs.length tc, .slice tb gs.length td] := by rw [hw2]; exact (Cells.new w _ _).below (alloc_below _ _)
  have d2 : Cells w2 (w.heap.size + 1) [.int .i64 0, .int .i64 0, .slice none 0 0, .slice none 0 0] := by
    rw [hw2]
    have q := Cells.new (w.alloc (.cells #[.int .i64 num, .int .i64 lsn, .slice ta cs.length tc, .slice tb gs.length td] 27)) #[.int .i64 0, .int .i64 0, .slice none 0 0, .slice none 0 0] 27
    rw [World.size_alloc] at q
    exact q
  have Z2 := hide z2
  have B2 := hide b2
  have C2 := hide c2
  have D2 := hide d2
  obtain ⟨g2, x2⟩ := c2.get 2 _ rfl
  clear hw2 z2 b2 c2 d2
  go_upto_region 2 with (at_builtin; refine wpList_appW Tryd.underlying24 info57 rfl (by decide) (by decide) rfl (.const (.slice none 0 0)) (.tmp _) rfl (w.heap.size + 2) (.slice none 0 0) 0 [] rfl (World.ownsRow_nil _ _ _ _) ta cs.length tc (ctrsC cs) rfl (ctrsC_length cs) (HCS.out.below B2.out) (ctrsC_one cs) HNA.out (by omega) (by have := Z2.out; omega) ?_; intro v' w3 q1 q2 q3; obtain ⟨a1, c1, rfl, -, -, -, -, -⟩ := GRow.lies q1; have b3 : Below w2.heap.size w2 w3 := (Below.refl _ _).grown q2 (Nat.le_refl _) (by nofun); obtain ⟨g3, x3⟩ := (C2.out.below b3).get 2 _ rfl; clear g2 x2)
  refine named (P := Code.wp _ _ _ _) ?_
  intro w4 hw4
  rw [Nat.zero_add, List.nil_append] at q1
  try simp only [Nat.zero_add] at hw4
  have K4 : Keep (fun i => i = w.heap.size) w3 w4 := by rw [hw4]; exact (Keep.refl (fun i => i = w.heap.size) w3).setCell (g := w.heap.size) (j := 2) (fun _ => rfl) _
  have c4 : Cells w4 w.heap.size [.int .i64 num, .int .i64 lsn, .slice a1 cs.length c1, .slice tb gs.length td] := by rw [hw4]; exact (C2.out.below b3).stored (j := 2) (by simp) _
  have d4 : Cells w4 (w.heap.size + 1) [.int .i64 0, .int .i64 0, .slice none 0 0, .slice none 0 0] := (D2.out.below b3).keep K4 (by omega)
  have r4 : GRow w4 (w.heap.size + 2) 57 5 (.slice a1 cs.length c1) cs.length (ctrsC cs) := GRow.keep q1 K4 (fun g hg q => by have := (World.ownsRow.lt q1 g hg).1; omega)
  have bw3 := bnext B2.out b3 (Nat.le_refl _)
  have bw4 : Below w.heap.size w w4 := bw3.trans (K4.below bw3.size (fun i hi q => by omega))
  have z4 : w.heap.size + 2 ≤ w4.heap.size := by have := Z2.out; have := b3.size; have := K4.size; omega
  have Z4 := hide z4
  have BW4 := hide bw4
  have C4 := hide c4
  have D4 := hide d4
  have R4 := hide r4
  clear hw4 K4 d4 r4 bw3 bw4 q1 q2 q3 b3 g3 x3 C2 D2 B2 Z2 z4
  obtain ⟨g2, x2⟩ := c4.get 3 _ rfl
  clear c4
  try simp only [Nat.zero_add]
  go_upto_region 3 with (at_builtin; refine wpList_appW Tryd.underlying25 info59 rfl (by decide) (by decide) rfl (.const (.slice none 0 0)) (.tmp _) rfl (w.heap.size + 2) (.slice none 0 0) 0 [] rfl (World.ownsRow_nil _ _ _ _) tb gs.length td (grpsC gs) rfl (grpsC_length gs) (HGS.out.below BW4.out) (grpsC_one gs) HNB.out (by omega) Z4.out ?_; intro v' w5 q1 q2 q3; obtain ⟨a2, c2, rfl, -, -, -, -, -⟩ := GRow.lies q1; have b5 : Below w4.heap.size w4 w5 := (Below.refl _ _).grown q2 (Nat.le_refl _) (by nofun); obtain ⟨g3, x3⟩ := (C4.out.below b5).get 3 _ rfl; clear g2 x2)
  refine named (P := Code.wp _ _ _ _) ?_
  intro w6 hw6
  rw [Nat.zero_add, List.nil_append] at q1
  try simp only [Nat.zero_add] at hw6
  have K6 : Keep (fun i => i = w.heap.size) w5 w6 := by rw [hw6]; exact (Keep.refl (fun i => i = w.heap.size) w5).setCell (g := w.heap.size) (j := 3) (fun _ => rfl) _
  have c6 : Cells w6 w.heap.size [.int .i64 num, .int .i64 lsn, .slice a1 cs.length c1, .slice a2 gs.length c2] := by rw [hw6]; exact (C4.out.below b5).stored (j := 3) (by simp) _
  have d6 : Cells w6 (w.heap.size + 1) [.int .i64 0, .int .i64 0, .slice none 0 0, .slice none 0 0] := (D4.out.below b5).keep K6 (by omega)
  have r6 : GRow w6 (w.heap.size + 2) 59 2 (.slice a2 gs.length c2) gs.length (grpsC gs) := GRow.keep q1 K6 (fun g hg q => by have := (World.ownsRow.lt q1 g hg).1; omega)
  have s6 : GRow w6 (w.heap.size + 2) 57 5 (.slice a1 cs.length c1) cs.length (ctrsC cs) := GRow.keep (GRow.below R4.out b5) K6 (fun g hg q => by have := (World.ownsRow.lt R4.out g hg).1; omega)
  have bw5 := bnext BW4.out b5 (Nat.le_refl _)
  have bw6 : Below w.heap.size w w6 := bw5.trans (K6.below bw5.size (fun i hi q => by omega))
  have K8 := ((((Keep.refl (fun i => i = w.heap.size + 1) w6).setCell (g := w.heap.size + 1) (j := 0) (fun _ => rfl) (.int .i64 num)).setCell (g := w.heap.size + 1) (j := 1) (fun _ => rfl) (.int .i64 lsn)).setCell (g := w.heap.size + 1) (j := 2) (fun _ => rfl) (.slice a1 cs.length c1)).setCell (g := w.heap.size + 1) (j := 3) (fun _ => rfl) (.slice a2 gs.length c2)
  have C8 := (((d6.stored (j := 0) (by simp) (.int .i64 num)).stored (j := 1) (by simp) (.int .i64 lsn)).stored (j := 2) (by simp) (.slice a1 cs.length c1)).stored (j := 3) (by simp) (.slice a2 gs.length c2)
  have R8 := hide (GRow.mono (B' := w.heap.size) (GRow.keep r6 K8 (fun g hg q => by have := (World.ownsRow.lt r6 g hg).1; omega)) (by omega))
  have S8 := hide (GRow.mono (B' := w.heap.size) (GRow.keep s6 K8 (fun g hg q => by have := (World.ownsRow.lt s6 g hg).1; omega)) (by omega))
  have BF := hide (bw6.trans (K8.below bw6.size (fun i hi q => by omega)))
  obtain ⟨k0, _⟩ := C8.get 0 _ rfl
  obtain ⟨k1, _⟩ := C8.get 1 _ rfl
  obtain ⟨k2, _⟩ := C8.get 2 _ rfl
  obtain ⟨k3, _⟩ := C8.get 3 _ rfl
  obtain ⟨g0, x0⟩ := c6.get 0 _ rfl
  obtain ⟨g1, x1⟩ := c6.get 1 _ rfl
  obtain ⟨g2, x2⟩ := c6.get 2 _ rfl
  obtain ⟨g4, x4⟩ := c6.get 3 _ rfl
  obtain ⟨y0, u0⟩ := d6.get 0 _ rfl
  obtain ⟨y1, u1⟩ := d6.get 1 _ rfl
  obtain ⟨y2, u2⟩ := d6.get 2 _ rfl
  obtain ⟨y3, u3⟩ := d6.get 3 _ rfl
  clear hw6 K6 K8 C8 c6 d6 r6 s6 bw5 bw6 q1 q2 q3 b5 g3 x3 C4 D4 BW4 Z4 R4
  try simp only [Nat.zero_add]
  go_wp2_with fail
  refine bodyPost_ret (v := .agg #[.int .i64 num, .int .i64 lsn, .slice a1 cs.length c1, .slice a2 gs.length c2]) (by simp only [results, Tryd.results19]; simp [go_sem, k0, k1, k2, k3]) rfl ?_
  exact ⟨_, rfl, ⟨_, _, rfl, S8.out, R8.out⟩, BF.out⟩

set_option maxHeartbeats 4000000 in
theorem sameC_trueW (cs : List CtrM) (a b : Option Addr) (c d : Nat) (w : World) (h1 : Lies w a (ctrsC cs)) (h2 : Lies w b (ctrsC cs)) (hl : cs.length ≤ 10000000000000) :
    Calls Tryd.prog 35 #[.slice a cs.length c, .slice b cs.length d] w fun e w' => e = .returned (.bool true) ∧ Below w.heap.size w w' := by
  have H1 := hide h1
  have H2 := hide h2
  clear h1 h2
  go_enter Tryd.func35, Tryd.ntmps35
  go_wp2_with fail
  go_loopw [5] (fun i ws => ∃ k : Nat, i = .int .i64 (k : Int) ∧ k ≤ cs.length ∧ Below w.heap.size w ws) (fun i _ => cs.length - (intOf i).toNat)
  case atStart => exact ⟨0, rfl, Nat.zero_le _, Below.refl _ _⟩
  case round =>
    obtain ⟨k, rfl, hk, hbel⟩ := hrel
    by_cases hlt : k < cs.length
    · obtain ⟨b1, o1, rfl, _, hc1⟩ := Lies.rowAt ctrC 5 ctrC_length (Lies.below H1.out hbel) k hlt (by decide)
      obtain ⟨b2, o2, rfl, _, hc2⟩ := Lies.rowAt ctrC 5 ctrC_length (Lies.below H2.out hbel) k hlt (by decide)
      generalize cs[k] = ck at *
      obtain ⟨id, grp, lo, hi, val⟩ := ck
      have i0 := hc1 0 _ rfl
      have j0 := hc2 0 _ rfl
      have i1 := hc1 1 _ rfl
      have j1 := hc2 1 _ rfl
      have i2 := hc1 2 _ rfl
      have j2 := hc2 2 _ rfl
      have i3 := hc1 3 _ rfl
      have j3 := hc2 3 _ rfl
      have i4 := hc1 4 _ rfl
      have j4 := hc2 4 _ rfl
      rw [Nat.add_zero] at i0 j0
      have HB := hide hbel
      clear hc1 hc2 hbel
      go_upto_region 6 with fail
      go_quiet (fail)
      go_wp2_with fail
      go_roundw
      case rel => exact ⟨k + 1, by go_num, by omega, below_drewN HB.out⟩
      case measure => simp [intOf]; omega
    · obtain rfl : k = cs.length := by omega
      have HB := hide hbel
      clear hbel
      go_wp2_with fail
      go_ret
      exact ⟨rfl, HB.out⟩
set_option maxHeartbeats 4000000 in
theorem sameG_trueW (cs : List GrpM) (a b : Option Addr) (c d : Nat) (w : World) (h1 : Lies w a (grpsC cs)) (h2 : Lies w b (grpsC cs)) (hl : cs.length ≤ 10000000000000) :
    Calls Tryd.prog 36 #[.slice a cs.length c, .slice b cs.length d] w fun e w' => e = .returned (.bool true) ∧ Below w.heap.size w w' := by
  have H1 := hide h1
  have H2 := hide h2
  clear h1 h2
  go_enter Tryd.func36, Tryd.ntmps36
  go_wp2_with fail
  go_loopw [5] (fun i ws => ∃ k : Nat, i = .int .i64 (k : Int) ∧ k ≤ cs.length ∧ Below w.heap.size w ws) (fun i _ => cs.length - (intOf i).toNat)
  case atStart => exact ⟨0, rfl, Nat.zero_le _, Below.refl _ _⟩
  case round =>
    obtain ⟨k, rfl, hk, hbel⟩ := hrel
    by_cases hlt : k < cs.length
    · obtain ⟨b1, o1, rfl, _, hc1⟩ := Lies.rowAt grpC 2 grpC_length (Lies.below H1.out hbel) k hlt (by decide)
      obtain ⟨b2, o2, rfl, _, hc2⟩ := Lies.rowAt grpC 2 grpC_length (Lies.below H2.out hbel) k hlt (by decide)
      generalize cs[k] = ck at *
      obtain ⟨id, sm⟩ := ck
      have i0 := hc1 0 _ rfl
      have j0 := hc2 0 _ rfl
      have i1 := hc1 1 _ rfl
      have j1 := hc2 1 _ rfl
      rw [Nat.add_zero] at i0 j0
      have HB := hide hbel
      clear hc1 hc2 hbel
      go_upto_region 6 with fail
      go_quiet (fail)
      go_wp2_with fail
      go_roundw
      case rel => exact ⟨k + 1, by go_num, by omega, below_drewN HB.out⟩
      case measure => simp [intOf]; omega
    · obtain rfl : k = cs.length := by omega
      have HB := hide hbel
      clear hbel
      go_wp2_with fail
      go_ret
      exact ⟨rfl, HB.out⟩
set_option maxHeartbeats 4000000 in
theorem same_trueW (p : PageM) (t u : At) (w : World) (h1 : Lies w t.a (ctrsC p.cs)) (h2 : Lies w t.b (grpsC p.gs)) (h3 : Lies w u.a (ctrsC p.cs)) (h4 : Lies w u.b (grpsC p.gs)) (hl1 : p.cs.length ≤ 10000000000000) (hl2 : p.gs.length ≤ 10000000000000) :
    Calls Tryd.prog 13 #[pageV p t, pageV p u] w fun e w' => e = .returned (.bool true) ∧ Below w.heap.size w w' := by
  obtain ⟨num, lsn, cs, gs⟩ := p
  obtain ⟨ta, tc, tb, td⟩ := t
  obtain ⟨ua, uc, ub, ud⟩ := u
  simp only [pageV] at *
  obtain ⟨w2, hw2⟩ : ∃ w2, w2 = (w.alloc (.cells #[.int .i64 num, .int .i64 lsn, .slice ta cs.length tc, .slice tb gs.length td] 38)).alloc (.cells #[.int .i64 num, .int .i64 lsn, .slice ua cs.length uc, .slice ub gs.length ud] 38) := ⟨_, rfl⟩
  have b2 : Below w.heap.size w w2 := by rw [hw2]; exact bnext (alloc_below _ _) (alloc_below _ _) (Nat.le_refl _)
  have c2 : Cells w2 w.heap.size [.int .i64 num, .int .i64 lsn, .slice ta cs.length tc, .slice tb gs.length td] := by rw [hw2]; exact (Cells.new w _ _).below (alloc_below _ _)
  have d2 : Cells w2 (w.heap.size + 1) [.int .i64 num, .int .i64 lsn, .slice ua cs.length uc, .slice ub gs.length ud] := by
    have q := Cells.new (w.alloc (.cells #[.int .i64 num, .int .i64 lsn, .slice ta cs.length tc, .slice tb gs.length td] 38)) #[.int .i64 num, .int .i64 lsn, .slice ua cs.length uc, .slice ub gs.length ud] 38
    rw [World.size_alloc, ← hw2] at q
    exact q
  have SC := sameC_trueW cs ta ua tc uc w2 (h1.below b2) (h3.below b2) hl1
  have SG := fun w' (b : Below w2.heap.size w2 w') => sameG_trueW gs tb ub td ud w' ((h2.below b2).below b) ((h4.below b2).below b) hl2
  have HW := hide hw2
  have B2 := hide b2
  have C2 := hide c2
  have D2 := hide d2
  obtain ⟨g0, -⟩ := c2.get 0 _ rfl
  obtain ⟨g1, -⟩ := c2.get 1 _ rfl
  obtain ⟨g2, -⟩ := c2.get 2 _ rfl
  obtain ⟨f0, -⟩ := d2.get 0 _ rfl
  obtain ⟨f1, -⟩ := d2.get 1 _ rfl
  obtain ⟨f2, -⟩ := d2.get 2 _ rfl
  clear hw2 b2 c2 d2 h1 h2 h3 h4
  go_enter Tryd.func13, Tryd.ntmps13
  go_upto_region 1 with fail
  rw [← HW.out]
  go_wp2_with fail
  refine SC.mono ?_
  rintro e w3 ⟨rfl, b3⟩
  obtain ⟨g3, -⟩ := (C2.out.below b3).get 3 _ rfl
  obtain ⟨f3, -⟩ := (D2.out.below b3).get 3 _ rfl
  have B3 := hide (bnext B2.out b3 (Nat.le_refl _))
  have SG3 := SG w3 b3
  clear SC SG b3 g0 g1 g2 f0 f1 f2 C2 D2 HW
  go_wp2_with fail
  refine SG3.mono ?_
  rintro e w4 ⟨rfl, b4⟩
  have B4 := hide (bnext B3.out b4 (Nat.le_refl _))
  clear b4 SG3 g3 f3
  go_wp2_with fail
  go_ret
  exact ⟨by simp, B4.out⟩
end Go.Proofs.YtakjpljpdlhicaaDoor
