import Derived.Test.YtakjpljpdlhicaaDoorPg23
namespace Go.Proofs.YtakjpljpdlhicaaDoor
open Go.RowKit Go.QK Go.Pg
set_option maxRecDepth 100000
set_option maxHeartbeats 4000000 in
theorem sameC_true (cs : List CtrM) (a b : Option Addr) (c d : Nat) (w : World) (h1 : Lies w a (ctrsC cs)) (h2 : Lies w b (ctrsC cs)) (hl : cs.length ≤ 1000000) :
    Calls Tryd.prog 35 #[.slice a cs.length c, .slice b cs.length d] w fun e w' => e = .returned (.bool true) ∧ Below w.heap.size w w' := by
  have H1 := hide h1
  have H2 := hide h2
  clear h1 h2
  go_enter Tryd.func35, Tryd.ntmps35
  go_wp2_with fail
  go_loopw [5] (fun i ws => ∃ k : Nat, i = .int .i64 (k : Int) ∧ k ≤ cs.length ∧ Below w.heap.size w ws) (fun i _ => cs.length - (intOf i).toNat)
  case atStart => exact ⟨0, rfl, Nat.zero_le _, Below.refl _ _⟩
  case round =>
    obtain ⟨k, rfl, hk, hbel⟩ := hrel
    by_cases hlt : k < cs.length
    · obtain ⟨b1, o1, rfl, _, hc1⟩ := Lies.rowAt ctrC 5 ctrC_length (Lies.below H1.out hbel) k hlt (by decide)
      obtain ⟨b2, o2, rfl, _, hc2⟩ := Lies.rowAt ctrC 5 ctrC_length (Lies.below H2.out hbel) k hlt (by decide)
      generalize cs[k] = ck at *
      obtain ⟨id, grp, lo, hi, val⟩ := ck
      have i0 := hc1 0 _ rfl
      have j0 := hc2 0 _ rfl
      have i1 := hc1 1 _ rfl
      have j1 := hc2 1 _ rfl
      have i2 := hc1 2 _ rfl
      have j2 := hc2 2 _ rfl
      have i3 := hc1 3 _ rfl
      have j3 := hc2 3 _ rfl
      have i4 := hc1 4 _ rfl
      have j4 := hc2 4 _ rfl
      rw [Nat.add_zero] at i0 j0
      have HB := hide hbel
      clear hc1 hc2 hbel
      go_upto_region 6 with fail
      go_quiet (fail)
      go_wp2_with fail
      go_roundw
      case rel => exact ⟨k + 1, by go_num, by omega, below_drewN HB.out⟩
      case measure => simp [intOf]; omega
    · obtain rfl : k = cs.length := by omega
      have HB := hide hbel
      clear hbel
      go_wp2_with fail
      go_ret
      exact ⟨rfl, HB.out⟩
set_option maxHeartbeats 4000000 in
theorem sameG_true (cs : List GrpM) (a b : Option Addr) (c d : Nat) (w : World) (h1 : Lies w a (grpsC cs)) (h2 : Lies w b (grpsC cs)) (hl : cs.length ≤ 1000000) :
    Calls Tryd.prog 36 #[.slice a cs.length c, .slice b cs.length d] w fun e w' => e = .returned (.bool true) ∧ Below w.heap.size w w' := by
  have H1 := hide h1
  have H2 := hide h2
  clear h1 h2
  go_enter Tryd.func36, Tryd.ntmps36
  go_wp2_with fail
  go_loopw [5] (fun i ws => ∃ k : Nat, i = .int .i64 (k : Int) ∧ k ≤ cs.length ∧ Below w.heap.size w ws) (fun i _ => cs.length - (intOf i).toNat)
  case atStart => exact ⟨0, rfl, Nat.zero_le _, Below.refl _ _⟩
  case round =>
    obtain ⟨k, rfl, hk, hbel⟩ := hrel
    by_cases hlt : k < cs.length
    · obtain ⟨b1, o1, rfl, _, hc1⟩ := Lies.rowAt grpC 2 grpC_length (Lies.below H1.out hbel) k hlt (by decide)
      obtain ⟨b2, o2, rfl, _, hc2⟩ := Lies.rowAt grpC 2 grpC_length (Lies.below H2.out hbel) k hlt (by decide)
      generalize cs[k] = ck at *
      obtain ⟨id, sm⟩ := ck
      have i0 := hc1 0 _ rfl
      have j0 := hc2 0 _ rfl
      have i1 := hc1 1 _ rfl
      have j1 := hc2 1 _ rfl
      rw [Nat.add_zero] at i0 j0
      have HB := hide hbel
      clear hc1 hc2 hbel
      go_upto_region 6 with fail
      go_quiet (fail)
      go_wp2_with fail
      go_roundw
      case rel => exact ⟨k + 1, by go_num, by omega, below_drewN HB.out⟩
      case measure => simp [intOf]; omega
    · obtain rfl : k = cs.length := by omega
      have HB := hide hbel
      clear hbel
      go_wp2_with fail
      go_ret
      exact ⟨rfl, HB.out⟩
set_option maxHeartbeats 4000000 in
theorem same_true (p : PageM) (t u : At) (w : World) (h1 : Lies w t.a (ctrsC p.cs)) (h2 : Lies w t.b (grpsC p.gs)) (h3 : Lies w u.a (ctrsC p.cs)) (h4 : Lies w u.b (grpsC p.gs)) (hl1 : p.cs.length ≤ 1000000) (hl2 : p.gs.length ≤ 1000000) :
    Calls Tryd.prog 13 #[pageV p t, pageV p u] w fun e w' => e = .returned (.bool true) ∧ Below w.heap.size w w' := by
  obtain ⟨num, lsn, cs, gs⟩ := p
  obtain ⟨ta, tc, tb, td⟩ := t
  obtain ⟨ua, uc, ub, ud⟩ := u
  simp only [pageV] at *
  obtain ⟨w2, hw2⟩ : ∃ w2, w2 = (w.alloc (.cells #[.int .i64 num, .int .i64 lsn, .slice ta cs.length tc, .slice tb gs.length td] 38)).alloc (.cells #[.int .i64 num, .int .i64 lsn, .slice ua cs.length uc, .slice ub gs.length ud] 38) := ⟨_, rfl⟩
  have b2 : Below w.heap.size w w2 := by rw [hw2]; exact bnext (alloc_below _ _) (alloc_below _ _) (Nat.le_refl _)
  have c2 : Cells w2 w.heap.size [.int .i64 num, .int .i64 lsn, .slice ta cs.length tc, .slice tb gs.length td] := by rw [hw2]; exact (Cells.new w _ _).below (alloc_below _ _)
  have d2 : Cells w2 (w.heap.size + 1) [.int .i64 num, .int .i64 lsn, .slice ua cs.length uc, .slice ub gs.length ud] := by
    have q := Cells.new (w.alloc (.cells #[.int .i64 num, .int .i64 lsn, .slice ta cs.length tc, .slice tb gs.length td] 38)) #[.int .i64 num, .int .i64 lsn, .slice ua cs.length uc, .slice ub gs.length ud] 38
    rw [World.size_alloc, ← hw2] at q
    exact q
  have SC := sameC_true cs ta ua tc uc w2 (h1.below b2) (h3.below b2) hl1
  have SG := fun w' (b : Below w2.heap.size w2 w') => sameG_true gs tb ub td ud w' ((h2.below b2).below b) ((h4.below b2).below b) hl2
  have HW := hide hw2
  have B2 := hide b2
  have C2 := hide c2
  have D2 := hide d2
  obtain ⟨g0, -⟩ := c2.get 0 _ rfl
  obtain ⟨g1, -⟩ := c2.get 1 _ rfl
  obtain ⟨g2, -⟩ := c2.get 2 _ rfl
  obtain ⟨f0, -⟩ := d2.get 0 _ rfl
  obtain ⟨f1, -⟩ := d2.get 1 _ rfl
  obtain ⟨f2, -⟩ := d2.get 2 _ rfl
  clear hw2 b2 c2 d2 h1 h2 h3 h4
  go_enter Tryd.func13, Tryd.ntmps13
  go_upto_region 1 with fail
  rw [← HW.out]
  go_wp2_with fail
  refine SC.mono ?_
  rintro e w3 ⟨rfl, b3⟩
  obtain ⟨g3, -⟩ := (C2.out.below b3).get 3 _ rfl
  obtain ⟨f3, -⟩ := (D2.out.below b3).get 3 _ rfl
  have B3 := hide (bnext B2.out b3 (Nat.le_refl _))
  have SG3 := SG w3 b3
  clear SC SG b3 g0 g1 g2 f0 f1 f2 C2 D2 HW
  go_wp2_with fail
  refine SG3.mono ?_
  rintro e w4 ⟨rfl, b4⟩
  have B4 := hide (bnext B3.out b4 (Nat.le_refl _))
  clear b4 SG3 g3 f3
  go_wp2_with fail
  go_ret
  exact ⟨by simp, B4.out⟩
theorem dec_right {q : PageM} (hck : checkE q = 0) (hfit : q.Fit) : decE (encB q) q.num = 0 ∧ decP (encB q) q.num = q := by
  obtain ⟨h1, h2, h3, h4, h5, h6, h7⟩ := checkE_zero hck
  by_cases he : isEmpty q = true
  · have e : encB q = zs 1024 := by unfold encB; rw [he]; rfl
    obtain ⟨hc, hg⟩ := empty_lists he
    have hl : q.lsn = 0 := by rw [he] at h6; simpa using h6.symm
    obtain ⟨qn, ql, qc, qg⟩ := q
    simp only at hc hg hl h1
    subst hc hg hl
    rw [e]
    exact dec_empty h1
  · have he : isEmpty q = false := by simpa using he
    have h := dec_full hck hfit he q.num h1
    exact ⟨by rw [h.1, if_pos rfl], h.2 rfl⟩
end Go.Proofs.YtakjpljpdlhicaaDoor
