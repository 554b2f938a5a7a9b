import Derived.Test.YtoocbpbaieedmaaAp9
namespace Go.Proofs.Ytoocbpbaieedmaa
open Go.RowKit Go.QK Quota
set_option maxRecDepth 100000
theorem crow_at {w w' : World} {a : Option Addr} {cs : List Ctr} {k : Nat} (h : Lies w a (rowsC ctrC cs)) (hb : Below w.heap.size w w') (hk : k < cs.length) : ∃ b o, a = some ⟨b, o, none⟩ ∧ w'.cell? ⟨b, o + k * 5, none⟩ = some (.int .i64 cs[k].id) ∧ w'.cell? ⟨b, o + k * 5 + 1, none⟩ = some (.int .i64 cs[k].grp) ∧ w'.cell? ⟨b, o + k * 5 + 2, none⟩ = some (.int .i64 cs[k].lo) ∧ w'.cell? ⟨b, o + k * 5 + 3, none⟩ = some (.int .i64 cs[k].hi) ∧ w'.cell? ⟨b, o + k * 5 + 4, none⟩ = some (.int .i64 cs[k].val) := by
  obtain ⟨b, o, e, lt, q⟩ := Lies.rowAt ctrC 5 (fun _ => rfl) (h.below hb) k hk (by decide)
  exact ⟨b, o, e, q 0 _ rfl, q 1 _ rfl, q 2 _ rfl, q 3 _ rfl, q 4 _ rfl⟩
theorem grow_at {w w' : World} {a : Option Addr} {gs : List Grp} {k : Nat} (h : Lies w a (rowsC grpC gs)) (hb : Below w.heap.size w w') (hk : k < gs.length) : ∃ b o, a = some ⟨b, o, none⟩ ∧ w'.cell? ⟨b, o + k * 2, none⟩ = some (.int .i64 gs[k].id) ∧ w'.cell? ⟨b, o + k * 2 + 1, none⟩ = some (.int .i64 gs[k].sum) := by
  obtain ⟨b, o, e, lt, q⟩ := Lies.rowAt grpC 2 (fun _ => rfl) (h.below hb) k hk (by decide)
  exact ⟨b, o, e, q 0 _ rfl, q 1 _ rfl⟩
set_option maxHeartbeats 8000000 in
theorem same_true (p : Pg) (t u : At) (w : World) (h1 : PIn w p t) (h2 : PIn w p u) (hl : p.cs.length ≤ 1000000) (hm : p.gs.length ≤ 1000000) :
    Calls Try.prog 12 #[pgV p t, pgV p u] w fun e w' => e = .returned (.bool true) ∧ Below w.heap.size w w' := by
  obtain ⟨num, lsn, cs, gs⟩ := p
  obtain ⟨ta, tc, tb, td⟩ := t
  obtain ⟨ua, uc, ub, ud⟩ := u
  obtain ⟨l1, m1, -, -, -, -⟩ := h1
  obtain ⟨l2, m2, -, -, -, -⟩ := h2
  simp only [pgV, pgA] at *
  have L1 := hide l1
  have L2 := hide l2
  have M1 := hide m1
  have M2 := hide m2
  clear l1 l2 m1 m2
  go_enter Try.func12, Try.ntmps12
  go_upto_region 1 with fail
  refine named (P := Code.wp _ _ _ _) ?_
  intro w2 hw2
  obtain ⟨N, hN⟩ : ∃ N, N = w.heap.size := ⟨_, rfl⟩
  have b2 : Below w.heap.size w w2 := by rw [hw2]; exact bnext (alloc_below _ _) (alloc_below _ _) (Nat.le_refl _)
  have c2 : Cells w2 N [.int .i64 num, .int .i64 lsn, .slice ta cs.length tc, .slice tb gs.length td] := by rw [hw2, hN]; exact (Cells.new w #[.int .i64 num, .int .i64 lsn, .slice ta cs.length tc, .slice tb gs.length td] 25).below (alloc_below _ _)
  have d2 : Cells w2 (N + 1) [.int .i64 num, .int .i64 lsn, .slice ua cs.length uc, .slice ub gs.length ud] := by
    rw [hw2, hN]
    have q := Cells.new (w.alloc (.cells #[.int .i64 num, .int .i64 lsn, .slice ta cs.length tc, .slice tb gs.length td] 25)) #[.int .i64 num, .int .i64 lsn, .slice ua cs.length uc, .slice ub gs.length ud] 25
    rw [World.size_alloc] at q
    exact q
  have B2 := hide b2
  have C2 := hide c2
  have D2 := hide d2
  have HN := hide hN
  rw [← hN]
  clear hw2 hN b2
  obtain ⟨c0, -⟩ := c2.get 0 _ rfl
  obtain ⟨c1, -⟩ := c2.get 1 _ rfl
  obtain ⟨cc, -⟩ := c2.get 2 _ rfl
  obtain ⟨cg, -⟩ := c2.get 3 _ rfl
  obtain ⟨d0, -⟩ := d2.get 0 _ rfl
  obtain ⟨d1, -⟩ := d2.get 1 _ rfl
  obtain ⟨dc, -⟩ := d2.get 2 _ rfl
  obtain ⟨dg, -⟩ := d2.get 3 _ rfl
  clear c2 d2
  go_wp2_with fail
  clear c0 c1 cc cg d0 d1 dc dg
  go_loopw [5] (fun v wr => ∃ k : Nat, v = .int .i64 (k : Int) ∧ k ≤ cs.length ∧ Below w2.heap.size w2 wr) (fun v _ => cs.length - (intOf v).toNat)
  case atStart => exact ⟨0, rfl, Nat.zero_le _, Below.refl _ _⟩
  case round =>
    obtain ⟨k, rfl, hk, hb⟩ := hrel
    obtain ⟨cc, -⟩ := (C2.out.below hb).get 2 _ rfl
    by_cases hlt : k < cs.length
    · obtain ⟨b1, o1, rfl, p0, p1, p2, p3, p4⟩ := crow_at L1.out (B2.out.trans (hb.mono B2.out.size)) hlt
      obtain ⟨b2, o2, rfl, r0, r1, r2, r3, r4⟩ := crow_at L2.out (B2.out.trans (hb.mono B2.out.size)) hlt
      obtain ⟨dc, -⟩ := (D2.out.below hb).get 2 _ rfl
      have HB := hide hb
      generalize cs[k] = x at *
      obtain ⟨z1, z2, z3, z4, z5⟩ := x
      simp only at p0 p1 p2 p3 p4 r0 r1 r2 r3 r4
      clear hb
      go_upto_region 6 with fail
      go_quiet (fail)
      go_wp2_with fail
      go_roundw
      case rel => exact ⟨k + 1, by go_num, by omega, below_drewN HB.out _⟩
      case measure => simp [intOf]; omega
    · have HB := hide hb
      obtain ⟨cg, -⟩ := (C2.out.below hb).get 3 _ rfl
      clear hb
      go_wp2_with fail
      clear cc cg
      go_loopw [6] (fun v wr => ∃ k : Nat, v = .int .i64 (k : Int) ∧ k ≤ gs.length ∧ Below w2.heap.size w2 wr) (fun v _ => gs.length - (intOf v).toNat)
      case atStart => exact ⟨0, rfl, Nat.zero_le _, HB.out⟩
      case round =>
        obtain ⟨j, rfl, hj, hb⟩ := hrel
        obtain ⟨cg, -⟩ := (C2.out.below hb).get 3 _ rfl
        by_cases hjt : j < gs.length
        · obtain ⟨b1, o1, rfl, p0, p1⟩ := grow_at M1.out (B2.out.trans (hb.mono B2.out.size)) hjt
          obtain ⟨b2, o2, rfl, r0, r1⟩ := grow_at M2.out (B2.out.trans (hb.mono B2.out.size)) hjt
          obtain ⟨dg, -⟩ := (D2.out.below hb).get 3 _ rfl
          have HJ := hide hb
          generalize gs[j] = x at *
          obtain ⟨z1, z2⟩ := x
          simp only at p0 p1 r0 r1
          clear hb
          go_upto_region 11 with fail
          go_quiet (fail)
          go_wp2_with fail
          go_roundw
          case rel => exact ⟨j + 1, by go_num, by omega, below_drewN HJ.out _⟩
          case measure => simp [intOf]; omega
        · have HJ := hide hb
          clear hb
          go_wp2
          exact bodyPost_ret (v := .bool true) (by simp [results, Try.results12, go_sem]) rfl ⟨rfl, B2.out.trans (HJ.out.mono B2.out.size)⟩
def DonePost (w : World) (p : Pg) (r : Rc) (e : Ending) (w' : World) : Prop := ∃ v, e = .returned (.tuple #[v, .bool (didB p r), .bool (doE p r == 0)]) ∧ PgOut w' w.heap.size v (doP p r) ∧ Below w.heap.size w w'
set_option maxHeartbeats 4000000 in
theorem done_any (p : Pg) (t : At) (r : Rc) (w : World) (h : PIn w p t) (hf : p.Fit) (hr : r.Fit) : Calls Try.prog 9 #[pgV p t, recV r] w (DonePost w p r) := by
  obtain ⟨RA, hRA⟩ : ∃ RA, RA = recA r := ⟨_, rfl⟩
  have hsz : RA.size = 17 := by rw [hRA]; rfl
  have KD := fun w' h => do_any p t r w' h hf hr
  unfold DoPost at KD
  unfold DonePost
  show Calls Try.prog 9 #[.agg (pgA p.num p.lsn (.slice t.a p.cs.length t.c) (.slice t.b p.gs.length t.d)), .agg (recA r)] w _
  simp only [recV, pgV] at KD
  rw [← hRA] at KD ⊢
  obtain ⟨E, hE⟩ : ∃ E, E = doE p r := ⟨_, rfl⟩
  obtain ⟨Y, hY⟩ : ∃ Y, Y = didB p r := ⟨_, rfl⟩
  obtain ⟨P, hP⟩ : ∃ P, P = doP p r := ⟨_, rfl⟩
  rw [← hE, ← hY, ← hP] at KD ⊢
  have HSZ := hide hsz
  have HIN := hide h
  clear hsz hRA h hf hr hE hY hP
  go_enter Try.func9, Try.ntmps9
  go_upto_region 1 with fail
  refine named (P := Code.wp _ _ _ _) ?_
  intro w3 hw3
  obtain ⟨N, hN⟩ : ∃ N, N = w.heap.size := ⟨_, rfl⟩
  have b3 : Below w.heap.size w w3 := by rw [hw3]; exact bnext (bnext (alloc_below _ _) (alloc_below _ _) (Nat.le_refl _)) (alloc_below _ _) (Nat.le_refl _)
  have c3 : Cells w3 N [.int .i64 p.num, .int .i64 p.lsn, .slice t.a p.cs.length t.c, .slice t.b p.gs.length t.d] := by rw [hw3, hN]; exact ((Cells.new w (pgA p.num p.lsn (.slice t.a p.cs.length t.c) (.slice t.b p.gs.length t.d)) 40).below (alloc_below _ _)).below (alloc_below _ _)
  have r3 : RBox w3 (N + 1) 38 RA := by
    rw [hw3, hN]
    have q := RBox.new (w.alloc (.cells (pgA p.num p.lsn (.slice t.a p.cs.length t.c) (.slice t.b p.gs.length t.d)) 40)) RA 38
    rw [World.size_alloc] at q
    exact q.below (alloc_below _ _)
  have d3 : Cells w3 (N + 2) [.int .i64 0, .int .i64 0, .slice none 0 0, .slice none 0 0] := by
    rw [hw3, hN]
    have q := Cells.new ((w.alloc (.cells (pgA p.num p.lsn (.slice t.a p.cs.length t.c) (.slice t.b p.gs.length t.d)) 40)).alloc (.cells RA 38)) #[.int .i64 0, .int .i64 0, .slice none 0 0, .slice none 0 0] 40
    rw [World.size_alloc, World.size_alloc] at q
    exact q
  have z3 : w3.heap.size = N + 3 := by rw [hw3, hN]; simp
  have B3 := hide b3
  have R3 := hide r3
  have D3 := hide d3
  have Z3 := hide z3
  have HN := hide hN
  have IN3 := hide (HIN.out.below b3)
  rw [← hN]
  clear hw3 b3 r3 d3 z3 hN HIN
  obtain ⟨f0, -⟩ := c3.get 0 _ rfl
  obtain ⟨f1, -⟩ := c3.get 1 _ rfl
  obtain ⟨f2, -⟩ := c3.get 2 _ rfl
  obtain ⟨f3, -⟩ := c3.get 3 _ rfl
  clear c3
  obtain ⟨num, lsn, cs, gs⟩ := p
  obtain ⟨ta, tc, tb, td⟩ := t
  simp only [pgA] at KD
  go_upto_region 2 with (first | refine wpList_load38 R3.out HSZ.out rfl ?_ | (go_at_call 14; refine (KD _ IN3.out).mono ?_; rintro e w4 ⟨v, rfl, h4, b4⟩; obtain ⟨v1, v2, rfl, g1, g2, ap⟩ := h4; obtain ⟨a1, c1, rfl, -⟩ := GRow.lies g1; obtain ⟨a2, c2, rfl, -⟩ := GRow.lies g2; simp only [pgA]))
  refine named (P := Code.wp _ _ _ _) ?_
  intro w5 hw5
  obtain ⟨M, hM⟩ : ∃ M, M = w4.heap.size := ⟨_, rfl⟩
  have al : Below w4.heap.size w4 w5 := by rw [hw5]; exact alloc_below _ _
  have C5 := hide (show Cells w5 M [.int .i64 P.num, .int .i64 P.lsn, .slice a1 P.cs.length c1, .slice a2 P.gs.length c2] by rw [hw5, hM]; exact Cells.new _ _ _)
  have hb : Below w3.heap.size w3 w5 := b4.trans (al.mono b4.size)
  have D5 := hide (D3.out.below hb)
  have B5 := hide (B3.out.trans (hb.mono B3.out.size))
  have G1 := hide (GRow.below g1 al)
  have G2 := hide (GRow.below g2 al)
  have AP := hide ap
  have NM := hide (show N + 3 = w3.heap.size ∧ N + 3 ≤ M ∧ M < w5.heap.size from ⟨Z3.out.symm, by have := Z3.out; have := b4.size; omega, by rw [hw5, hM]; simp⟩)
  rw [← hM]
  clear hw5 hM al hb b4 g1 g2 ap f0 f1 f2 f3 IN3 R3 D3 B3 Z3 KD
  refine wp_region_held_drew (S := fun wq => Cells wq M [.int .i64 P.num, .int .i64 P.lsn, .slice a1 P.cs.length c1, .slice a2 P.gs.length c2]) (by kernel_rfl) (C5.out.below (Below.refl _ _).drew) (fun hS => ?_)
  have D0 := hide ((Below.refl w5.heap.size w5).drew)
  have D6 := hide (D5.out.below D0.out)
  have B6 := hide (B5.out.trans (D0.out.mono B5.out.size))
  have H1 := hide (GRow.below G1.out D0.out)
  have H2 := hide (GRow.below G2.out D0.out)
  clear D0 D5 B5 G1 G2
  generalize w5.drew = x0 at *
  refine take_at 0 (some 17) (v := ?_) rfl rfl (by kernel_rfl) (by kernel_rfl) (by kernel_rfl) (fun _ _ _ h => h) ⟨by rfl, ?_⟩ hS ?_
  rotate_left
  · intro wq hSw; obtain ⟨q0, _⟩ := hSw.get 0 _ rfl; obtain ⟨q1, _⟩ := hSw.get 1 _ rfl; obtain ⟨q2, _⟩ := hSw.get 2 _ rfl; obtain ⟨q3, _⟩ := hSw.get 3 _ rfl; go_simp; try rfl
  simp only [Act.put, List.setIfInBounds_toArray, List.set_cons_zero, List.set_cons_succ]
  refine take_at 1 (some 18) (v := ?_) rfl rfl (by kernel_rfl) (by kernel_rfl) (by kernel_rfl) (fun _ _ _ h => h) ⟨by rfl, ?_⟩ hS ?_
  rotate_left
  · intro wq hSw; go_simp; try rfl
  simp only [Act.put, List.setIfInBounds_toArray, List.set_cons_zero, List.set_cons_succ]
  refine take_at 2 (some 19) (v := ?_) rfl rfl (by kernel_rfl) (by kernel_rfl) (by kernel_rfl) (fun _ _ _ h => h) ⟨by rfl, ?_⟩ hS ?_
  rotate_left
  · intro wq hSw; go_simp; try rfl
  simp only [Act.put, List.setIfInBounds_toArray, List.set_cons_zero, List.set_cons_succ]
  refine wpAnyH_ready (rs := [3]) (by kernel_rfl) (by simp) ?_
  refine AllReadyH.cons rfl (fun K hK => ?_) AllReadyH.nil
  go_simp
  go_wp2_with fail
  refine (num_any E _).mono ?_
  rintro e w9 ⟨rfl, rfl⟩
  go_wp2_with fail
  refine hK.out _ _ hS (fun hS => ?_)
  clear hK K
  (try simp only [Act.put, List.setIfInBounds_toArray, List.set_cons_zero, List.set_cons_succ])
  refine take_at 4 (some 21) (v := ?_) rfl rfl (by kernel_rfl) (by kernel_rfl) (by kernel_rfl) (fun _ _ _ h => h) ⟨by rfl, ?_⟩ hS ?_
  rotate_left
  · intro wq hSw; go_simp; try rfl
  simp only [Act.put, List.setIfInBounds_toArray, List.set_cons_zero, List.set_cons_succ]
  have K8 := ((((Keep.refl (fun i => i = N + 2) w9).setCell (g := N + 2) (j := 0) (fun _ => rfl) (.int .i64 P.num)).setCell (g := N + 2) (j := 1) (fun _ => rfl) (.int .i64 P.lsn)).setCell (g := N + 2) (j := 2) (fun _ => rfl) (.slice a1 P.cs.length c1)).setCell (g := N + 2) (j := 3) (fun _ => rfl) (.slice a2 P.gs.length c2)
  have C8 := (((D6.out.stored (j := 0) (by simp) (.int .i64 P.num)).stored (j := 1) (by simp) (.int .i64 P.lsn)).stored (j := 2) (by simp) (.slice a1 P.cs.length c1)).stored (j := 3) (by simp) (.slice a2 P.gs.length c2)
  obtain ⟨k0, _⟩ := C8.get 0 _ rfl
  obtain ⟨k1, _⟩ := C8.get 1 _ rfl
  obtain ⟨k2, _⟩ := C8.get 2 _ rfl
  obtain ⟨k3, _⟩ := C8.get 3 _ rfl
  obtain ⟨y0, u0⟩ := D6.out.get 0 _ rfl
  obtain ⟨y1, u1⟩ := D6.out.get 1 _ rfl
  obtain ⟨y2, u2⟩ := D6.out.get 2 _ rfl
  obtain ⟨y3, u3⟩ := D6.out.get 3 _ rfl
  have HK8 := hide K8
  clear K8 C8
  have S9 := hide (hS.keep HK8.out (by have := NM.out; omega))
  clear hS
  refine wpAnyH_ready (rs := [5]) (by kernel_rfl) (by simp) ?_
  refine AllReadyH.cons rfl (fun K hK => ?_) AllReadyH.nil
  go_simp
  go_wp2_with fail
  refine hK.out _ _ S9.out (fun hS => ?_)
  clear hK K
  (try simp only [Act.put, List.setIfInBounds_toArray, List.set_cons_zero, List.set_cons_succ])
  refine take_at 6 (some 5) (v := ?_) rfl rfl (by kernel_rfl) (by kernel_rfl) (by kernel_rfl) (fun _ _ _ h => h) ⟨by rfl, ?_⟩ hS ?_
  rotate_left
  · intro wq hSw; go_simp; try rfl
  simp only [Act.put, List.setIfInBounds_toArray, List.set_cons_zero, List.set_cons_succ]
  refine take_at 7 (some 6) (v := ?_) rfl rfl (by kernel_rfl) (by kernel_rfl) (by kernel_rfl) (fun _ _ _ h => h) ⟨by rfl, ?_⟩ hS ?_
  rotate_left
  · intro wq hSw; go_simp; try rfl
  simp only [Act.put, List.setIfInBounds_toArray, List.set_cons_zero, List.set_cons_succ]
  clear hS
  refine wpAnyH_done (by kernel_rfl) ?_ _
  go_wp2_with fail
  refine bodyPost_ret (v := .tuple #[.agg #[.int .i64 P.num, .int .i64 P.lsn, .slice a1 P.cs.length c1, .slice a2 P.gs.length c2], .bool Y, .bool (E == 0)]) (by simp only [results, Try.results9]; simp [go_sem, k0, k1, k2, k3]) rfl ?_
  have nn := NM.out
  have hn := HN.out
  have bf := B6.out.trans (HK8.out.below B6.out.size (fun i hi q => by omega))
  have j1 := GRow.keep H1.out HK8.out (fun g hg q => by have := (World.ownsRow.lt H1.out g hg).1; omega)
  have j2 := GRow.keep H2.out HK8.out (fun g hg q => by have := (World.ownsRow.lt H2.out g hg).1; omega)
  clear HN
  subst hn
  exact ⟨_, rfl, ⟨_, _, rfl, GRow.mono j1 (by omega), GRow.mono j2 (by omega), AP.out⟩, bf⟩
end Go.Proofs.Ytoocbpbaieedmaa
