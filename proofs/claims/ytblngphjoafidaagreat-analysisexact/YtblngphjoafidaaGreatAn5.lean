import Derived.Test.YtblngphjoafidaaGreatAn4
namespace Go.Proofs.YtblngphjoafidaaGreat
open Go.RowKit Go.QK Go.Maps Go.QM Go.QT
set_option maxRecDepth 100000
/-! read: one record more. -/
def readE (p : PassM) (r : RecM) : Int := if p.noteE r = 0 then 0 else 60
def ReadPost (b tb m : Nat) (p : PassM) (r : RecM) (w : World) (e : Ending) (w' : World) : Prop :=
  e = .returned (.int .i64 (readE p r)) ∧ (p.noteE r = 0 → PP w' b tb m (p.step r)) ∧ Keep (fun z => z = b ∨ z = tb ∨ z = m) w w'
theorem chg_cases {k : Int} (h : chg k = true) : k = 2 ∨ k = 3 ∨ k = 4 := by
  simp only [chg, Bool.or_eq_true, decide_eq_true_eq] at h
  omega
theorem chg_no {k : Int} (h : chg k = false) : (k == 2) = false ∧ (k == 3) = false ∧ (k == 4) = false := by
  simp [chg] at h
  simp [h]
/-- Behind the table's Note. -/
structure Mid (b tb m rb : Nat) (p : PassM) (x : RX) (w w2 : World) : Prop where
  pp : PP w2 b tb m ⟨p.tb.noteT x.r.lsn x.r.kind x.r.tx x.r.prev, p.pg⟩
  rx : RBox w2 rb 55 (rxA x)
  kp : Keep (fun z => z = b ∨ z = tb ∨ z = m) w w2
  fr : w.heap.size ≤ rb
set_option maxHeartbeats 8000000 in
theorem read_any (b tb m : Nat) (p : PassM) (x : RX) (w : World) (h : PP w b tb m p) (hg : GoodR x.r) : Calls Tryz.prog 17 #[ptr b, .agg (rxA x)] w (ReadPost b tb m p x.r w) := by
  unfold ReadPost
  have htx : I64 x.r.tx := by have := hg.tx; unfold I64; omega
  obtain ⟨RA, hRA⟩ : ∃ A, A = rxA x := ⟨_, rfl⟩
  have HR := hide (show RecA RA x.r.lsn x.r.kind x.r.tx x.r.prev by rw [hRA]; exact recA_of x htx)
  have SR := hide (show RA.size = 17 by rw [hRA]; rfl)
  have H0 := hide (show RA.toList[0]? = some (.int .i64 x.r.lsn) by rw [hRA]; rfl)
  have H1 := hide (show RA.toList[1]? = some (.int .i64 x.r.kind) by rw [hRA]; rfl)
  have H4 := hide (show RA.toList[4]? = some (.int .i64 x.r.wp) by rw [hRA]; rfl)
  have H6 := hide (show RA.toList[6]? = some (.int .i64 x.r.sp) by rw [hRA]; rfl)
  have GR := hide hg
  have HRA := hide hRA
  rw [← hRA]
  have hP := hide h
  clear htx hg h hRA
  go_enter Tryz.func17, Tryz.ntmps17
  go_upto_region 1 with fail
  refine named (P := Code.wp _ _ _ _) ?_
  intro w1 hw1
  obtain ⟨rb, hrb⟩ : ∃ xb, xb = w.heap.size := ⟨_, rfl⟩
  have bb := alloc_below w (.cells RA 55)
  rw [← hw1] at bb
  have X1 := hide (show RBox w1 rb 55 RA by rw [hw1, hrb]; exact RBox.new _ _ _)
  have P1 := hide (hP.out.below bb)
  have B1 := hide bb
  have HB := hide hrb
  have NE := hide (show rb ≠ b ∧ rb ≠ tb ∧ rb ≠ m by have := hP.out.ps.1; have := hP.out.pt.lt; omega)
  rw [← hrb]
  clear hw1 hrb bb hP
  refine wp_region_held_drew (S := fun wq => Keep (fun z => z = tb ∨ z = m) w1 wq) (by kernel_rfl) (Keep.refl _ _).drew (fun hS => ?_)
  have KD := hide (show Keep (fun z => z = tb ∨ z = m) w1 w1.drew from (Keep.refl _ _).drew)
  have KN := hide (note_any tb m p.tb RA x.r.lsn x.r.kind x.r.tx x.r.prev w1.drew (P1.out.pt.below (Below.refl w1.heap.size w1).drew) HR.out)
  generalize w1.drew = y0 at *
  have S1 := hide (show ∀ wq, Keep (fun z => z = tb ∨ z = m) w1 wq → wq.cell? ⟨b, 0, none⟩ = some (ptr tb) from fun wq hk => by
    have q := (Cells.get (P1.out.ps.keep hk (fun q => by rcases q with q | q; exact P1.out.n1 q; exact P1.out.n2 q)) 0 (ptr tb) rfl).1
    exact q)
  refine take_at 0 (some 5) (v := ?_) rfl rfl (by kernel_rfl) (by kernel_rfl) (by kernel_rfl) (fun _ _ _ h => h) ⟨by rfl, ?_⟩ hS ?_
  rotate_left
  · intro wq hSw; go_simp; try rfl
  simp only [Act.put, List.setIfInBounds_toArray, List.set_cons_zero, List.set_cons_succ]
  refine take_at 1 (some 6) (v := ?_) rfl rfl (by kernel_rfl) (by kernel_rfl) (by kernel_rfl) (fun _ _ _ h => h) ⟨by rfl, ?_⟩ hS ?_
  rotate_left
  · intro wq hSw; go_simp; try rfl
  simp only [Act.put, List.setIfInBounds_toArray, List.set_cons_zero, List.set_cons_succ]
  refine take_at 2 (some 7) (v := ?_) rfl rfl (by kernel_rfl) (by kernel_rfl) (by kernel_rfl) (fun _ _ _ h => h) ⟨by rfl, ?_⟩ hS ?_
  rotate_left
  · intro wq hSw; go_simp; try rfl
  simp only [Act.put, List.setIfInBounds_toArray, List.set_cons_zero, List.set_cons_succ]
  refine take_at 3 (some 8) (v := ?_) rfl rfl (by kernel_rfl) (by kernel_rfl) (by kernel_rfl) (fun _ _ _ h => h) ⟨by rfl, ?_⟩ hS ?_
  rotate_left
  · intro wq hSw; have q := S1.out wq hSw; go_simp; try rfl
  simp only [Act.put, List.setIfInBounds_toArray, List.set_cons_zero, List.set_cons_succ]
  refine take_at 4 (some 9) (v := .agg RA) rfl rfl (by kernel_rfl) (by kernel_rfl) (by kernel_rfl) (fun _ _ _ h => h) ⟨by rfl, fun wq hSw => exec_load46 (x := .tmp 3) (b := rb) (off := 0) rfl rfl (rb_at (X1.out.keep hSw (fun q => by rcases q with q | q; exact NE.out.2.1 q; exact NE.out.2.2 q))) SR.out⟩ hS ?_
  simp only [Act.put, List.setIfInBounds_toArray, List.set_cons_zero, List.set_cons_succ]
  refine wpAnyH_ready (rs := [5]) (by kernel_rfl) (by simp) ?_
  refine AllReadyH.cons rfl (fun K hK => ?_) AllReadyH.nil
  go_simp
  go_wp2_with fail
  refine KN.out.mono ?_
  unfold NotePost
  rintro e w2 ⟨rfl, ht2, hk2⟩
  go_wp2_with fail
  refine hK.out _ _ (KD.out.trans hk2 (fun _ _ q => q)) (fun hS => ?_)
  clear hK K
  (try simp only [Act.put, List.setIfInBounds_toArray, List.set_cons_zero, List.set_cons_succ])
  refine take_at 6 (some 11) (v := ?_) rfl rfl (by kernel_rfl) (by kernel_rfl) (by kernel_rfl) (fun _ _ _ h => h) ⟨by rfl, ?_⟩ hS ?_
  rotate_left
  · intro wq hSw; go_simp; try rfl
  simp only [Act.put, List.setIfInBounds_toArray, List.set_cons_zero, List.set_cons_succ]
  refine wpAnyH_done (by kernel_rfl) ?_ _
  have M2 := hide (show Mid b tb m rb p x w w2 from ⟨⟨P1.out.ps.keep hS (fun q => by rcases q with q | q; exact P1.out.n1 q; exact P1.out.n2 q), ht2, P1.out.n1, P1.out.n2⟩, by have := X1.out.keep hS (fun q => by rcases q with q | q; exact NE.out.2.1 q; exact NE.out.2.2 q); rw [HRA.out] at this; exact this, (Keep.of_below (S := fun z => z = b ∨ z = tb ∨ z = m) B1.out).trans hS (fun _ _ q => .inr q), by rw [HB.out]; exact Nat.le_refl _⟩)
  clear S1 ht2 hk2 hS KN KD X1 P1 B1 HB
  obtain ⟨E, HE⟩ : ∃ E, Hid (E = p.noteE x.r) := ⟨_, hide rfl⟩
  have eE : p.tb.noteE x.r.lsn x.r.kind x.r.tx x.r.prev = E := HE.out.symm
  rw [eE]
  have R2 := hide (show readE p x.r = if E = 0 then 0 else 60 by rw [HE.out]; rfl)
  by_cases hE : E = 0
  · have e1 : (E != 0) = false := by simpa using hE
    have F1 := hide (show readE p x.r = 0 by rw [R2.out, if_pos hE])
    clear hE eE R2
    have X2 := hide (show RBox w2 rb 55 RA by rw [HRA.out]; exact M2.out.rx)
    obtain ⟨c1, -⟩ := X2.out.cells.get 1 _ H1.out
    obtain ⟨c0, -⟩ := X2.out.cells.get 0 _ H0.out
    obtain ⟨c4, -⟩ := X2.out.cells.get 4 _ H4.out
    obtain ⟨c6, -⟩ := X2.out.cells.get 6 _ H6.out
    have LT := hide X2.out.lt
    obtain ⟨K, hK0⟩ : ∃ K, K = x.r.kind := ⟨_, rfl⟩
    rw [← hK0] at c1
    have HK0 := hide hK0
    clear hK0
    cases hc : chg K with
    | false =>
      obtain ⟨e2, e3, e4⟩ := chg_no hc
      have FIN := hide (show PP w2 b tb m (p.step x.r) by
        have := M2.out.pp
        have e : stepPg p.pg x.r = p.pg := by unfold stepPg; rw [← HK0.out, hc]; rfl
        rw [show p.step x.r = ⟨p.tb.noteT x.r.lsn x.r.kind x.r.tx x.r.prev, p.pg⟩ by unfold PassM.step; rw [e]]
        exact this)
      clear hc c0 c4 c6
      go_wp2_with fail
      go_ret
      exact ⟨by rw [F1.out]; rfl, fun _ => FIN.out, M2.out.kp⟩
    | true =>
      have PG := hide (GR.out.pages (by rw [← HK0.out]; exact hc))
      have FIN := hide (show p.step x.r = ⟨p.tb.noteT x.r.lsn x.r.kind x.r.tx x.r.prev, mark (mark p.pg x.r.wp x.r.lsn) x.r.sp x.r.lsn⟩ by unfold PassM.step stepPg; rw [← HK0.out, hc]; rfl)
      have KS := hide (chg_cases hc)
      clear hc
      generalize x.r.wp = WP at *
      generalize x.r.sp = SP at *
      generalize hLS : x.r.lsn = LS at *
      have HLS := hide hLS
      clear hLS
      rcases KS.out with rfl | rfl | rfl
      · go_upto_region 7 with fail
        clear c1 c0 c4 c6
        refine wp_region_held_drew (S := fun wq => Keep (fun z => z = b) w2 wq) (by kernel_rfl) (Keep.refl _ _).drew (fun hS => ?_)
        have KD := hide (show Keep (fun z => z = b) w2 w2.drew from (Keep.refl _ _).drew)
        have CC := hide (show ∀ wq, Keep (fun z => z = b) w2 wq → wq.cell? ⟨rb, 0, none⟩ = some (.int .i64 LS) ∧ wq.cell? ⟨rb, 4, none⟩ = some (.int .i64 WP) ∧ wq.cell? ⟨rb, 6, none⟩ = some (.int .i64 SP) from fun wq hk => by have q := (X2.out.keep hk (fun q => NE.out.1 q)).cells; exact ⟨(q.get 0 _ H0.out).1, (q.get 4 _ H4.out).1, (q.get 6 _ H6.out).1⟩)
        have KM := hide (mark_any b (ptr tb) p.pg WP LS w2.drew (M2.out.pp.ps.below (Below.refl w2.heap.size w2).drew) PG.out.1 PG.out.2.1)
        generalize w2.drew = y1 at *
        refine take_at 0 (some 18) (v := ?_) rfl rfl (by kernel_rfl) (by kernel_rfl) (by kernel_rfl) (fun _ _ _ h => h) ⟨by rfl, ?_⟩ hS ?_
        rotate_left
        · intro wq hSw; go_simp; try rfl
        simp only [Act.put, List.setIfInBounds_toArray, List.set_cons_zero, List.set_cons_succ]
        refine take_at 1 (some 19) (v := ?_) rfl rfl (by kernel_rfl) (by kernel_rfl) (by kernel_rfl) (fun _ _ _ h => h) ⟨by rfl, ?_⟩ hS ?_
        rotate_left
        · intro wq hSw; go_simp; try rfl
        simp only [Act.put, List.setIfInBounds_toArray, List.set_cons_zero, List.set_cons_succ]
        refine take_at 2 (some 20) (v := ?_) rfl rfl (by kernel_rfl) (by kernel_rfl) (by kernel_rfl) (fun _ _ _ h => h) ⟨by rfl, ?_⟩ hS ?_
        rotate_left
        · intro wq hSw; go_simp; try rfl
        simp only [Act.put, List.setIfInBounds_toArray, List.set_cons_zero, List.set_cons_succ]
        refine take_at 3 (some 21) (v := ?_) rfl rfl (by kernel_rfl) (by kernel_rfl) (by kernel_rfl) (fun _ _ _ h => h) ⟨by rfl, ?_⟩ hS ?_
        rotate_left
        · intro wq hSw; go_simp; try rfl
        simp only [Act.put, List.setIfInBounds_toArray, List.set_cons_zero, List.set_cons_succ]
        refine take_at 4 (some 22) (v := ?_) rfl rfl (by kernel_rfl) (by kernel_rfl) (by kernel_rfl) (fun _ _ _ h => h) ⟨by rfl, ?_⟩ hS ?_
        rotate_left
        · intro wq hSw; go_simp; try rfl
        simp only [Act.put, List.setIfInBounds_toArray, List.set_cons_zero, List.set_cons_succ]
        refine take_at 5 (some 23) (v := ?_) rfl rfl (by kernel_rfl) (by kernel_rfl) (by kernel_rfl) (fun _ _ _ h => h) ⟨by rfl, ?_⟩ hS ?_
        rotate_left
        · intro wq hSw; have q := (CC.out wq hSw).2.1; go_simp; try rfl
        simp only [Act.put, List.setIfInBounds_toArray, List.set_cons_zero, List.set_cons_succ]
        refine take_at 6 (some 24) (v := ?_) rfl rfl (by kernel_rfl) (by kernel_rfl) (by kernel_rfl) (fun _ _ _ h => h) ⟨by rfl, ?_⟩ hS ?_
        rotate_left
        · intro wq hSw; go_simp; try rfl
        simp only [Act.put, List.setIfInBounds_toArray, List.set_cons_zero, List.set_cons_succ]
        refine take_at 7 (some 25) (v := ?_) rfl rfl (by kernel_rfl) (by kernel_rfl) (by kernel_rfl) (fun _ _ _ h => h) ⟨by rfl, ?_⟩ hS ?_
        rotate_left
        · intro wq hSw; have q := (CC.out wq hSw).1; go_simp; try rfl
        simp only [Act.put, List.setIfInBounds_toArray, List.set_cons_zero, List.set_cons_succ]
        refine wpAnyH_ready (rs := [8]) (by kernel_rfl) (by simp) ?_
        refine AllReadyH.cons rfl (fun K hK => ?_) AllReadyH.nil
        go_simp
        go_wp2_with fail
        refine KM.out.mono ?_
        rintro e w3 ⟨rfl, hp3, hk3, hs3⟩
        go_wp2_with fail
        refine hK.out _ _ (KD.out.trans hk3 (fun _ _ q => q)) (fun hS => ?_)
        clear hK K
        (try simp only [Act.put, List.setIfInBounds_toArray, List.set_cons_zero, List.set_cons_succ])
        refine wpAnyH_done (by kernel_rfl) ?_ _
        have K3 := hide hS
        have P3 := hide hp3
        clear hp3 hk3 hs3 hS KM KD CC
        go_upto_region 8 with fail
        refine wp_region_held_drew (S := fun wq => Keep (fun z => z = b) w3 wq) (by kernel_rfl) (Keep.refl _ _).drew (fun hS => ?_)
        have KD := hide (show Keep (fun z => z = b) w3 w3.drew from (Keep.refl _ _).drew)
        have X3 := hide (X2.out.keep K3.out (fun q => NE.out.1 q))
        have CC := hide (show ∀ wq, Keep (fun z => z = b) w3 wq → wq.cell? ⟨rb, 0, none⟩ = some (.int .i64 LS) ∧ wq.cell? ⟨rb, 4, none⟩ = some (.int .i64 WP) ∧ wq.cell? ⟨rb, 6, none⟩ = some (.int .i64 SP) from fun wq hk => by have q := (X3.out.keep hk (fun q => NE.out.1 q)).cells; exact ⟨(q.get 0 _ H0.out).1, (q.get 4 _ H4.out).1, (q.get 6 _ H6.out).1⟩)
        have KM := hide (mark_any b (ptr tb) (mark p.pg WP LS) SP LS w3.drew (P3.out.below (Below.refl w3.heap.size w3).drew) PG.out.2.2.1 PG.out.2.2.2)
        generalize w3.drew = y2 at *
        refine take_at 0 (some 27) (v := ?_) rfl rfl (by kernel_rfl) (by kernel_rfl) (by kernel_rfl) (fun _ _ _ h => h) ⟨by rfl, ?_⟩ hS ?_
        rotate_left
        · intro wq hSw; go_simp; try rfl
        simp only [Act.put, List.setIfInBounds_toArray, List.set_cons_zero, List.set_cons_succ]
        refine take_at 1 (some 28) (v := ?_) rfl rfl (by kernel_rfl) (by kernel_rfl) (by kernel_rfl) (fun _ _ _ h => h) ⟨by rfl, ?_⟩ hS ?_
        rotate_left
        · intro wq hSw; go_simp; try rfl
        simp only [Act.put, List.setIfInBounds_toArray, List.set_cons_zero, List.set_cons_succ]
        refine take_at 2 (some 29) (v := ?_) rfl rfl (by kernel_rfl) (by kernel_rfl) (by kernel_rfl) (fun _ _ _ h => h) ⟨by rfl, ?_⟩ hS ?_
        rotate_left
        · intro wq hSw; go_simp; try rfl
        simp only [Act.put, List.setIfInBounds_toArray, List.set_cons_zero, List.set_cons_succ]
        refine take_at 3 (some 30) (v := ?_) rfl rfl (by kernel_rfl) (by kernel_rfl) (by kernel_rfl) (fun _ _ _ h => h) ⟨by rfl, ?_⟩ hS ?_
        rotate_left
        · intro wq hSw; go_simp; try rfl
        simp only [Act.put, List.setIfInBounds_toArray, List.set_cons_zero, List.set_cons_succ]
        refine take_at 4 (some 31) (v := ?_) rfl rfl (by kernel_rfl) (by kernel_rfl) (by kernel_rfl) (fun _ _ _ h => h) ⟨by rfl, ?_⟩ hS ?_
        rotate_left
        · intro wq hSw; go_simp; try rfl
        simp only [Act.put, List.setIfInBounds_toArray, List.set_cons_zero, List.set_cons_succ]
        refine take_at 5 (some 32) (v := ?_) rfl rfl (by kernel_rfl) (by kernel_rfl) (by kernel_rfl) (fun _ _ _ h => h) ⟨by rfl, ?_⟩ hS ?_
        rotate_left
        · intro wq hSw; have q := (CC.out wq hSw).2.2; go_simp; try rfl
        simp only [Act.put, List.setIfInBounds_toArray, List.set_cons_zero, List.set_cons_succ]
        refine take_at 6 (some 33) (v := ?_) rfl rfl (by kernel_rfl) (by kernel_rfl) (by kernel_rfl) (fun _ _ _ h => h) ⟨by rfl, ?_⟩ hS ?_
        rotate_left
        · intro wq hSw; go_simp; try rfl
        simp only [Act.put, List.setIfInBounds_toArray, List.set_cons_zero, List.set_cons_succ]
        refine take_at 7 (some 34) (v := ?_) rfl rfl (by kernel_rfl) (by kernel_rfl) (by kernel_rfl) (fun _ _ _ h => h) ⟨by rfl, ?_⟩ hS ?_
        rotate_left
        · intro wq hSw; have q := (CC.out wq hSw).1; go_simp; try rfl
        simp only [Act.put, List.setIfInBounds_toArray, List.set_cons_zero, List.set_cons_succ]
        refine wpAnyH_ready (rs := [8]) (by kernel_rfl) (by simp) ?_
        refine AllReadyH.cons rfl (fun K hK => ?_) AllReadyH.nil
        go_simp
        go_wp2_with fail
        refine KM.out.mono ?_
        rintro e w4 ⟨rfl, hp4, hk4, hs4⟩
        go_wp2_with fail
        refine hK.out _ _ (KD.out.trans hk4 (fun _ _ q => q)) (fun hS => ?_)
        clear hK K
        (try simp only [Act.put, List.setIfInBounds_toArray, List.set_cons_zero, List.set_cons_succ])
        refine wpAnyH_done (by kernel_rfl) ?_ _
        have K4 := hide (K3.out.trans hS (fun _ _ q => q))
        have P4 := hide hp4
        clear hp4 hk4 hs4 hS KM KD CC
        go_wp2_with fail
        go_ret
        refine ⟨by rw [F1.out]; rfl, fun _ => ?_, M2.out.kp.trans K4.out (fun _ _ q => .inl q)⟩
        rw [FIN.out]
        exact ⟨P4.out, by have := M2.out.pp.pt.keep K4.out (fun q => M2.out.pp.n1 q.symm) (fun q => M2.out.pp.n2 q.symm); simp only [HLS.out] at this; exact this, M2.out.pp.n1, M2.out.pp.n2⟩
      · go_upto_region 7 with fail
        clear c1 c0 c4 c6
        refine wp_region_held_drew (S := fun wq => Keep (fun z => z = b) w2 wq) (by kernel_rfl) (Keep.refl _ _).drew (fun hS => ?_)
        have KD := hide (show Keep (fun z => z = b) w2 w2.drew from (Keep.refl _ _).drew)
        have CC := hide (show ∀ wq, Keep (fun z => z = b) w2 wq → wq.cell? ⟨rb, 0, none⟩ = some (.int .i64 LS) ∧ wq.cell? ⟨rb, 4, none⟩ = some (.int .i64 WP) ∧ wq.cell? ⟨rb, 6, none⟩ = some (.int .i64 SP) from fun wq hk => by have q := (X2.out.keep hk (fun q => NE.out.1 q)).cells; exact ⟨(q.get 0 _ H0.out).1, (q.get 4 _ H4.out).1, (q.get 6 _ H6.out).1⟩)
        have KM := hide (mark_any b (ptr tb) p.pg WP LS w2.drew (M2.out.pp.ps.below (Below.refl w2.heap.size w2).drew) PG.out.1 PG.out.2.1)
        generalize w2.drew = y1 at *
        refine take_at 0 (some 18) (v := ?_) rfl rfl (by kernel_rfl) (by kernel_rfl) (by kernel_rfl) (fun _ _ _ h => h) ⟨by rfl, ?_⟩ hS ?_
        rotate_left
        · intro wq hSw; go_simp; try rfl
        simp only [Act.put, List.setIfInBounds_toArray, List.set_cons_zero, List.set_cons_succ]
        refine take_at 1 (some 19) (v := ?_) rfl rfl (by kernel_rfl) (by kernel_rfl) (by kernel_rfl) (fun _ _ _ h => h) ⟨by rfl, ?_⟩ hS ?_
        rotate_left
        · intro wq hSw; go_simp; try rfl
        simp only [Act.put, List.setIfInBounds_toArray, List.set_cons_zero, List.set_cons_succ]
        refine take_at 2 (some 20) (v := ?_) rfl rfl (by kernel_rfl) (by kernel_rfl) (by kernel_rfl) (fun _ _ _ h => h) ⟨by rfl, ?_⟩ hS ?_
        rotate_left
        · intro wq hSw; go_simp; try rfl
        simp only [Act.put, List.setIfInBounds_toArray, List.set_cons_zero, List.set_cons_succ]
        refine take_at 3 (some 21) (v := ?_) rfl rfl (by kernel_rfl) (by kernel_rfl) (by kernel_rfl) (fun _ _ _ h => h) ⟨by rfl, ?_⟩ hS ?_
        rotate_left
        · intro wq hSw; go_simp; try rfl
        simp only [Act.put, List.setIfInBounds_toArray, List.set_cons_zero, List.set_cons_succ]
        refine take_at 4 (some 22) (v := ?_) rfl rfl (by kernel_rfl) (by kernel_rfl) (by kernel_rfl) (fun _ _ _ h => h) ⟨by rfl, ?_⟩ hS ?_
        rotate_left
        · intro wq hSw; go_simp; try rfl
        simp only [Act.put, List.setIfInBounds_toArray, List.set_cons_zero, List.set_cons_succ]
        refine take_at 5 (some 23) (v := ?_) rfl rfl (by kernel_rfl) (by kernel_rfl) (by kernel_rfl) (fun _ _ _ h => h) ⟨by rfl, ?_⟩ hS ?_
        rotate_left
        · intro wq hSw; have q := (CC.out wq hSw).2.1; go_simp; try rfl
        simp only [Act.put, List.setIfInBounds_toArray, List.set_cons_zero, List.set_cons_succ]
        refine take_at 6 (some 24) (v := ?_) rfl rfl (by kernel_rfl) (by kernel_rfl) (by kernel_rfl) (fun _ _ _ h => h) ⟨by rfl, ?_⟩ hS ?_
        rotate_left
        · intro wq hSw; go_simp; try rfl
        simp only [Act.put, List.setIfInBounds_toArray, List.set_cons_zero, List.set_cons_succ]
        refine take_at 7 (some 25) (v := ?_) rfl rfl (by kernel_rfl) (by kernel_rfl) (by kernel_rfl) (fun _ _ _ h => h) ⟨by rfl, ?_⟩ hS ?_
        rotate_left
        · intro wq hSw; have q := (CC.out wq hSw).1; go_simp; try rfl
        simp only [Act.put, List.setIfInBounds_toArray, List.set_cons_zero, List.set_cons_succ]
        refine wpAnyH_ready (rs := [8]) (by kernel_rfl) (by simp) ?_
        refine AllReadyH.cons rfl (fun K hK => ?_) AllReadyH.nil
        go_simp
        go_wp2_with fail
        refine KM.out.mono ?_
        rintro e w3 ⟨rfl, hp3, hk3, hs3⟩
        go_wp2_with fail
        refine hK.out _ _ (KD.out.trans hk3 (fun _ _ q => q)) (fun hS => ?_)
        clear hK K
        (try simp only [Act.put, List.setIfInBounds_toArray, List.set_cons_zero, List.set_cons_succ])
        refine wpAnyH_done (by kernel_rfl) ?_ _
        have K3 := hide hS
        have P3 := hide hp3
        clear hp3 hk3 hs3 hS KM KD CC
        go_upto_region 8 with fail
        refine wp_region_held_drew (S := fun wq => Keep (fun z => z = b) w3 wq) (by kernel_rfl) (Keep.refl _ _).drew (fun hS => ?_)
        have KD := hide (show Keep (fun z => z = b) w3 w3.drew from (Keep.refl _ _).drew)
        have X3 := hide (X2.out.keep K3.out (fun q => NE.out.1 q))
        have CC := hide (show ∀ wq, Keep (fun z => z = b) w3 wq → wq.cell? ⟨rb, 0, none⟩ = some (.int .i64 LS) ∧ wq.cell? ⟨rb, 4, none⟩ = some (.int .i64 WP) ∧ wq.cell? ⟨rb, 6, none⟩ = some (.int .i64 SP) from fun wq hk => by have q := (X3.out.keep hk (fun q => NE.out.1 q)).cells; exact ⟨(q.get 0 _ H0.out).1, (q.get 4 _ H4.out).1, (q.get 6 _ H6.out).1⟩)
        have KM := hide (mark_any b (ptr tb) (mark p.pg WP LS) SP LS w3.drew (P3.out.below (Below.refl w3.heap.size w3).drew) PG.out.2.2.1 PG.out.2.2.2)
        generalize w3.drew = y2 at *
        refine take_at 0 (some 27) (v := ?_) rfl rfl (by kernel_rfl) (by kernel_rfl) (by kernel_rfl) (fun _ _ _ h => h) ⟨by rfl, ?_⟩ hS ?_
        rotate_left
        · intro wq hSw; go_simp; try rfl
        simp only [Act.put, List.setIfInBounds_toArray, List.set_cons_zero, List.set_cons_succ]
        refine take_at 1 (some 28) (v := ?_) rfl rfl (by kernel_rfl) (by kernel_rfl) (by kernel_rfl) (fun _ _ _ h => h) ⟨by rfl, ?_⟩ hS ?_
        rotate_left
        · intro wq hSw; go_simp; try rfl
        simp only [Act.put, List.setIfInBounds_toArray, List.set_cons_zero, List.set_cons_succ]
        refine take_at 2 (some 29) (v := ?_) rfl rfl (by kernel_rfl) (by kernel_rfl) (by kernel_rfl) (fun _ _ _ h => h) ⟨by rfl, ?_⟩ hS ?_
        rotate_left
        · intro wq hSw; go_simp; try rfl
        simp only [Act.put, List.setIfInBounds_toArray, List.set_cons_zero, List.set_cons_succ]
        refine take_at 3 (some 30) (v := ?_) rfl rfl (by kernel_rfl) (by kernel_rfl) (by kernel_rfl) (fun _ _ _ h => h) ⟨by rfl, ?_⟩ hS ?_
        rotate_left
        · intro wq hSw; go_simp; try rfl
        simp only [Act.put, List.setIfInBounds_toArray, List.set_cons_zero, List.set_cons_succ]
        refine take_at 4 (some 31) (v := ?_) rfl rfl (by kernel_rfl) (by kernel_rfl) (by kernel_rfl) (fun _ _ _ h => h) ⟨by rfl, ?_⟩ hS ?_
        rotate_left
        · intro wq hSw; go_simp; try rfl
        simp only [Act.put, List.setIfInBounds_toArray, List.set_cons_zero, List.set_cons_succ]
        refine take_at 5 (some 32) (v := ?_) rfl rfl (by kernel_rfl) (by kernel_rfl) (by kernel_rfl) (fun _ _ _ h => h) ⟨by rfl, ?_⟩ hS ?_
        rotate_left
        · intro wq hSw; have q := (CC.out wq hSw).2.2; go_simp; try rfl
        simp only [Act.put, List.setIfInBounds_toArray, List.set_cons_zero, List.set_cons_succ]
        refine take_at 6 (some 33) (v := ?_) rfl rfl (by kernel_rfl) (by kernel_rfl) (by kernel_rfl) (fun _ _ _ h => h) ⟨by rfl, ?_⟩ hS ?_
        rotate_left
        · intro wq hSw; go_simp; try rfl
        simp only [Act.put, List.setIfInBounds_toArray, List.set_cons_zero, List.set_cons_succ]
        refine take_at 7 (some 34) (v := ?_) rfl rfl (by kernel_rfl) (by kernel_rfl) (by kernel_rfl) (fun _ _ _ h => h) ⟨by rfl, ?_⟩ hS ?_
        rotate_left
        · intro wq hSw; have q := (CC.out wq hSw).1; go_simp; try rfl
        simp only [Act.put, List.setIfInBounds_toArray, List.set_cons_zero, List.set_cons_succ]
        refine wpAnyH_ready (rs := [8]) (by kernel_rfl) (by simp) ?_
        refine AllReadyH.cons rfl (fun K hK => ?_) AllReadyH.nil
        go_simp
        go_wp2_with fail
        refine KM.out.mono ?_
        rintro e w4 ⟨rfl, hp4, hk4, hs4⟩
        go_wp2_with fail
        refine hK.out _ _ (KD.out.trans hk4 (fun _ _ q => q)) (fun hS => ?_)
        clear hK K
        (try simp only [Act.put, List.setIfInBounds_toArray, List.set_cons_zero, List.set_cons_succ])
        refine wpAnyH_done (by kernel_rfl) ?_ _
        have K4 := hide (K3.out.trans hS (fun _ _ q => q))
        have P4 := hide hp4
        clear hp4 hk4 hs4 hS KM KD CC
        go_wp2_with fail
        go_ret
        refine ⟨by rw [F1.out]; rfl, fun _ => ?_, M2.out.kp.trans K4.out (fun _ _ q => .inl q)⟩
        rw [FIN.out]
        exact ⟨P4.out, by have := M2.out.pp.pt.keep K4.out (fun q => M2.out.pp.n1 q.symm) (fun q => M2.out.pp.n2 q.symm); simp only [HLS.out] at this; exact this, M2.out.pp.n1, M2.out.pp.n2⟩
      · go_upto_region 7 with fail
        clear c1 c0 c4 c6
        refine wp_region_held_drew (S := fun wq => Keep (fun z => z = b) w2 wq) (by kernel_rfl) (Keep.refl _ _).drew (fun hS => ?_)
        have KD := hide (show Keep (fun z => z = b) w2 w2.drew from (Keep.refl _ _).drew)
        have CC := hide (show ∀ wq, Keep (fun z => z = b) w2 wq → wq.cell? ⟨rb, 0, none⟩ = some (.int .i64 LS) ∧ wq.cell? ⟨rb, 4, none⟩ = some (.int .i64 WP) ∧ wq.cell? ⟨rb, 6, none⟩ = some (.int .i64 SP) from fun wq hk => by have q := (X2.out.keep hk (fun q => NE.out.1 q)).cells; exact ⟨(q.get 0 _ H0.out).1, (q.get 4 _ H4.out).1, (q.get 6 _ H6.out).1⟩)
        have KM := hide (mark_any b (ptr tb) p.pg WP LS w2.drew (M2.out.pp.ps.below (Below.refl w2.heap.size w2).drew) PG.out.1 PG.out.2.1)
        generalize w2.drew = y1 at *
        refine take_at 0 (some 18) (v := ?_) rfl rfl (by kernel_rfl) (by kernel_rfl) (by kernel_rfl) (fun _ _ _ h => h) ⟨by rfl, ?_⟩ hS ?_
        rotate_left
        · intro wq hSw; go_simp; try rfl
        simp only [Act.put, List.setIfInBounds_toArray, List.set_cons_zero, List.set_cons_succ]
        refine take_at 1 (some 19) (v := ?_) rfl rfl (by kernel_rfl) (by kernel_rfl) (by kernel_rfl) (fun _ _ _ h => h) ⟨by rfl, ?_⟩ hS ?_
        rotate_left
        · intro wq hSw; go_simp; try rfl
        simp only [Act.put, List.setIfInBounds_toArray, List.set_cons_zero, List.set_cons_succ]
        refine take_at 2 (some 20) (v := ?_) rfl rfl (by kernel_rfl) (by kernel_rfl) (by kernel_rfl) (fun _ _ _ h => h) ⟨by rfl, ?_⟩ hS ?_
        rotate_left
        · intro wq hSw; go_simp; try rfl
        simp only [Act.put, List.setIfInBounds_toArray, List.set_cons_zero, List.set_cons_succ]
        refine take_at 3 (some 21) (v := ?_) rfl rfl (by kernel_rfl) (by kernel_rfl) (by kernel_rfl) (fun _ _ _ h => h) ⟨by rfl, ?_⟩ hS ?_
        rotate_left
        · intro wq hSw; go_simp; try rfl
        simp only [Act.put, List.setIfInBounds_toArray, List.set_cons_zero, List.set_cons_succ]
        refine take_at 4 (some 22) (v := ?_) rfl rfl (by kernel_rfl) (by kernel_rfl) (by kernel_rfl) (fun _ _ _ h => h) ⟨by rfl, ?_⟩ hS ?_
        rotate_left
        · intro wq hSw; go_simp; try rfl
        simp only [Act.put, List.setIfInBounds_toArray, List.set_cons_zero, List.set_cons_succ]
        refine take_at 5 (some 23) (v := ?_) rfl rfl (by kernel_rfl) (by kernel_rfl) (by kernel_rfl) (fun _ _ _ h => h) ⟨by rfl, ?_⟩ hS ?_
        rotate_left
        · intro wq hSw; have q := (CC.out wq hSw).2.1; go_simp; try rfl
        simp only [Act.put, List.setIfInBounds_toArray, List.set_cons_zero, List.set_cons_succ]
        refine take_at 6 (some 24) (v := ?_) rfl rfl (by kernel_rfl) (by kernel_rfl) (by kernel_rfl) (fun _ _ _ h => h) ⟨by rfl, ?_⟩ hS ?_
        rotate_left
        · intro wq hSw; go_simp; try rfl
        simp only [Act.put, List.setIfInBounds_toArray, List.set_cons_zero, List.set_cons_succ]
        refine take_at 7 (some 25) (v := ?_) rfl rfl (by kernel_rfl) (by kernel_rfl) (by kernel_rfl) (fun _ _ _ h => h) ⟨by rfl, ?_⟩ hS ?_
        rotate_left
        · intro wq hSw; have q := (CC.out wq hSw).1; go_simp; try rfl
        simp only [Act.put, List.setIfInBounds_toArray, List.set_cons_zero, List.set_cons_succ]
        refine wpAnyH_ready (rs := [8]) (by kernel_rfl) (by simp) ?_
        refine AllReadyH.cons rfl (fun K hK => ?_) AllReadyH.nil
        go_simp
        go_wp2_with fail
        refine KM.out.mono ?_
        rintro e w3 ⟨rfl, hp3, hk3, hs3⟩
        go_wp2_with fail
        refine hK.out _ _ (KD.out.trans hk3 (fun _ _ q => q)) (fun hS => ?_)
        clear hK K
        (try simp only [Act.put, List.setIfInBounds_toArray, List.set_cons_zero, List.set_cons_succ])
        refine wpAnyH_done (by kernel_rfl) ?_ _
        have K3 := hide hS
        have P3 := hide hp3
        clear hp3 hk3 hs3 hS KM KD CC
        go_upto_region 8 with fail
        refine wp_region_held_drew (S := fun wq => Keep (fun z => z = b) w3 wq) (by kernel_rfl) (Keep.refl _ _).drew (fun hS => ?_)
        have KD := hide (show Keep (fun z => z = b) w3 w3.drew from (Keep.refl _ _).drew)
        have X3 := hide (X2.out.keep K3.out (fun q => NE.out.1 q))
        have CC := hide (show ∀ wq, Keep (fun z => z = b) w3 wq → wq.cell? ⟨rb, 0, none⟩ = some (.int .i64 LS) ∧ wq.cell? ⟨rb, 4, none⟩ = some (.int .i64 WP) ∧ wq.cell? ⟨rb, 6, none⟩ = some (.int .i64 SP) from fun wq hk => by have q := (X3.out.keep hk (fun q => NE.out.1 q)).cells; exact ⟨(q.get 0 _ H0.out).1, (q.get 4 _ H4.out).1, (q.get 6 _ H6.out).1⟩)
        have KM := hide (mark_any b (ptr tb) (mark p.pg WP LS) SP LS w3.drew (P3.out.below (Below.refl w3.heap.size w3).drew) PG.out.2.2.1 PG.out.2.2.2)
        generalize w3.drew = y2 at *
        refine take_at 0 (some 27) (v := ?_) rfl rfl (by kernel_rfl) (by kernel_rfl) (by kernel_rfl) (fun _ _ _ h => h) ⟨by rfl, ?_⟩ hS ?_
        rotate_left
        · intro wq hSw; go_simp; try rfl
        simp only [Act.put, List.setIfInBounds_toArray, List.set_cons_zero, List.set_cons_succ]
        refine take_at 1 (some 28) (v := ?_) rfl rfl (by kernel_rfl) (by kernel_rfl) (by kernel_rfl) (fun _ _ _ h => h) ⟨by rfl, ?_⟩ hS ?_
        rotate_left
        · intro wq hSw; go_simp; try rfl
        simp only [Act.put, List.setIfInBounds_toArray, List.set_cons_zero, List.set_cons_succ]
        refine take_at 2 (some 29) (v := ?_) rfl rfl (by kernel_rfl) (by kernel_rfl) (by kernel_rfl) (fun _ _ _ h => h) ⟨by rfl, ?_⟩ hS ?_
        rotate_left
        · intro wq hSw; go_simp; try rfl
        simp only [Act.put, List.setIfInBounds_toArray, List.set_cons_zero, List.set_cons_succ]
        refine take_at 3 (some 30) (v := ?_) rfl rfl (by kernel_rfl) (by kernel_rfl) (by kernel_rfl) (fun _ _ _ h => h) ⟨by rfl, ?_⟩ hS ?_
        rotate_left
        · intro wq hSw; go_simp; try rfl
        simp only [Act.put, List.setIfInBounds_toArray, List.set_cons_zero, List.set_cons_succ]
        refine take_at 4 (some 31) (v := ?_) rfl rfl (by kernel_rfl) (by kernel_rfl) (by kernel_rfl) (fun _ _ _ h => h) ⟨by rfl, ?_⟩ hS ?_
        rotate_left
        · intro wq hSw; go_simp; try rfl
        simp only [Act.put, List.setIfInBounds_toArray, List.set_cons_zero, List.set_cons_succ]
        refine take_at 5 (some 32) (v := ?_) rfl rfl (by kernel_rfl) (by kernel_rfl) (by kernel_rfl) (fun _ _ _ h => h) ⟨by rfl, ?_⟩ hS ?_
        rotate_left
        · intro wq hSw; have q := (CC.out wq hSw).2.2; go_simp; try rfl
        simp only [Act.put, List.setIfInBounds_toArray, List.set_cons_zero, List.set_cons_succ]
        refine take_at 6 (some 33) (v := ?_) rfl rfl (by kernel_rfl) (by kernel_rfl) (by kernel_rfl) (fun _ _ _ h => h) ⟨by rfl, ?_⟩ hS ?_
        rotate_left
        · intro wq hSw; go_simp; try rfl
        simp only [Act.put, List.setIfInBounds_toArray, List.set_cons_zero, List.set_cons_succ]
        refine take_at 7 (some 34) (v := ?_) rfl rfl (by kernel_rfl) (by kernel_rfl) (by kernel_rfl) (fun _ _ _ h => h) ⟨by rfl, ?_⟩ hS ?_
        rotate_left
        · intro wq hSw; have q := (CC.out wq hSw).1; go_simp; try rfl
        simp only [Act.put, List.setIfInBounds_toArray, List.set_cons_zero, List.set_cons_succ]
        refine wpAnyH_ready (rs := [8]) (by kernel_rfl) (by simp) ?_
        refine AllReadyH.cons rfl (fun K hK => ?_) AllReadyH.nil
        go_simp
        go_wp2_with fail
        refine KM.out.mono ?_
        rintro e w4 ⟨rfl, hp4, hk4, hs4⟩
        go_wp2_with fail
        refine hK.out _ _ (KD.out.trans hk4 (fun _ _ q => q)) (fun hS => ?_)
        clear hK K
        (try simp only [Act.put, List.setIfInBounds_toArray, List.set_cons_zero, List.set_cons_succ])
        refine wpAnyH_done (by kernel_rfl) ?_ _
        have K4 := hide (K3.out.trans hS (fun _ _ q => q))
        have P4 := hide hp4
        clear hp4 hk4 hs4 hS KM KD CC
        go_wp2_with fail
        go_ret
        refine ⟨by rw [F1.out]; rfl, fun _ => ?_, M2.out.kp.trans K4.out (fun _ _ q => .inl q)⟩
        rw [FIN.out]
        exact ⟨P4.out, by have := M2.out.pp.pt.keep K4.out (fun q => M2.out.pp.n1 q.symm) (fun q => M2.out.pp.n2 q.symm); simp only [HLS.out] at this; exact this, M2.out.pp.n1, M2.out.pp.n2⟩
  · have e1 : (E != 0) = true := by simpa using hE
    have F1 := hide (show readE p x.r = 60 by rw [R2.out, if_neg hE])
    have F2 := hide (show p.noteE x.r ≠ 0 by rw [← HE.out]; exact hE)
    clear hE eE R2
    go_wp2_with fail
    go_ret
    exact ⟨by rw [F1.out]; rfl, fun q => absurd q F2.out, M2.out.kp⟩
end Go.Proofs.YtblngphjoafidaaGreat
