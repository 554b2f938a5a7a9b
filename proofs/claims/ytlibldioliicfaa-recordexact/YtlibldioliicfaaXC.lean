import Derived.Test.YtlibldioliicfaaXB
import Derived.Test.YtlibldioliicfaaTake
import Derived.Deep.DeepCutAuto
namespace Go.Proofs.Ytlibldioliicfaa
open Go.RowKit Go.QK
set_option maxRecDepth 100000
set_option maxHeartbeats 0 in
theorem rEnc_3 (lsn : Int) (tn pn wpn win spn sin : Nat) (delta : Int) (idn gn : Nat) (lo hi val : Int) (live : List LiveM) (dirty : List DirtyM) (nx : Nat) (la da : Option Addr) (lc dc : Nat) (w : World)
    (hl : Lies w la (liveCs live)) (hd : Lies w da (dirtyCs dirty)) (he : chkE (RecM.mk lsn 3 tn pn wpn win spn sin delta idn gn lo hi val live dirty nx) = 0)
    (hr : tn ≤ 2147483647 ∧ pn ≤ 2147483647 ∧ wpn ≤ 63 ∧ win ≤ 30 ∧ spn ≤ 63 ∧ sin ≤ 83 ∧ idn ≤ 1048576 ∧ gn ≤ 1048576 ∧ nx ≤ 2147483648) (hf : Fits (RecM.mk lsn 3 tn pn wpn win spn sin delta idn gn lo hi val live dirty nx))
    (hli : ∀ l ∈ live, liveIn2 l) (hdi : ∀ l ∈ dirty, dirtyIn2 l) (hll : live.length ≤ 32) (hdl : dirty.length ≤ 16) :
    Calls Try.prog 33 #[.agg #[.int .i64 lsn, .int .i64 3, .int .i64 tn, .int .i64 pn, .int .i64 wpn, .int .i64 win, .int .i64 spn, .int .i64 sin, .int .i64 delta, .int .i64 idn, .int .i64 gn, .int .i64 lo, .int .i64 hi, .int .i64 val, .slice la live.length lc, .slice da dirty.length dc, .int .i64 nx]] w fun e w' => ∃ v, e = .returned (.tuple #[v, .int .i64 0]) ∧ OwnB w' w.heap.size v (bytesR (RecM.mk lsn 3 tn pn wpn win spn sin delta idn gn lo hi val live dirty nx)) ∧ Below w.heap.size w w' := by
  obtain ⟨f1, f2, f3, f4⟩ := hf
  simp only at f1 f2 f3 f4
  have fC : ∀ w, Lies w la (liveCs live) → Lies w da (dirtyCs dirty) → Calls Try.prog 34 #[.agg #[.int .i64 lsn, .int .i64 3, .int .i64 tn, .int .i64 pn, .int .i64 wpn, .int .i64 win, .int .i64 spn, .int .i64 sin, .int .i64 delta, .int .i64 idn, .int .i64 gn, .int .i64 lo, .int .i64 hi, .int .i64 val, .slice la live.length lc, .slice da dirty.length dc, .int .i64 nx]] w fun e w' => e = .returned (.int .i64 0) ∧ Below w.heap.size w w' := by
    intro w a b
    have := rCheck_any (RecM.mk lsn 3 tn pn wpn win spn sin delta idn gn lo hi val live dirty nx) la da lc dc w a b
    rw [he] at this
    exact this
  clear he
  have HFIN : Hid (([3] ++ [tn, pn, wpn, win, spn, sin, idn] ++ [sgn delta]).flatMap form = bytesR (RecM.mk lsn 3 tn pn wpn win spn sin delta idn gn lo hi val live dirty nx)) := by
    unfold Hid bytesR nums
    congr 1 <;> simp [show hTx 3 = true from rfl, show hPrev 3 = true from rfl, show hCtr 3 = true from rfl, show hFirst 3 = false from rfl, show hDelta 3 = true from rfl, show hPts 3 = false from rfl, firstNs, pointsNs]
  generalize bytesR (RecM.mk lsn 3 tn pn wpn win spn sin delta idn gn lo hi val live dirty nx) = fin at *
  have HL := hide hl
  have HD := hide hd
  have HLI := hide hli
  have HDI := hide hdi
  have HF := hide (And.intro f1 (And.intro f2 (And.intro f3 f4)))
  have HR := hide hr
  have HLL := hide (And.intro hll hdl)
  clear hl hd hli hdi f1 f2 f3 f4 hr hll hdl
  go_enter Try.func33, Try.ntmps33
  go_upto_region 1 with fail
  generalize hw0 : w.alloc (.cells #[.int .i64 lsn, .int .i64 3, .int .i64 tn, .int .i64 pn, .int .i64 wpn, .int .i64 win, .int .i64 spn, .int .i64 sin, .int .i64 delta, .int .i64 idn, .int .i64 gn, .int .i64 lo, .int .i64 hi, .int .i64 val, .slice la live.length lc, .slice da dirty.length dc, .int .i64 nx] 36) = w0
  have b0 : Below w.heap.size w w0 := by rw [← hw0]; exact alloc_below _ _
  have RB : Hid (RBox w0 w.heap.size 36 #[.int .i64 lsn, .int .i64 3, .int .i64 tn, .int .i64 pn, .int .i64 wpn, .int .i64 win, .int .i64 spn, .int .i64 sin, .int .i64 delta, .int .i64 idn, .int .i64 gn, .int .i64 lo, .int .i64 hi, .int .i64 val, .slice la live.length lc, .slice da dirty.length dc, .int .i64 nx]) := by rw [← hw0]; exact RBox.new _ _ _
  clear hw0
  generalize Value.agg #[.int .i64 lsn, .int .i64 3, .int .i64 tn, .int .i64 pn, .int .i64 wpn, .int .i64 win, .int .i64 spn, .int .i64 sin, .int .i64 delta, .int .i64 idn, .int .i64 gn, .int .i64 lo, .int .i64 hi, .int .i64 val, .slice la live.length lc, .slice da dirty.length dc, .int .i64 nx] = ra
  go_wp2_with (refine wpList_load36g RB.out rfl rfl rfl ?_)
  refine (fC _ (HL.out.below b0) (HD.out.below b0)).mono ?_
  rintro e w1 ⟨rfl, b1⟩
  have b2 := bnext b0 b1 (Nat.le_refl _)
  have Rb : Hid (Bq w1 (.slice none 0 0) w.heap.size [.int .i64 lsn, .int .i64 3, .int .i64 tn, .int .i64 pn, .int .i64 wpn, .int .i64 win, .int .i64 spn, .int .i64 sin, .int .i64 delta, .int .i64 idn, .int .i64 gn, .int .i64 lo, .int .i64 hi, .int .i64 val, .slice la live.length lc, .slice da dirty.length dc, .int .i64 nx]) := hide ⟨(RB.out.below b1).cells, fun q => by cases q⟩
  have PS : Hid (NSt w1.heap.size w1 (.slice none 0 0) w1 (.slice none 0 0) []) := hide ⟨PSt.start (Owns.nil _ _ _ _), by simp⟩
  clear RB b0 b1 fC
  have c1 := Rb.out.get 1 _ rfl
  go_wp2_with fail
  refine (rPutN [3] PS.out (Nat.le_refl _) (by first | rfl | simp) (by simp) (by have := HLL.out; simp <;> omega) rfl).mono ?_
  clear c1
  rintro e w2 ⟨v2, rfl, p2, PSn⟩
  replace Rb := hide (Rb.out.next p2)
  have PS := hide PSn
  clear p2 PSn
  have c1 := Rb.out.get 1 _ rfl
  have c9 := Rb.out.get 9 _ rfl
  have c10 := Rb.out.get 10 _ rfl
  have c11 := Rb.out.get 11 _ rfl
  have c12 := Rb.out.get 12 _ rfl
  have c13 := Rb.out.get 13 _ rfl
  go_upto_region 6 with fail
  clear c1 c9 c10 c11 c12 c13
  generalize hw3 : w2.alloc (.cells #[.int .i64 idn, .int .i64 gn, .int .i64 lo, .int .i64 hi, .int .i64 val] 30) = w3
  have b3 : Below w2.heap.size w2 w3 := by rw [← hw3]; exact alloc_below _ _
  have Db : Hid (Bq w3 v2 w2.heap.size [.int .i64 idn, .int .i64 gn, .int .i64 lo, .int .i64 hi, .int .i64 val]) := by rw [← hw3]; exact Bq.new PS.out.st.own #[.int .i64 idn, .int .i64 gn, .int .i64 lo, .int .i64 hi, .int .i64 val] 30
  replace Rb := hide (Rb.out.below b3)
  replace PS := hide (PS.out.below b3)
  clear hw3 b3
  have c1 := Rb.out.get 1 _ rfl
  go_upto_region 14 with fail
  clear c1
  go_upto_region 14 with fail
  have FX := hide (show w3.cell? ⟨w.heap.size, 2, none⟩ = some (.int .i64 tn) ∧ w3.cell? ⟨w.heap.size, 3, none⟩ = some (.int .i64 pn) ∧ w3.cell? ⟨w.heap.size, 4, none⟩ = some (.int .i64 wpn) ∧ w3.cell? ⟨w.heap.size, 5, none⟩ = some (.int .i64 win) ∧ w3.cell? ⟨w.heap.size, 6, none⟩ = some (.int .i64 spn) ∧ w3.cell? ⟨w.heap.size, 7, none⟩ = some (.int .i64 sin) ∧ w3.cell? ⟨w.heap.size, 8, none⟩ = some (.int .i64 delta) ∧ w3.cell? ⟨w2.heap.size, 0, none⟩ = some (.int .i64 idn) from ⟨Rb.out.get 2 _ rfl, Rb.out.get 3 _ rfl, Rb.out.get 4 _ rfl, Rb.out.get 5 _ rfl, Rb.out.get 6 _ rfl, Rb.out.get 7 _ rfl, Rb.out.get 8 _ rfl, Db.out.get 0 _ rfl⟩)
  replace Rb := hide (Rb.out.below (Below.refl _ _).drew)
  replace Db := hide (Db.out.below (Below.refl _ _).drew)
  replace PS := hide (PS.out.below (Below.refl _ _).drew)
  refine wp_region_held_drew (S := fun wq => wq.cell? ⟨w.heap.size, 2, none⟩ = some (.int .i64 tn) ∧ wq.cell? ⟨w.heap.size, 3, none⟩ = some (.int .i64 pn) ∧ wq.cell? ⟨w.heap.size, 4, none⟩ = some (.int .i64 wpn) ∧ wq.cell? ⟨w.heap.size, 5, none⟩ = some (.int .i64 win) ∧ wq.cell? ⟨w.heap.size, 6, none⟩ = some (.int .i64 spn) ∧ wq.cell? ⟨w.heap.size, 7, none⟩ = some (.int .i64 sin) ∧ wq.cell? ⟨w.heap.size, 8, none⟩ = some (.int .i64 delta) ∧ wq.cell? ⟨w2.heap.size, 0, none⟩ = some (.int .i64 idn)) (by kernel_rfl) FX.out (fun hS => ?_)
  generalize w3.drew = w4 at *
  clear FX
  refine take_at 0 (some 67) (v := ?_) rfl rfl (by kernel_rfl) (by kernel_rfl) (by kernel_rfl) (fun _ _ _ h => h) ⟨by rfl, ?_⟩ hS ?_
  rotate_left
  · intro wq hSw; go_simp; try rfl
  simp only [Act.put, List.setIfInBounds_toArray, List.set_cons_zero, List.set_cons_succ]
  refine take_at 1 (some 68) (v := ?_) rfl rfl (by kernel_rfl) (by kernel_rfl) (by kernel_rfl) (fun _ _ _ h => h) ⟨by rfl, ?_⟩ hS ?_
  rotate_left
  · intro wq hSw; go_simp; try rfl
  simp only [Act.put, List.setIfInBounds_toArray, List.set_cons_zero, List.set_cons_succ]
  refine take_at 2 (some 69) (v := ?_) rfl rfl (by kernel_rfl) (by kernel_rfl) (by kernel_rfl) (fun _ _ _ h => h) ⟨by rfl, ?_⟩ hS ?_
  rotate_left
  · intro wq hSw; obtain ⟨y0, y1, y2, y3, y4, y5, y6, y7⟩ := hSw; go_simp; try rfl
  simp only [Act.put, List.setIfInBounds_toArray, List.set_cons_zero, List.set_cons_succ]
  refine take_at 3 (some 70) (v := ?_) rfl rfl (by kernel_rfl) (by kernel_rfl) (by kernel_rfl) (fun _ _ _ h => h) ⟨by rfl, ?_⟩ hS ?_
  rotate_left
  · intro wq hSw; go_simp; try rfl
  simp only [Act.put, List.setIfInBounds_toArray, List.set_cons_zero, List.set_cons_succ]
  refine take_at 4 (some 71) (v := ?_) rfl rfl (by kernel_rfl) (by kernel_rfl) (by kernel_rfl) (fun _ _ _ h => h) ⟨by rfl, ?_⟩ hS ?_
  rotate_left
  · intro wq hSw; obtain ⟨y0, y1, y2, y3, y4, y5, y6, y7⟩ := hSw; go_simp; try rfl
  simp only [Act.put, List.setIfInBounds_toArray, List.set_cons_zero, List.set_cons_succ]
  refine take_at 5 (some 72) (v := ?_) rfl rfl (by kernel_rfl) (by kernel_rfl) (by kernel_rfl) (fun _ _ _ h => h) ⟨by rfl, ?_⟩ hS ?_
  rotate_left
  · intro wq hSw; go_simp; try rfl
  simp only [Act.put, List.setIfInBounds_toArray, List.set_cons_zero, List.set_cons_succ]
  refine take_at 6 (some 73) (v := ?_) rfl rfl (by kernel_rfl) (by kernel_rfl) (by kernel_rfl) (fun _ _ _ h => h) ⟨by rfl, ?_⟩ hS ?_
  rotate_left
  · intro wq hSw; go_simp; try rfl
  simp only [Act.put, List.setIfInBounds_toArray, List.set_cons_zero, List.set_cons_succ]
  refine take_at 7 (some 74) (v := ?_) rfl rfl (by kernel_rfl) (by kernel_rfl) (by kernel_rfl) (fun _ _ _ h => h) ⟨by rfl, ?_⟩ hS ?_
  rotate_left
  · intro wq hSw; obtain ⟨y0, y1, y2, y3, y4, y5, y6, y7⟩ := hSw; go_simp; try rfl
  simp only [Act.put, List.setIfInBounds_toArray, List.set_cons_zero, List.set_cons_succ]
  refine take_at 8 (some 75) (v := ?_) rfl rfl (by kernel_rfl) (by kernel_rfl) (by kernel_rfl) (fun _ _ _ h => h) ⟨by rfl, ?_⟩ hS ?_
  rotate_left
  · intro wq hSw; go_simp; try rfl
  simp only [Act.put, List.setIfInBounds_toArray, List.set_cons_zero, List.set_cons_succ]
  refine take_at 9 (some 76) (v := ?_) rfl rfl (by kernel_rfl) (by kernel_rfl) (by kernel_rfl) (fun _ _ _ h => h) ⟨by rfl, ?_⟩ hS ?_
  rotate_left
  · intro wq hSw; go_simp; try rfl
  simp only [Act.put, List.setIfInBounds_toArray, List.set_cons_zero, List.set_cons_succ]
  refine take_at 10 (some 77) (v := ?_) rfl rfl (by kernel_rfl) (by kernel_rfl) (by kernel_rfl) (fun _ _ _ h => h) ⟨by rfl, ?_⟩ hS ?_
  rotate_left
  · intro wq hSw; obtain ⟨y0, y1, y2, y3, y4, y5, y6, y7⟩ := hSw; go_simp; try rfl
  simp only [Act.put, List.setIfInBounds_toArray, List.set_cons_zero, List.set_cons_succ]
  refine take_at 11 (some 78) (v := ?_) rfl rfl (by kernel_rfl) (by kernel_rfl) (by kernel_rfl) (fun _ _ _ h => h) ⟨by rfl, ?_⟩ hS ?_
  rotate_left
  · intro wq hSw; go_simp; try rfl
  simp only [Act.put, List.setIfInBounds_toArray, List.set_cons_zero, List.set_cons_succ]
  refine take_at 12 (some 79) (v := ?_) rfl rfl (by kernel_rfl) (by kernel_rfl) (by kernel_rfl) (fun _ _ _ h => h) ⟨by rfl, ?_⟩ hS ?_
  rotate_left
  · intro wq hSw; go_simp; try rfl
  simp only [Act.put, List.setIfInBounds_toArray, List.set_cons_zero, List.set_cons_succ]
  refine take_at 13 (some 80) (v := ?_) rfl rfl (by kernel_rfl) (by kernel_rfl) (by kernel_rfl) (fun _ _ _ h => h) ⟨by rfl, ?_⟩ hS ?_
  rotate_left
  · intro wq hSw; obtain ⟨y0, y1, y2, y3, y4, y5, y6, y7⟩ := hSw; go_simp; try rfl
  simp only [Act.put, List.setIfInBounds_toArray, List.set_cons_zero, List.set_cons_succ]
  refine take_at 14 (some 81) (v := ?_) rfl rfl (by kernel_rfl) (by kernel_rfl) (by kernel_rfl) (fun _ _ _ h => h) ⟨by rfl, ?_⟩ hS ?_
  rotate_left
  · intro wq hSw; go_simp; try rfl
  simp only [Act.put, List.setIfInBounds_toArray, List.set_cons_zero, List.set_cons_succ]
  refine take_at 15 (some 82) (v := ?_) rfl rfl (by kernel_rfl) (by kernel_rfl) (by kernel_rfl) (fun _ _ _ h => h) ⟨by rfl, ?_⟩ hS ?_
  rotate_left
  · intro wq hSw; go_simp; try rfl
  simp only [Act.put, List.setIfInBounds_toArray, List.set_cons_zero, List.set_cons_succ]
  refine take_at 16 (some 83) (v := ?_) rfl rfl (by kernel_rfl) (by kernel_rfl) (by kernel_rfl) (fun _ _ _ h => h) ⟨by rfl, ?_⟩ hS ?_
  rotate_left
  · intro wq hSw; obtain ⟨y0, y1, y2, y3, y4, y5, y6, y7⟩ := hSw; go_simp; try rfl
  simp only [Act.put, List.setIfInBounds_toArray, List.set_cons_zero, List.set_cons_succ]
  refine take_at 17 (some 84) (v := ?_) rfl rfl (by kernel_rfl) (by kernel_rfl) (by kernel_rfl) (fun _ _ _ h => h) ⟨by rfl, ?_⟩ hS ?_
  rotate_left
  · intro wq hSw; go_simp; try rfl
  simp only [Act.put, List.setIfInBounds_toArray, List.set_cons_zero, List.set_cons_succ]
  refine take_at 18 (some 85) (v := ?_) rfl rfl (by kernel_rfl) (by kernel_rfl) (by kernel_rfl) (fun _ _ _ h => h) ⟨by rfl, ?_⟩ hS ?_
  rotate_left
  · intro wq hSw; obtain ⟨y0, y1, y2, y3, y4, y5, y6, y7⟩ := hSw; go_simp; try rfl
  simp only [Act.put, List.setIfInBounds_toArray, List.set_cons_zero, List.set_cons_succ]
  refine take_at 21 (some 88) (v := ?_) rfl rfl (by kernel_rfl) (by kernel_rfl) (by kernel_rfl) (fun _ _ _ h => h) ⟨by rfl, ?_⟩ hS ?_
  rotate_left
  · intro wq hSw; go_simp; try rfl
  simp only [Act.put, List.setIfInBounds_toArray, List.set_cons_zero, List.set_cons_succ]
  refine take_at 22 (some 89) (v := ?_) rfl rfl (by kernel_rfl) (by kernel_rfl) (by kernel_rfl) (fun _ _ _ h => h) ⟨by rfl, ?_⟩ hS ?_
  rotate_left
  · intro wq hSw; obtain ⟨y0, y1, y2, y3, y4, y5, y6, y7⟩ := hSw; go_simp; try rfl
  simp only [Act.put, List.setIfInBounds_toArray, List.set_cons_zero, List.set_cons_succ]
  refine wpAnyH_ready (rs := [19]) (by kernel_rfl) (by simp) ?_
  refine AllReadyH.cons rfl (fun K hK => ?_) AllReadyH.nil
  go_simp
  (try go_wp2_with fail)
  refine hK.out _ _ ⟨(Rb.out.below (alloc_below _ _)).get 2 _ rfl, (Rb.out.below (alloc_below _ _)).get 3 _ rfl, (Rb.out.below (alloc_below _ _)).get 4 _ rfl, (Rb.out.below (alloc_below _ _)).get 5 _ rfl, (Rb.out.below (alloc_below _ _)).get 6 _ rfl, (Rb.out.below (alloc_below _ _)).get 7 _ rfl, (Rb.out.below (alloc_below _ _)).get 8 _ rfl, (Db.out.below (alloc_below _ _)).get 0 _ rfl⟩ (fun hS => ?_)
  clear hK K
  (try simp only [Act.put, List.setIfInBounds_toArray, List.set_cons_zero, List.set_cons_succ])
  refine wpAnyH_ready (rs := [20]) (by kernel_rfl) (by simp) ?_
  refine AllReadyH.cons rfl (fun K hK => ?_) AllReadyH.nil
  go_simp
  go_wp2_with fail
  refine (rPutN [tn, pn, wpn, win, spn, sin, idn] PS.out (Nat.le_refl _) (by first | rfl | simp) (by have := HR.out; simp <;> omega) (by have := HLL.out; simp <;> omega) rfl).mono ?_
  rintro e w5 ⟨v5, rfl, p5, PSn⟩
  replace Rb := hide (Rb.out.next p5)
  replace Db := hide (Db.out.next p5)
  have PS := hide PSn
  clear p5 PSn
  go_wp2_with fail
  refine hK.out _ _ ⟨Rb.out.get 2 _ rfl, Rb.out.get 3 _ rfl, Rb.out.get 4 _ rfl, Rb.out.get 5 _ rfl, Rb.out.get 6 _ rfl, Rb.out.get 7 _ rfl, Rb.out.get 8 _ rfl, Db.out.get 0 _ rfl⟩ (fun hS => ?_)
  clear hK K
  (try simp only [Act.put, List.setIfInBounds_toArray, List.set_cons_zero, List.set_cons_succ])
  refine wpAnyH_ready (rs := [23]) (by kernel_rfl) (by simp) ?_
  refine AllReadyH.cons rfl (fun K hK => ?_) AllReadyH.nil
  go_simp
  go_wp2_with fail
  refine (rSignN delta PS.out (Nat.le_refl _) HF.out.1 (by simp)).mono ?_
  rintro e w6 ⟨v6, rfl, p6, PSn⟩
  replace Rb := hide (Rb.out.next p6)
  replace Db := hide (Db.out.next p6)
  have PS := hide PSn
  clear p6 PSn
  go_wp2_with fail
  refine hK.out _ _ ⟨Rb.out.get 2 _ rfl, Rb.out.get 3 _ rfl, Rb.out.get 4 _ rfl, Rb.out.get 5 _ rfl, Rb.out.get 6 _ rfl, Rb.out.get 7 _ rfl, Rb.out.get 8 _ rfl, Db.out.get 0 _ rfl⟩ (fun hS => ?_)
  clear hK K
  (try simp only [Act.put, List.setIfInBounds_toArray, List.set_cons_zero, List.set_cons_succ])
  refine take_at 24 (some 2) (v := ?_) rfl rfl (by kernel_rfl) (by kernel_rfl) (by kernel_rfl) (fun _ _ _ h => h) ⟨by rfl, ?_⟩ hS ?_
  rotate_left
  · intro wq hSw; go_simp; try rfl
  simp only [Act.put, List.setIfInBounds_toArray, List.set_cons_zero, List.set_cons_succ]
  refine take_at 25 (some 3) (v := ?_) rfl rfl (by kernel_rfl) (by kernel_rfl) (by kernel_rfl) (fun _ _ _ h => h) ⟨by rfl, ?_⟩ hS ?_
  rotate_left
  · intro wq hSw; go_simp; try rfl
  simp only [Act.put, List.setIfInBounds_toArray, List.set_cons_zero, List.set_cons_succ]
  refine wpAnyH_done (by kernel_rfl) ?_ _
  clear hS
  have bz := bnext b2 (PS.out.st.base (l := []) (Owns.nil _ _ _ _) (Nat.le_refl _)) (Nat.le_refl _)
  have oz := Owns.mono PS.out.st.own b2.size
  simp only [List.nil_append] at oz
  rw [HFIN.out] at oz
  have OZ := hide oz
  clear oz
  go_wp2_with fail
  exact bodyPost_ret (v := .tuple #[v6, .int .i64 0]) (by simp [results, Try.results33, go_sem]) rfl ⟨_, rfl, OZ.out, bz⟩
set_option maxHeartbeats 0 in
theorem rEnc_4 (lsn : Int) (tn pn wpn win spn sin : Nat) (delta : Int) (idn gn : Nat) (lo hi val : Int) (live : List LiveM) (dirty : List DirtyM) (nx : Nat) (la da : Option Addr) (lc dc : Nat) (w : World)
    (hl : Lies w la (liveCs live)) (hd : Lies w da (dirtyCs dirty)) (he : chkE (RecM.mk lsn 4 tn pn wpn win spn sin delta idn gn lo hi val live dirty nx) = 0)
    (hr : tn ≤ 2147483647 ∧ pn ≤ 2147483647 ∧ wpn ≤ 63 ∧ win ≤ 30 ∧ spn ≤ 63 ∧ sin ≤ 83 ∧ idn ≤ 1048576 ∧ gn ≤ 1048576 ∧ nx ≤ 2147483648) (hf : Fits (RecM.mk lsn 4 tn pn wpn win spn sin delta idn gn lo hi val live dirty nx))
    (hli : ∀ l ∈ live, liveIn2 l) (hdi : ∀ l ∈ dirty, dirtyIn2 l) (hll : live.length ≤ 32) (hdl : dirty.length ≤ 16) :
    Calls Try.prog 33 #[.agg #[.int .i64 lsn, .int .i64 4, .int .i64 tn, .int .i64 pn, .int .i64 wpn, .int .i64 win, .int .i64 spn, .int .i64 sin, .int .i64 delta, .int .i64 idn, .int .i64 gn, .int .i64 lo, .int .i64 hi, .int .i64 val, .slice la live.length lc, .slice da dirty.length dc, .int .i64 nx]] w fun e w' => ∃ v, e = .returned (.tuple #[v, .int .i64 0]) ∧ OwnB w' w.heap.size v (bytesR (RecM.mk lsn 4 tn pn wpn win spn sin delta idn gn lo hi val live dirty nx)) ∧ Below w.heap.size w w' := by
  obtain ⟨f1, f2, f3, f4⟩ := hf
  simp only at f1 f2 f3 f4
  have fC : ∀ w, Lies w la (liveCs live) → Lies w da (dirtyCs dirty) → Calls Try.prog 34 #[.agg #[.int .i64 lsn, .int .i64 4, .int .i64 tn, .int .i64 pn, .int .i64 wpn, .int .i64 win, .int .i64 spn, .int .i64 sin, .int .i64 delta, .int .i64 idn, .int .i64 gn, .int .i64 lo, .int .i64 hi, .int .i64 val, .slice la live.length lc, .slice da dirty.length dc, .int .i64 nx]] w fun e w' => e = .returned (.int .i64 0) ∧ Below w.heap.size w w' := by
    intro w a b
    have := rCheck_any (RecM.mk lsn 4 tn pn wpn win spn sin delta idn gn lo hi val live dirty nx) la da lc dc w a b
    rw [he] at this
    exact this
  clear he
  have HFIN : Hid (([4] ++ [tn, pn, wpn, win, spn, sin, idn] ++ [sgn delta]).flatMap form = bytesR (RecM.mk lsn 4 tn pn wpn win spn sin delta idn gn lo hi val live dirty nx)) := by
    unfold Hid bytesR nums
    congr 1 <;> simp [show hTx 4 = true from rfl, show hPrev 4 = true from rfl, show hCtr 4 = true from rfl, show hFirst 4 = false from rfl, show hDelta 4 = true from rfl, show hPts 4 = false from rfl, firstNs, pointsNs]
  generalize bytesR (RecM.mk lsn 4 tn pn wpn win spn sin delta idn gn lo hi val live dirty nx) = fin at *
  have HL := hide hl
  have HD := hide hd
  have HLI := hide hli
  have HDI := hide hdi
  have HF := hide (And.intro f1 (And.intro f2 (And.intro f3 f4)))
  have HR := hide hr
  have HLL := hide (And.intro hll hdl)
  clear hl hd hli hdi f1 f2 f3 f4 hr hll hdl
  go_enter Try.func33, Try.ntmps33
  go_upto_region 1 with fail
  generalize hw0 : w.alloc (.cells #[.int .i64 lsn, .int .i64 4, .int .i64 tn, .int .i64 pn, .int .i64 wpn, .int .i64 win, .int .i64 spn, .int .i64 sin, .int .i64 delta, .int .i64 idn, .int .i64 gn, .int .i64 lo, .int .i64 hi, .int .i64 val, .slice la live.length lc, .slice da dirty.length dc, .int .i64 nx] 36) = w0
  have b0 : Below w.heap.size w w0 := by rw [← hw0]; exact alloc_below _ _
  have RB : Hid (RBox w0 w.heap.size 36 #[.int .i64 lsn, .int .i64 4, .int .i64 tn, .int .i64 pn, .int .i64 wpn, .int .i64 win, .int .i64 spn, .int .i64 sin, .int .i64 delta, .int .i64 idn, .int .i64 gn, .int .i64 lo, .int .i64 hi, .int .i64 val, .slice la live.length lc, .slice da dirty.length dc, .int .i64 nx]) := by rw [← hw0]; exact RBox.new _ _ _
  clear hw0
  generalize Value.agg #[.int .i64 lsn, .int .i64 4, .int .i64 tn, .int .i64 pn, .int .i64 wpn, .int .i64 win, .int .i64 spn, .int .i64 sin, .int .i64 delta, .int .i64 idn, .int .i64 gn, .int .i64 lo, .int .i64 hi, .int .i64 val, .slice la live.length lc, .slice da dirty.length dc, .int .i64 nx] = ra
  go_wp2_with (refine wpList_load36g RB.out rfl rfl rfl ?_)
  refine (fC _ (HL.out.below b0) (HD.out.below b0)).mono ?_
  rintro e w1 ⟨rfl, b1⟩
  have b2 := bnext b0 b1 (Nat.le_refl _)
  have Rb : Hid (Bq w1 (.slice none 0 0) w.heap.size [.int .i64 lsn, .int .i64 4, .int .i64 tn, .int .i64 pn, .int .i64 wpn, .int .i64 win, .int .i64 spn, .int .i64 sin, .int .i64 delta, .int .i64 idn, .int .i64 gn, .int .i64 lo, .int .i64 hi, .int .i64 val, .slice la live.length lc, .slice da dirty.length dc, .int .i64 nx]) := hide ⟨(RB.out.below b1).cells, fun q => by cases q⟩
  have PS : Hid (NSt w1.heap.size w1 (.slice none 0 0) w1 (.slice none 0 0) []) := hide ⟨PSt.start (Owns.nil _ _ _ _), by simp⟩
  clear RB b0 b1 fC
  have c1 := Rb.out.get 1 _ rfl
  go_wp2_with fail
  refine (rPutN [4] PS.out (Nat.le_refl _) (by first | rfl | simp) (by simp) (by have := HLL.out; simp <;> omega) rfl).mono ?_
  clear c1
  rintro e w2 ⟨v2, rfl, p2, PSn⟩
  replace Rb := hide (Rb.out.next p2)
  have PS := hide PSn
  clear p2 PSn
  have c1 := Rb.out.get 1 _ rfl
  have c9 := Rb.out.get 9 _ rfl
  have c10 := Rb.out.get 10 _ rfl
  have c11 := Rb.out.get 11 _ rfl
  have c12 := Rb.out.get 12 _ rfl
  have c13 := Rb.out.get 13 _ rfl
  go_upto_region 6 with fail
  clear c1 c9 c10 c11 c12 c13
  generalize hw3 : w2.alloc (.cells #[.int .i64 idn, .int .i64 gn, .int .i64 lo, .int .i64 hi, .int .i64 val] 30) = w3
  have b3 : Below w2.heap.size w2 w3 := by rw [← hw3]; exact alloc_below _ _
  have Db : Hid (Bq w3 v2 w2.heap.size [.int .i64 idn, .int .i64 gn, .int .i64 lo, .int .i64 hi, .int .i64 val]) := by rw [← hw3]; exact Bq.new PS.out.st.own #[.int .i64 idn, .int .i64 gn, .int .i64 lo, .int .i64 hi, .int .i64 val] 30
  replace Rb := hide (Rb.out.below b3)
  replace PS := hide (PS.out.below b3)
  clear hw3 b3
  have c1 := Rb.out.get 1 _ rfl
  go_upto_region 14 with fail
  clear c1
  go_upto_region 14 with fail
  have FX := hide (show w3.cell? ⟨w.heap.size, 2, none⟩ = some (.int .i64 tn) ∧ w3.cell? ⟨w.heap.size, 3, none⟩ = some (.int .i64 pn) ∧ w3.cell? ⟨w.heap.size, 4, none⟩ = some (.int .i64 wpn) ∧ w3.cell? ⟨w.heap.size, 5, none⟩ = some (.int .i64 win) ∧ w3.cell? ⟨w.heap.size, 6, none⟩ = some (.int .i64 spn) ∧ w3.cell? ⟨w.heap.size, 7, none⟩ = some (.int .i64 sin) ∧ w3.cell? ⟨w.heap.size, 8, none⟩ = some (.int .i64 delta) ∧ w3.cell? ⟨w2.heap.size, 0, none⟩ = some (.int .i64 idn) from ⟨Rb.out.get 2 _ rfl, Rb.out.get 3 _ rfl, Rb.out.get 4 _ rfl, Rb.out.get 5 _ rfl, Rb.out.get 6 _ rfl, Rb.out.get 7 _ rfl, Rb.out.get 8 _ rfl, Db.out.get 0 _ rfl⟩)
  replace Rb := hide (Rb.out.below (Below.refl _ _).drew)
  replace Db := hide (Db.out.below (Below.refl _ _).drew)
  replace PS := hide (PS.out.below (Below.refl _ _).drew)
  refine wp_region_held_drew (S := fun wq => wq.cell? ⟨w.heap.size, 2, none⟩ = some (.int .i64 tn) ∧ wq.cell? ⟨w.heap.size, 3, none⟩ = some (.int .i64 pn) ∧ wq.cell? ⟨w.heap.size, 4, none⟩ = some (.int .i64 wpn) ∧ wq.cell? ⟨w.heap.size, 5, none⟩ = some (.int .i64 win) ∧ wq.cell? ⟨w.heap.size, 6, none⟩ = some (.int .i64 spn) ∧ wq.cell? ⟨w.heap.size, 7, none⟩ = some (.int .i64 sin) ∧ wq.cell? ⟨w.heap.size, 8, none⟩ = some (.int .i64 delta) ∧ wq.cell? ⟨w2.heap.size, 0, none⟩ = some (.int .i64 idn)) (by kernel_rfl) FX.out (fun hS => ?_)
  generalize w3.drew = w4 at *
  clear FX
  refine take_at 0 (some 67) (v := ?_) rfl rfl (by kernel_rfl) (by kernel_rfl) (by kernel_rfl) (fun _ _ _ h => h) ⟨by rfl, ?_⟩ hS ?_
  rotate_left
  · intro wq hSw; go_simp; try rfl
  simp only [Act.put, List.setIfInBounds_toArray, List.set_cons_zero, List.set_cons_succ]
  refine take_at 1 (some 68) (v := ?_) rfl rfl (by kernel_rfl) (by kernel_rfl) (by kernel_rfl) (fun _ _ _ h => h) ⟨by rfl, ?_⟩ hS ?_
  rotate_left
  · intro wq hSw; go_simp; try rfl
  simp only [Act.put, List.setIfInBounds_toArray, List.set_cons_zero, List.set_cons_succ]
  refine take_at 2 (some 69) (v := ?_) rfl rfl (by kernel_rfl) (by kernel_rfl) (by kernel_rfl) (fun _ _ _ h => h) ⟨by rfl, ?_⟩ hS ?_
  rotate_left
  · intro wq hSw; obtain ⟨y0, y1, y2, y3, y4, y5, y6, y7⟩ := hSw; go_simp; try rfl
  simp only [Act.put, List.setIfInBounds_toArray, List.set_cons_zero, List.set_cons_succ]
  refine take_at 3 (some 70) (v := ?_) rfl rfl (by kernel_rfl) (by kernel_rfl) (by kernel_rfl) (fun _ _ _ h => h) ⟨by rfl, ?_⟩ hS ?_
  rotate_left
  · intro wq hSw; go_simp; try rfl
  simp only [Act.put, List.setIfInBounds_toArray, List.set_cons_zero, List.set_cons_succ]
  refine take_at 4 (some 71) (v := ?_) rfl rfl (by kernel_rfl) (by kernel_rfl) (by kernel_rfl) (fun _ _ _ h => h) ⟨by rfl, ?_⟩ hS ?_
  rotate_left
  · intro wq hSw; obtain ⟨y0, y1, y2, y3, y4, y5, y6, y7⟩ := hSw; go_simp; try rfl
  simp only [Act.put, List.setIfInBounds_toArray, List.set_cons_zero, List.set_cons_succ]
  refine take_at 5 (some 72) (v := ?_) rfl rfl (by kernel_rfl) (by kernel_rfl) (by kernel_rfl) (fun _ _ _ h => h) ⟨by rfl, ?_⟩ hS ?_
  rotate_left
  · intro wq hSw; go_simp; try rfl
  simp only [Act.put, List.setIfInBounds_toArray, List.set_cons_zero, List.set_cons_succ]
  refine take_at 6 (some 73) (v := ?_) rfl rfl (by kernel_rfl) (by kernel_rfl) (by kernel_rfl) (fun _ _ _ h => h) ⟨by rfl, ?_⟩ hS ?_
  rotate_left
  · intro wq hSw; go_simp; try rfl
  simp only [Act.put, List.setIfInBounds_toArray, List.set_cons_zero, List.set_cons_succ]
  refine take_at 7 (some 74) (v := ?_) rfl rfl (by kernel_rfl) (by kernel_rfl) (by kernel_rfl) (fun _ _ _ h => h) ⟨by rfl, ?_⟩ hS ?_
  rotate_left
  · intro wq hSw; obtain ⟨y0, y1, y2, y3, y4, y5, y6, y7⟩ := hSw; go_simp; try rfl
  simp only [Act.put, List.setIfInBounds_toArray, List.set_cons_zero, List.set_cons_succ]
  refine take_at 8 (some 75) (v := ?_) rfl rfl (by kernel_rfl) (by kernel_rfl) (by kernel_rfl) (fun _ _ _ h => h) ⟨by rfl, ?_⟩ hS ?_
  rotate_left
  · intro wq hSw; go_simp; try rfl
  simp only [Act.put, List.setIfInBounds_toArray, List.set_cons_zero, List.set_cons_succ]
  refine take_at 9 (some 76) (v := ?_) rfl rfl (by kernel_rfl) (by kernel_rfl) (by kernel_rfl) (fun _ _ _ h => h) ⟨by rfl, ?_⟩ hS ?_
  rotate_left
  · intro wq hSw; go_simp; try rfl
  simp only [Act.put, List.setIfInBounds_toArray, List.set_cons_zero, List.set_cons_succ]
  refine take_at 10 (some 77) (v := ?_) rfl rfl (by kernel_rfl) (by kernel_rfl) (by kernel_rfl) (fun _ _ _ h => h) ⟨by rfl, ?_⟩ hS ?_
  rotate_left
  · intro wq hSw; obtain ⟨y0, y1, y2, y3, y4, y5, y6, y7⟩ := hSw; go_simp; try rfl
  simp only [Act.put, List.setIfInBounds_toArray, List.set_cons_zero, List.set_cons_succ]
  refine take_at 11 (some 78) (v := ?_) rfl rfl (by kernel_rfl) (by kernel_rfl) (by kernel_rfl) (fun _ _ _ h => h) ⟨by rfl, ?_⟩ hS ?_
  rotate_left
  · intro wq hSw; go_simp; try rfl
  simp only [Act.put, List.setIfInBounds_toArray, List.set_cons_zero, List.set_cons_succ]
  refine take_at 12 (some 79) (v := ?_) rfl rfl (by kernel_rfl) (by kernel_rfl) (by kernel_rfl) (fun _ _ _ h => h) ⟨by rfl, ?_⟩ hS ?_
  rotate_left
  · intro wq hSw; go_simp; try rfl
  simp only [Act.put, List.setIfInBounds_toArray, List.set_cons_zero, List.set_cons_succ]
  refine take_at 13 (some 80) (v := ?_) rfl rfl (by kernel_rfl) (by kernel_rfl) (by kernel_rfl) (fun _ _ _ h => h) ⟨by rfl, ?_⟩ hS ?_
  rotate_left
  · intro wq hSw; obtain ⟨y0, y1, y2, y3, y4, y5, y6, y7⟩ := hSw; go_simp; try rfl
  simp only [Act.put, List.setIfInBounds_toArray, List.set_cons_zero, List.set_cons_succ]
  refine take_at 14 (some 81) (v := ?_) rfl rfl (by kernel_rfl) (by kernel_rfl) (by kernel_rfl) (fun _ _ _ h => h) ⟨by rfl, ?_⟩ hS ?_
  rotate_left
  · intro wq hSw; go_simp; try rfl
  simp only [Act.put, List.setIfInBounds_toArray, List.set_cons_zero, List.set_cons_succ]
  refine take_at 15 (some 82) (v := ?_) rfl rfl (by kernel_rfl) (by kernel_rfl) (by kernel_rfl) (fun _ _ _ h => h) ⟨by rfl, ?_⟩ hS ?_
  rotate_left
  · intro wq hSw; go_simp; try rfl
  simp only [Act.put, List.setIfInBounds_toArray, List.set_cons_zero, List.set_cons_succ]
  refine take_at 16 (some 83) (v := ?_) rfl rfl (by kernel_rfl) (by kernel_rfl) (by kernel_rfl) (fun _ _ _ h => h) ⟨by rfl, ?_⟩ hS ?_
  rotate_left
  · intro wq hSw; obtain ⟨y0, y1, y2, y3, y4, y5, y6, y7⟩ := hSw; go_simp; try rfl
  simp only [Act.put, List.setIfInBounds_toArray, List.set_cons_zero, List.set_cons_succ]
  refine take_at 17 (some 84) (v := ?_) rfl rfl (by kernel_rfl) (by kernel_rfl) (by kernel_rfl) (fun _ _ _ h => h) ⟨by rfl, ?_⟩ hS ?_
  rotate_left
  · intro wq hSw; go_simp; try rfl
  simp only [Act.put, List.setIfInBounds_toArray, List.set_cons_zero, List.set_cons_succ]
  refine take_at 18 (some 85) (v := ?_) rfl rfl (by kernel_rfl) (by kernel_rfl) (by kernel_rfl) (fun _ _ _ h => h) ⟨by rfl, ?_⟩ hS ?_
  rotate_left
  · intro wq hSw; obtain ⟨y0, y1, y2, y3, y4, y5, y6, y7⟩ := hSw; go_simp; try rfl
  simp only [Act.put, List.setIfInBounds_toArray, List.set_cons_zero, List.set_cons_succ]
  refine take_at 21 (some 88) (v := ?_) rfl rfl (by kernel_rfl) (by kernel_rfl) (by kernel_rfl) (fun _ _ _ h => h) ⟨by rfl, ?_⟩ hS ?_
  rotate_left
  · intro wq hSw; go_simp; try rfl
  simp only [Act.put, List.setIfInBounds_toArray, List.set_cons_zero, List.set_cons_succ]
  refine take_at 22 (some 89) (v := ?_) rfl rfl (by kernel_rfl) (by kernel_rfl) (by kernel_rfl) (fun _ _ _ h => h) ⟨by rfl, ?_⟩ hS ?_
  rotate_left
  · intro wq hSw; obtain ⟨y0, y1, y2, y3, y4, y5, y6, y7⟩ := hSw; go_simp; try rfl
  simp only [Act.put, List.setIfInBounds_toArray, List.set_cons_zero, List.set_cons_succ]
  refine wpAnyH_ready (rs := [19]) (by kernel_rfl) (by simp) ?_
  refine AllReadyH.cons rfl (fun K hK => ?_) AllReadyH.nil
  go_simp
  (try go_wp2_with fail)
  refine hK.out _ _ ⟨(Rb.out.below (alloc_below _ _)).get 2 _ rfl, (Rb.out.below (alloc_below _ _)).get 3 _ rfl, (Rb.out.below (alloc_below _ _)).get 4 _ rfl, (Rb.out.below (alloc_below _ _)).get 5 _ rfl, (Rb.out.below (alloc_below _ _)).get 6 _ rfl, (Rb.out.below (alloc_below _ _)).get 7 _ rfl, (Rb.out.below (alloc_below _ _)).get 8 _ rfl, (Db.out.below (alloc_below _ _)).get 0 _ rfl⟩ (fun hS => ?_)
  clear hK K
  (try simp only [Act.put, List.setIfInBounds_toArray, List.set_cons_zero, List.set_cons_succ])
  refine wpAnyH_ready (rs := [20]) (by kernel_rfl) (by simp) ?_
  refine AllReadyH.cons rfl (fun K hK => ?_) AllReadyH.nil
  go_simp
  go_wp2_with fail
  refine (rPutN [tn, pn, wpn, win, spn, sin, idn] PS.out (Nat.le_refl _) (by first | rfl | simp) (by have := HR.out; simp <;> omega) (by have := HLL.out; simp <;> omega) rfl).mono ?_
  rintro e w5 ⟨v5, rfl, p5, PSn⟩
  replace Rb := hide (Rb.out.next p5)
  replace Db := hide (Db.out.next p5)
  have PS := hide PSn
  clear p5 PSn
  go_wp2_with fail
  refine hK.out _ _ ⟨Rb.out.get 2 _ rfl, Rb.out.get 3 _ rfl, Rb.out.get 4 _ rfl, Rb.out.get 5 _ rfl, Rb.out.get 6 _ rfl, Rb.out.get 7 _ rfl, Rb.out.get 8 _ rfl, Db.out.get 0 _ rfl⟩ (fun hS => ?_)
  clear hK K
  (try simp only [Act.put, List.setIfInBounds_toArray, List.set_cons_zero, List.set_cons_succ])
  refine wpAnyH_ready (rs := [23]) (by kernel_rfl) (by simp) ?_
  refine AllReadyH.cons rfl (fun K hK => ?_) AllReadyH.nil
  go_simp
  go_wp2_with fail
  refine (rSignN delta PS.out (Nat.le_refl _) HF.out.1 (by simp)).mono ?_
  rintro e w6 ⟨v6, rfl, p6, PSn⟩
  replace Rb := hide (Rb.out.next p6)
  replace Db := hide (Db.out.next p6)
  have PS := hide PSn
  clear p6 PSn
  go_wp2_with fail
  refine hK.out _ _ ⟨Rb.out.get 2 _ rfl, Rb.out.get 3 _ rfl, Rb.out.get 4 _ rfl, Rb.out.get 5 _ rfl, Rb.out.get 6 _ rfl, Rb.out.get 7 _ rfl, Rb.out.get 8 _ rfl, Db.out.get 0 _ rfl⟩ (fun hS => ?_)
  clear hK K
  (try simp only [Act.put, List.setIfInBounds_toArray, List.set_cons_zero, List.set_cons_succ])
  refine take_at 24 (some 2) (v := ?_) rfl rfl (by kernel_rfl) (by kernel_rfl) (by kernel_rfl) (fun _ _ _ h => h) ⟨by rfl, ?_⟩ hS ?_
  rotate_left
  · intro wq hSw; go_simp; try rfl
  simp only [Act.put, List.setIfInBounds_toArray, List.set_cons_zero, List.set_cons_succ]
  refine take_at 25 (some 3) (v := ?_) rfl rfl (by kernel_rfl) (by kernel_rfl) (by kernel_rfl) (fun _ _ _ h => h) ⟨by rfl, ?_⟩ hS ?_
  rotate_left
  · intro wq hSw; go_simp; try rfl
  simp only [Act.put, List.setIfInBounds_toArray, List.set_cons_zero, List.set_cons_succ]
  refine wpAnyH_done (by kernel_rfl) ?_ _
  clear hS
  have bz := bnext b2 (PS.out.st.base (l := []) (Owns.nil _ _ _ _) (Nat.le_refl _)) (Nat.le_refl _)
  have oz := Owns.mono PS.out.st.own b2.size
  simp only [List.nil_append] at oz
  rw [HFIN.out] at oz
  have OZ := hide oz
  clear oz
  go_wp2_with fail
  exact bodyPost_ret (v := .tuple #[v6, .int .i64 0]) (by simp [results, Try.results33, go_sem]) rfl ⟨_, rfl, OZ.out, bz⟩
end Go.Proofs.Ytlibldioliicfaa
namespace Go.Proofs.Ytlibldioliicfaa
open Go.RowKit Go.QK
set_option maxRecDepth 100000
set_option maxHeartbeats 0 in
theorem rEnc_5 (lsn : Int) (tn pn wpn win spn sin : Nat) (delta : Int) (idn gn : Nat) (lo hi val : Int) (live : List LiveM) (dirty : List DirtyM) (nx : Nat) (la da : Option Addr) (lc dc : Nat) (w : World)
    (hl : Lies w la (liveCs live)) (hd : Lies w da (dirtyCs dirty)) (he : chkE (RecM.mk lsn 5 tn pn wpn win spn sin delta idn gn lo hi val live dirty nx) = 0)
    (hr : tn ≤ 2147483647 ∧ pn ≤ 2147483647 ∧ wpn ≤ 63 ∧ win ≤ 30 ∧ spn ≤ 63 ∧ sin ≤ 83 ∧ idn ≤ 1048576 ∧ gn ≤ 1048576 ∧ nx ≤ 2147483648) (hf : Fits (RecM.mk lsn 5 tn pn wpn win spn sin delta idn gn lo hi val live dirty nx))
    (hli : ∀ l ∈ live, liveIn2 l) (hdi : ∀ l ∈ dirty, dirtyIn2 l) (hll : live.length ≤ 32) (hdl : dirty.length ≤ 16) :
    Calls Try.prog 33 #[.agg #[.int .i64 lsn, .int .i64 5, .int .i64 tn, .int .i64 pn, .int .i64 wpn, .int .i64 win, .int .i64 spn, .int .i64 sin, .int .i64 delta, .int .i64 idn, .int .i64 gn, .int .i64 lo, .int .i64 hi, .int .i64 val, .slice la live.length lc, .slice da dirty.length dc, .int .i64 nx]] w fun e w' => ∃ v, e = .returned (.tuple #[v, .int .i64 0]) ∧ OwnB w' w.heap.size v (bytesR (RecM.mk lsn 5 tn pn wpn win spn sin delta idn gn lo hi val live dirty nx)) ∧ Below w.heap.size w w' := by
  obtain ⟨f1, f2, f3, f4⟩ := hf
  simp only at f1 f2 f3 f4
  have fC : ∀ w, Lies w la (liveCs live) → Lies w da (dirtyCs dirty) → Calls Try.prog 34 #[.agg #[.int .i64 lsn, .int .i64 5, .int .i64 tn, .int .i64 pn, .int .i64 wpn, .int .i64 win, .int .i64 spn, .int .i64 sin, .int .i64 delta, .int .i64 idn, .int .i64 gn, .int .i64 lo, .int .i64 hi, .int .i64 val, .slice la live.length lc, .slice da dirty.length dc, .int .i64 nx]] w fun e w' => e = .returned (.int .i64 0) ∧ Below w.heap.size w w' := by
    intro w a b
    have := rCheck_any (RecM.mk lsn 5 tn pn wpn win spn sin delta idn gn lo hi val live dirty nx) la da lc dc w a b
    rw [he] at this
    exact this
  clear he
  have HFIN : Hid (([5] ++ [tn, pn]).flatMap form = bytesR (RecM.mk lsn 5 tn pn wpn win spn sin delta idn gn lo hi val live dirty nx)) := by
    unfold Hid bytesR nums
    congr 1 <;> simp [show hTx 5 = true from rfl, show hPrev 5 = true from rfl, show hCtr 5 = false from rfl, show hFirst 5 = false from rfl, show hDelta 5 = false from rfl, show hPts 5 = false from rfl, firstNs, pointsNs]
  generalize bytesR (RecM.mk lsn 5 tn pn wpn win spn sin delta idn gn lo hi val live dirty nx) = fin at *
  have HL := hide hl
  have HD := hide hd
  have HLI := hide hli
  have HDI := hide hdi
  have HF := hide (And.intro f1 (And.intro f2 (And.intro f3 f4)))
  have HR := hide hr
  have HLL := hide (And.intro hll hdl)
  clear hl hd hli hdi f1 f2 f3 f4 hr hll hdl
  go_enter Try.func33, Try.ntmps33
  go_upto_region 1 with fail
  generalize hw0 : w.alloc (.cells #[.int .i64 lsn, .int .i64 5, .int .i64 tn, .int .i64 pn, .int .i64 wpn, .int .i64 win, .int .i64 spn, .int .i64 sin, .int .i64 delta, .int .i64 idn, .int .i64 gn, .int .i64 lo, .int .i64 hi, .int .i64 val, .slice la live.length lc, .slice da dirty.length dc, .int .i64 nx] 36) = w0
  have b0 : Below w.heap.size w w0 := by rw [← hw0]; exact alloc_below _ _
  have RB : Hid (RBox w0 w.heap.size 36 #[.int .i64 lsn, .int .i64 5, .int .i64 tn, .int .i64 pn, .int .i64 wpn, .int .i64 win, .int .i64 spn, .int .i64 sin, .int .i64 delta, .int .i64 idn, .int .i64 gn, .int .i64 lo, .int .i64 hi, .int .i64 val, .slice la live.length lc, .slice da dirty.length dc, .int .i64 nx]) := by rw [← hw0]; exact RBox.new _ _ _
  clear hw0
  generalize Value.agg #[.int .i64 lsn, .int .i64 5, .int .i64 tn, .int .i64 pn, .int .i64 wpn, .int .i64 win, .int .i64 spn, .int .i64 sin, .int .i64 delta, .int .i64 idn, .int .i64 gn, .int .i64 lo, .int .i64 hi, .int .i64 val, .slice la live.length lc, .slice da dirty.length dc, .int .i64 nx] = ra
  go_wp2_with (refine wpList_load36g RB.out rfl rfl rfl ?_)
  refine (fC _ (HL.out.below b0) (HD.out.below b0)).mono ?_
  rintro e w1 ⟨rfl, b1⟩
  have b2 := bnext b0 b1 (Nat.le_refl _)
  have Rb : Hid (Bq w1 (.slice none 0 0) w.heap.size [.int .i64 lsn, .int .i64 5, .int .i64 tn, .int .i64 pn, .int .i64 wpn, .int .i64 win, .int .i64 spn, .int .i64 sin, .int .i64 delta, .int .i64 idn, .int .i64 gn, .int .i64 lo, .int .i64 hi, .int .i64 val, .slice la live.length lc, .slice da dirty.length dc, .int .i64 nx]) := hide ⟨(RB.out.below b1).cells, fun q => by cases q⟩
  have PS : Hid (NSt w1.heap.size w1 (.slice none 0 0) w1 (.slice none 0 0) []) := hide ⟨PSt.start (Owns.nil _ _ _ _), by simp⟩
  clear RB b0 b1 fC
  have c1 := Rb.out.get 1 _ rfl
  go_wp2_with fail
  refine (rPutN [5] PS.out (Nat.le_refl _) (by first | rfl | simp) (by simp) (by have := HLL.out; simp <;> omega) rfl).mono ?_
  clear c1
  rintro e w2 ⟨v2, rfl, p2, PSn⟩
  replace Rb := hide (Rb.out.next p2)
  have PS := hide PSn
  clear p2 PSn
  have c1 := Rb.out.get 1 _ rfl
  have c9 := Rb.out.get 9 _ rfl
  have c10 := Rb.out.get 10 _ rfl
  have c11 := Rb.out.get 11 _ rfl
  have c12 := Rb.out.get 12 _ rfl
  have c13 := Rb.out.get 13 _ rfl
  go_upto_region 6 with fail
  clear c1 c9 c10 c11 c12 c13
  generalize hw3 : w2.alloc (.cells #[.int .i64 idn, .int .i64 gn, .int .i64 lo, .int .i64 hi, .int .i64 val] 30) = w3
  have b3 : Below w2.heap.size w2 w3 := by rw [← hw3]; exact alloc_below _ _
  have Db : Hid (Bq w3 v2 w2.heap.size [.int .i64 idn, .int .i64 gn, .int .i64 lo, .int .i64 hi, .int .i64 val]) := by rw [← hw3]; exact Bq.new PS.out.st.own #[.int .i64 idn, .int .i64 gn, .int .i64 lo, .int .i64 hi, .int .i64 val] 30
  replace Rb := hide (Rb.out.below b3)
  replace PS := hide (PS.out.below b3)
  clear hw3 b3
  have c1 := Rb.out.get 1 _ rfl
  have c2 := Rb.out.get 2 _ rfl
  have c3 := Rb.out.get 3 _ rfl
  go_wp2_with fail
  refine (rPutN [tn, pn] PS.out (Nat.le_refl _) (by first | rfl | simp) (by have := HR.out; simp <;> omega) (by have := HLL.out; simp <;> omega) rfl).mono ?_
  clear c1 c2 c3
  rintro e w4 ⟨v4, rfl, p4, PSn⟩
  replace Rb := hide (Rb.out.next p4)
  replace Db := hide (Db.out.next p4)
  have PS := hide PSn
  clear p4 PSn
  have bz := bnext b2 (PS.out.st.base (l := []) (Owns.nil _ _ _ _) (Nat.le_refl _)) (Nat.le_refl _)
  have oz := Owns.mono PS.out.st.own b2.size
  simp only [List.nil_append] at oz
  rw [HFIN.out] at oz
  have OZ := hide oz
  clear oz
  go_wp2_with fail
  exact bodyPost_ret (v := .tuple #[v4, .int .i64 0]) (by simp [results, Try.results33, go_sem]) rfl ⟨_, rfl, OZ.out, bz⟩
set_option maxHeartbeats 0 in
theorem rEnc_6 (lsn : Int) (tn pn wpn win spn sin : Nat) (delta : Int) (idn gn : Nat) (lo hi val : Int) (live : List LiveM) (dirty : List DirtyM) (nx : Nat) (la da : Option Addr) (lc dc : Nat) (w : World)
    (hl : Lies w la (liveCs live)) (hd : Lies w da (dirtyCs dirty)) (he : chkE (RecM.mk lsn 6 tn pn wpn win spn sin delta idn gn lo hi val live dirty nx) = 0)
    (hr : tn ≤ 2147483647 ∧ pn ≤ 2147483647 ∧ wpn ≤ 63 ∧ win ≤ 30 ∧ spn ≤ 63 ∧ sin ≤ 83 ∧ idn ≤ 1048576 ∧ gn ≤ 1048576 ∧ nx ≤ 2147483648) (hf : Fits (RecM.mk lsn 6 tn pn wpn win spn sin delta idn gn lo hi val live dirty nx))
    (hli : ∀ l ∈ live, liveIn2 l) (hdi : ∀ l ∈ dirty, dirtyIn2 l) (hll : live.length ≤ 32) (hdl : dirty.length ≤ 16) :
    Calls Try.prog 33 #[.agg #[.int .i64 lsn, .int .i64 6, .int .i64 tn, .int .i64 pn, .int .i64 wpn, .int .i64 win, .int .i64 spn, .int .i64 sin, .int .i64 delta, .int .i64 idn, .int .i64 gn, .int .i64 lo, .int .i64 hi, .int .i64 val, .slice la live.length lc, .slice da dirty.length dc, .int .i64 nx]] w fun e w' => ∃ v, e = .returned (.tuple #[v, .int .i64 0]) ∧ OwnB w' w.heap.size v (bytesR (RecM.mk lsn 6 tn pn wpn win spn sin delta idn gn lo hi val live dirty nx)) ∧ Below w.heap.size w w' := by
  obtain ⟨f1, f2, f3, f4⟩ := hf
  simp only at f1 f2 f3 f4
  have fC : ∀ w, Lies w la (liveCs live) → Lies w da (dirtyCs dirty) → Calls Try.prog 34 #[.agg #[.int .i64 lsn, .int .i64 6, .int .i64 tn, .int .i64 pn, .int .i64 wpn, .int .i64 win, .int .i64 spn, .int .i64 sin, .int .i64 delta, .int .i64 idn, .int .i64 gn, .int .i64 lo, .int .i64 hi, .int .i64 val, .slice la live.length lc, .slice da dirty.length dc, .int .i64 nx]] w fun e w' => e = .returned (.int .i64 0) ∧ Below w.heap.size w w' := by
    intro w a b
    have := rCheck_any (RecM.mk lsn 6 tn pn wpn win spn sin delta idn gn lo hi val live dirty nx) la da lc dc w a b
    rw [he] at this
    exact this
  clear he
  have HFIN : Hid (([6] ++ [tn, pn]).flatMap form = bytesR (RecM.mk lsn 6 tn pn wpn win spn sin delta idn gn lo hi val live dirty nx)) := by
    unfold Hid bytesR nums
    congr 1 <;> simp [show hTx 6 = true from rfl, show hPrev 6 = true from rfl, show hCtr 6 = false from rfl, show hFirst 6 = false from rfl, show hDelta 6 = false from rfl, show hPts 6 = false from rfl, firstNs, pointsNs]
  generalize bytesR (RecM.mk lsn 6 tn pn wpn win spn sin delta idn gn lo hi val live dirty nx) = fin at *
  have HL := hide hl
  have HD := hide hd
  have HLI := hide hli
  have HDI := hide hdi
  have HF := hide (And.intro f1 (And.intro f2 (And.intro f3 f4)))
  have HR := hide hr
  have HLL := hide (And.intro hll hdl)
  clear hl hd hli hdi f1 f2 f3 f4 hr hll hdl
  go_enter Try.func33, Try.ntmps33
  go_upto_region 1 with fail
  generalize hw0 : w.alloc (.cells #[.int .i64 lsn, .int .i64 6, .int .i64 tn, .int .i64 pn, .int .i64 wpn, .int .i64 win, .int .i64 spn, .int .i64 sin, .int .i64 delta, .int .i64 idn, .int .i64 gn, .int .i64 lo, .int .i64 hi, .int .i64 val, .slice la live.length lc, .slice da dirty.length dc, .int .i64 nx] 36) = w0
  have b0 : Below w.heap.size w w0 := by rw [← hw0]; exact alloc_below _ _
  have RB : Hid (RBox w0 w.heap.size 36 #[.int .i64 lsn, .int .i64 6, .int .i64 tn, .int .i64 pn, .int .i64 wpn, .int .i64 win, .int .i64 spn, .int .i64 sin, .int .i64 delta, .int .i64 idn, .int .i64 gn, .int .i64 lo, .int .i64 hi, .int .i64 val, .slice la live.length lc, .slice da dirty.length dc, .int .i64 nx]) := by rw [← hw0]; exact RBox.new _ _ _
  clear hw0
  generalize Value.agg #[.int .i64 lsn, .int .i64 6, .int .i64 tn, .int .i64 pn, .int .i64 wpn, .int .i64 win, .int .i64 spn, .int .i64 sin, .int .i64 delta, .int .i64 idn, .int .i64 gn, .int .i64 lo, .int .i64 hi, .int .i64 val, .slice la live.length lc, .slice da dirty.length dc, .int .i64 nx] = ra
  go_wp2_with (refine wpList_load36g RB.out rfl rfl rfl ?_)
  refine (fC _ (HL.out.below b0) (HD.out.below b0)).mono ?_
  rintro e w1 ⟨rfl, b1⟩
  have b2 := bnext b0 b1 (Nat.le_refl _)
  have Rb : Hid (Bq w1 (.slice none 0 0) w.heap.size [.int .i64 lsn, .int .i64 6, .int .i64 tn, .int .i64 pn, .int .i64 wpn, .int .i64 win, .int .i64 spn, .int .i64 sin, .int .i64 delta, .int .i64 idn, .int .i64 gn, .int .i64 lo, .int .i64 hi, .int .i64 val, .slice la live.length lc, .slice da dirty.length dc, .int .i64 nx]) := hide ⟨(RB.out.below b1).cells, fun q => by cases q⟩
  have PS : Hid (NSt w1.heap.size w1 (.slice none 0 0) w1 (.slice none 0 0) []) := hide ⟨PSt.start (Owns.nil _ _ _ _), by simp⟩
  clear RB b0 b1 fC
  have c1 := Rb.out.get 1 _ rfl
  go_wp2_with fail
  refine (rPutN [6] PS.out (Nat.le_refl _) (by first | rfl | simp) (by simp) (by have := HLL.out; simp <;> omega) rfl).mono ?_
  clear c1
  rintro e w2 ⟨v2, rfl, p2, PSn⟩
  replace Rb := hide (Rb.out.next p2)
  have PS := hide PSn
  clear p2 PSn
  have c1 := Rb.out.get 1 _ rfl
  have c9 := Rb.out.get 9 _ rfl
  have c10 := Rb.out.get 10 _ rfl
  have c11 := Rb.out.get 11 _ rfl
  have c12 := Rb.out.get 12 _ rfl
  have c13 := Rb.out.get 13 _ rfl
  go_upto_region 6 with fail
  clear c1 c9 c10 c11 c12 c13
  generalize hw3 : w2.alloc (.cells #[.int .i64 idn, .int .i64 gn, .int .i64 lo, .int .i64 hi, .int .i64 val] 30) = w3
  have b3 : Below w2.heap.size w2 w3 := by rw [← hw3]; exact alloc_below _ _
  have Db : Hid (Bq w3 v2 w2.heap.size [.int .i64 idn, .int .i64 gn, .int .i64 lo, .int .i64 hi, .int .i64 val]) := by rw [← hw3]; exact Bq.new PS.out.st.own #[.int .i64 idn, .int .i64 gn, .int .i64 lo, .int .i64 hi, .int .i64 val] 30
  replace Rb := hide (Rb.out.below b3)
  replace PS := hide (PS.out.below b3)
  clear hw3 b3
  have c1 := Rb.out.get 1 _ rfl
  have c2 := Rb.out.get 2 _ rfl
  have c3 := Rb.out.get 3 _ rfl
  go_wp2_with fail
  refine (rPutN [tn, pn] PS.out (Nat.le_refl _) (by first | rfl | simp) (by have := HR.out; simp <;> omega) (by have := HLL.out; simp <;> omega) rfl).mono ?_
  clear c1 c2 c3
  rintro e w4 ⟨v4, rfl, p4, PSn⟩
  replace Rb := hide (Rb.out.next p4)
  replace Db := hide (Db.out.next p4)
  have PS := hide PSn
  clear p4 PSn
  have bz := bnext b2 (PS.out.st.base (l := []) (Owns.nil _ _ _ _) (Nat.le_refl _)) (Nat.le_refl _)
  have oz := Owns.mono PS.out.st.own b2.size
  simp only [List.nil_append] at oz
  rw [HFIN.out] at oz
  have OZ := hide oz
  clear oz
  go_wp2_with fail
  exact bodyPost_ret (v := .tuple #[v4, .int .i64 0]) (by simp [results, Try.results33, go_sem]) rfl ⟨_, rfl, OZ.out, bz⟩
set_option maxHeartbeats 0 in
theorem rEnc_7 (lsn : Int) (tn pn wpn win spn sin : Nat) (delta : Int) (idn gn : Nat) (lo hi val : Int) (live : List LiveM) (dirty : List DirtyM) (nx : Nat) (la da : Option Addr) (lc dc : Nat) (w : World)
    (hl : Lies w la (liveCs live)) (hd : Lies w da (dirtyCs dirty)) (he : chkE (RecM.mk lsn 7 tn pn wpn win spn sin delta idn gn lo hi val live dirty nx) = 0)
    (hr : tn ≤ 2147483647 ∧ pn ≤ 2147483647 ∧ wpn ≤ 63 ∧ win ≤ 30 ∧ spn ≤ 63 ∧ sin ≤ 83 ∧ idn ≤ 1048576 ∧ gn ≤ 1048576 ∧ nx ≤ 2147483648) (hf : Fits (RecM.mk lsn 7 tn pn wpn win spn sin delta idn gn lo hi val live dirty nx))
    (hli : ∀ l ∈ live, liveIn2 l) (hdi : ∀ l ∈ dirty, dirtyIn2 l) (hll : live.length ≤ 32) (hdl : dirty.length ≤ 16) :
    Calls Try.prog 33 #[.agg #[.int .i64 lsn, .int .i64 7, .int .i64 tn, .int .i64 pn, .int .i64 wpn, .int .i64 win, .int .i64 spn, .int .i64 sin, .int .i64 delta, .int .i64 idn, .int .i64 gn, .int .i64 lo, .int .i64 hi, .int .i64 val, .slice la live.length lc, .slice da dirty.length dc, .int .i64 nx]] w fun e w' => ∃ v, e = .returned (.tuple #[v, .int .i64 0]) ∧ OwnB w' w.heap.size v (bytesR (RecM.mk lsn 7 tn pn wpn win spn sin delta idn gn lo hi val live dirty nx)) ∧ Below w.heap.size w w' := by
  obtain ⟨f1, f2, f3, f4⟩ := hf
  simp only at f1 f2 f3 f4
  have fC : ∀ w, Lies w la (liveCs live) → Lies w da (dirtyCs dirty) → Calls Try.prog 34 #[.agg #[.int .i64 lsn, .int .i64 7, .int .i64 tn, .int .i64 pn, .int .i64 wpn, .int .i64 win, .int .i64 spn, .int .i64 sin, .int .i64 delta, .int .i64 idn, .int .i64 gn, .int .i64 lo, .int .i64 hi, .int .i64 val, .slice la live.length lc, .slice da dirty.length dc, .int .i64 nx]] w fun e w' => e = .returned (.int .i64 0) ∧ Below w.heap.size w w' := by
    intro w a b
    have := rCheck_any (RecM.mk lsn 7 tn pn wpn win spn sin delta idn gn lo hi val live dirty nx) la da lc dc w a b
    rw [he] at this
    exact this
  clear he
  have HFIN : Hid (([7] ++ [tn, pn]).flatMap form = bytesR (RecM.mk lsn 7 tn pn wpn win spn sin delta idn gn lo hi val live dirty nx)) := by
    unfold Hid bytesR nums
    congr 1 <;> simp [show hTx 7 = true from rfl, show hPrev 7 = true from rfl, show hCtr 7 = false from rfl, show hFirst 7 = false from rfl, show hDelta 7 = false from rfl, show hPts 7 = false from rfl, firstNs, pointsNs]
  generalize bytesR (RecM.mk lsn 7 tn pn wpn win spn sin delta idn gn lo hi val live dirty nx) = fin at *
  have HL := hide hl
  have HD := hide hd
  have HLI := hide hli
  have HDI := hide hdi
  have HF := hide (And.intro f1 (And.intro f2 (And.intro f3 f4)))
  have HR := hide hr
  have HLL := hide (And.intro hll hdl)
  clear hl hd hli hdi f1 f2 f3 f4 hr hll hdl
  go_enter Try.func33, Try.ntmps33
  go_upto_region 1 with fail
  generalize hw0 : w.alloc (.cells #[.int .i64 lsn, .int .i64 7, .int .i64 tn, .int .i64 pn, .int .i64 wpn, .int .i64 win, .int .i64 spn, .int .i64 sin, .int .i64 delta, .int .i64 idn, .int .i64 gn, .int .i64 lo, .int .i64 hi, .int .i64 val, .slice la live.length lc, .slice da dirty.length dc, .int .i64 nx] 36) = w0
  have b0 : Below w.heap.size w w0 := by rw [← hw0]; exact alloc_below _ _
  have RB : Hid (RBox w0 w.heap.size 36 #[.int .i64 lsn, .int .i64 7, .int .i64 tn, .int .i64 pn, .int .i64 wpn, .int .i64 win, .int .i64 spn, .int .i64 sin, .int .i64 delta, .int .i64 idn, .int .i64 gn, .int .i64 lo, .int .i64 hi, .int .i64 val, .slice la live.length lc, .slice da dirty.length dc, .int .i64 nx]) := by rw [← hw0]; exact RBox.new _ _ _
  clear hw0
  generalize Value.agg #[.int .i64 lsn, .int .i64 7, .int .i64 tn, .int .i64 pn, .int .i64 wpn, .int .i64 win, .int .i64 spn, .int .i64 sin, .int .i64 delta, .int .i64 idn, .int .i64 gn, .int .i64 lo, .int .i64 hi, .int .i64 val, .slice la live.length lc, .slice da dirty.length dc, .int .i64 nx] = ra
  go_wp2_with (refine wpList_load36g RB.out rfl rfl rfl ?_)
  refine (fC _ (HL.out.below b0) (HD.out.below b0)).mono ?_
  rintro e w1 ⟨rfl, b1⟩
  have b2 := bnext b0 b1 (Nat.le_refl _)
  have Rb : Hid (Bq w1 (.slice none 0 0) w.heap.size [.int .i64 lsn, .int .i64 7, .int .i64 tn, .int .i64 pn, .int .i64 wpn, .int .i64 win, .int .i64 spn, .int .i64 sin, .int .i64 delta, .int .i64 idn, .int .i64 gn, .int .i64 lo, .int .i64 hi, .int .i64 val, .slice la live.length lc, .slice da dirty.length dc, .int .i64 nx]) := hide ⟨(RB.out.below b1).cells, fun q => by cases q⟩
  have PS : Hid (NSt w1.heap.size w1 (.slice none 0 0) w1 (.slice none 0 0) []) := hide ⟨PSt.start (Owns.nil _ _ _ _), by simp⟩
  clear RB b0 b1 fC
  have c1 := Rb.out.get 1 _ rfl
  go_wp2_with fail
  refine (rPutN [7] PS.out (Nat.le_refl _) (by first | rfl | simp) (by simp) (by have := HLL.out; simp <;> omega) rfl).mono ?_
  clear c1
  rintro e w2 ⟨v2, rfl, p2, PSn⟩
  replace Rb := hide (Rb.out.next p2)
  have PS := hide PSn
  clear p2 PSn
  have c1 := Rb.out.get 1 _ rfl
  have c9 := Rb.out.get 9 _ rfl
  have c10 := Rb.out.get 10 _ rfl
  have c11 := Rb.out.get 11 _ rfl
  have c12 := Rb.out.get 12 _ rfl
  have c13 := Rb.out.get 13 _ rfl
  go_upto_region 6 with fail
  clear c1 c9 c10 c11 c12 c13
  generalize hw3 : w2.alloc (.cells #[.int .i64 idn, .int .i64 gn, .int .i64 lo, .int .i64 hi, .int .i64 val] 30) = w3
  have b3 : Below w2.heap.size w2 w3 := by rw [← hw3]; exact alloc_below _ _
  have Db : Hid (Bq w3 v2 w2.heap.size [.int .i64 idn, .int .i64 gn, .int .i64 lo, .int .i64 hi, .int .i64 val]) := by rw [← hw3]; exact Bq.new PS.out.st.own #[.int .i64 idn, .int .i64 gn, .int .i64 lo, .int .i64 hi, .int .i64 val] 30
  replace Rb := hide (Rb.out.below b3)
  replace PS := hide (PS.out.below b3)
  clear hw3 b3
  have c1 := Rb.out.get 1 _ rfl
  have c2 := Rb.out.get 2 _ rfl
  have c3 := Rb.out.get 3 _ rfl
  go_wp2_with fail
  refine (rPutN [tn, pn] PS.out (Nat.le_refl _) (by first | rfl | simp) (by have := HR.out; simp <;> omega) (by have := HLL.out; simp <;> omega) rfl).mono ?_
  clear c1 c2 c3
  rintro e w4 ⟨v4, rfl, p4, PSn⟩
  replace Rb := hide (Rb.out.next p4)
  replace Db := hide (Db.out.next p4)
  have PS := hide PSn
  clear p4 PSn
  have bz := bnext b2 (PS.out.st.base (l := []) (Owns.nil _ _ _ _) (Nat.le_refl _)) (Nat.le_refl _)
  have oz := Owns.mono PS.out.st.own b2.size
  simp only [List.nil_append] at oz
  rw [HFIN.out] at oz
  have OZ := hide oz
  clear oz
  go_wp2_with fail
  exact bodyPost_ret (v := .tuple #[v4, .int .i64 0]) (by simp [results, Try.results33, go_sem]) rfl ⟨_, rfl, OZ.out, bz⟩
end Go.Proofs.Ytlibldioliicfaa
namespace Go.Proofs.Ytlibldioliicfaa
open Go.RowKit Go.QK
set_option maxRecDepth 100000
set_option maxHeartbeats 0 in
theorem rEnc_8 (lsn : Int) (tn pn wpn win spn sin : Nat) (delta : Int) (idn gn : Nat) (lo hi val : Int) (live : List LiveM) (dirty : List DirtyM) (nx : Nat) (la da : Option Addr) (lc dc : Nat) (w : World)
    (hl : Lies w la (liveCs live)) (hd : Lies w da (dirtyCs dirty)) (he : chkE (RecM.mk lsn 8 tn pn wpn win spn sin delta idn gn lo hi val live dirty nx) = 0)
    (hr : tn ≤ 2147483647 ∧ pn ≤ 2147483647 ∧ wpn ≤ 63 ∧ win ≤ 30 ∧ spn ≤ 63 ∧ sin ≤ 83 ∧ idn ≤ 1048576 ∧ gn ≤ 1048576 ∧ nx ≤ 2147483648) (hf : Fits (RecM.mk lsn 8 tn pn wpn win spn sin delta idn gn lo hi val live dirty nx))
    (hli : ∀ l ∈ live, liveIn2 l) (hdi : ∀ l ∈ dirty, dirtyIn2 l) (hll : live.length ≤ 32) (hdl : dirty.length ≤ 16) :
    Calls Try.prog 33 #[.agg #[.int .i64 lsn, .int .i64 8, .int .i64 tn, .int .i64 pn, .int .i64 wpn, .int .i64 win, .int .i64 spn, .int .i64 sin, .int .i64 delta, .int .i64 idn, .int .i64 gn, .int .i64 lo, .int .i64 hi, .int .i64 val, .slice la live.length lc, .slice da dirty.length dc, .int .i64 nx]] w fun e w' => ∃ v, e = .returned (.tuple #[v, .int .i64 0]) ∧ OwnB w' w.heap.size v (bytesR (RecM.mk lsn 8 tn pn wpn win spn sin delta idn gn lo hi val live dirty nx)) ∧ Below w.heap.size w w' := by
  obtain ⟨f1, f2, f3, f4⟩ := hf
  simp only at f1 f2 f3 f4
  have fC : ∀ w, Lies w la (liveCs live) → Lies w da (dirtyCs dirty) → Calls Try.prog 34 #[.agg #[.int .i64 lsn, .int .i64 8, .int .i64 tn, .int .i64 pn, .int .i64 wpn, .int .i64 win, .int .i64 spn, .int .i64 sin, .int .i64 delta, .int .i64 idn, .int .i64 gn, .int .i64 lo, .int .i64 hi, .int .i64 val, .slice la live.length lc, .slice da dirty.length dc, .int .i64 nx]] w fun e w' => e = .returned (.int .i64 0) ∧ Below w.heap.size w w' := by
    intro w a b
    have := rCheck_any (RecM.mk lsn 8 tn pn wpn win spn sin delta idn gn lo hi val live dirty nx) la da lc dc w a b
    rw [he] at this
    exact this
  clear he
  have HFIN : Hid (([8] ++ [nx, live.length] ++ live.flatMap liveNs ++ [dirty.length] ++ dirty.flatMap dirtyNs).flatMap form = bytesR (RecM.mk lsn 8 tn pn wpn win spn sin delta idn gn lo hi val live dirty nx)) := by
    unfold Hid bytesR nums
    congr 1 <;> simp [show hTx 8 = false from rfl, show hPrev 8 = false from rfl, show hCtr 8 = false from rfl, show hFirst 8 = false from rfl, show hDelta 8 = false from rfl, show hPts 8 = true from rfl, firstNs, pointsNs]
  generalize bytesR (RecM.mk lsn 8 tn pn wpn win spn sin delta idn gn lo hi val live dirty nx) = fin at *
  have HL := hide hl
  have HD := hide hd
  have HLI := hide hli
  have HDI := hide hdi
  have HF := hide (And.intro f1 (And.intro f2 (And.intro f3 f4)))
  have HR := hide hr
  have HLL := hide (And.intro hll hdl)
  clear hl hd hli hdi f1 f2 f3 f4 hr hll hdl
  go_enter Try.func33, Try.ntmps33
  go_upto_region 1 with fail
  generalize hw0 : w.alloc (.cells #[.int .i64 lsn, .int .i64 8, .int .i64 tn, .int .i64 pn, .int .i64 wpn, .int .i64 win, .int .i64 spn, .int .i64 sin, .int .i64 delta, .int .i64 idn, .int .i64 gn, .int .i64 lo, .int .i64 hi, .int .i64 val, .slice la live.length lc, .slice da dirty.length dc, .int .i64 nx] 36) = w0
  have b0 : Below w.heap.size w w0 := by rw [← hw0]; exact alloc_below _ _
  have RB : Hid (RBox w0 w.heap.size 36 #[.int .i64 lsn, .int .i64 8, .int .i64 tn, .int .i64 pn, .int .i64 wpn, .int .i64 win, .int .i64 spn, .int .i64 sin, .int .i64 delta, .int .i64 idn, .int .i64 gn, .int .i64 lo, .int .i64 hi, .int .i64 val, .slice la live.length lc, .slice da dirty.length dc, .int .i64 nx]) := by rw [← hw0]; exact RBox.new _ _ _
  clear hw0
  generalize Value.agg #[.int .i64 lsn, .int .i64 8, .int .i64 tn, .int .i64 pn, .int .i64 wpn, .int .i64 win, .int .i64 spn, .int .i64 sin, .int .i64 delta, .int .i64 idn, .int .i64 gn, .int .i64 lo, .int .i64 hi, .int .i64 val, .slice la live.length lc, .slice da dirty.length dc, .int .i64 nx] = ra
  go_wp2_with (refine wpList_load36g RB.out rfl rfl rfl ?_)
  refine (fC _ (HL.out.below b0) (HD.out.below b0)).mono ?_
  rintro e w1 ⟨rfl, b1⟩
  have b2 := bnext b0 b1 (Nat.le_refl _)
  have Rb : Hid (Bq w1 (.slice none 0 0) w.heap.size [.int .i64 lsn, .int .i64 8, .int .i64 tn, .int .i64 pn, .int .i64 wpn, .int .i64 win, .int .i64 spn, .int .i64 sin, .int .i64 delta, .int .i64 idn, .int .i64 gn, .int .i64 lo, .int .i64 hi, .int .i64 val, .slice la live.length lc, .slice da dirty.length dc, .int .i64 nx]) := hide ⟨(RB.out.below b1).cells, fun q => by cases q⟩
  have PS : Hid (NSt w1.heap.size w1 (.slice none 0 0) w1 (.slice none 0 0) []) := hide ⟨PSt.start (Owns.nil _ _ _ _), by simp⟩
  clear RB b0 b1 fC
  have c1 := Rb.out.get 1 _ rfl
  go_wp2_with fail
  refine (rPutN [8] PS.out (Nat.le_refl _) (by first | rfl | simp) (by simp) (by have := HLL.out; simp <;> omega) rfl).mono ?_
  clear c1
  rintro e w2 ⟨v2, rfl, p2, PSn⟩
  replace Rb := hide (Rb.out.next p2)
  have PS := hide PSn
  clear p2 PSn
  have c1 := Rb.out.get 1 _ rfl
  have c9 := Rb.out.get 9 _ rfl
  have c10 := Rb.out.get 10 _ rfl
  have c11 := Rb.out.get 11 _ rfl
  have c12 := Rb.out.get 12 _ rfl
  have c13 := Rb.out.get 13 _ rfl
  go_upto_region 6 with fail
  clear c1 c9 c10 c11 c12 c13
  generalize hw3 : w2.alloc (.cells #[.int .i64 idn, .int .i64 gn, .int .i64 lo, .int .i64 hi, .int .i64 val] 30) = w3
  have b3 : Below w2.heap.size w2 w3 := by rw [← hw3]; exact alloc_below _ _
  have Db : Hid (Bq w3 v2 w2.heap.size [.int .i64 idn, .int .i64 gn, .int .i64 lo, .int .i64 hi, .int .i64 val]) := by rw [← hw3]; exact Bq.new PS.out.st.own #[.int .i64 idn, .int .i64 gn, .int .i64 lo, .int .i64 hi, .int .i64 val] 30
  replace Rb := hide (Rb.out.below b3)
  replace PS := hide (PS.out.below b3)
  clear hw3 b3
  have c1 := Rb.out.get 1 _ rfl
  have c14 := Rb.out.get 14 _ rfl
  have c16 := Rb.out.get 16 _ rfl
  go_wp2_with fail
  refine (rPutN [nx, live.length] PS.out (Nat.le_refl _) (by first | rfl | simp) (by have := HR.out; have := HLL.out; simp <;> omega) (by have := HLL.out; simp <;> omega) rfl).mono ?_
  clear c1 c14 c16
  rintro e w4 ⟨v4, rfl, p4, PSn⟩
  replace Rb := hide (Rb.out.next p4)
  replace Db := hide (Db.out.next p4)
  have PS := hide PSn
  clear p4 PSn
  have hll := HLL.out.1
  have hdl := HLL.out.2
  have c14 := Rb.out.get 14 _ rfl
  go_wp2_with fail
  clear c14
  go_loopw [7, 5] (fun i u wr => ∃ (k : Nat), i = .int .i64 (k : Int) ∧ k ≤ live.length ∧ NSt w1.heap.size w1 (.slice none 0 0) wr u ([] ++ [8] ++ [nx, live.length] ++ (live.take k).flatMap liveNs) ∧ Bq wr u w.heap.size [.int .i64 lsn, .int .i64 8, .int .i64 tn, .int .i64 pn, .int .i64 wpn, .int .i64 win, .int .i64 spn, .int .i64 sin, .int .i64 delta, .int .i64 idn, .int .i64 gn, .int .i64 lo, .int .i64 hi, .int .i64 val, .slice la live.length lc, .slice da dirty.length dc, .int .i64 nx]) (fun i _ _ => (live.length + 1 - (intOf i).toNat))
  case atStart => exact ⟨0, rfl, Nat.zero_le _, by simpa using PS.out, Rb.out⟩
  case round =>
    clear PS Rb Db
    obtain ⟨k, rfl, hk, hN, hR⟩ := hrel
    have PS := hide hN
    have Rb := hide hR
    clear hN hR
    have c14 := Rb.out.get 14 _ rfl
    have c15 := Rb.out.get 15 _ rfl
    have hlen : ((live.take k).flatMap liveNs).length ≤ 96 := by
      rw [ns_len liveNs 3 (fun _ => rfl), List.length_take]
      omega
    have HLN := hide hlen
    clear hlen
    by_cases hlt : k < live.length
    · have hg1 : decide ((k : Int) < (live.length : Int)) = true := by simp; omega
      have bL := bnext b2 (PS.out.st.base (l := []) (Owns.nil _ _ _ _) (Nat.le_refl _)) (Nat.le_refl _)
      obtain ⟨b, off, rfl, hbl, k0, k1, k2, k3⟩ := (HL.out.below bL).liveAt k hlt
      have hin := HLI.out _ (List.getElem_mem hlt)
      have HE := hide (take_more liveNs live k hlt)
      obtain ⟨l, hlx⟩ : ∃ l, live[k] = l := ⟨_, rfl⟩
      rw [hlx] at k0 k1 k2 k3 hin HE
      obtain ⟨x, y, p, q⟩ := l
      clear hlx bL
      obtain ⟨i1, i2, i3, i4, i5⟩ := hin
      simp only at i1 i2 i3 i4 i5 k0 k1 k2 k3
      obtain ⟨xn, rfl⟩ := Int.eq_ofNat_of_zero_le (show 0 ≤ x by omega)
      obtain ⟨yn, rfl⟩ := Int.eq_ofNat_of_zero_le (show 0 ≤ y by omega)
      have HI := hide (And.intro i2 i4)
      have I5 := hide i5
      clear i1 i2 i3 i4 i5
      cases p
      · cases q
        · have HE2 : Hid ((live.take (k + 1)).flatMap liveNs = (live.take k).flatMap liveNs ++ [xn, yn, 0]) := hide (by rw [HE.out]; rfl)
          go_upto_region 24 with fail
          generalize hwx : wr.alloc (.cells #[.int .i64 xn, .int .i64 yn, .bool false, .bool false] 63) = wx
          have bx : Below wr.heap.size wr wx := by rw [← hwx]; exact alloc_below _ _
          have Xb : Hid (Cells wx wr.heap.size [.int .i64 xn, .int .i64 yn, .bool false, .bool false]) := by rw [← hwx]; exact Cells.new _ _ _
          replace Rb := hide (Rb.out.below bx)
          replace PS := hide (PS.out.below bx)
          clear hwx bx k0 k1 k2 k3 c14 c15
          have x0 := (Xb.out.get 0 _ rfl).1
          have x1 := (Xb.out.get 1 _ rfl).1
          have x2 := (Xb.out.get 2 _ rfl).1
          have x3 := (Xb.out.get 3 _ rfl).1
          go_wp2_with fail
          refine (rPutN [xn, yn, 0] PS.out (Nat.le_refl _) (by first | rfl | simp) (by have := HI.out; simp <;> omega) (by have := HLN.out; simp at this ⊢ <;> omega) rfl).mono ?_
          rintro e wn ⟨vn, rfl, pn', PSn⟩
          rw [List.append_assoc _ ((live.take k).flatMap liveNs), ← HE2.out] at PSn
          replace Rb := hide (Rb.out.next pn')
          have PS := hide PSn
          clear pn' PSn Xb x0 x1 x2 x3
          go_wp2_with fail
          go_roundw
          case rel => exact ⟨k + 1, by go_num, hlt, PS.out, Rb.out⟩
          case measure => simp [intOf]; omega
        · have HE2 : Hid ((live.take (k + 1)).flatMap liveNs = (live.take k).flatMap liveNs ++ [xn, yn, 2]) := hide (by rw [HE.out]; rfl)
          go_upto_region 24 with fail
          generalize hwx : wr.alloc (.cells #[.int .i64 xn, .int .i64 yn, .bool false, .bool true] 63) = wx
          have bx : Below wr.heap.size wr wx := by rw [← hwx]; exact alloc_below _ _
          have Xb : Hid (Cells wx wr.heap.size [.int .i64 xn, .int .i64 yn, .bool false, .bool true]) := by rw [← hwx]; exact Cells.new _ _ _
          replace Rb := hide (Rb.out.below bx)
          replace PS := hide (PS.out.below bx)
          clear hwx bx k0 k1 k2 k3 c14 c15
          have x0 := (Xb.out.get 0 _ rfl).1
          have x1 := (Xb.out.get 1 _ rfl).1
          have x2 := (Xb.out.get 2 _ rfl).1
          have x3 := (Xb.out.get 3 _ rfl).1
          go_wp2_with fail
          refine (rPutN [xn, yn, 2] PS.out (Nat.le_refl _) (by first | rfl | simp) (by have := HI.out; simp <;> omega) (by have := HLN.out; simp at this ⊢ <;> omega) rfl).mono ?_
          rintro e wn ⟨vn, rfl, pn', PSn⟩
          rw [List.append_assoc _ ((live.take k).flatMap liveNs), ← HE2.out] at PSn
          replace Rb := hide (Rb.out.next pn')
          have PS := hide PSn
          clear pn' PSn Xb x0 x1 x2 x3
          go_wp2_with fail
          go_roundw
          case rel => exact ⟨k + 1, by go_num, hlt, PS.out, Rb.out⟩
          case measure => simp [intOf]; omega
      · cases q
        · have HE2 : Hid ((live.take (k + 1)).flatMap liveNs = (live.take k).flatMap liveNs ++ [xn, yn, 1]) := hide (by rw [HE.out]; rfl)
          go_upto_region 24 with fail
          generalize hwx : wr.alloc (.cells #[.int .i64 xn, .int .i64 yn, .bool true, .bool false] 63) = wx
          have bx : Below wr.heap.size wr wx := by rw [← hwx]; exact alloc_below _ _
          have Xb : Hid (Cells wx wr.heap.size [.int .i64 xn, .int .i64 yn, .bool true, .bool false]) := by rw [← hwx]; exact Cells.new _ _ _
          replace Rb := hide (Rb.out.below bx)
          replace PS := hide (PS.out.below bx)
          clear hwx bx k0 k1 k2 k3 c14 c15
          have x0 := (Xb.out.get 0 _ rfl).1
          have x1 := (Xb.out.get 1 _ rfl).1
          have x2 := (Xb.out.get 2 _ rfl).1
          have x3 := (Xb.out.get 3 _ rfl).1
          go_wp2_with fail
          refine (rPutN [xn, yn, 1] PS.out (Nat.le_refl _) (by first | rfl | simp) (by have := HI.out; simp <;> omega) (by have := HLN.out; simp at this ⊢ <;> omega) rfl).mono ?_
          rintro e wn ⟨vn, rfl, pn', PSn⟩
          rw [List.append_assoc _ ((live.take k).flatMap liveNs), ← HE2.out] at PSn
          replace Rb := hide (Rb.out.next pn')
          have PS := hide PSn
          clear pn' PSn Xb x0 x1 x2 x3
          go_wp2_with fail
          go_roundw
          case rel => exact ⟨k + 1, by go_num, hlt, PS.out, Rb.out⟩
          case measure => simp [intOf]; omega
        · exact absurd ⟨rfl, rfl⟩ I5.out
    · have hg1 : decide ((k : Int) < (live.length : Int)) = false := by simp; omega
      have hkk : live.take k = live := List.take_of_length_le (by omega)
      rw [hkk] at PS HLN
      clear hkk
      go_wp2_with fail
      refine (rPutN [dirty.length] PS.out (Nat.le_refl _) (by first | rfl | simp) (by simp <;> omega) (by have := HLN.out; simp at this ⊢ <;> omega) rfl).mono ?_
      rintro e w5 ⟨v5, rfl, p5, PSn⟩
      replace Rb := hide (Rb.out.next p5)
      have PS := hide PSn
      clear p5 PSn c14 c15
      go_wp2_with fail
      go_loopw [10, 5] (fun i u wr => ∃ (k : Nat), i = .int .i64 (k : Int) ∧ k ≤ dirty.length ∧ NSt w1.heap.size w1 (.slice none 0 0) wr u ([] ++ [8] ++ [nx, live.length] ++ live.flatMap liveNs ++ [dirty.length] ++ (dirty.take k).flatMap dirtyNs) ∧ Bq wr u w.heap.size [.int .i64 lsn, .int .i64 8, .int .i64 tn, .int .i64 pn, .int .i64 wpn, .int .i64 win, .int .i64 spn, .int .i64 sin, .int .i64 delta, .int .i64 idn, .int .i64 gn, .int .i64 lo, .int .i64 hi, .int .i64 val, .slice la live.length lc, .slice da dirty.length dc, .int .i64 nx]) (fun i _ _ => (dirty.length + 1 - (intOf i).toNat))
      case atStart => exact ⟨0, rfl, Nat.zero_le _, by simpa using PS.out, Rb.out⟩
      case round =>
        clear PS Rb
        obtain ⟨j, rfl, hj, hN, hR⟩ := hrel
        have PS := hide hN
        have Rb := hide hR
        clear hN hR
        have c15 := Rb.out.get 15 _ rfl
        have hlen : ((dirty.take j).flatMap dirtyNs).length ≤ 32 := by
          rw [ns_len dirtyNs 2 (fun _ => rfl), List.length_take]
          omega
        have HDN := hide hlen
        clear hlen
        by_cases hlt : j < dirty.length
        · have hg2 : decide ((j : Int) < (dirty.length : Int)) = true := by simp; omega
          have bL := bnext b2 (PS.out.st.base (l := []) (Owns.nil _ _ _ _) (Nat.le_refl _)) (Nat.le_refl _)
          obtain ⟨b, off, rfl, hbl, k0, k1⟩ := (HD.out.below bL).dirtyAt j hlt
          have hin := HDI.out _ (List.getElem_mem hlt)
          have HE := hide (take_more dirtyNs dirty j hlt)
          obtain ⟨l, hlx⟩ : ∃ l, dirty[j] = l := ⟨_, rfl⟩
          rw [hlx] at k0 k1 hin HE
          obtain ⟨x, y⟩ := l
          obtain ⟨i1, i2, i3, i4⟩ := hin
          simp only at i1 i2 i3 i4 k0 k1
          obtain ⟨xn, rfl⟩ := Int.eq_ofNat_of_zero_le (show 0 ≤ x by omega)
          obtain ⟨yn, rfl⟩ := Int.eq_ofNat_of_zero_le (show 0 ≤ y by omega)
          have HI := hide (And.intro i2 i4)
          clear i1 i2 i3 i4
          have HE2 : Hid ((dirty.take (j + 1)).flatMap dirtyNs = (dirty.take j).flatMap dirtyNs ++ [xn, yn]) := hide (by rw [HE.out]; rfl)
          have HDx : Hid (∀ w', Below w.heap.size w w' → w'.cell? ⟨b, off + j * 2, none⟩ = some (.int .i64 xn) ∧ w'.cell? ⟨b, off + j * 2 + 1, none⟩ = some (.int .i64 yn)) := hide (fun w' q => by
            obtain ⟨b', off', hb, _, q0, q1⟩ := (HD.out.below q).dirtyAt j hlt
            cases hb
            rw [hlx] at q0 q1
            exact ⟨q0, q1⟩)
          clear hlx k0 k1
          have bq : Hid (Below w.heap.size w wr) := hide bL
          clear bL
          go_upto_region 34 with fail
          clear c15
          have FX := hide (show wr.cell? ⟨w.heap.size, 15, none⟩ = some (.slice (some ⟨b, off, none⟩) dirty.length dc) ∧ wr.cell? ⟨b, off + j * 2, none⟩ = some (.int .i64 xn) ∧ wr.cell? ⟨b, off + j * 2 + 1, none⟩ = some (.int .i64 yn) from ⟨Rb.out.get 15 _ rfl, HDx.out _ bq.out⟩)
          replace Rb := hide (Rb.out.below (Below.refl _ _).drew)
          replace PS := hide (PS.out.below (Below.refl _ _).drew)
          replace bq := hide bq.out.drew
          refine wp_region_held_drew (S := fun wq => wq.cell? ⟨w.heap.size, 15, none⟩ = some (.slice (some ⟨b, off, none⟩) dirty.length dc) ∧ wq.cell? ⟨b, off + j * 2, none⟩ = some (.int .i64 xn) ∧ wq.cell? ⟨b, off + j * 2 + 1, none⟩ = some (.int .i64 yn)) (by kernel_rfl) FX.out (fun hS => ?_)
          generalize wr.drew = we at *
          clear FX
          refine take_at 0 (some 153) (v := ?_) rfl rfl (by kernel_rfl) (by kernel_rfl) (by kernel_rfl) (fun _ _ _ h => h) ⟨by rfl, ?_⟩ hS ?_
          rotate_left
          · intro wq hSw; go_simp; try rfl
          simp only [Act.put, List.setIfInBounds_toArray, List.set_cons_zero, List.set_cons_succ]
          refine take_at 1 (some 154) (v := ?_) rfl rfl (by kernel_rfl) (by kernel_rfl) (by kernel_rfl) (fun _ _ _ h => h) ⟨by rfl, ?_⟩ hS ?_
          rotate_left
          · intro wq hSw; go_simp; try rfl
          simp only [Act.put, List.setIfInBounds_toArray, List.set_cons_zero, List.set_cons_succ]
          refine take_at 2 (some 155) (v := ?_) rfl rfl (by kernel_rfl) (by kernel_rfl) (by kernel_rfl) (fun _ _ _ h => h) ⟨by rfl, ?_⟩ hS ?_
          rotate_left
          · intro wq hSw; go_simp; try rfl
          simp only [Act.put, List.setIfInBounds_toArray, List.set_cons_zero, List.set_cons_succ]
          refine take_at 3 (some 156) (v := ?_) rfl rfl (by kernel_rfl) (by kernel_rfl) (by kernel_rfl) (fun _ _ _ h => h) ⟨by rfl, ?_⟩ hS ?_
          rotate_left
          · intro wq hSw; obtain ⟨y0, y1, y2⟩ := hSw; go_simp; try rfl
          simp only [Act.put, List.setIfInBounds_toArray, List.set_cons_zero, List.set_cons_succ]
          refine take_at 4 (some 157) (v := ?_) rfl rfl (by kernel_rfl) (by kernel_rfl) (by kernel_rfl) (fun _ _ _ h => h) ⟨by rfl, ?_⟩ hS ?_
          rotate_left
          · intro wq hSw; go_simp; try rfl
          simp only [Act.put, List.setIfInBounds_toArray, List.set_cons_zero, List.set_cons_succ]
          refine take_at 5 (some 158) (v := ?_) rfl rfl (by kernel_rfl) (by kernel_rfl) (by kernel_rfl) (fun _ _ _ h => h) ⟨by rfl, ?_⟩ hS ?_
          rotate_left
          · intro wq hSw; go_simp; try rfl
          simp only [Act.put, List.setIfInBounds_toArray, List.set_cons_zero, List.set_cons_succ]
          refine take_at 6 (some 159) (v := ?_) rfl rfl (by kernel_rfl) (by kernel_rfl) (by kernel_rfl) (fun _ _ _ h => h) ⟨by rfl, ?_⟩ hS ?_
          rotate_left
          · intro wq hSw; go_simp; try rfl
          simp only [Act.put, List.setIfInBounds_toArray, List.set_cons_zero, List.set_cons_succ]
          refine take_at 7 (some 160) (v := ?_) rfl rfl (by kernel_rfl) (by kernel_rfl) (by kernel_rfl) (fun _ _ _ h => h) ⟨by rfl, ?_⟩ hS ?_
          rotate_left
          · intro wq hSw; obtain ⟨y0, y1, y2⟩ := hSw; go_simp; try rfl
          simp only [Act.put, List.setIfInBounds_toArray, List.set_cons_zero, List.set_cons_succ]
          refine take_at 8 (some 161) (v := ?_) rfl rfl (by kernel_rfl) (by kernel_rfl) (by kernel_rfl) (fun _ _ _ h => h) ⟨by rfl, ?_⟩ hS ?_
          rotate_left
          · intro wq hSw; go_simp; try rfl
          simp only [Act.put, List.setIfInBounds_toArray, List.set_cons_zero, List.set_cons_succ]
          refine take_at 9 (some 162) (v := ?_) rfl rfl (by kernel_rfl) (by kernel_rfl) (by kernel_rfl) (fun _ _ _ h => h) ⟨by rfl, ?_⟩ hS ?_
          rotate_left
          · intro wq hSw; go_simp; try rfl
          simp only [Act.put, List.setIfInBounds_toArray, List.set_cons_zero, List.set_cons_succ]
          refine take_at 10 (some 163) (v := ?_) rfl rfl (by kernel_rfl) (by kernel_rfl) (by kernel_rfl) (fun _ _ _ h => h) ⟨by rfl, ?_⟩ hS ?_
          rotate_left
          · intro wq hSw; obtain ⟨y0, y1, y2⟩ := hSw; go_simp; try rfl
          simp only [Act.put, List.setIfInBounds_toArray, List.set_cons_zero, List.set_cons_succ]
          refine take_at 11 (some 164) (v := ?_) rfl rfl (by kernel_rfl) (by kernel_rfl) (by kernel_rfl) (fun _ _ _ h => h) ⟨by rfl, ?_⟩ hS ?_
          rotate_left
          · intro wq hSw; go_simp; try rfl
          simp only [Act.put, List.setIfInBounds_toArray, List.set_cons_zero, List.set_cons_succ]
          refine take_at 12 (some 165) (v := ?_) rfl rfl (by kernel_rfl) (by kernel_rfl) (by kernel_rfl) (fun _ _ _ h => h) ⟨by rfl, ?_⟩ hS ?_
          rotate_left
          · intro wq hSw; go_simp; try rfl
          simp only [Act.put, List.setIfInBounds_toArray, List.set_cons_zero, List.set_cons_succ]
          refine take_at 13 (some 166) (v := ?_) rfl rfl (by kernel_rfl) (by kernel_rfl) (by kernel_rfl) (fun _ _ _ h => h) ⟨by rfl, ?_⟩ hS ?_
          rotate_left
          · intro wq hSw; go_simp; try rfl
          simp only [Act.put, List.setIfInBounds_toArray, List.set_cons_zero, List.set_cons_succ]
          refine take_at 14 (some 167) (v := ?_) rfl rfl (by kernel_rfl) (by kernel_rfl) (by kernel_rfl) (fun _ _ _ h => h) ⟨by rfl, ?_⟩ hS ?_
          rotate_left
          · intro wq hSw; obtain ⟨y0, y1, y2⟩ := hSw; go_simp; try rfl
          simp only [Act.put, List.setIfInBounds_toArray, List.set_cons_zero, List.set_cons_succ]
          refine wpAnyH_ready (rs := [15]) (by kernel_rfl) (by simp) ?_
          refine AllReadyH.cons rfl (fun K hK => ?_) AllReadyH.nil
          go_simp
          (try go_wp2_with fail)
          refine hK.out _ _ ⟨(Rb.out.below (alloc_below _ _)).get 15 _ rfl, HDx.out _ (bq.out.trans ((alloc_below _ _).mono bq.out.size))⟩ (fun hS => ?_)
          clear hK K
          (try simp only [Act.put, List.setIfInBounds_toArray, List.set_cons_zero, List.set_cons_succ])
          refine wpAnyH_ready (rs := [16]) (by kernel_rfl) (by simp) ?_
          refine AllReadyH.cons rfl (fun K hK => ?_) AllReadyH.nil
          go_simp
          go_wp2_with fail
          refine (rPutN [xn, yn] PS.out (Nat.le_refl _) (by first | rfl | simp) (by have := HI.out; simp <;> omega) (by have := HLN.out; have := HDN.out; simp at * <;> omega) rfl).mono ?_
          rintro e wn ⟨vn, rfl, pn', PSn⟩
          replace bq := hide (bnext b2 (PSn.st.base (l := []) (Owns.nil _ _ _ _) (Nat.le_refl _)) (Nat.le_refl _))
          rw [List.append_assoc _ ((dirty.take j).flatMap dirtyNs), ← HE2.out] at PSn
          replace Rb := hide (Rb.out.next pn')
          have PS := hide PSn
          clear pn' PSn
          go_wp2_with fail
          refine hK.out _ _ ⟨Rb.out.get 15 _ rfl, HDx.out _ bq.out⟩ (fun hS => ?_)
          clear hK K
          (try simp only [Act.put, List.setIfInBounds_toArray, List.set_cons_zero, List.set_cons_succ])
          refine take_at 17 (some 5) (v := ?_) rfl rfl (by kernel_rfl) (by kernel_rfl) (by kernel_rfl) (fun _ _ _ h => h) ⟨by rfl, ?_⟩ hS ?_
          rotate_left
          · intro wq hSw; go_simp; try rfl
          simp only [Act.put, List.setIfInBounds_toArray, List.set_cons_zero, List.set_cons_succ]
          refine wpAnyH_done (by kernel_rfl) ?_ _
          clear hS
          go_wp2_with fail
          go_roundw
          case rel => exact ⟨j + 1, by go_num, hlt, PS.out, Rb.out⟩
          case measure => simp [intOf]; omega
        · have hg2 : decide ((j : Int) < (dirty.length : Int)) = false := by simp; omega
          have hkk : dirty.take j = dirty := List.take_of_length_le (by omega)
          rw [hkk] at PS
          clear hkk
          have bz := bnext b2 (PS.out.st.base (l := []) (Owns.nil _ _ _ _) (Nat.le_refl _)) (Nat.le_refl _)
          have oz := Owns.mono PS.out.st.own b2.size
          simp only [List.nil_append] at oz
          rw [HFIN.out] at oz
          have OZ := hide oz
          clear oz
          go_wp2_with fail
          exact bodyPost_ret (v := .tuple #[_, .int .i64 0]) (by simp [results, Try.results33, go_sem]) rfl ⟨_, rfl, OZ.out, bz⟩
end Go.Proofs.Ytlibldioliicfaa
namespace Go.Proofs.Ytlibldioliicfaa
open Go.RowKit Go.QK
set_option maxRecDepth 100000
theorem rEncode_any (r : RecM) (la da : Option Addr) (lc dc : Nat) (w : World) (hl : Lies w la (liveCs r.live)) (hd : Lies w da (dirtyCs r.dirty)) (hf : Fits r) :
    Calls Try.prog 33 #[.agg (recC r la lc da dc)] w fun e w' => ∃ v, e = .returned (.tuple #[v, .int .i64 ((chkE r : Nat) : Int)]) ∧ OwnB w' w.heap.size v (encB r) ∧ Below w.heap.size w w' := by
  by_cases he : chkE r = 0
  · have hok := chkE_ok he
    obtain ⟨_, h1, h2, h3, h4, h5, h6, h7, h8, h9, h10, h11, h12, h13⟩ := okB_in hok.2
    obtain ⟨hk1, hk8⟩ := hok.1
    clear hok
    unfold encB
    rw [if_pos he]
    obtain ⟨lsn, kind, tx, prev, wp, wi, sp, si, delta, id, grp, lo, hi, val, live, dirty, next⟩ := r
    simp only at hk1 hk8 h1 h2 h3 h4 h5 h6 h7 h8 h9 h10 h11 h12 h13 hl hd
    obtain ⟨tn, rfl⟩ := Int.eq_ofNat_of_zero_le h1.1
    obtain ⟨pn, rfl⟩ := Int.eq_ofNat_of_zero_le h2.1
    obtain ⟨wpn, rfl⟩ := Int.eq_ofNat_of_zero_le h3.1
    obtain ⟨win, rfl⟩ := Int.eq_ofNat_of_zero_le h4.1
    obtain ⟨spn, rfl⟩ := Int.eq_ofNat_of_zero_le h5.1
    obtain ⟨sin, rfl⟩ := Int.eq_ofNat_of_zero_le h6.1
    obtain ⟨idn, rfl⟩ := Int.eq_ofNat_of_zero_le h7.1
    obtain ⟨gn, rfl⟩ := Int.eq_ofNat_of_zero_le h8.1
    obtain ⟨nx, rfl⟩ := Int.eq_ofNat_of_zero_le h9.1
    have hr : tn ≤ 2147483647 ∧ pn ≤ 2147483647 ∧ wpn ≤ 63 ∧ win ≤ 30 ∧ spn ≤ 63 ∧ sin ≤ 83 ∧ idn ≤ 1048576 ∧ gn ≤ 1048576 ∧ nx ≤ 2147483648 := by omega
    rcases kinds hk1 hk8 with rfl | rfl | rfl | rfl | rfl | rfl | rfl | rfl
    · rw [he]
      exact rEnc_1 lsn tn pn wpn win spn sin delta idn gn lo hi val live dirty nx la da lc dc w hl hd he hr hf h12 h13 h10 h11
    · rw [he]
      exact rEnc_2 lsn tn pn wpn win spn sin delta idn gn lo hi val live dirty nx la da lc dc w hl hd he hr hf h12 h13 h10 h11
    · rw [he]
      exact rEnc_3 lsn tn pn wpn win spn sin delta idn gn lo hi val live dirty nx la da lc dc w hl hd he hr hf h12 h13 h10 h11
    · rw [he]
      exact rEnc_4 lsn tn pn wpn win spn sin delta idn gn lo hi val live dirty nx la da lc dc w hl hd he hr hf h12 h13 h10 h11
    · rw [he]
      exact rEnc_5 lsn tn pn wpn win spn sin delta idn gn lo hi val live dirty nx la da lc dc w hl hd he hr hf h12 h13 h10 h11
    · rw [he]
      exact rEnc_6 lsn tn pn wpn win spn sin delta idn gn lo hi val live dirty nx la da lc dc w hl hd he hr hf h12 h13 h10 h11
    · rw [he]
      exact rEnc_7 lsn tn pn wpn win spn sin delta idn gn lo hi val live dirty nx la da lc dc w hl hd he hr hf h12 h13 h10 h11
    · rw [he]
      exact rEnc_8 lsn tn pn wpn win spn sin delta idn gn lo hi val live dirty nx la da lc dc w hl hd he hr hf h12 h13 h10 h11
  · have c1 := fun w a b => rCheck_any r la da lc dc w a b
    unfold encB
    rw [if_neg he]
    generalize chkE r = er at *
    clear hf
    have HL := hide hl
    have HD := hide hd
    clear hl hd
    have he1 : ¬ ((er : Int) = 0) := by omega
    obtain ⟨lsn, kind, tx, prev, wp, wi, sp, si, delta, id, grp, lo, hi, val, live, dirty, next⟩ := r
    simp only [recC] at *
    go_enter Try.func33, Try.ntmps33
    go_upto_region 1 with fail
    generalize hw0 : w.alloc (.cells #[.int .i64 lsn, .int .i64 kind, .int .i64 tx, .int .i64 prev, .int .i64 wp, .int .i64 wi, .int .i64 sp, .int .i64 si, .int .i64 delta, .int .i64 id, .int .i64 grp, .int .i64 lo, .int .i64 hi, .int .i64 val, .slice la live.length lc, .slice da dirty.length dc, .int .i64 next] 36) = w0
    have b0 : Below w.heap.size w w0 := by rw [← hw0]; exact alloc_below _ _
    have RB : Hid (RBox w0 w.heap.size 36 #[.int .i64 lsn, .int .i64 kind, .int .i64 tx, .int .i64 prev, .int .i64 wp, .int .i64 wi, .int .i64 sp, .int .i64 si, .int .i64 delta, .int .i64 id, .int .i64 grp, .int .i64 lo, .int .i64 hi, .int .i64 val, .slice la live.length lc, .slice da dirty.length dc, .int .i64 next]) := by rw [← hw0]; exact RBox.new _ _ _
    clear hw0
    generalize Value.agg #[.int .i64 lsn, .int .i64 kind, .int .i64 tx, .int .i64 prev, .int .i64 wp, .int .i64 wi, .int .i64 sp, .int .i64 si, .int .i64 delta, .int .i64 id, .int .i64 grp, .int .i64 lo, .int .i64 hi, .int .i64 val, .slice la live.length lc, .slice da dirty.length dc, .int .i64 next] = ra
    go_wp2_with (refine wpList_load36g RB.out rfl rfl rfl ?_)
    refine (c1 _ (HL.out.below b0) (HD.out.below b0)).mono ?_
    rintro e w1 ⟨rfl, b1⟩
    have b2 := bnext b0 b1 (Nat.le_refl _)
    clear b1 c1 b0 RB
    go_wp2_with fail
    exact bodyPost_ret (v := .tuple #[.slice none 0 0, .int .i64 (er : Int)]) (by simp [results, Try.results33, go_sem]) rfl ⟨_, rfl, Owns.nil _ _ _ _, b2⟩
end Go.Proofs.Ytlibldioliicfaa
