import Derived.Test.YtcnlcmdppkdmmaaEc22
namespace Go.Proofs.Ytcnlcmdppkdmmaa
open Go.RowKit Go.QK Quota Go.Maps
set_option maxRecDepth 100000

theorem info50 : (Try.prog.info? 50).map (fun i => (i.zero, i.size, i.bytes)) = some (some (.agg #[.int .i64 0, .int .i64 0]), 2, 16) := by kernel_rfl
theorem wdC_one (z : Int) : ∀ u ∈ wdC z, u.oneCell' = true := by intro u hu; simp [wdC] at hu; rcases hu with rfl | rfl <;> rfl
abbrev valsN (L : Nets) : List Int := L.map Prod.snd
theorem valsN_take (L : Nets) {k : Nat} (h : k < L.length) : valsN (L.take (k + 1)) = valsN (L.take k) ++ [L[k].2] := by
  show (L.take (k + 1)).map Prod.snd = (L.take k).map Prod.snd ++ [L[k].2]
  rw [List.take_succ_eq_append_getElem h, List.map_append]
  rfl
theorem lows_vals (L : Nets) : lows (valsN L) = lowS L ∧ highs (valsN L) = highS L := by
  induction L with
  | nil => exact ⟨rfl, rfl⟩
  | cons p r ih =>
    obtain ⟨a, b⟩ := ih
    simp only [valsN, lowS, highS] at *
    simp only [List.map_cons, lows, highs, sumF, a, b, neg0, pos0]
    split <;> omega
theorem I64.b1 {z : Int} (h : I64 z) : B1 z := by unfold I64 at h; unfold B1; omega

set_option maxHeartbeats 8000000 in
theorem rInterval_any (b : Nat) (e : Esc) (a : Option Addr) (c : Nat) (w : World) (h : RE w b e a c) (hl : e.nets.length ≤ 1500) :
    Calls Try.prog 44 #[ptr b] w fun r w' => r = .returned (rng e.low e.high) ∧ Below w.heap.size w w' := by
  have HR := hide h
  have hbl := h.cells.1
  have hr := h.ok.rng
  have KO := fun v w' => of_any v w'
  have KI1 := fun w' => int_w e.low w' hr.1
  have KI2 := fun w' => int_w e.high w' hr.2.1
  have HA := hide h.ok.all
  have HBs := hide (I64.b1 hr.2.2.2)
  clear h hr
  go_enter Try.func44, Try.ntmps44
  go_wp2_with fail
  go_loopw [4, 3] (fun i o wr => ∃ (k : Nat) (ao : Option Addr) (co : Nat), k ≤ e.nets.length ∧ i = .int .i64 k ∧ o = .slice ao k co ∧ GRow wr (w.heap.size + 1) 50 2 (.slice ao k co) k (rowsC wdC (valsN (e.nets.take k))) ∧ Box wr w.heap.size (.int .i64 0) (.int .i64 0) ∧ Below w.heap.size w wr) (fun i _ _ => e.nets.length - (intOf i).toNat)
  case atStart => exact ⟨0, none, 0, by omega, rfl, rfl, World.ownsRow_nil _ _ _ _, Box.new w _ _ 23, alloc_below _ _⟩
  case round =>
    obtain ⟨k, ao, co, hk, rfl, rfl, hrow, hbx, hb⟩ := hrel
    have hre := HR.out.below hb
    have k3 := hre.c3
    have k2 := hre.c2
    by_cases q : k < e.nets.length
    · obtain ⟨bl, off, rfl, hlt, hcell⟩ := Lies.rowAt netC 2 (fun _ => rfl) hre.row k q (by omega)
      have y1 := hcell 1 _ rfl
      have HK := hide (valsN_take e.nets q)
      have HB := hide hb
      have HX := hide hbx
      have HROW := hide hrow
      have z0 := hbx.1
      clear hcell hb hre hbx hrow
      generalize e.nets[k].2 = pn at *
      go_wp2_with fail
      refine (KO pn _).mono ?_
      rintro r w2 ⟨rfl, h2⟩
      have o3 := h2.alloc h2.size (.cells #[.int .i64 (wh pn), .int .i64 (wl pn)] 50)
      have R2 := hide (GRow.below HROW.out o3)
      have LI := hide (lit_lies w2 #[.int .i64 (wh pn), .int .i64 (wl pn)] 50)
      have HB2 := hide (HB.out.trans (o3.mono HB.out.size))
      have HX2 := hide (HX.out.below o3)
      have sz := h2.size
      clear h2 o3 HROW HB HX k2 k3
      go_wp2_with (at_builtin; refine wpList_appR Try.underlying98 info50 rfl (by decide) (by decide) rfl (.tmp _) (.tmp _) rfl (w.heap.size + 1) _ k _ rfl R2.out (some ⟨w2.heap.size, 0, none⟩) 1 1 (wdC pn) rfl rfl LI.out (wdC_one _) (by nofun) (by omega) (by simp; omega) ?_; intro v' w5 q1 q2 q3; obtain ⟨av, cv, rfl, -, -, -, -, -⟩ := GRow.lies q1)
      go_roundw
      case rel =>
        have hlow := fun j (hj : (Value.slice ao k co).ownBlock = some j) => (World.ownsRow.lt R2.out j hj).1
        refine ⟨k + 1, av, cv, by omega, by go_num, rfl, ?_, ?_, ?_⟩
        · rw [HK.out, rowsC_snoc]; exact q1
        · have kp := (Keep.refl (fun j => (Value.slice ao k co).ownBlock = some j) (w2.alloc (.cells #[.int .i64 (wh pn), .int .i64 (wl pn)] 50))).grown q2 (fun g hg _ => hg)
          have hx := HX2.out
          have nn : ¬ (Value.slice ao k co).ownBlock = some w.heap.size := fun r => by have := hlow _ r; omega
          exact ⟨Nat.lt_of_lt_of_le hx.1 kp.size, (kp.cell (p := ⟨w.heap.size, 0, none⟩) hx.1 nn).trans hx.2.1, (kp.cell (p := ⟨w.heap.size, 1, none⟩) hx.1 nn).trans hx.2.2.1, (kp.frozen (p := ⟨w.heap.size, 0, none⟩) hx.1 nn).trans hx.2.2.2.1, (kp.frozen (p := ⟨w.heap.size, 1, none⟩) hx.1 nn).trans hx.2.2.2.2⟩
        · exact HB2.out.grown q2 HB2.out.size (fun j hj => by have := hlow j hj; omega)
      case measure => simp [intOf]; omega
    · obtain rfl : k = e.nets.length := by omega
      rw [List.take_length] at hrow
      have HX := hide hbx
      have HB := hide hb
      have LW := hide (show Lies wr ao (rowsC wdC (valsN e.nets)) from by
        obtain ⟨a', c', q9, hli, _⟩ := GRow.lies hrow
        cases q9
        exact hli)
      have KW := fun w' (hq : Lies w' ao (rowsC wdC (valsN e.nets))) => rWorst_any e.base (valsN e.nets) ao co w' hq HBs.out (fun z hz => by obtain ⟨p, hp, rfl⟩ := List.mem_map.1 hz; exact I64.b1 (HA.out p hp)) (by simp; exact hl)
      rw [(lows_vals e.nets).1, (lows_vals e.nets).2, show (valsN e.nets).length = e.nets.length from by simp] at KW
      have e1 : e.base + lowS e.nets = e.low := rfl
      have e2 : e.base + highS e.nets = e.high := rfl
      rw [e1, e2] at KW
      generalize hA : e.low = A at *
      generalize hB : e.high = B at *
      have HAB := hide (And.intro hA hB)
      clear hA hB
      clear hrow hb hbx hre e1 e2
      go_wp2_with fail
      refine (KO e.base _).mono ?_
      rintro r w2 ⟨rfl, h2⟩
      have LW := hide (LW.out.below h2)
      have HX := hide (HX.out.below h2)
      have HB := hide (HB.out.trans (h2.mono HB.out.size))
      clear h2 k2 k3
      go_wp2_with fail
      refine (KW _ LW.out).mono ?_
      rintro r w3 ⟨rfl, h3⟩
      have d1 := (HX.out.below h3).1
      have o1 := h3.alloc h3.size (.cells #[.int .i64 (wh A), .int .i64 (wl A)] 50)
      have o2 := o1.alloc (by simp; exact Nat.le_succ_of_le h3.size) (.cells #[.int .i64 (wh B), .int .i64 (wl B)] 50)
      have HX := hide (HX.out.below o2)
      have HB := hide (HB.out.trans (o2.mono HB.out.size))
      have XA := hide ((Box.new w3 (.int .i64 (wh A)) (.int .i64 (wl A)) 50).alloc (.cells #[.int .i64 (wh B), .int .i64 (wl B)] 50))
      have XB := hide (show Box ((w3.alloc (.cells #[.int .i64 (wh A), .int .i64 (wl A)] 50)).alloc (.cells #[.int .i64 (wh B), .int .i64 (wl B)] 50)) (w3.heap.size + 1) (.int .i64 (wh B)) (.int .i64 (wl B)) from by have := Box.new (w3.alloc (.cells #[.int .i64 (wh A), .int .i64 (wl A)] 50)) (.int .i64 (wh B)) (.int .i64 (wl B)) 50; simpa using this)
      clear h3 o1 o2 KW LW
      obtain ⟨w4, hw4⟩ : ∃ w4, w4 = (w3.alloc (.cells #[.int .i64 (wh A), .int .i64 (wl A)] 50)).alloc (.cells #[.int .i64 (wh B), .int .i64 (wl B)] 50) := ⟨_, rfl⟩
      go_upto_region 7 with fail
      rw [← hw4] at HX HB XA XB ⊢
      clear hw4
      obtain ⟨t0, t1, t2, t3, t4⟩ := XA.out
      obtain ⟨u0, u1, u2, u3, u4⟩ := XB.out
      refine wp_region_held_drew (S := fun wq => (wq.cell? ⟨w3.heap.size, 0, none⟩ = some (.int .i64 (wh A)) ∧ wq.cell? ⟨w3.heap.size, 1, none⟩ = some (.int .i64 (wl A))) ∧ (wq.cell? ⟨w3.heap.size + 1, 0, none⟩ = some (.int .i64 (wh B)) ∧ wq.cell? ⟨w3.heap.size + 1, 1, none⟩ = some (.int .i64 (wl B)))) (by kernel_rfl) ⟨⟨t1, t2⟩, ⟨u1, u2⟩⟩ (fun hS => ?_)
      have HX := hide (HX.out.below (Below.refl _ _).drew)
      have XA := hide (XA.out.below (Below.refl _ _).drew)
      have XB := hide (XB.out.below (Below.refl _ _).drew)
      have HB := hide HB.out.drew
      clear t0 t1 t2 t3 t4 u0 u1 u2 u3 u4
      generalize w4.drew = w5 at *
      refine take_at 0 (some 38) (v := ?_) rfl rfl (by kernel_rfl) (by kernel_rfl) (by kernel_rfl) (fun _ _ _ h => h) ⟨by rfl, ?_⟩ hS ?_
      rotate_left
      · intro wq hSw; obtain ⟨⟨r0, r1⟩, ⟨r2, r3⟩⟩ := hSw; go_simp; try rfl
      simp only [Act.put, List.setIfInBounds_toArray, List.set_cons_zero, List.set_cons_succ]
      refine take_at 2 (some 40) (v := ?_) rfl rfl (by kernel_rfl) (by kernel_rfl) (by kernel_rfl) (fun _ _ _ h => h) ⟨by rfl, ?_⟩ hS ?_
      rotate_left
      · intro wq hSw; obtain ⟨⟨r0, r1⟩, ⟨r2, r3⟩⟩ := hSw; go_simp; try rfl
      simp only [Act.put, List.setIfInBounds_toArray, List.set_cons_zero, List.set_cons_succ]
      refine wpAnyH_ready (rs := [1]) (by kernel_rfl) (by simp) ?_
      refine AllReadyH.cons rfl (fun K hK => ?_) AllReadyH.nil
      go_simp
      go_wp2_with fail
      refine (KI1 _).mono ?_
      rintro r w6 ⟨rfl, h⟩
      have HX6 := hide (HX.out.below h)
      have XA6 := hide (XA.out.below h)
      have XB6 := hide (XB.out.below h)
      have HB6 := hide (HB.out.trans (h.mono HB.out.size))
      clear h
      go_wp2_with fail
      refine hK.out _ _ ⟨⟨XA6.out.2.1, XA6.out.2.2.1⟩, ⟨XB6.out.2.1, XB6.out.2.2.1⟩⟩ (fun hS => ?_)
      clear hK K
      (try simp only [Act.put, List.setIfInBounds_toArray, List.set_cons_zero, List.set_cons_succ])
      refine wpAnyH_ready (rs := [3]) (by kernel_rfl) (by simp) ?_
      refine AllReadyH.cons rfl (fun K hK => ?_) AllReadyH.nil
      go_simp
      go_wp2_with fail
      refine (KI2 _).mono ?_
      rintro r w7 ⟨rfl, h⟩
      have HX7 := hide (HX6.out.below h)
      have XA7 := hide (XA6.out.below h)
      have XB7 := hide (XB6.out.below h)
      have HB7 := hide (HB6.out.trans (h.mono HB6.out.size))
      clear h
      go_wp2_with fail
      refine hK.out _ _ ⟨⟨XA7.out.2.1, XA7.out.2.2.1⟩, ⟨XB7.out.2.1, XB7.out.2.2.1⟩⟩ (fun hS => ?_)
      clear hK K
      (try simp only [Act.put, List.setIfInBounds_toArray, List.set_cons_zero, List.set_cons_succ])
      refine take_at 4 (some 42) (v := ?_) rfl rfl (by kernel_rfl) (by kernel_rfl) (by kernel_rfl) (fun _ _ _ h => h) ⟨by rfl, ?_⟩ hS ?_
      rotate_left
      · intro wq hSw; go_simp; try rfl
      simp only [Act.put, List.setIfInBounds_toArray, List.set_cons_zero, List.set_cons_succ]
      obtain ⟨u0, u1, u2, u3, u4⟩ := HX7.out
      have FX := Box.set HX7.out (.int .i64 A) (.int .i64 B)
      have FA := hide ((XA7.out.other (c := w.heap.size) (o := 0) (v := .int .i64 A) (by omega)).other (c := w.heap.size) (o := 1) (v := .int .i64 B) (by omega))
      have FB := hide ((XB7.out.other (c := w.heap.size) (o := 0) (v := .int .i64 A) (by omega)).other (c := w.heap.size) (o := 1) (v := .int .i64 B) (by omega))
      refine wpAnyH_ready (rs := [5]) (by kernel_rfl) (by simp) ?_
      refine AllReadyH.cons rfl (fun K hK => ?_) AllReadyH.nil
      go_simp
      go_wp2_with fail
      refine hK.out _ _ ⟨⟨FA.out.2.1, FA.out.2.2.1⟩, ⟨FB.out.2.1, FB.out.2.2.1⟩⟩ (fun hS => ?_)
      clear hK K
      (try simp only [Act.put, List.setIfInBounds_toArray, List.set_cons_zero, List.set_cons_succ])
      refine wpAnyH_done (by kernel_rfl) ?_ _
      go_wp2_with fail
      obtain ⟨q0, q1, q2, q3, q4⟩ := FX
      refine bodyPost_ret (v := rng A B) (by simp [results, Try.results44, go_sem, q1, q2]) rfl ⟨by rw [HAB.out.1, HAB.out.2], ?_⟩
      exact (HB7.out.setCell (Nat.le_refl _) _).setCell (Nat.le_refl _) _
end Go.Proofs.Ytcnlcmdppkdmmaa
