import Derived.Test.YtcnlcmdppkdmmaaEc23
namespace Go.Proofs.Ytcnlcmdppkdmmaa
open Go.RowKit Go.QK Quota Go.Maps
set_option maxRecDepth 100000

theorem allS_snoc (M : Nets) (p : Int × Int) : allS (M ++ [p]) = allS M + p.2 := by
  induction M with
  | nil => simp [sumF]
  | cons q r ih => simp only [allS, List.cons_append, sumF, id] at *; omega
theorem allS_take (L : Nets) {k : Nat} (h : k < L.length) : allS (L.take (k + 1)) = allS (L.take k) + L[k].2 := by
  rw [List.take_succ_eq_append_getElem h, allS_snoc]
theorem allS_bd (L : Nets) (hL : ∀ p ∈ L, I64 p.2) : -(9223372036854775808 * (L.length : Int)) ≤ allS L ∧ allS L ≤ 9223372036854775808 * (L.length : Int) := by
  induction L with
  | nil => simp [sumF]
  | cons p r ih =>
    have a := hL p (by simp)
    have b := ih (fun q hq => hL q (by simp [hq]))
    unfold I64 at a
    simp only [allS, sumF, id, List.length_cons] at *
    omega
theorem Esc.Ok.front {e : Esc} (h : e.Ok) (hl : e.nets.length ≤ 1500) (k : Nat) : Bd (e.base + allS (e.nets.take k)) := by
  have h1 := allS_bd (e.nets.take k) (fun p hp => h.all p (List.mem_of_mem_take hp))
  have h2 := h.rng.2.2.2
  unfold I64 at h2
  unfold Bd
  simp only [List.length_take] at h1
  omega
theorem Esc.Ok.val {e : Esc} (h : e.Ok) : I64 e.val := by
  have := h.part (fun _ => true)
  rw [List.filter_eq_self.2 (by simp)] at this
  exact this

set_option maxHeartbeats 8000000 in
theorem rValue_any (b : Nat) (e : Esc) (a : Option Addr) (c : Nat) (w : World) (h : RE w b e a c) (hl : e.nets.length ≤ 1500) :
    Calls Try.prog 45 #[ptr b] w fun r w' => r = .returned (.int .i64 e.val) ∧ Below w.heap.size w w' := by
  have HR := hide h
  have k2 := h.c2
  have hbl := h.cells.1
  have KV := fun w' => int_w e.val w' h.ok.val
  have HF := hide (fun k => h.ok.front hl k)
  have HA := hide h.ok.all
  have hev : e.val = e.base + allS e.nets := rfl
  have HEV := hide hev
  clear h hev
  go_enter Try.func45, Try.ntmps45
  go_wp2_with fail
  refine (of_any e.base _).mono ?_
  rintro r w1 ⟨rfl, h1⟩
  have H1 := hide h1
  have z1 := h1.size
  clear h1 k2
  go_wp2_with fail
  go_loopw [4] (fun i wr => ∃ k : Nat, k ≤ e.nets.length ∧ i = .int .i64 k ∧ Box wr w1.heap.size (.int .i64 (wh (e.base + allS (e.nets.take k)))) (.int .i64 (wl (e.base + allS (e.nets.take k)))) ∧ Below w.heap.size w wr) (fun i _ => e.nets.length - (intOf i).toNat)
  case atStart =>
    refine ⟨0, by omega, rfl, ?_, H1.out.alloc z1 _⟩
    rw [List.take_zero, show e.base + allS [] = e.base from by simp [sumF]]
    exact Box.new w1 _ _ 50
  case round =>
    obtain ⟨k, hk, rfl, XT, hb⟩ := hrel
    have hre := HR.out.below hb
    have k3 := hre.c3
    have HT := hide XT
    have HB := hide hb
    by_cases q : k < e.nets.length
    · obtain ⟨bl, off, rfl, hlt0, hcell⟩ := Lies.rowAt netC 2 (fun _ => rfl) HR.out.row k q (by omega)
      have y1 := (hb.cell (p := ⟨bl, off + k * 2 + 1, none⟩) hlt0).trans (hcell 1 _ rfl)
      have x1 := HA.out e.nets[k] (List.getElem_mem q)
      have hst := allS_take e.nets q
      have hbd := HF.out k
      generalize e.nets[k].2 = nv at *
      generalize hZ : e.base + allS (e.nets.take k) = Z at *
      have HST := hide (show e.base + allS (e.nets.take (k + 1)) = Z + nv from by rw [hst]; omega)
      have KP := fun w' => plus_w Z nv w' hbd x1
      have NB := hide (show ¬ bl = w1.heap.size ∧ ¬ b = w1.heap.size from by omega)
      clear hcell hst hZ XT hb hre hbd x1
      go_upto_region 5 with fail
      refine wp_region_held_drew (S := fun wq => wq.cell? ⟨b, 3, none⟩ = some (.slice (some ⟨bl, off, none⟩) e.nets.length c) ∧ wq.cell? ⟨bl, off + k * 2 + 1, none⟩ = some (.int .i64 nv)) (by kernel_rfl) ⟨k3, y1⟩ (fun hS => ?_)
      have HT := hide (HT.out.below (Below.refl _ _).drew)
      have HB := hide HB.out.drew
      have hlt2 : bl < wr.drew.heap.size := Nat.lt_of_lt_of_le hlt0 HB.out.size
      have hlb2 : b < wr.drew.heap.size := Nat.lt_of_lt_of_le hbl HB.out.size
      clear k3 y1
      generalize wr.drew = w5 at *
      obtain ⟨t0, t1, t2, t3, t4⟩ := HT.out
      refine take_at 1 (some 20) (v := ?_) rfl rfl (by kernel_rfl) (by kernel_rfl) (by kernel_rfl) (fun _ _ _ h => h) ⟨by rfl, ?_⟩ hS ?_
      rotate_left
      · intro wq hSw; go_simp; try rfl
      simp only [Act.put, List.setIfInBounds_toArray, List.set_cons_zero, List.set_cons_succ]
      refine take_at 2 (some 21) (v := ?_) rfl rfl (by kernel_rfl) (by kernel_rfl) (by kernel_rfl) (fun _ _ _ h => h) ⟨by rfl, ?_⟩ hS ?_
      rotate_left
      · intro wq hSw; go_simp; try rfl
      simp only [Act.put, List.setIfInBounds_toArray, List.set_cons_zero, List.set_cons_succ]
      refine take_at 3 (some 22) (v := ?_) rfl rfl (by kernel_rfl) (by kernel_rfl) (by kernel_rfl) (fun _ _ _ h => h) ⟨by rfl, ?_⟩ hS ?_
      rotate_left
      · intro wq hSw; go_simp; try rfl
      simp only [Act.put, List.setIfInBounds_toArray, List.set_cons_zero, List.set_cons_succ]
      refine take_at 4 (some 23) (v := ?_) rfl rfl (by kernel_rfl) (by kernel_rfl) (by kernel_rfl) (fun _ _ _ h => h) ⟨by rfl, ?_⟩ hS ?_
      rotate_left
      · intro wq hSw; obtain ⟨r0, r1⟩ := hSw; go_simp; try rfl
      simp only [Act.put, List.setIfInBounds_toArray, List.set_cons_zero, List.set_cons_succ]
      refine take_at 5 (some 24) (v := ?_) rfl rfl (by kernel_rfl) (by kernel_rfl) (by kernel_rfl) (fun _ _ _ h => h) ⟨by rfl, ?_⟩ hS ?_
      rotate_left
      · intro wq hSw; go_simp; try rfl
      simp only [Act.put, List.setIfInBounds_toArray, List.set_cons_zero, List.set_cons_succ]
      refine take_at 6 (some 25) (v := ?_) rfl rfl (by kernel_rfl) (by kernel_rfl) (by kernel_rfl) (fun _ _ _ h => h) ⟨by rfl, ?_⟩ hS ?_
      rotate_left
      · intro wq hSw; go_simp; try rfl
      simp only [Act.put, List.setIfInBounds_toArray, List.set_cons_zero, List.set_cons_succ]
      refine take_at 7 (some 26) (v := ?_) rfl rfl (by kernel_rfl) (by kernel_rfl) (by kernel_rfl) (fun _ _ _ h => h) ⟨by rfl, ?_⟩ hS ?_
      rotate_left
      · intro wq hSw; go_simp; try rfl
      simp only [Act.put, List.setIfInBounds_toArray, List.set_cons_zero, List.set_cons_succ]
      refine take_at 8 (some 27) (v := ?_) rfl rfl (by kernel_rfl) (by kernel_rfl) (by kernel_rfl) (fun _ _ _ h => h) ⟨by rfl, ?_⟩ hS ?_
      rotate_left
      · intro wq hSw; obtain ⟨r0, r1⟩ := hSw; go_simp; try rfl
      simp only [Act.put, List.setIfInBounds_toArray, List.set_cons_zero, List.set_cons_succ]
      refine wpAnyH_ready (rs := [0]) (by kernel_rfl) (by simp) ?_
      refine AllReadyH.cons rfl (fun K hK => ?_) AllReadyH.nil
      go_simp
      go_wp2_with fail
      refine hK.out _ _ hS (fun hS => ?_)
      clear hK K
      (try simp only [Act.put, List.setIfInBounds_toArray, List.set_cons_zero, List.set_cons_succ])
      refine wpAnyH_ready (rs := [9]) (by kernel_rfl) (by simp) ?_
      refine AllReadyH.cons rfl (fun K hK => ?_) AllReadyH.nil
      go_simp
      go_wp2_with fail
      refine (KP _).mono ?_
      rintro r w6 ⟨rfl, h6⟩
      have HT6 := hide (HT.out.below h6)
      have HB6 := hide (HB.out.trans (h6.mono HB.out.size))
      have y6 := (h6.cell (p := ⟨bl, off + k * 2 + 1, none⟩) hlt2).trans hS.2
      have x6 := (h6.cell (p := ⟨b, 3, none⟩) hlb2).trans hS.1
      have hlt6 := Nat.lt_of_lt_of_le hlt2 h6.size
      have hlb6 := Nat.lt_of_lt_of_le hlb2 h6.size
      clear h6
      go_wp2_with fail
      refine hK.out _ _ ⟨x6, y6⟩ (fun hS => ?_)
      clear hK K
      (try simp only [Act.put, List.setIfInBounds_toArray, List.set_cons_zero, List.set_cons_succ])
      obtain ⟨u0, u1, u2, u3, u4⟩ := HT6.out
      have K7 := ((Keep.refl (fun x => x = w1.heap.size) w6).setCell (g := w1.heap.size) (j := 0) (fun _ => rfl) (.int .i64 (wh (Z + nv)))).setCell (g := w1.heap.size) (j := 1) (fun _ => rfl) (.int .i64 (wl (Z + nv)))
      have y7 := (K7.cell (p := ⟨bl, off + k * 2 + 1, none⟩) hlt6 NB.out.1).trans y6
      have x7 := (K7.cell (p := ⟨b, 3, none⟩) hlb6 NB.out.2).trans x6
      refine wpAnyH_ready (rs := [10]) (by kernel_rfl) (by simp) ?_
      refine AllReadyH.cons rfl (fun K hK => ?_) AllReadyH.nil
      go_simp
      go_wp2_with fail
      refine hK.out _ _ ⟨x7, y7⟩ (fun hS => ?_)
      clear hK K
      (try simp only [Act.put, List.setIfInBounds_toArray, List.set_cons_zero, List.set_cons_succ])
      refine wpAnyH_done (by kernel_rfl) ?_ _
      go_wp2_with fail
      go_roundw
      case rel =>
        refine ⟨k + 1, by omega, by go_num, ?_, ?_⟩
        · rw [HST.out]
          exact Box.set HT6.out (.int .i64 (wh (Z + nv))) (.int .i64 (wl (Z + nv)))
        · exact (HB6.out.setCell z1 _).setCell z1 _
      case measure => simp [intOf]; omega
    · obtain rfl : k = e.nets.length := by omega
      rw [List.take_length, ← HEV.out] at HT
      generalize hV : e.val = V at *
      have HV := hide hV
      clear hV XT hb hre
      obtain ⟨t0, t1, t2, t3, t4⟩ := HT.out
      go_wp2_with fail
      refine (KV _).mono ?_
      rintro r w6 ⟨rfl, h6⟩
      go_wp2_with fail
      go_ret
      exact ⟨by rw [HV.out]; rfl, HB.out.trans (h6.mono HB.out.size)⟩

set_option maxHeartbeats 2000000 in
theorem same_any (xs : List Int) (a1 a2 : Option Addr) (c1 c2 : Nat) (w : World) (h1 : Go.QK.Seen .i64 w a1 xs) (h2 : Go.QK.Seen .i64 w a2 xs) (hl : xs.length ≤ 1000000) :
    Calls Try.prog 16 #[.slice a1 xs.length c1, .slice a2 xs.length c2] w fun r w' => r = .returned (.bool true) ∧ Below w.heap.size w w' := by
  have H1 := hide h1
  have H2 := hide h2
  clear h1 h2
  go_enter Try.func16, Try.ntmps16
  go_wp2_with fail
  go_loopw [5] (fun i wr => ∃ k : Nat, k ≤ xs.length ∧ i = .int .i64 k ∧ Below w.heap.size w wr) (fun i _ => xs.length - (intOf i).toNat)
  case atStart => exact ⟨0, by omega, rfl, Below.refl _ _⟩
  case round =>
    obtain ⟨k, hk, rfl, hb⟩ := hrel
    by_cases q : k < xs.length
    · obtain ⟨b1, o1, rfl, hl1, y1⟩ := Seen.at (H1.out.below hb) q
      obtain ⟨b2, o2, rfl, hl2, y2⟩ := Seen.at (H2.out.below hb) q
      have HB := hide hb
      clear hb
      generalize xs[k] = x at *
      go_upto_region 6 with fail
      go_quiet (fail)
      go_wp2_with fail
      go_roundw
      case rel => exact ⟨k + 1, by omega, by go_num, by first | exact HB.out | exact HB.out.drew | (refine HB.out.trans ?_; constructor <;> first | rfl | exact Nat.le_refl _ | exact fun _ _ => rfl)⟩
      case measure => simp [intOf]; omega
    · have HB := hide hb
      clear hb
      go_wp2_with fail
      go_ret
      exact ⟨rfl, HB.out⟩
end Go.Proofs.Ytcnlcmdppkdmmaa
