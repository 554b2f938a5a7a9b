import Derived.Test.YtokcocmenndlmaaTx10
namespace Go.Proofs.Ytokcocmenndlmaa
open Go.RowKit Go.QK Go.Maps Go.QM Go.QT
set_option maxRecDepth 100000
theorem rest_eq (n : Int) (m : Nat) (h1 : 1 ≤ m) (h2 : m ≤ 4294967296) (w : World) : Calls Try.prog 10 #[.int .i64 n, .int .i64 (m : Int)] w fun e w' => e = .returned (.int .i64 (n % (m : Int))) ∧ w = w' := by
  obtain ⟨q, hq⟩ : ∃ q, q = n.tmod (m : Int) := ⟨_, rfl⟩
  have q1 : -(m : Int) < q := by
    rw [hq]
    have := Int.lt_tmod_of_pos n (show (0 : Int) < m by omega)
    omega
  have q2 : q < (m : Int) := by rw [hq]; exact Int.tmod_lt_of_pos n (by omega)
  have q3 : (q + (m : Int)).tmod (m : Int) = n % (m : Int) := by
    rw [Int.tmod_eq_emod_of_nonneg (by omega), Int.add_emod_right, hq, Int.tmod_eq_emod]
    split
    · simp
    · rename_i h
      rw [Int.sub_emod]
      simp
  have e0 : ¬ (m : Int) = 0 := by omega
  have e0' : ((m : Int) == 0) = false := by simpa using e0
  have e1 : n.tmod (m : Int) = q := hq.symm
  have e2 : wrap64 (q + (m : Int)) = q + (m : Int) := by unfold wrap64; omega
  generalize n % (m : Int) = r at *
  clear hq
  go_enter Try.func10, Try.ntmps10
  go_wp2_with fail
  go_ret
  exact ⟨rfl, rfl⟩
theorem rest_any (n : Int) (m : Nat) (h1 : 1 ≤ m) (h2 : m ≤ 4294967296) (w : World) : Calls Try.prog 10 #[.int .i64 n, .int .i64 (m : Int)] w fun e w' => ∃ r : Nat, r < m ∧ e = .returned (.int .i64 (r : Int)) ∧ w = w' := by
  refine (rest_eq n m h1 h2 w).mono ?_
  rintro e w' ⟨rfl, rfl⟩
  have a1 := Int.emod_nonneg n (show (m : Int) ≠ 0 by omega)
  have a2 := Int.emod_lt_of_pos n (show (0 : Int) < m by omega)
  exact ⟨(n % (m : Int)).toNat, by omega, ret_int (by omega), rfl⟩
/-- Which record may come next, or may not. -/
def KindOk (x : Lv) (q : Bool) (k : Int) : Prop := 3 ≤ k ∧ k ≤ 7 ∧ fitsK k x = q
set_option maxHeartbeats 4000000 in
theorem lnext_any (x : Lv) (kind : Int) (w : World) (ho : (x.com && x.und) = false) : Calls Try.prog 16 #[lvV x, .int .i64 kind] w fun e w' => ∃ k, e = .returned (.int .i64 k) ∧ KindOk x true k ∧ Below w.heap.size w w' := by
  have K2 : ∀ w, Calls Try.prog 10 #[.int .i64 kind, .int .i64 2] w _ := fun w => rest_any kind 2 (by omega) (by omega) w
  have K3 : ∀ w, Calls Try.prog 10 #[.int .i64 kind, .int .i64 3] w _ := fun w => rest_any kind 3 (by omega) (by omega) w
  have K4 : ∀ w, Calls Try.prog 10 #[.int .i64 kind, .int .i64 4] w _ := fun w => rest_any kind 4 (by omega) (by omega) w
  have K5 : ∀ w, Calls Try.prog 10 #[.int .i64 kind, .int .i64 5] w _ := fun w => rest_any kind 5 (by omega) (by omega) w
  obtain ⟨a1, a2, a3, a4⟩ := x
  unfold lvV
  cases a3 <;> cases a4
  · go_enter Try.func16, Try.ntmps16
    go_wp2_with fail
    refine (K5 _).mono ?_
    rintro e wz ⟨r, hr, rfl, rfl⟩
    rcases (show r = 0 ∨ r = 1 ∨ r = 2 ∨ r = 3 ∨ r = 4 by omega) with rfl | rfl | rfl | rfl | rfl
    · go_wp2_with fail
      go_ret
      exact ⟨3, rfl, ⟨by omega, by omega, rfl⟩, (alloc_below _ _).alloc (by simp) _⟩
    · go_wp2_with fail
      go_ret
      exact ⟨3, rfl, ⟨by omega, by omega, rfl⟩, (alloc_below _ _).alloc (by simp) _⟩
    · go_wp2_with fail
      go_ret
      exact ⟨3, rfl, ⟨by omega, by omega, rfl⟩, (alloc_below _ _).alloc (by simp) _⟩
    · go_wp2_with fail
      go_ret
      exact ⟨5, rfl, ⟨by omega, by omega, rfl⟩, (alloc_below _ _).alloc (by simp) _⟩
    · go_wp2_with fail
      go_ret
      exact ⟨6, rfl, ⟨by omega, by omega, rfl⟩, (alloc_below _ _).alloc (by simp) _⟩
  · go_enter Try.func16, Try.ntmps16
    go_wp2_with fail
    refine (K3 _).mono ?_
    rintro e wz ⟨r, hr, rfl, rfl⟩
    rcases (show r = 0 ∨ r = 1 ∨ r = 2 by omega) with rfl | rfl | rfl
    · go_wp2_with fail
      go_ret
      exact ⟨4, rfl, ⟨by omega, by omega, rfl⟩, (alloc_below _ _).alloc (by simp) _⟩
    · go_wp2_with fail
      go_ret
      exact ⟨4, rfl, ⟨by omega, by omega, rfl⟩, (alloc_below _ _).alloc (by simp) _⟩
    · go_wp2_with fail
      go_ret
      exact ⟨7, rfl, ⟨by omega, by omega, rfl⟩, (alloc_below _ _).alloc (by simp) _⟩
  · go_enter Try.func16, Try.ntmps16
    go_wp2
    go_ret
    exact ⟨7, rfl, ⟨by omega, by omega, rfl⟩, alloc_below _ _⟩
  · cases ho
set_option maxHeartbeats 4000000 in
theorem lwrong_any (x : Lv) (kind : Int) (w : World) (ho : (x.com && x.und) = false) : Calls Try.prog 17 #[lvV x, .int .i64 kind] w fun e w' => ∃ k, e = .returned (.int .i64 k) ∧ KindOk x false k ∧ Below w.heap.size w w' := by
  have K2 : ∀ w, Calls Try.prog 10 #[.int .i64 kind, .int .i64 2] w _ := fun w => rest_any kind 2 (by omega) (by omega) w
  have K3 : ∀ w, Calls Try.prog 10 #[.int .i64 kind, .int .i64 3] w _ := fun w => rest_any kind 3 (by omega) (by omega) w
  have K4 : ∀ w, Calls Try.prog 10 #[.int .i64 kind, .int .i64 4] w _ := fun w => rest_any kind 4 (by omega) (by omega) w
  have K5 : ∀ w, Calls Try.prog 10 #[.int .i64 kind, .int .i64 5] w _ := fun w => rest_any kind 5 (by omega) (by omega) w
  obtain ⟨a1, a2, a3, a4⟩ := x
  unfold lvV
  cases a3 <;> cases a4
  · go_enter Try.func17, Try.ntmps17
    go_wp2_with fail
    refine (K2 _).mono ?_
    rintro e wz ⟨r, hr, rfl, rfl⟩
    rcases (show r = 0 ∨ r = 1 by omega) with rfl | rfl
    · go_wp2_with fail
      go_ret
      exact ⟨4, rfl, ⟨by omega, by omega, rfl⟩, (alloc_below _ _).alloc (by simp) _⟩
    · go_wp2_with fail
      go_ret
      exact ⟨7, rfl, ⟨by omega, by omega, rfl⟩, (alloc_below _ _).alloc (by simp) _⟩
  · go_enter Try.func17, Try.ntmps17
    go_wp2_with fail
    refine (K3 _).mono ?_
    rintro e wz ⟨r, hr, rfl, rfl⟩
    rcases (show r = 0 ∨ r = 1 ∨ r = 2 by omega) with rfl | rfl | rfl
    · go_wp2_with fail
      go_ret
      exact ⟨3, rfl, ⟨by omega, by omega, rfl⟩, (alloc_below _ _).alloc (by simp) _⟩
    · go_wp2_with fail
      go_ret
      exact ⟨5, rfl, ⟨by omega, by omega, rfl⟩, (alloc_below _ _).alloc (by simp) _⟩
    · go_wp2_with fail
      go_ret
      exact ⟨6, rfl, ⟨by omega, by omega, rfl⟩, (alloc_below _ _).alloc (by simp) _⟩
  · go_enter Try.func17, Try.ntmps17
    go_wp2_with fail
    refine (K4 _).mono ?_
    rintro e wz ⟨r, hr, rfl, rfl⟩
    rcases (show r = 0 ∨ r = 1 ∨ r = 2 ∨ r = 3 by omega) with rfl | rfl | rfl | rfl
    · go_wp2_with fail
      go_ret
      exact ⟨3, rfl, ⟨by omega, by omega, rfl⟩, (alloc_below _ _).alloc (by simp) _⟩
    · go_wp2_with fail
      go_ret
      exact ⟨4, rfl, ⟨by omega, by omega, rfl⟩, (alloc_below _ _).alloc (by simp) _⟩
    · go_wp2_with fail
      go_ret
      exact ⟨5, rfl, ⟨by omega, by omega, rfl⟩, (alloc_below _ _).alloc (by simp) _⟩
    · go_wp2_with fail
      go_ret
      exact ⟨6, rfl, ⟨by omega, by omega, rfl⟩, (alloc_below _ _).alloc (by simp) _⟩
  · cases ho
set_option maxHeartbeats 1000000 in
theorem lives_any (x : Lv) (w : World) : Calls Try.prog 33 #[lvV x] w fun e w' => e = .returned (lvV x) ∧ Below w.heap.size w w' := by
  obtain ⟨a1, a2, a3, a4⟩ := x
  unfold lvV
  go_enter Try.func33, Try.ntmps33
  go_wp2
  exact bodyPost_ret (v := .agg #[.int .i64 a1, .int .i64 a2, .bool a3, .bool a4]) (by simp [results, Try.results33, go_sem]) rfl ⟨rfl, (alloc_below _ _).alloc (by simp) _⟩
set_option maxHeartbeats 8000000 in
theorem told_any (b m : Nat) (t : TbM) (la : Option Addr) (lc : Nat) (w : World) (h : PT w b m t) (hl : Lies w la (rowsC lvC t.L)) : Calls Try.prog 18 #[ptr b, .slice la t.L.length lc, .int .i64 t.next] w fun e w' => e = .returned (.bool true) ∧ Below w.heap.size w w' := by
  have KL := fun w' (h : PT w' b m t) => live_any b m t w' h
  have KX := fun w' (h : PT w' b m t) => next_any b m t w' h
  have KG := fun (x : Lv) (hx : x ∈ t.L) w' (h : PT w' b m t) => get_any b m t x.tx w' h (by have h1 := (h.ok.each x hx).tx1; have h2 := (h.ok.each x hx).tx2; have h3 := h.ok.n2; unfold I64; omega)
  have HGV := hide (fun (x : Lv) (hx : x ∈ t.L) => show getV t.L x.tx = lvV x ∧ getE t.L x.tx = 0 by unfold getV getE; rw [getT_of h.ok.rise hx]; exact ⟨rfl, rfl⟩)
  have few := h.ok.few
  have HP := hide h
  have HLI := hide hl
  clear h hl
  generalize t.next = nx at *
  go_enter Try.func18, Try.ntmps18
  go_wp2_with fail
  refine (KL _ HP.out).mono ?_
  rintro e w1 ⟨v, rfl, hrow, hnb, hh⟩
  obtain ⟨g, gc, rfl, -, -, hl1⟩ := row_form hrow hnb
  have RL := hide hl1
  have HP1 := hide (HP.out.below hh)
  have HB1 := hide hh
  have HL1 := hide (HLI.out.below hh)
  clear hrow hnb hh hl1 HP HLI KL
  go_wp2_with (go_at_call 13; refine (KX _ HP1.out).mono ?_; rintro e wz ⟨rfl, rfl⟩)
  clear KX
  go_loopw [8] (fun vi wr => ∃ k : Nat, vi = .int .i64 (k : Int) ∧ k ≤ t.L.length ∧ Below w1.heap.size w1 wr) (fun vi _ => t.L.length - (intOf vi).toNat)
  case atStart => exact ⟨0, rfl, Nat.zero_le _, Below.refl _ _⟩
  case round =>
    obtain ⟨k, rfl, hk, hbk⟩ := hrel
    have HK := hide hbk
    by_cases hlt : k < t.L.length
    · obtain ⟨b1, o1, ha1, hb1, p0, p1, p2, p3⟩ := row_at HL1.out hbk hlt
      obtain ⟨b2, o2, ha2, hb2, r0, r1, r2, r3⟩ := row_at RL.out hbk hlt
      cases ha2
      subst ha1
      obtain ⟨x, hx⟩ : ∃ x, x = t.L[k] := ⟨_, rfl⟩
      have hmem : x ∈ t.L := by rw [hx]; exact List.getElem_mem hlt
      rw [← hx] at p0 p1 p2 p3 r0 r1 r2 r3
      have KK := KG x hmem
      rw [(HGV.out x hmem).1, (HGV.out x hmem).2] at KK
      have KV := fun w => lives_any x w
      rw [Nat.zero_add] at r0 r1 r2 r3
      clear hx hmem KG HGV hbk
      obtain ⟨z1, z2, z3, z4⟩ := x
      simp only at p0 p1 p2 p3 r0 r1 r2 r3
      have PC := hide (And.intro p0 (And.intro p1 (And.intro p2 p3)))
      have RC := hide (And.intro r0 (And.intro r1 (And.intro r2 r3)))
      have LB := hide (show b1 < wr.heap.size ∧ g < wr.heap.size from ⟨Nat.lt_of_lt_of_le hb1 HK.out.size, Nat.lt_of_lt_of_le hb2 HK.out.size⟩)
      unfold lvV at KK KV
      go_wp2_with fail
      refine (KK _ (HP1.out.below HK.out)).mono ?_
      rintro e w2 ⟨rfl, h2⟩
      have H2 := hide h2
      clear h2 p0 p1 p2 p3 r0 r1 r2 r3 KK
      go_upto_region 8 with fail
      refine named (P := Code.wp _ _ _ _) ?_
      intro w3 hw3
      obtain ⟨xb, hxb⟩ : ∃ xb, xb = w2.heap.size := ⟨_, rfl⟩
      have CX := hide (show Cells w3 xb [.int .i64 z1, .int .i64 z2, .bool z3, .bool z4] by rw [hw3, hxb]; exact Cells.new _ _ _)
      have HR := hide (show Below wr.heap.size wr w3 by rw [hw3]; exact H2.out.alloc H2.out.size _)
      have PS := hide (fun wq (hq : Below w3.heap.size w3 wq) => show wq.cell? ⟨b1, o1 + k * 4, none⟩ = some (.int .i64 z1) ∧ wq.cell? ⟨b1, o1 + k * 4 + 1, none⟩ = some (.int .i64 z2) ∧ wq.cell? ⟨b1, o1 + k * 4 + 2, none⟩ = some (.bool z3) ∧ wq.cell? ⟨b1, o1 + k * 4 + 3, none⟩ = some (.bool z4) by
        have hz : Below wr.heap.size wr wq := HR.out.trans (hq.mono HR.out.size)
        exact ⟨(hz.cell (p := ⟨b1, o1 + k * 4, none⟩) LB.out.1).trans PC.out.1, (hz.cell (p := ⟨b1, o1 + k * 4 + 1, none⟩) LB.out.1).trans PC.out.2.1, (hz.cell (p := ⟨b1, o1 + k * 4 + 2, none⟩) LB.out.1).trans PC.out.2.2.1, (hz.cell (p := ⟨b1, o1 + k * 4 + 3, none⟩) LB.out.1).trans PC.out.2.2.2⟩)
      have RS := hide (fun wq (hq : Below w3.heap.size w3 wq) => show wq.cell? ⟨g, k * 4, none⟩ = some (.int .i64 z1) ∧ wq.cell? ⟨g, k * 4 + 1, none⟩ = some (.int .i64 z2) ∧ wq.cell? ⟨g, k * 4 + 2, none⟩ = some (.bool z3) ∧ wq.cell? ⟨g, k * 4 + 3, none⟩ = some (.bool z4) by
        have hz : Below wr.heap.size wr wq := HR.out.trans (hq.mono HR.out.size)
        exact ⟨(hz.cell (p := ⟨g, k * 4, none⟩) LB.out.2).trans RC.out.1, (hz.cell (p := ⟨g, k * 4 + 1, none⟩) LB.out.2).trans RC.out.2.1, (hz.cell (p := ⟨g, k * 4 + 2, none⟩) LB.out.2).trans RC.out.2.2.1, (hz.cell (p := ⟨g, k * 4 + 3, none⟩) LB.out.2).trans RC.out.2.2.2⟩)
      have HKF := hide (HK.out.trans (HR.out.mono HK.out.size))
      rw [← hxb]
      clear hw3 hxb H2 PC RC LB HR HK
      refine wp_region_held_drew (S := fun wq => Below w3.heap.size w3 wq) (by kernel_rfl) (Below.refl _ _).drew (fun hS => ?_)
      refine take_at 0 (some 40) (v := ?_) rfl rfl (by kernel_rfl) (by kernel_rfl) (by kernel_rfl) (fun _ _ _ h => h) ⟨by rfl, ?_⟩ hS ?_
      rotate_left
      · intro wq hSw; go_simp; try rfl
      simp only [Act.put, List.setIfInBounds_toArray, List.set_cons_zero, List.set_cons_succ]
      refine wpAnyH_ready (rs := [1]) (by kernel_rfl) (by simp) ?_
      refine AllReadyH.cons rfl (fun K hK => ?_) AllReadyH.nil
      go_simp
      go_wp2_with fail
      refine (num_eq _ _).mono ?_
      rintro e wz ⟨rfl, rfl⟩
      go_wp2_with fail
      refine hK.out _ _ hS (fun hS => ?_)
      clear hK K
      (try simp only [Act.put, List.setIfInBounds_toArray, List.set_cons_zero, List.set_cons_succ])
      refine take_at 2 (some 42) (v := ?_) rfl rfl (by kernel_rfl) (by kernel_rfl) (by kernel_rfl) (fun _ _ _ h => h) ⟨by rfl, ?_⟩ hS ?_
      rotate_left
      · intro wq hSw; go_simp; try rfl
      simp only [Act.put, List.setIfInBounds_toArray, List.set_cons_zero, List.set_cons_succ]
      refine take_at 3 (some 43) (v := ?_) rfl rfl (by kernel_rfl) (by kernel_rfl) (by kernel_rfl) (fun _ _ _ h => h) ⟨by rfl, ?_⟩ hS ?_
      rotate_left
      · intro wq hSw; go_simp; try rfl
      simp only [Act.put, List.setIfInBounds_toArray, List.set_cons_zero, List.set_cons_succ]
      refine take_at 4 (some 44) (v := ?_) rfl rfl (by kernel_rfl) (by kernel_rfl) (by kernel_rfl) (fun _ _ _ h => h) ⟨by rfl, ?_⟩ hS ?_
      rotate_left
      · intro wq hSw; have qq := CX.out.below hSw; obtain ⟨q0, _⟩ := qq.get 0 _ rfl; obtain ⟨q1, _⟩ := qq.get 1 _ rfl; obtain ⟨q2, _⟩ := qq.get 2 _ rfl; obtain ⟨q3, _⟩ := qq.get 3 _ rfl; clear qq; go_simp; try rfl
      simp only [Act.put, List.setIfInBounds_toArray, List.set_cons_zero, List.set_cons_succ]
      refine take_at 5 (some 45) (v := ?_) rfl rfl (by kernel_rfl) (by kernel_rfl) (by kernel_rfl) (fun _ _ _ h => h) ⟨by rfl, ?_⟩ hS ?_
      rotate_left
      · intro wq hSw; go_simp; try rfl
      simp only [Act.put, List.setIfInBounds_toArray, List.set_cons_zero, List.set_cons_succ]
      refine take_at 6 (some 46) (v := ?_) rfl rfl (by kernel_rfl) (by kernel_rfl) (by kernel_rfl) (fun _ _ _ h => h) ⟨by rfl, ?_⟩ hS ?_
      rotate_left
      · intro wq hSw; go_simp; try rfl
      simp only [Act.put, List.setIfInBounds_toArray, List.set_cons_zero, List.set_cons_succ]
      refine take_at 7 (some 47) (v := ?_) rfl rfl (by kernel_rfl) (by kernel_rfl) (by kernel_rfl) (fun _ _ _ h => h) ⟨by rfl, ?_⟩ hS ?_
      rotate_left
      · intro wq hSw; go_simp; try rfl
      simp only [Act.put, List.setIfInBounds_toArray, List.set_cons_zero, List.set_cons_succ]
      refine take_at 8 (some 48) (v := ?_) rfl rfl (by kernel_rfl) (by kernel_rfl) (by kernel_rfl) (fun _ _ _ h => h) ⟨by rfl, ?_⟩ hS ?_
      rotate_left
      · intro wq hSw; obtain ⟨q0, q1, q2, q3⟩ := PS.out wq hSw; go_simp; try rfl
      simp only [Act.put, List.setIfInBounds_toArray, List.set_cons_zero, List.set_cons_succ]
      refine wpAnyH_ready (rs := [9]) (by kernel_rfl) (by simp) ?_
      refine AllReadyH.cons rfl (fun K hK => ?_) AllReadyH.nil
      go_simp
      go_wp2_with fail
      refine (KV _).mono ?_
      rintro e x2 ⟨rfl, hh⟩
      have D2 := hide (hS.trans (hh.mono hS.size))
      clear hh hS
      go_wp2_with fail
      refine hK.out _ _ D2.out (fun hS => ?_)
      clear hK K
      (try simp only [Act.put, List.setIfInBounds_toArray, List.set_cons_zero, List.set_cons_succ])
      refine take_at 10 (some 50) (v := ?_) rfl rfl (by kernel_rfl) (by kernel_rfl) (by kernel_rfl) (fun _ _ _ h => h) ⟨by rfl, ?_⟩ hS ?_
      rotate_left
      · intro wq hSw; go_simp; try rfl
      simp only [Act.put, List.setIfInBounds_toArray, List.set_cons_zero, List.set_cons_succ]
      refine take_at 11 (some 51) (v := ?_) rfl rfl (by kernel_rfl) (by kernel_rfl) (by kernel_rfl) (fun _ _ _ h => h) ⟨by rfl, ?_⟩ hS ?_
      rotate_left
      · intro wq hSw; go_simp; try rfl
      simp only [Act.put, List.setIfInBounds_toArray, List.set_cons_zero, List.set_cons_succ]
      refine take_at 12 (some 52) (v := ?_) rfl rfl (by kernel_rfl) (by kernel_rfl) (by kernel_rfl) (fun _ _ _ h => h) ⟨by rfl, ?_⟩ hS ?_
      rotate_left
      · intro wq hSw; go_simp; try rfl
      simp only [Act.put, List.setIfInBounds_toArray, List.set_cons_zero, List.set_cons_succ]
      refine take_at 13 (some 53) (v := ?_) rfl rfl (by kernel_rfl) (by kernel_rfl) (by kernel_rfl) (fun _ _ _ h => h) ⟨by rfl, ?_⟩ hS ?_
      rotate_left
      · intro wq hSw; go_simp; try rfl
      simp only [Act.put, List.setIfInBounds_toArray, List.set_cons_zero, List.set_cons_succ]
      refine take_at 14 (some 54) (v := ?_) rfl rfl (by kernel_rfl) (by kernel_rfl) (by kernel_rfl) (fun _ _ _ h => h) ⟨by rfl, ?_⟩ hS ?_
      rotate_left
      · intro wq hSw; go_simp; try rfl
      simp only [Act.put, List.setIfInBounds_toArray, List.set_cons_zero, List.set_cons_succ]
      refine take_at 15 (some 55) (v := ?_) rfl rfl (by kernel_rfl) (by kernel_rfl) (by kernel_rfl) (fun _ _ _ h => h) ⟨by rfl, ?_⟩ hS ?_
      rotate_left
      · intro wq hSw; go_simp; try rfl
      simp only [Act.put, List.setIfInBounds_toArray, List.set_cons_zero, List.set_cons_succ]
      refine take_at 16 (some 56) (v := ?_) rfl rfl (by kernel_rfl) (by kernel_rfl) (by kernel_rfl) (fun _ _ _ h => h) ⟨by rfl, ?_⟩ hS ?_
      rotate_left
      · intro wq hSw; obtain ⟨q0, q1, q2, q3⟩ := RS.out wq hSw; go_simp; try rfl
      simp only [Act.put, List.setIfInBounds_toArray, List.set_cons_zero, List.set_cons_succ]
      refine take_at 17 (some 57) (v := ?_) rfl rfl (by kernel_rfl) (by kernel_rfl) (by kernel_rfl) (fun _ _ _ h => h) ⟨by rfl, ?_⟩ hS ?_
      rotate_left
      · intro wq hSw; have qq := CX.out.below hSw; obtain ⟨q0, _⟩ := qq.get 0 _ rfl; obtain ⟨q1, _⟩ := qq.get 1 _ rfl; obtain ⟨q2, _⟩ := qq.get 2 _ rfl; obtain ⟨q3, _⟩ := qq.get 3 _ rfl; clear qq; go_simp; try rfl
      simp only [Act.put, List.setIfInBounds_toArray, List.set_cons_zero, List.set_cons_succ]
      refine take_at 18 (some 58) (v := ?_) rfl rfl (by kernel_rfl) (by kernel_rfl) (by kernel_rfl) (fun _ _ _ h => h) ⟨by rfl, ?_⟩ hS ?_
      rotate_left
      · intro wq hSw; go_simp; try rfl
      simp only [Act.put, List.setIfInBounds_toArray, List.set_cons_zero, List.set_cons_succ]
      refine take_at 19 (some 59) (v := ?_) rfl rfl (by kernel_rfl) (by kernel_rfl) (by kernel_rfl) (fun _ _ _ h => h) ⟨by rfl, ?_⟩ hS ?_
      rotate_left
      · intro wq hSw; go_simp; try rfl
      simp only [Act.put, List.setIfInBounds_toArray, List.set_cons_zero, List.set_cons_succ]
      clear hS
      refine wpAnyH_done (by kernel_rfl) ?_ _
      go_wp2_with fail
      go_roundw
      case rel => first | exact ⟨k + 1, by go_num, by omega, HKF.out.trans (D2.out.mono HKF.out.size)⟩ | ((repeat apply Exists.intro); exact ⟨⟨k + 1, by go_num, by omega, HKF.out.trans (D2.out.mono HKF.out.size)⟩, rfl⟩)
      case measure => simp [intOf]; omega
    · clear hbk
      go_wp2_with fail
      go_ret
      exact ⟨rfl, HB1.out.trans (HK.out.mono HB1.out.size)⟩
end Go.Proofs.Ytokcocmenndlmaa
