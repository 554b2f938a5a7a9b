import Derived.Test.YtcnlcmdppkdmmaaEc14
namespace Go.Proofs.Ytcnlcmdppkdmmaa
open Go.RowKit Go.QK Quota Go.Maps
set_option maxRecDepth 100000

theorem and1 (x : Int) : bits .and .i64 x 1 = x % 2 := by
  have h2 : (BitVec.ofInt 64 1).toNat = 2 ^ 1 - 1 := by decide
  show IntKind.i64.wrap ((BitVec.ofInt 64 x &&& BitVec.ofInt 64 1).toNat : Int) = _
  rw [BitVec.toNat_and, h2, Nat.and_two_pow_sub_one_eq_mod, BitVec.toNat_ofInt, IntKind.wrap_i64]
  omega

def bitB (s : Nat) (i : Nat) : Bool := s / 2 ^ i % 2 == 1
/-- The nets of those whose bit is set. -/
def pS : Nets → Nat → Int
  | [], _ => 0
  | p :: r, s => (if s % 2 = 1 then p.2 else 0) + pS r (s / 2)
theorem pS_snoc (L : Nets) (p : Int × Int) (s : Nat) : pS (L ++ [p]) s = pS L s + if bitB s L.length then p.2 else 0 := by
  induction L generalizing s with
  | nil =>
    simp only [List.nil_append, pS, bitB, List.length_nil, Nat.pow_zero, Nat.div_one]
    by_cases h : s % 2 = 1 <;> simp [h]
  | cons q r ih =>
    have e : bitB s (r.length + 1) = bitB (s / 2) r.length := by
      unfold bitB
      rw [Nat.pow_succ, Nat.mul_comm, ← Nat.div_div_eq_div_mul]
    simp only [List.cons_append, pS, List.length_cons, ih, e]
    omega
theorem pS_take (L : Nets) (s k : Nat) (h : k < L.length) : pS (L.take (k + 1)) s = pS (L.take k) s + if bitB s k then L[k].2 else 0 := by
  rw [List.take_succ_eq_append_getElem h, pS_snoc]
  simp only [List.length_take, Nat.min_eq_left (Nat.le_of_lt h)]
theorem pS_bd (L : Nets) (s : Nat) (h : ∀ p ∈ L, I64 p.2) : -(9223372036854775808 * (L.length : Int)) ≤ pS L s ∧ pS L s ≤ 9223372036854775808 * (L.length : Int) := by
  induction L generalizing s with
  | nil => simp [pS]
  | cons p r ih =>
    have h1 := h p (by simp)
    have h2 := ih (s / 2) (fun q hq => h q (by simp [hq]))
    unfold I64 at h1
    simp only [pS, List.length_cons]
    split <;> omega
theorem pS_Bd {base : Int} (hb : I64 base) (L : Nets) (s : Nat) (h : ∀ p ∈ L, I64 p.2) (hl : L.length ≤ 1000) : Bd (base + pS L s) := by
  have := pS_bd L s h
  unfold I64 at hb
  unfold Bd
  omega

set_option maxHeartbeats 4000000 in
theorem outcome_any (base : Int) (L : Nets) (s : Nat) (a : Option Addr) (c : Nat) (w : World) (hs : Lies w a (rowsC netC L)) (hb : I64 base) (hx : ∀ p ∈ L, I64 p.2) (hl : L.length ≤ 60) :
    Calls Try.prog 28 #[.int .i64 base, .slice a L.length c, .int .i64 s] w fun r w' => r = .returned (wd (base + pS L s)) ∧ Below w.heap.size w w' := by
  have HS := hide hs
  have HX := hide hx
  have HBB := hide hb
  have ROW := fun (wq : World) (hq : Lies wq a (rowsC netC L)) (k : Nat) (hk : k < L.length) => Lies.rowAt netC 2 (fun _ => rfl) hq k hk (by omega)
  clear hs hx hb
  go_enter Try.func28, Try.ntmps28
  go_wp2_with fail
  refine (of_any base _).mono ?_
  rintro r w1 ⟨rfl, h1⟩
  have BX := hide (Box.below (Box.new w (.int .i64 0) (.int .i64 0) 50) h1)
  have b1 := hide (below1 h1)
  have z1 := BX.out.1
  have z2 := b1.out.size
  have hne : w1.heap.size ≠ w.heap.size := by omega
  clear h1
  go_wp2_with fail
  go_loopw [8] (fun i wr => ∃ k : Nat, k ≤ L.length ∧ i = .int .i64 k ∧ Box wr w.heap.size (.int .i64 0) (.int .i64 0) ∧ Box wr w1.heap.size (.int .i64 (wh (base + pS (L.take k) s))) (.int .i64 (wl (base + pS (L.take k) s))) ∧ Below w.heap.size w wr) (fun i _ => L.length - (intOf i).toNat)
  case atStart =>
    refine ⟨0, by omega, rfl, BX.out.alloc _, ?_, b1.out.alloc z2 _⟩
    rw [List.take_zero, show base + pS [] s = base from by simp [pS]]
    exact Box.new w1 _ _ 50
  case round =>
    obtain ⟨k, hk, rfl, XR, XT, hb⟩ := hrel
    have HR := hide XR
    have HT := hide XT
    have HB := hide hb
    clear XR XT hb
    by_cases q : k < L.length
    · obtain ⟨bl, off, rfl, hlt0, hcell⟩ := ROW w HS.out k q
      have y1 := (HB.out.cell (p := ⟨bl, off + k * 2 + 1, none⟩) hlt0).trans (hcell 1 _ rfl)
      have hlt := Nat.lt_of_lt_of_le hlt0 HB.out.size
      have x1 := HX.out L[k] (List.getElem_mem q)
      have hst := pS_take L s k q
      have hbd := pS_Bd HBB.out (L.take k) s (fun p hp => HX.out p (List.mem_of_mem_take hp)) (by simp; omega)
      have hu : IntKind.u64.wrap (k : Int) = (k : Int) := by rw [IntKind.wrap_u64]; omega
      have hsh : (s : Int) / 2 ^ k = ((s / 2 ^ k : Nat) : Int) := by simp
      have hk64 : (k : Int) ≤ 64 := by omega
      generalize L[k].2 = nv at *
      generalize hZ : base + pS (L.take k) s = Z at *
      have hst2 : base + pS (L.take (k + 1)) s = Z + if bitB s k then nv else 0 := by rw [hst]; omega
      have HST := hide hst2
      have hpar : ((s / 2 ^ k : Nat) : Int) % 2 = ((s / 2 ^ k % 2 : Nat) : Int) := by omega
      clear hcell hst hst2 hZ
      obtain ⟨t0, t1, t2, t3, t4⟩ := HT.out
      cases hbit : bitB s k
      · have hne2 : (bits .and .i64 ((s : Int) / 2 ^ k) 1 == 1) = false := by
          unfold bitB at hbit
          have : ¬ s / 2 ^ k % 2 = 1 := by simpa using hbit
          have h0 : s / 2 ^ k % 2 = 0 := by omega
          rw [and1, hsh, hpar, h0]
          rfl
        rw [hbit] at HST
        clear hpar hbit hsh
        go_wp2_with fail
        go_roundw
        case rel =>
          refine ⟨k + 1, by omega, by go_num, HR.out, ?_, HB.out⟩
          rw [HST.out]
          simpa using HT.out
        case measure => simp [intOf]; omega
      · have hne2 : (bits .and .i64 ((s : Int) / 2 ^ k) 1 == 1) = true := by
          unfold bitB at hbit
          have h0 : s / 2 ^ k % 2 = 1 := by simpa using hbit
          rw [and1, hsh, hpar, h0]
          rfl
        rw [hbit] at HST
        clear hpar hbit hsh
        have KP := fun w' => plus_w Z nv w' hbd x1
        have NB := hide (show ¬ bl = w1.heap.size from by omega)
        go_upto_region 6 with fail
        refine wp_region_held_drew (S := fun wq => wq.cell? ⟨bl, off + k * 2 + 1, none⟩ = some (.int .i64 nv)) (by kernel_rfl) y1 (fun hS => ?_)
        have HR := hide (HR.out.below (Below.refl _ _).drew)
        have HT := hide (HT.out.below (Below.refl _ _).drew)
        have HB := hide HB.out.drew
        have hlt2 : bl < wr.drew.heap.size := hlt
        clear y1 t0 t1 t2 t3 t4 hlt
        generalize wr.drew = w5 at *
        obtain ⟨t0, t1, t2, t3, t4⟩ := HT.out
        refine take_at 1 (some 24) (v := ?_) rfl rfl (by kernel_rfl) (by kernel_rfl) (by kernel_rfl) (fun _ _ _ h => h) ⟨by rfl, ?_⟩ hS ?_
        rotate_left
        · intro wq hSw; go_simp; try rfl
        simp only [Act.put, List.setIfInBounds_toArray, List.set_cons_zero, List.set_cons_succ]
        refine take_at 2 (some 25) (v := ?_) rfl rfl (by kernel_rfl) (by kernel_rfl) (by kernel_rfl) (fun _ _ _ h => h) ⟨by rfl, ?_⟩ hS ?_
        rotate_left
        · intro wq hSw; go_simp; try rfl
        simp only [Act.put, List.setIfInBounds_toArray, List.set_cons_zero, List.set_cons_succ]
        refine take_at 3 (some 26) (v := ?_) rfl rfl (by kernel_rfl) (by kernel_rfl) (by kernel_rfl) (fun _ _ _ h => h) ⟨by rfl, ?_⟩ hS ?_
        rotate_left
        · intro wq hSw; go_simp; try rfl
        simp only [Act.put, List.setIfInBounds_toArray, List.set_cons_zero, List.set_cons_succ]
        refine take_at 4 (some 27) (v := ?_) rfl rfl (by kernel_rfl) (by kernel_rfl) (by kernel_rfl) (fun _ _ _ h => h) ⟨by rfl, ?_⟩ hS ?_
        rotate_left
        · intro wq hSw; go_simp; try rfl
        simp only [Act.put, List.setIfInBounds_toArray, List.set_cons_zero, List.set_cons_succ]
        refine take_at 5 (some 28) (v := ?_) rfl rfl (by kernel_rfl) (by kernel_rfl) (by kernel_rfl) (fun _ _ _ h => h) ⟨by rfl, ?_⟩ hS ?_
        rotate_left
        · intro wq hSw; have hSw := hSw; go_simp; try rfl
        simp only [Act.put, List.setIfInBounds_toArray, List.set_cons_zero, List.set_cons_succ]
        refine wpAnyH_ready (rs := [0]) (by kernel_rfl) (by simp) ?_
        refine AllReadyH.cons rfl (fun K hK => ?_) AllReadyH.nil
        go_simp
        go_wp2_with fail
        refine hK.out _ _ hS (fun hS => ?_)
        clear hK K
        (try simp only [Act.put, List.setIfInBounds_toArray, List.set_cons_zero, List.set_cons_succ])
        refine wpAnyH_ready (rs := [6]) (by kernel_rfl) (by simp) ?_
        refine AllReadyH.cons rfl (fun K hK => ?_) AllReadyH.nil
        go_simp
        go_wp2_with fail
        refine (KP _).mono ?_
        rintro r w6 ⟨rfl, h6⟩
        have HR6 := hide (HR.out.below h6)
        have HT6 := hide (HT.out.below h6)
        have HB6 := hide (HB.out.trans (h6.mono HB.out.size))
        have y6 := (h6.cell (p := ⟨bl, off + k * 2 + 1, none⟩) hlt2).trans hS
        have hlt6 := Nat.lt_of_lt_of_le hlt2 h6.size
        clear h6
        go_wp2_with fail
        refine hK.out _ _ y6 (fun hS => ?_)
        clear hK K
        (try simp only [Act.put, List.setIfInBounds_toArray, List.set_cons_zero, List.set_cons_succ])
        obtain ⟨u0, u1, u2, u3, u4⟩ := HT6.out
        have K7 := ((Keep.refl (fun x => x = w1.heap.size) w6).setCell (g := w1.heap.size) (j := 0) (fun _ => rfl) (.int .i64 (wh (Z + nv)))).setCell (g := w1.heap.size) (j := 1) (fun _ => rfl) (.int .i64 (wl (Z + nv)))
        have y7 := (K7.cell (p := ⟨bl, off + k * 2 + 1, none⟩) hlt6 NB.out).trans y6
        refine wpAnyH_ready (rs := [7]) (by kernel_rfl) (by simp) ?_
        refine AllReadyH.cons rfl (fun K hK => ?_) AllReadyH.nil
        go_simp
        go_wp2_with fail
        refine hK.out _ _ y7 (fun hS => ?_)
        clear hK K
        (try simp only [Act.put, List.setIfInBounds_toArray, List.set_cons_zero, List.set_cons_succ])
        refine wpAnyH_done (by kernel_rfl) ?_ _
        go_wp2_with fail
        go_roundw
        case rel =>
          refine ⟨k + 1, by omega, by go_num, ?_, ?_, ?_⟩
          · exact (HR6.out.other (by omega)).other (by omega)
          · rw [HST.out]
            simpa using Box.set HT6.out (.int .i64 (wh (Z + nv))) (.int .i64 (wl (Z + nv)))
          · exact (HB6.out.setCell z2 _).setCell z2 _
        case measure => simp [intOf]; omega
    · have q3 : k = L.length := by omega
      subst q3
      rw [List.take_length] at HT
      generalize hZ : base + pS L s = Z at *
      have HZ := hide hZ
      clear hZ
      obtain ⟨t0, t1, t2, t3, t4⟩ := HT.out
      obtain ⟨u0, u1, u2, u3, u4⟩ := HR.out
      go_wp2_with fail
      have BF := Box.set HR.out (.int .i64 (wh Z)) (.int .i64 (wl Z))
      obtain ⟨x0, x1, x2, x3, x4⟩ := BF
      refine bodyPost_ret (v := wd Z) (by simp [results, Try.results28, go_sem, x1, x2]) rfl ⟨by rw [HZ.out], ?_⟩
      exact (HB.out.setCell (Nat.le_refl _) _).setCell (Nat.le_refl _) _
end Go.Proofs.Ytcnlcmdppkdmmaa
