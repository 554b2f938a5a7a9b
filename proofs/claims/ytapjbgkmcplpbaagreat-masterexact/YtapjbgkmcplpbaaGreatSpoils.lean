import Derived.Test.YtapjbgkmcplpbaaGreatG40
import Derived.Deep.CutBlock
import Derived.Deep.DeepCutAuto
namespace Go.QK
/-- A step of the script. -/
structure OpM where
  k : Int
  x : Int
  y : Int
  z : Int
  n : Int
  l : Loss
  b : List Nat
  little : Bool
def OpM.v (o : OpM) (la : Option Addr) (lc : Nat) (ba : Option Addr) (bc : Nat) : Array Value := #[.int .i64 o.k, .int .i64 o.x, .int .i64 o.y, .int .i64 o.z, .int .i64 o.n, .slice la o.l.keep.length lc, .int .i64 o.l.torn, .int .i64 o.l.off, .slice ba o.b.length bc, .bool o.little]
end Go.QK
namespace Go.Proofs.YtapjbgkmcplpbaaGreat
open Go.RowKit Go.QK

theorem fill_byte (x : Int) : ∃ n : Nat, IntKind.u8.wrap x = (n : Int) ∧ n < 256 := by
  rw [IntKind.wrap_u8]
  exact ⟨(x % 256).toNat, by omega, by omega⟩
theorem AllB.set {l : List Nat} (h : AllB l) (j x : Nat) (hx : x < 256) : AllB (l.set j x) := fun y hy => by
  rcases List.mem_or_eq_of_mem_set hy with q | q
  · exact h y q
  · omega

set_option maxHeartbeats 4000000 in
set_option maxRecDepth 100000 in
theorem spoils_write {w : World} {S T : Nat → Prop} {d c : Nat} {g : Dev} {pb p q r : Nat} (h : Duet w S d g T c g pb p q r) (o : OpM) (la : Option Addr) (lc : Nat) (ba : Option Addr) (bc : Nat) (hk : o.k = 8) (hs : Bytes w ba o.b) (ha : ba = none → bc = 0) (hab : AllB o.b) (hpl : g.pend.length ≤ 999990) (hcl : g.calls ≤ 999990) :
    Calls Tryz.prog 34 #[.pointer (some ⟨pb, 0, none⟩), .agg (o.v la lc ba bc)] w fun e w' => ∃ g' S' T', e = .returned (.bool true) ∧ Duet w' S' d g' T' c g' pb p q r ∧ Grows g g' ∧ Step w (fun b => S b ∨ T b) w' (fun b => S' b ∨ T' b) := by
  have HV : Hid (o.v la lc ba bc = #[.int .i64 8, .int .i64 o.x, .int .i64 o.y, .int .i64 o.z, .int .i64 o.n, .slice la o.l.keep.length lc, .int .i64 o.l.torn, .int .i64 o.l.off, .slice ba o.b.length bc, .bool o.little]) := by unfold Hid OpM.v; rw [hk]
  rw [HV.out]
  obtain ⟨w1, hw1⟩ : ∃ w1, w1 = w.alloc (.cells (o.v la lc ba bc) 36) := ⟨_, rfl⟩
  have b1 : Below w.heap.size w w1 := by rw [hw1]; exact alloc_below _ _
  have C1 : Cells w1 w.heap.size (o.v la lc ba bc).toList := by rw [hw1]; exact Cells.new w _ 36
  rw [HV.out] at hw1 C1
  have D1 := h.below b1
  have KW := hide (writes_any D1 o.n ba o.b bc (Seen.below hs b1) ha hab hpl hcl)
  have G := hide (Grows.write h.pr.one.ok o.n (padB o.b) (padB_allB hab))
  have HW := hide hw1
  have B1 := hide b1
  obtain ⟨u0, _⟩ := C1.get 0 _ rfl
  obtain ⟨u4, _⟩ := C1.get 4 _ rfl
  obtain ⟨u8, _⟩ := C1.get 8 _ rfl
  clear hw1 b1 C1 D1 h hs ha hab HV hk
  go_enter Tryz.func34, Tryz.ntmps34
  go_upto_region 1 with fail
  rw [← HW.out]
  clear HW
  go_wp2_with fail
  refine KW.out.mono ?_
  rintro e w2 ⟨S2, T2, rfl, D2, st2⟩
  go_wp2_with fail
  go_ret
  exact ⟨_, S2, T2, rfl, D2, G.out, (Step.of_below B1.out).trans st2⟩

set_option maxHeartbeats 8000000 in
set_option maxRecDepth 100000 in
theorem spoils_slot {w : World} {S T : Nat → Prop} {d c : Nat} {g : Dev} {pb p q r : Nat} (h : Duet w S d g T c g pb p q r) (hm : mayN (p : Int) (q : Int) (r : Int)) (o : OpM) (la : Option Addr) (lc : Nat) (ba : Option Addr) (bc : Nat) (hk : o.k = 10) (hpl : g.pend.length ≤ 999990) (hcl : g.calls ≤ 999990) :
    Calls Tryz.prog 34 #[.pointer (some ⟨pb, 0, none⟩), .agg (o.v la lc ba bc)] w fun e w' => ∃ g' S' T', e = .returned (.bool true) ∧ Duet w' S' d g' T' c g' pb p q r ∧ Grows g g' ∧ Step w (fun b => S b ∨ T b) w' (fun b => S' b ∨ T' b) := by
  have HV : Hid (o.v la lc ba bc = #[.int .i64 10, .int .i64 o.x, .int .i64 o.y, .int .i64 o.z, .int .i64 o.n, .slice la o.l.keep.length lc, .int .i64 o.l.torn, .int .i64 o.l.off, .slice ba o.b.length bc, .bool o.little]) := by unfold Hid OpM.v; rw [hk]
  rw [HV.out]
  obtain ⟨w1, hw1⟩ : ∃ w1, w1 = w.alloc (.cells (o.v la lc ba bc) 36) := ⟨_, rfl⟩
  have b1 : Below w.heap.size w w1 := by rw [hw1]; exact alloc_below _ _
  have C1 : Cells w1 w.heap.size (o.v la lc ba bc).toList := by rw [hw1]; exact Cells.new w _ 36
  rw [HV.out] at hw1 C1
  have D1 := hide (h.below b1)
  have HW := hide hw1
  have B1 := hide b1
  have OK := hide h.pr.one.ok
  obtain ⟨u0, _⟩ := C1.get 0 _ rfl
  obtain ⟨u4, _⟩ := C1.get 4 _ rfl
  have C1 := hide C1
  obtain ⟨n, hn⟩ : ∃ n, n = o.n := ⟨_, rfl⟩
  rw [← hn] at u4 HW ⊢
  have HN := hide hn
  have LT := hide (show ¬ S w.heap.size ∧ ¬ T w.heap.size from ⟨fun q => by have := h.pr.one.lt _ q; omega, fun q => by have := h.pr.two.lt _ q; omega⟩)
  have R9 := rest_any n 9 (by omega) (by omega) w1
  have R3 := rest_any n 3 (by omega) (by omega) w1
  simp only [show ((9 : Nat) : Int) = 9 from rfl] at R9
  simp only [show ((3 : Nat) : Int) = 3 from rfl] at R3
  have a0 := Int.emod_nonneg n (show (9 : Int) ≠ 0 by decide)
  have a1 := Int.emod_lt_of_pos n (show (0 : Int) < 9 by decide)
  have c0 := Int.emod_nonneg n (show (3 : Int) ≠ 0 by decide)
  have c1 := Int.emod_lt_of_pos n (show (0 : Int) < 3 by decide)
  have k0 := Int.emod_nonneg n (show (1000 : Int) ≠ 0 by decide)
  have k1 := Int.emod_lt_of_pos n (show (0 : Int) < 1000 by decide)
  obtain ⟨n9, h9⟩ : ∃ n9 : Nat, n % 9 = (n9 : Int) := ⟨(n % 9).toNat, by omega⟩
  obtain ⟨n3, h3⟩ : ∃ n3 : Nat, n % 3 = (n3 : Int) := ⟨(n % 3).toNat, by omega⟩
  obtain ⟨nk, hnk⟩ : ∃ nk : Nat, n % 1000 = (nk : Int) := ⟨(n % 1000).toNat, by omega⟩
  rw [h9] at R9 a1
  rw [h3] at R3 c1
  rw [hnk] at k1
  have x1 : IntKind.i64.wrap (1 + (n9 : Int)) = 1 + (n9 : Int) := by rw [IntKind.wrap_i64]; omega
  have x2 : IntKind.u64.wrap (1 + (n9 : Int)) = ((1 + n9 : Nat) : Int) := by rw [IntKind.wrap_u64]; omega
  have x3 : IntKind.u64.wrap (n3 : Int) = (n3 : Int) := wrap_fit _ (by omega)
  have x4 : IntKind.u64.wrap (4611686018427387904 - (n3 : Int)) = ((4611686018427387904 - n3 : Nat) : Int) := by rw [IntKind.wrap_u64]; omega
  have HK := hide hnk
  have R9 := hide R9
  have R3 := hide R3
  have A1 := hide a1
  have E1 := hide c1
  have K1 := hide k1
  clear hw1 b1 h HV hk hn a0 c0 k0 h9 h3 hnk a1 c1 k1
  go_enter Tryz.func34, Tryz.ntmps34
  go_upto_region 1 with fail
  rw [← HW.out]
  clear HW
  go_upto_region 6 with fail
  refine R9.out.mono ?_
  rintro e w' ⟨rfl, hw⟩
  obtain rfl : w1 = w' := hw.symm
  clear R9
  go_upto_if 28 with fail
  go_cut [5] (fun s w' => ∃ st : Nat, s = .int .u64 (st : Int) ∧ 1 ≤ st ∧ st ≤ 4611686018427387904 ∧ w' = w1)
  case first =>
    have a1 := A1.out
    have c1 := E1.out
    by_cases hneg : n < 0
    · go_wp2_with fail
      refine R3.out.mono ?_
      rintro e w' ⟨rfl, hw⟩
      obtain rfl : w1 = w' := hw.symm
      go_wp2_with fail
      go_meet
      exact ⟨4611686018427387904 - n3, rfl, by omega, by omega, rfl⟩
    · go_wp2_with fail
      go_meet
      exact ⟨1 + n9, rfl, by omega, by omega, rfl⟩
  case rest =>
    obtain ⟨st, hs5, s1, s2, hwc⟩ := hcut
    subst hwc
    subst hs5
    have hm' := hm
    unfold mayN at hm'
    have k1 := K1.out
    have fit : Slot.Fit ⟨st, p, q, r, nk⟩ := ⟨by simp; omega, by simp; omega, by simp; omega, by simp; omega, by simp; omega⟩
    have FIT := hide fit
    have y1 : (st : Int).tmod 2 = ((st % 2 : Nat) : Int) := rem2 st
    obtain ⟨s2m, hs2m⟩ : ∃ s2m, s2m = st % 2 := ⟨_, rfl⟩
    rw [← hs2m] at y1
    have y2 : IntKind.i64.wrap (s2m : Int) = (s2m : Int) := wrapI_fit _ (by omega)
    obtain ⟨W, hW⟩ : ∃ W, W = wc.drew := ⟨_, rfl⟩
    have bW : Below wc.heap.size wc W := by rw [hW]; exact (Below.refl _ _).drew
    have DW := D1.out.below bW
    have CW := C1.out.below bW
    have BW := bnext B1.out bW (Nat.le_refl _)
    have RK := rest_any n 1000 (by omega) (by omega) W
    simp only [show ((1000 : Nat) : Int) = 1000 from rfl] at RK
    rw [HK.out] at RK
    have RK := hide RK
    have KL := rSlot_any ⟨st, p, q, r, nk⟩ FIT.out W
    unfold shC at KL
    have KL := hide KL
    obtain ⟨z0, z1, z2⟩ := D1.out.sh
    have F0 := hide (show (wc.cell? ⟨pb, 2, none⟩ = some (.int .i64 (p : Int)) ∧ wc.cell? ⟨pb, 3, none⟩ = some (.int .i64 (q : Int)) ∧ wc.cell? ⟨pb, 4, none⟩ = some (.int .i64 (r : Int))) ∧ wc.cell? ⟨w.heap.size, 4, none⟩ = some (.int .i64 n) from ⟨⟨z0, z1, z2⟩, u4⟩)
    have DW := hide DW
    have CW := hide CW
    have BW := hide BW
    have HW := hide hW
    have HS2 := hide hs2m
    clear hW bW hm' fit x1 x2 x3 x4 A1 E1 u0 u4 z0 z1 z2 hs2m R3 s1 s2 k1
    go_wp2_with fail
    refine wp_region_held_drew (S := fun wq => (wq.cell? ⟨pb, 2, none⟩ = some (.int .i64 (p : Int)) ∧ wq.cell? ⟨pb, 3, none⟩ = some (.int .i64 (q : Int)) ∧ wq.cell? ⟨pb, 4, none⟩ = some (.int .i64 (r : Int))) ∧ wq.cell? ⟨w.heap.size, 4, none⟩ = some (.int .i64 n)) (by kernel_rfl) F0.out (fun hS => ?_)
    rw [← HW.out] at hS ⊢
    refine take_at 0 (some 34) (v := ?_) rfl rfl (by kernel_rfl) (by kernel_rfl) (by kernel_rfl) (fun _ _ _ h => h) ⟨by rfl, ?_⟩ hS ?_
    rotate_left
    · intro wq hSw; go_simp; try rfl
    simp only [Act.put, List.setIfInBounds_toArray, List.set_cons_zero, List.set_cons_succ]
    refine take_at 1 (some 35) (v := ?_) rfl rfl (by kernel_rfl) (by kernel_rfl) (by kernel_rfl) (fun _ _ _ h => h) ⟨by rfl, ?_⟩ hS ?_
    rotate_left
    · intro wq hSw; go_simp; try rfl
    simp only [Act.put, List.setIfInBounds_toArray, List.set_cons_zero, List.set_cons_succ]
    refine take_at 2 (some 36) (v := ?_) rfl rfl (by kernel_rfl) (by kernel_rfl) (by kernel_rfl) (fun _ _ _ h => h) ⟨by rfl, ?_⟩ hS ?_
    rotate_left
    · intro wq hSw; go_simp; try rfl
    simp only [Act.put, List.setIfInBounds_toArray, List.set_cons_zero, List.set_cons_succ]
    refine take_at 3 (some 37) (v := ?_) rfl rfl (by kernel_rfl) (by kernel_rfl) (by kernel_rfl) (fun _ _ _ h => h) ⟨by rfl, ?_⟩ hS ?_
    rotate_left
    · intro wq hSw; go_simp; try rfl
    simp only [Act.put, List.setIfInBounds_toArray, List.set_cons_zero, List.set_cons_succ]
    refine take_at 4 (some 38) (v := ?_) rfl rfl (by kernel_rfl) (by kernel_rfl) (by kernel_rfl) (fun _ _ _ h => h) ⟨by rfl, ?_⟩ hS ?_
    rotate_left
    · intro wq hSw; go_simp; try rfl
    simp only [Act.put, List.setIfInBounds_toArray, List.set_cons_zero, List.set_cons_succ]
    refine take_at 5 (some 39) (v := ?_) rfl rfl (by kernel_rfl) (by kernel_rfl) (by kernel_rfl) (fun _ _ _ h => h) ⟨by rfl, ?_⟩ hS ?_
    rotate_left
    · intro wq hSw; go_simp; try rfl
    simp only [Act.put, List.setIfInBounds_toArray, List.set_cons_zero, List.set_cons_succ]
    refine take_at 6 (some 40) (v := ?_) rfl rfl (by kernel_rfl) (by kernel_rfl) (by kernel_rfl) (fun _ _ _ h => h) ⟨by rfl, ?_⟩ hS ?_
    rotate_left
    · intro wq hSw; go_simp; try rfl
    simp only [Act.put, List.setIfInBounds_toArray, List.set_cons_zero, List.set_cons_succ]
    refine take_at 7 (some 41) (v := ?_) rfl rfl (by kernel_rfl) (by kernel_rfl) (by kernel_rfl) (fun _ _ _ h => h) ⟨by rfl, ?_⟩ hS ?_
    rotate_left
    · intro wq hSw; go_simp; try rfl
    simp only [Act.put, List.setIfInBounds_toArray, List.set_cons_zero, List.set_cons_succ]
    refine take_at 8 (some 42) (v := ?_) rfl rfl (by kernel_rfl) (by kernel_rfl) (by kernel_rfl) (fun _ _ _ h => h) ⟨by rfl, ?_⟩ hS ?_
    rotate_left
    · intro wq hSw; obtain ⟨⟨x0, x1, x2⟩, x3⟩ := hSw; go_simp; try rfl
    simp only [Act.put, List.setIfInBounds_toArray, List.set_cons_zero, List.set_cons_succ]
    refine take_at 9 (some 43) (v := ?_) rfl rfl (by kernel_rfl) (by kernel_rfl) (by kernel_rfl) (fun _ _ _ h => h) ⟨by rfl, ?_⟩ hS ?_
    rotate_left
    · intro wq hSw; go_simp; try rfl
    simp only [Act.put, List.setIfInBounds_toArray, List.set_cons_zero, List.set_cons_succ]
    refine take_at 10 (some 44) (v := ?_) rfl rfl (by kernel_rfl) (by kernel_rfl) (by kernel_rfl) (fun _ _ _ h => h) ⟨by rfl, ?_⟩ hS ?_
    rotate_left
    · intro wq hSw; obtain ⟨⟨x0, x1, x2⟩, x3⟩ := hSw; go_simp; try rfl
    simp only [Act.put, List.setIfInBounds_toArray, List.set_cons_zero, List.set_cons_succ]
    refine wpAnyH_ready (rs := [11]) (by kernel_rfl) (by simp) ?_
    refine AllReadyH.cons rfl (fun K hK => ?_) AllReadyH.nil
    go_simp
    go_wp2_with fail
    refine RK.out.mono ?_
    rintro e w' ⟨rfl, hw⟩
    obtain rfl : W = w' := hw.symm
    clear RK
    go_wp2_with fail
    refine hK.out _ _ hS (fun hS => ?_)
    clear hK K
    (try simp only [Act.put, List.setIfInBounds_toArray, List.set_cons_zero, List.set_cons_succ])
    refine wpAnyH_ready (rs := [12]) (by kernel_rfl) (by simp) ?_
    refine AllReadyH.cons rfl (fun K hK => ?_) AllReadyH.nil
    go_simp
    go_wp2_with fail
    refine KL.out.mono ?_
    rintro e w3 ⟨gs, rfl, o3, b3⟩
    have D3 := hide (DW.out.below b3)
    have C3 := (CW.out.below b3).get 4 _ rfl
    have B3 := hide (bnext BW.out b3 (Nat.le_refl _))
    have KW := writes_any D3.out (s2m : Int) (some ⟨gs, 0, none⟩) (slotB ⟨st, p, q, r, nk⟩) 512 (Owns.seen_at o3) nofun (slotB_allB _) hpl hcl
    rw [slotB_length] at KW
    have KW := hide KW
    have F3 := hide (show (w3.cell? ⟨pb, 2, none⟩ = some (.int .i64 (p : Int)) ∧ w3.cell? ⟨pb, 3, none⟩ = some (.int .i64 (q : Int)) ∧ w3.cell? ⟨pb, 4, none⟩ = some (.int .i64 (r : Int))) ∧ w3.cell? ⟨w.heap.size, 4, none⟩ = some (.int .i64 o.n) from ⟨D3.out.sh, C3.1⟩)
    rw [← HN.out] at F3
    have N3 := hide (show ¬ S w.heap.size ∧ ¬ T w.heap.size from ⟨fun q => LT.out.1 q, fun q => LT.out.2 q⟩)
    have A3 := hide (show Cells w3 w.heap.size _ from CW.out.below b3)
    clear o3 b3 C3 DW CW BW KL
    go_wp2_with fail
    refine hK.out _ _ F3.out (fun hS => ?_)
    clear hK K
    (try simp only [Act.put, List.setIfInBounds_toArray, List.set_cons_zero, List.set_cons_succ])
    refine wpAnyH_ready (rs := [13]) (by kernel_rfl) (by simp) ?_
    refine AllReadyH.cons rfl (fun K hK => ?_) AllReadyH.nil
    go_simp
    go_wp2_with fail
    refine KW.out.mono ?_
    rintro e w5 ⟨S5, T5, rfl, D5, st5⟩
    have ST5 := hide ((Step.of_below B3.out).trans st5)
    have F5 := ((A3.out.keep st5.1 (fun q => q.elim N3.out.1 N3.out.2)).get 4 _ rfl).1
    rw [← HN.out] at F5
    have F5 := hide (show (w5.cell? ⟨pb, 2, none⟩ = some (.int .i64 (p : Int)) ∧ w5.cell? ⟨pb, 3, none⟩ = some (.int .i64 (q : Int)) ∧ w5.cell? ⟨pb, 4, none⟩ = some (.int .i64 (r : Int))) ∧ w5.cell? ⟨w.heap.size, 4, none⟩ = some (.int .i64 n) from ⟨D5.sh, F5⟩)
    have D5 := hide D5
    clear st5 KW D3 B3 A3
    go_wp2_with fail
    refine hK.out _ _ F5.out (fun hS => ?_)
    clear hK K
    (try simp only [Act.put, List.setIfInBounds_toArray, List.set_cons_zero, List.set_cons_succ])
    refine take_at 14 (some 4) (v := ?_) rfl rfl (by kernel_rfl) (by kernel_rfl) (by kernel_rfl) (fun _ _ _ h => h) ⟨by rfl, ?_⟩ hS ?_
    rotate_left
    · intro wq hSw; go_simp; try rfl
    simp only [Act.put, List.setIfInBounds_toArray, List.set_cons_zero, List.set_cons_succ]
    refine wpAnyH_done (by kernel_rfl) ?_ _
    go_wp2_with fail
    go_ret
    exact ⟨_, S5, T5, rfl, D5.out, Grows.write OK.out _ _ (padB_allB (slotB_allB _)), ST5.out⟩
end Go.Proofs.YtapjbgkmcplpbaaGreat
