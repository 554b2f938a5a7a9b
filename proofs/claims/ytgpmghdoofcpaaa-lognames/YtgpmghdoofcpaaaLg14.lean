import Derived.Test.YtgpmghdoofcpaaaLg13
import Derived.Test.YtgpmghdoofcpaaaTh6
namespace Go.Proofs.Ytgpmghdoofcpaaa.Lg
open Go.RowKit Go.QK
open Dv (hide bnext alloc_below load_arr store_arr slice_arr wp_load_arr wp_store_arr neq_arr info91)

structure LogM.Ok (m : LogM) : Prop where
  len : m.recs.length ≤ m.count
  place : m.first + m.count ≤ 10000
  fo : m.forced ≤ m.recs.length
def LogM.appE (m : LogM) (r : RecM) : Nat := if m.ended = true then 40 else if chkE (wl (m.recs.length + 1) r) ≠ 0 then chkE (wl (m.recs.length + 1) r) else if m.count = m.recs.length then 6 else 0
def LogM.appM (m : LogM) (r : RecM) : LogM := if m.appE r = 0 then { m with recs := m.recs ++ [bytesR (wl (m.recs.length + 1) r)] } else m
def LogM.appN (m : LogM) (r : RecM) : Nat := if m.appE r = 0 then m.recs.length + 1 else 0
def LogM.getE (m : LogM) (n : Int) : Nat := if m.ended = true then 40 else if n < 1 ∨ (m.recs.length : Int) < n then 4 else apE n.toNat (m.recs.getD (n.toNat - 1) [])
def LogM.getR (m : LogM) (n : Int) : RecM := if m.getE n = 0 then apR n.toNat (m.recs.getD (n.toNat - 1) []) else zeroR

section
variable {w w' : World} {S S' T U : Nat → Prop} {l d : Nat} {g : Dev} {m : LogM}
theorem LD.keep (h : LD w S T l d g m) (hk : Keep U w w') (hS : ∀ b, U b → ¬ S b) (hT : ∀ b, U b → ¬ T b) (hl : ¬ U l) : LD w' S T l d g m := by
  obtain ⟨rv, vs, h1, h2⟩ := h.recs
  exact ⟨h.dev.keep hk hS, ⟨rv, vs, h1.keep hk hT, h2.keep hk hl⟩, h.nT, h.nS, h.ap⟩
theorem LD.below (h : LD w S T l d g m) (hk : Below w.heap.size w w') : LD w' S T l d g m :=
  h.keep (Keep.of_below (S := fun _ => False) hk) (fun _ q => q.elim) (fun _ q => q.elim) id
theorem LD.lt (h : LD w S T l d g m) : l < w.heap.size ∧ (∀ b, S b → b < w.heap.size) ∧ ∀ b, T b → b < w.heap.size := by
  obtain ⟨rv, vs, h1, h2⟩ := h.recs
  exact ⟨h2.1, h.dev.lt, h1.lt⟩
set_option maxRecDepth 100000 in
theorem forced_any (h : LD w S T l d g m) : Calls Try.prog 11 #[.pointer (some ⟨l, 0, none⟩)] w fun e w' => e = .returned (.int .i64 (m.forced : Int)) ∧ w' = w := by
  obtain ⟨rv, vs, -, h2⟩ := h.recs
  obtain ⟨c4, _⟩ := h2.get 4 _ rfl
  clear h h2
  go_enter Try.func11, Try.ntmps11
  go_wp2_with fail
  go_ret
  exact ⟨rfl, rfl⟩
theorem lastL_any (h : LD w S T l d g m) : Calls Try.prog 9 #[.pointer (some ⟨l, 0, none⟩)] w fun e w' => e = .returned (.int .i64 (m.recs.length : Int)) ∧ w' = w := by
  obtain ⟨rv, vs, h1, h2⟩ := h.recs
  obtain ⟨ra, rc, erv⟩ := h1.form
  obtain ⟨c3, _⟩ := h2.get 3 _ rfl
  rw [erv] at c3
  exact last_any l _ rc ra w c3
set_option maxRecDepth 100000 in
set_option maxHeartbeats 1000000 in
theorem free_any (h : LD w S T l d g m) (hm : m.Ok) : Calls Try.prog 8 #[.pointer (some ⟨l, 0, none⟩)] w fun e w' => e = .returned (.int .i64 ((m.count - m.recs.length : Nat) : Int)) ∧ Below w.heap.size w w' := by
  have KL := fun (w' : World) (hb : Below w.heap.size w w') => lastL_any (h.below hb)
  have KL := hide (KL w.drew (Below.refl _ w).drew)
  obtain ⟨rv, vs, h1, h2⟩ := h.recs
  obtain ⟨c2, _⟩ := h2.get 2 _ rfl
  have C2 := hide c2
  have hlen := hm.len
  have hpl := hm.place
  obtain ⟨mc, hmc⟩ : ∃ mc, mc = m.count := ⟨_, rfl⟩
  obtain ⟨mr, hmr⟩ : ∃ mr, mr = m.recs.length := ⟨_, rfl⟩
  rw [← hmc] at C2 hlen hpl ⊢
  rw [← hmr] at KL hlen ⊢
  have B1 := hide (show Below w.heap.size w w.drew from (Below.refl _ w).drew)
  clear h h1 h2 c2 hmc hmr
  go_enter Try.func8, Try.ntmps8
  go_upto_region 1 with fail
  refine wp_region_held_drew (S := fun wq => wq.cell? ⟨l, 2, none⟩ = some (.int .i64 (mc : Int))) (by kernel_rfl) C2.out (fun hS => ?_)
  generalize w.drew = w2 at *
  refine take_at 0 (some 3) (v := ?_) rfl rfl (by kernel_rfl) (by kernel_rfl) (by kernel_rfl) (fun _ _ _ h => h) ⟨by rfl, ?_⟩ hS ?_
  rotate_left
  · intro wq hSw; go_simp; try rfl
  simp only [Act.put, List.setIfInBounds_toArray, List.set_cons_zero, List.set_cons_succ]
  refine take_at 1 (some 4) (v := ?_) rfl rfl (by kernel_rfl) (by kernel_rfl) (by kernel_rfl) (fun _ _ _ h => h) ⟨by rfl, ?_⟩ hS ?_
  rotate_left
  · intro wq hSw; go_simp; try rfl
  simp only [Act.put, List.setIfInBounds_toArray, List.set_cons_zero, List.set_cons_succ]
  refine take_at 2 (some 5) (v := ?_) rfl rfl (by kernel_rfl) (by kernel_rfl) (by kernel_rfl) (fun _ _ _ h => h) ⟨by rfl, ?_⟩ hS ?_
  rotate_left
  · intro wq hSw; go_simp; try rfl
  simp only [Act.put, List.setIfInBounds_toArray, List.set_cons_zero, List.set_cons_succ]
  refine take_at 3 (some 6) (v := ?_) rfl rfl (by kernel_rfl) (by kernel_rfl) (by kernel_rfl) (fun _ _ _ h => h) ⟨by rfl, ?_⟩ hS ?_
  rotate_left
  · intro wq hSw; go_simp; try rfl
  simp only [Act.put, List.setIfInBounds_toArray, List.set_cons_zero, List.set_cons_succ]
  refine take_at 4 (some 7) (v := ?_) rfl rfl (by kernel_rfl) (by kernel_rfl) (by kernel_rfl) (fun _ _ _ h => h) ⟨by rfl, ?_⟩ hS ?_
  rotate_left
  · intro wq hSw; go_simp; try rfl
  simp only [Act.put, List.setIfInBounds_toArray, List.set_cons_zero, List.set_cons_succ]
  refine wpAnyH_ready (rs := [5]) (by kernel_rfl) (by simp) ?_
  refine AllReadyH.cons rfl (fun K hK => ?_) AllReadyH.nil
  go_simp
  go_wp2_with fail
  refine KL.out.mono ?_
  rintro e w3 ⟨rfl, rfl⟩
  go_wp2_with fail
  refine hK.out _ _ hS (fun hS => ?_)
  clear hK K
  (try simp only [Act.put, List.setIfInBounds_toArray, List.set_cons_zero, List.set_cons_succ])
  refine take_at 6 (some 9) (v := ?_) rfl rfl (by kernel_rfl) (by kernel_rfl) (by kernel_rfl) (fun _ _ _ h => h) ⟨by rfl, ?_⟩ hS ?_
  rotate_left
  · intro wq hSw; go_simp; try rfl
  simp only [Act.put, List.setIfInBounds_toArray, List.set_cons_zero, List.set_cons_succ]
  refine take_at 7 (some 2) (v := ?_) rfl rfl (by kernel_rfl) (by kernel_rfl) (by kernel_rfl) (fun _ _ _ h => h) ⟨by rfl, ?_⟩ hS ?_
  rotate_left
  · intro wq hSw; go_simp; try rfl
  simp only [Act.put, List.setIfInBounds_toArray, List.set_cons_zero, List.set_cons_succ]
  refine wpAnyH_done (by kernel_rfl) ?_ _
  go_wp2_with fail
  go_ret
  refine ⟨?_, B1.out⟩
  simp
  rw [IntKind.wrap_i64]
  omega
set_option maxRecDepth 100000 in
set_option maxHeartbeats 1000000 in
theorem err_any (h : LD w S T l d g m) : Calls Try.prog 16 #[.pointer (some ⟨l, 0, none⟩)] w fun e w' => ∃ v, e = .returned v ∧ ((m.ended = false ∧ v = .nilIface) ∨ (m.ended = true ∧ ErrNew w' w.heap.size v forceS 0 40)) ∧ Below w.heap.size w w' := by
  obtain ⟨rv, vs, h1, h2⟩ := h.recs
  obtain ⟨c5, _⟩ := h2.get 5 _ rfl
  have KF := hide (fault_new forceS 0 40 w)
  clear h h1 h2
  cases he : m.ended
  · rw [he] at c5
    clear he
    go_enter Try.func16, Try.ntmps16
    go_wp2_with fail
    go_ret
    exact ⟨_, rfl, .inl ⟨trivial, rfl⟩, Below.refl _ _⟩
  · rw [he] at c5
    clear he
    go_enter Try.func16, Try.ntmps16
    go_wp2_with fail
    refine KF.out.mono ?_
    rintro e w1 ⟨v, rfl, h1, h2⟩
    go_wp2_with fail
    go_ret
    exact ⟨_, rfl, .inr ⟨trivial, h1⟩, h2⟩

set_option maxRecDepth 100000 in
set_option maxHeartbeats 4000000 in
theorem get_any (h : LD w S T l d g m) (hm : m.Ok) (n : Int) (hn : -9223372036854775808 ≤ n ∧ n ≤ 9223372036854775807) :
    Calls Try.prog 14 #[.pointer (some ⟨l, 0, none⟩), .int .i64 n] w fun e w' => ∃ v, e = .returned (.tuple #[v, .int .i64 ((m.getE n : Nat) : Int)]) ∧ RecOut w.heap.size w' v (m.getR n) ∧ Below w.heap.size w w' := by
  obtain ⟨w1, hw1⟩ : ∃ w1, w1 = w.alloc (.cells #[.int .i64 0, .int .i64 0, .int .i64 0, .int .i64 0, .int .i64 0, .int .i64 0, .int .i64 0, .int .i64 0, .int .i64 0, .int .i64 0, .int .i64 0, .int .i64 0, .int .i64 0, .int .i64 0, .slice none 0 0, .slice none 0 0, .int .i64 0] 48) := ⟨_, rfl⟩
  have b1 : Below w.heap.size w w1 := by rw [hw1]; exact alloc_below _ _
  have X1 : RBox w1 w.heap.size 48 #[.int .i64 0, .int .i64 0, .int .i64 0, .int .i64 0, .int .i64 0, .int .i64 0, .int .i64 0, .int .i64 0, .int .i64 0, .int .i64 0, .int .i64 0, .int .i64 0, .int .i64 0, .int .i64 0, .slice none 0 0, .slice none 0 0, .int .i64 0] := by rw [hw1]; exact RBox.new w #[.int .i64 0, .int .i64 0, .int .i64 0, .int .i64 0, .int .i64 0, .int .i64 0, .int .i64 0, .int .i64 0, .int .i64 0, .int .i64 0, .int .i64 0, .int .i64 0, .int .i64 0, .int .i64 0, .slice none 0 0, .slice none 0 0, .int .i64 0] 48
  have h := h.below b1
  have hlen := hm.len
  have hpl := hm.place
  have KL := hide (lastL_any h)
  obtain ⟨rv, vs, h1, h2⟩ := h.recs
  obtain ⟨c5, _⟩ := h2.get 5 _ rfl
  obtain ⟨c3, _⟩ := h2.get 3 _ rfl
  have HW := hide hw1
  have HX := hide X1
  have HB := hide b1
  have lt1 := X1.lt
  obtain ⟨ge, hge⟩ : ∃ q, q = m.getE n := ⟨_, rfl⟩
  obtain ⟨gr, hgr⟩ : ∃ q, q = m.getR n := ⟨_, rfl⟩
  rw [← hge, ← hgr]
  unfold LogM.getR at hgr
  rw [← hge] at hgr
  unfold LogM.getE at hge
  cases he : m.ended
  · rw [he] at hge c5
    rw [if_neg (by simp)] at hge
    by_cases hp : n < 1 ∨ (m.recs.length : Int) < n
    · rw [if_pos hp] at hge
      subst hge
      rw [if_neg (by omega)] at hgr
      subst hgr
      by_cases q1 : n < 1
      · have d1 : decide (n < 1) = true := by simpa using q1
        clear he h1 h2 h X1 b1 hw1 hp
        go_enter Try.func14, Try.ntmps14
        go_upto_region 1 with fail
        rw [← HW.out]
        go_wp2_with (refine wpList_store36 HX.out rfl rfl rfl rfl rfl ?_; intro wf hbf hkf)
        exact bodyPost_ret (results_box2 rfl _ _ rfl hbf rfl) rfl ⟨_, rfl, RecOut.zero _ _, HB.out.trans (hkf.below HB.out.size (fun k hk q => by omega))⟩
      · have d1 : decide (n < 1) = false := by simpa using q1
        have d2 : decide ((m.recs.length : Int) < n) = true := by simp; omega
        have q2 : (m.recs.length : Int) < n := by omega
        clear he h1 h2 h X1 b1 hw1 hp
        go_enter Try.func14, Try.ntmps14
        go_upto_region 1 with fail
        rw [← HW.out]
        go_wp2_with fail
        refine KL.out.mono ?_
        rintro e w2 ⟨rfl, rfl⟩
        go_wp2_with (refine wpList_store36 HX.out rfl rfl rfl rfl rfl ?_; intro wf hbf hkf)
        exact bodyPost_ret (results_box2 rfl _ _ rfl hbf rfl) rfl ⟨_, rfl, RecOut.zero _ _, HB.out.trans (hkf.below HB.out.size (fun k hk q => by omega))⟩
    · rw [if_neg hp] at hge
      obtain ⟨k, rfl⟩ : ∃ k : Nat, n = (k : Int) := ⟨n.toNat, by omega⟩
      have d1 : decide ((k : Int) < 1) = false := by simp; omega
      have d2 : decide ((m.recs.length : Int) < (k : Int)) = false := by simp; omega
      have q2 : ¬ ((m.recs.length : Int) < (k : Int)) := by omega
      simp only [Int.toNat_natCast] at hge hgr
      obtain ⟨gb, cb, a, c', erv, hcell, hby, hle, hnil, hall, h502⟩ := h1.get (k - 1) (by omega)
      have KA := hide (apart_any k a (m.recs.getD (k - 1) []) c' w1 hby hle hnil (by omega) hall)
      rw [erv] at c3
      have hlt1 : k - 1 < m.recs.length := by omega
      have hidx : ((k : Int) - 1) = ((k - 1 : Nat) : Int) := by omega
      have HGE := hide hge
      have HGR := hide hgr
      clear he h1 h2 h X1 b1 hw1 hp hge hgr hby hnil hall
      generalize m.recs.getD (k - 1) [] = bb at *
      generalize k - 1 = k1 at *
      generalize m.recs.length = ml at *
      rw [← HGE.out] at KA
      have hgr2 : apR k bb = gr := by
        have := HGR.out
        by_cases q : ge = 0
        · rw [if_pos q] at this; exact this.symm
        · rw [if_neg q] at this
          rw [this]
          unfold apR
          rw [← HGE.out, if_neg q]
      rw [hgr2] at KA
      clear hgr2 HGR HGE
      go_enter Try.func14, Try.ntmps14
      go_upto_region 1 with fail
      rw [← HW.out]
      go_wp2_with fail
      refine KL.out.mono ?_
      rintro e w2 ⟨rfl, rfl⟩
      clear KL
      go_wp2_with fail
      refine KA.out.mono ?_
      rintro e w3 ⟨v3, rfl, o3, b3⟩
      have X3 := hide (HX.out.below b3)
      have B3 := hide (bnext HB.out b3 (Nat.le_refl _))
      have O3 := hide (o3.mono (B' := w.heap.size) (by omega))
      have O3n := hide o3
      obtain ⟨la, da, lc, dc, rfl, l1, d1', ld1⟩ := o3
      have LL := hide (show ∀ g, (Value.slice la gr.live.length lc).ownBlock = some g → ¬ g = w.heap.size from fun g q e => by have := (World.ownsRow.lt l1 g q).1; omega)
      have DL := hide (show ∀ g, (Value.slice da gr.dirty.length dc).ownBlock = some g → ¬ g = w.heap.size from fun g q e => by have := (World.ownsRow.lt d1' g q).1; omega)
      have L1 := hide (GRow.mono l1 (B' := w.heap.size) (by omega))
      have D1 := hide (GRow.mono d1' (B' := w.heap.size) (by omega))
      have LDD := hide ld1
      obtain ⟨q0, q1, q2', q3, q4, q5, q6, q7, q8, q9, q10, q11, q12, q13, q14, q15, q16⟩ := gr
      simp only [recC] at *
      clear KA l1 d1' ld1 O3 O3n HX HB b3 c3 c5 hcell
      go_wp2_with (refine wpList_store36 X3.out rfl rfl rfl rfl rfl ?_; intro wf hbf hkf)
      exact bodyPost_ret (results_box2 rfl _ _ rfl hbf rfl) rfl ⟨_, rfl, ⟨la, da, lc, dc, rfl, GRow.keep L1.out hkf LL.out, GRow.keep D1.out hkf DL.out, LDD.out⟩, B3.out.trans (hkf.below B3.out.size (fun k hk q => by omega))⟩
  · rw [he] at hge c5
    rw [if_pos rfl] at hge
    subst hge
    rw [if_neg (by omega)] at hgr
    subst hgr
    clear he h1 h2 h X1 b1 hw1
    go_enter Try.func14, Try.ntmps14
    go_upto_region 1 with fail
    rw [← HW.out]
    go_wp2_with (refine wpList_store36 HX.out rfl rfl rfl rfl rfl ?_; intro wf hbf hkf)
    exact bodyPost_ret (results_box2 rfl _ _ rfl hbf rfl) rfl ⟨_, rfl, RecOut.zero _ _, HB.out.trans (hkf.below HB.out.size (fun k hk q => by omega))⟩
end
end Go.Proofs.Ytgpmghdoofcpaaa.Lg
