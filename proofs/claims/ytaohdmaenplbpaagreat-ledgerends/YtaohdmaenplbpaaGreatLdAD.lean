import Derived.Test.YtaohdmaenplbpaaGreatLdAC
set_option linter.all false
namespace Go.Proofs.YtaohdmaenplbpaaGreat
open Go.RowKit Go.QK Quota Go.Maps Go.QM
set_option maxRecDepth 100000
theorem tmod_mod (k n : Int) (h0 : 0 < n) : (0 ≤ k.tmod n → k.tmod n = k % n) ∧ (k.tmod n < 0 → k.tmod n + n = k % n) := by
  have e : k.tmod n % n = k % n := by
    have q := Int.mul_tdiv_add_tmod k n
    have q2 : k % n = (n * k.tdiv n + k.tmod n) % n := by rw [q]
    rw [q2, Int.add_emod, Int.mul_emod_right, Int.zero_add, Int.emod_emod_of_dvd _ (Int.dvd_refl n)]
  have h1 := Int.tmod_lt_of_pos k h0
  have h2 := Int.lt_tmod_of_pos k h0
  refine ⟨fun h => ?_, fun h => ?_⟩
  · rw [← e]; exact (Int.emod_eq_of_lt h h1).symm
  · rw [← e, ← Int.add_emod_right]; exact (Int.emod_eq_of_lt (by omega) (by omega)).symm
set_option maxHeartbeats 4000000 in
theorem modulo_any (k n : Int) (w : World) (h0 : 0 < n) (h1 : n ≤ 1000) : Calls Tryz.prog 16 #[.int .i64 k, .int .i64 n] w fun r w' => r = .returned (.int .i64 (k % n)) ∧ Below w.heap.size w w' := by
  have hn : n ≠ 0 := by omega
  have hd : decide (n = 0) = false := by simpa using hn
  have hm := tmod_mod k n h0
  have hl := Int.lt_tmod_of_pos k h0
  go_enter Tryz.func16, Tryz.ntmps16
  go_wp2_with fail
  · go_ret
    exact ⟨rfl, Below.refl _ _⟩
  · rename_i q
    have e := hm.1 q
    go_ret
    refine ⟨?_, Below.refl _ _⟩
    show Ending.returned (.int .i64 (k.tmod n)) = _
    rw [e]
/-- A counter made right. -/
def roomLo (lo hi : Int) : Int := if hi < lo then hi else lo
def roomHi (lo hi : Int) : Int := if hi < lo then lo else hi
def roomV (lo hi v : Int) : Int := if v < roomLo lo hi ∨ roomHi lo hi < v then roomLo lo hi else v
set_option maxHeartbeats 8000000 in
theorem counterOf_any (g lo hi v i : Int) (w : World) (h0 : 0 ≤ i) (h1 : i ≤ 1000) : Calls Tryz.prog 19 #[.agg #[.int .i64 g, .int .i64 lo, .int .i64 hi, .int .i64 v], .int .i64 i] w fun r w' => r = .returned (cV (i + 1) (1 + g % 3) (roomLo lo hi) (roomHi lo hi) (roomV lo hi v)) ∧ Below w.heap.size w w' := by
  have KM := fun w' => modulo_any g 3 w' (by omega) (by omega)
  have wi : IntKind.i64.wrap (i + 1) = i + 1 := by rw [IntKind.wrap_i64]; omega
  have wg : IntKind.i64.wrap (1 + g % 3) = 1 + g % 3 := by rw [IntKind.wrap_i64]; omega
  go_enter Tryz.func19, Tryz.ntmps19
  go_wp2_with fail
  · have eL : roomLo lo hi = hi := by unfold roomLo; (try rw [if_pos (by omega)]); (try rw [if_neg (by omega)])
    have eH : roomHi lo hi = lo := by unfold roomHi; (try rw [if_pos (by omega)]); (try rw [if_neg (by omega)])
    have eV : roomV lo hi v = hi := by unfold roomV; rw [eL, eH]; (try rw [if_pos (by omega)]); (try rw [if_neg (by omega)])
    have al := alloc_below (w.alloc (.cells #[.int .i64 g, .int .i64 hi, .int .i64 lo, .int .i64 hi] 56)) (.cells #[.int .i64 0, .int .i64 0, .int .i64 0, .int .i64 0, .int .i64 0] 43)
    have cb := (Cells.new w #[.int .i64 g, .int .i64 hi, .int .i64 lo, .int .i64 hi] 56).below al
    have cz := Cells.new (w.alloc (.cells #[.int .i64 g, .int .i64 hi, .int .i64 lo, .int .i64 hi] 56)) #[.int .i64 0, .int .i64 0, .int .i64 0, .int .i64 0, .int .i64 0] 43
    have bw := (alloc_below w (.cells #[.int .i64 g, .int .i64 hi, .int .i64 lo, .int .i64 hi] 56)).trans (al.mono (alloc_below w (.cells #[.int .i64 g, .int .i64 hi, .int .i64 lo, .int .i64 hi] 56)).size)
    have dr : ∀ X : World, Below X.heap.size X X.drew := fun X => (Below.refl _ _).drew
    replace cb := cb.below (dr _)
    replace cz := cz.below (dr _)
    replace bw := bw.trans ((dr _).mono bw.size)
    clear al dr
    refine wp_region_held_drew (S := fun wq => wq.cell? ⟨w.heap.size, 0, none⟩ = some (.int .i64 g) ∧ wq.cell? ⟨w.heap.size, 1, none⟩ = some (.int .i64 hi) ∧ wq.cell? ⟨w.heap.size, 2, none⟩ = some (.int .i64 lo) ∧ wq.cell? ⟨w.heap.size, 3, none⟩ = some (.int .i64 hi)) (by kernel_rfl) ⟨(cb.get 0 _ rfl).1, (cb.get 1 _ rfl).1, (cb.get 2 _ rfl).1, (cb.get 3 _ rfl).1⟩ (fun hS => ?_)
    refine take_at 0 (some 38) (v := ?_) rfl rfl (by kernel_rfl) (by kernel_rfl) (by kernel_rfl) (fun _ _ _ h => h) ⟨by rfl, ?_⟩ hS ?_
    rotate_left
    · intro wq hSw; go_simp; try rfl
    simp only [Act.put, List.setIfInBounds_toArray, List.set_cons_zero, List.set_cons_succ]
    refine take_at 1 (some 39) (v := ?_) rfl rfl (by kernel_rfl) (by kernel_rfl) (by kernel_rfl) (fun _ _ _ h => h) ⟨by rfl, ?_⟩ hS ?_
    rotate_left
    · intro wq hSw; go_simp; try rfl
    simp only [Act.put, List.setIfInBounds_toArray, List.set_cons_zero, List.set_cons_succ]
    refine take_at 2 (some 40) (v := ?_) rfl rfl (by kernel_rfl) (by kernel_rfl) (by kernel_rfl) (fun _ _ _ h => h) ⟨by rfl, ?_⟩ hS ?_
    rotate_left
    · intro wq hSw; go_simp; try rfl
    simp only [Act.put, List.setIfInBounds_toArray, List.set_cons_zero, List.set_cons_succ]
    refine take_at 3 (some 41) (v := ?_) rfl rfl (by kernel_rfl) (by kernel_rfl) (by kernel_rfl) (fun _ _ _ h => h) ⟨by rfl, ?_⟩ hS ?_
    rotate_left
    · intro wq hSw; obtain ⟨c0, c1, c2, c3⟩ := hSw; go_simp; try rfl
    simp only [Act.put, List.setIfInBounds_toArray, List.set_cons_zero, List.set_cons_succ]
    refine take_at 6 (some 44) (v := ?_) rfl rfl (by kernel_rfl) (by kernel_rfl) (by kernel_rfl) (fun _ _ _ h => h) ⟨by rfl, ?_⟩ hS ?_
    rotate_left
    · intro wq hSw; go_simp; try rfl
    simp only [Act.put, List.setIfInBounds_toArray, List.set_cons_zero, List.set_cons_succ]
    refine take_at 7 (some 45) (v := ?_) rfl rfl (by kernel_rfl) (by kernel_rfl) (by kernel_rfl) (fun _ _ _ h => h) ⟨by rfl, ?_⟩ hS ?_
    rotate_left
    · intro wq hSw; obtain ⟨c0, c1, c2, c3⟩ := hSw; go_simp; try rfl
    simp only [Act.put, List.setIfInBounds_toArray, List.set_cons_zero, List.set_cons_succ]
    refine take_at 8 (some 46) (v := ?_) rfl rfl (by kernel_rfl) (by kernel_rfl) (by kernel_rfl) (fun _ _ _ h => h) ⟨by rfl, ?_⟩ hS ?_
    rotate_left
    · intro wq hSw; go_simp; try rfl
    simp only [Act.put, List.setIfInBounds_toArray, List.set_cons_zero, List.set_cons_succ]
    refine take_at 9 (some 47) (v := ?_) rfl rfl (by kernel_rfl) (by kernel_rfl) (by kernel_rfl) (fun _ _ _ h => h) ⟨by rfl, ?_⟩ hS ?_
    rotate_left
    · intro wq hSw; obtain ⟨c0, c1, c2, c3⟩ := hSw; go_simp; try rfl
    simp only [Act.put, List.setIfInBounds_toArray, List.set_cons_zero, List.set_cons_succ]
    refine wpAnyH_ready (rs := [4]) (by kernel_rfl) (by simp) ?_
    refine AllReadyH.cons rfl (fun K hK => ?_) AllReadyH.nil
    go_simp
    go_wp2_with fail
    refine (KM _).mono ?_
    rintro r x ⟨rfl, hb⟩
    replace cb := cb.below hb
    replace cz := cz.below hb
    replace bw := bw.trans (hb.mono bw.size)
    go_wp2_with fail
    refine hK.out _ _ ⟨(cb.get 0 _ rfl).1, (cb.get 1 _ rfl).1, (cb.get 2 _ rfl).1, (cb.get 3 _ rfl).1⟩ (fun hS => ?_)
    clear hK K
    (try simp only [Act.put, List.setIfInBounds_toArray, List.set_cons_zero, List.set_cons_succ])
    refine take_at 5 (some 43) (v := ?_) rfl rfl (by kernel_rfl) (by kernel_rfl) (by kernel_rfl) (fun _ _ _ h => h) ⟨by rfl, ?_⟩ hS ?_
    rotate_left
    · intro wq hSw; go_simp; try rfl
    simp only [Act.put, List.setIfInBounds_toArray, List.set_cons_zero, List.set_cons_succ]
    refine take_at 10 (some 48) (v := ?_) rfl rfl (by kernel_rfl) (by kernel_rfl) (by kernel_rfl) (fun _ _ _ h => h) ⟨by rfl, ?_⟩ hS ?_
    rotate_left
    · intro wq hSw; go_simp; try rfl
    simp only [Act.put, List.setIfInBounds_toArray, List.set_cons_zero, List.set_cons_succ]
    obtain ⟨z0, f0⟩ := cz.get 0 _ rfl
    obtain ⟨z1, f1⟩ := cz.get 1 _ rfl
    obtain ⟨z2, f2⟩ := cz.get 2 _ rfl
    obtain ⟨z3, f3⟩ := cz.get 3 _ rfl
    obtain ⟨z4, f4⟩ := cz.get 4 _ rfl
    simp only [World.size_alloc] at z0 z1 z2 z3 z4 f0 f1 f2 f3 f4 ⊢
    refine wpAnyH_ready (rs := [11]) (by kernel_rfl) (by simp) ?_
    refine AllReadyH.cons rfl (fun K hK => ?_) AllReadyH.nil
    go_simp
    go_wp2_with fail
    have K5 := (((((Keep.refl (fun z => z = w.heap.size + 1) x).setCell (g := w.heap.size + 1) (j := 0) (fun _ => rfl) (.int .i64 (i + 1))).setCell (g := w.heap.size + 1) (j := 1) (fun _ => rfl) (.int .i64 (1 + g % 3))).setCell (g := w.heap.size + 1) (j := 2) (fun _ => rfl) (.int .i64 hi)).setCell (g := w.heap.size + 1) (j := 3) (fun _ => rfl) (.int .i64 lo)).setCell (g := w.heap.size + 1) (j := 4) (fun _ => rfl) (.int .i64 hi)
    have hsz := bw.size
    have cb2 := cb.keep K5 (by omega)
    try simp only [wi, wg]
    refine hK.out _ _ ⟨(cb2.get 0 _ rfl).1, (cb2.get 1 _ rfl).1, (cb2.get 2 _ rfl).1, (cb2.get 3 _ rfl).1⟩ (fun hS => ?_)
    clear hK K hS cb2 cb
    try simp only [Act.put, List.setIfInBounds_toArray, List.set_cons_zero, List.set_cons_succ]
    refine wpAnyH_done (by kernel_rfl) ?_ _
    go_wp2_with fail
    refine bodyPost_ret (v := cV (i + 1) (1 + g % 3) hi lo hi) (by simp [results, Tryz.results19, go_sem, z0, z1, z2, z3, z4]) rfl ⟨by rw [eL, eH, eV], ?_⟩
    exact bw.trans (K5.below bw.size (fun z hz q => by omega))
  · have eL : roomLo lo hi = hi := by unfold roomLo; (try rw [if_pos (by omega)]); (try rw [if_neg (by omega)])
    have eH : roomHi lo hi = lo := by unfold roomHi; (try rw [if_pos (by omega)]); (try rw [if_neg (by omega)])
    have eV : roomV lo hi v = v := by unfold roomV; rw [eL, eH]; (try rw [if_pos (by omega)]); (try rw [if_neg (by omega)])
    have al := alloc_below (w.alloc (.cells #[.int .i64 g, .int .i64 hi, .int .i64 lo, .int .i64 v] 56)) (.cells #[.int .i64 0, .int .i64 0, .int .i64 0, .int .i64 0, .int .i64 0] 43)
    have cb := (Cells.new w #[.int .i64 g, .int .i64 hi, .int .i64 lo, .int .i64 v] 56).below al
    have cz := Cells.new (w.alloc (.cells #[.int .i64 g, .int .i64 hi, .int .i64 lo, .int .i64 v] 56)) #[.int .i64 0, .int .i64 0, .int .i64 0, .int .i64 0, .int .i64 0] 43
    have bw := (alloc_below w (.cells #[.int .i64 g, .int .i64 hi, .int .i64 lo, .int .i64 v] 56)).trans (al.mono (alloc_below w (.cells #[.int .i64 g, .int .i64 hi, .int .i64 lo, .int .i64 v] 56)).size)
    have dr : ∀ X : World, Below X.heap.size X X.drew := fun X => (Below.refl _ _).drew
    replace cb := cb.below (dr _)
    replace cz := cz.below (dr _)
    replace bw := bw.trans ((dr _).mono bw.size)
    clear al dr
    refine wp_region_held_drew (S := fun wq => wq.cell? ⟨w.heap.size, 0, none⟩ = some (.int .i64 g) ∧ wq.cell? ⟨w.heap.size, 1, none⟩ = some (.int .i64 hi) ∧ wq.cell? ⟨w.heap.size, 2, none⟩ = some (.int .i64 lo) ∧ wq.cell? ⟨w.heap.size, 3, none⟩ = some (.int .i64 v)) (by kernel_rfl) ⟨(cb.get 0 _ rfl).1, (cb.get 1 _ rfl).1, (cb.get 2 _ rfl).1, (cb.get 3 _ rfl).1⟩ (fun hS => ?_)
    refine take_at 0 (some 38) (v := ?_) rfl rfl (by kernel_rfl) (by kernel_rfl) (by kernel_rfl) (fun _ _ _ h => h) ⟨by rfl, ?_⟩ hS ?_
    rotate_left
    · intro wq hSw; go_simp; try rfl
    simp only [Act.put, List.setIfInBounds_toArray, List.set_cons_zero, List.set_cons_succ]
    refine take_at 1 (some 39) (v := ?_) rfl rfl (by kernel_rfl) (by kernel_rfl) (by kernel_rfl) (fun _ _ _ h => h) ⟨by rfl, ?_⟩ hS ?_
    rotate_left
    · intro wq hSw; go_simp; try rfl
    simp only [Act.put, List.setIfInBounds_toArray, List.set_cons_zero, List.set_cons_succ]
    refine take_at 2 (some 40) (v := ?_) rfl rfl (by kernel_rfl) (by kernel_rfl) (by kernel_rfl) (fun _ _ _ h => h) ⟨by rfl, ?_⟩ hS ?_
    rotate_left
    · intro wq hSw; go_simp; try rfl
    simp only [Act.put, List.setIfInBounds_toArray, List.set_cons_zero, List.set_cons_succ]
    refine take_at 3 (some 41) (v := ?_) rfl rfl (by kernel_rfl) (by kernel_rfl) (by kernel_rfl) (fun _ _ _ h => h) ⟨by rfl, ?_⟩ hS ?_
    rotate_left
    · intro wq hSw; obtain ⟨c0, c1, c2, c3⟩ := hSw; go_simp; try rfl
    simp only [Act.put, List.setIfInBounds_toArray, List.set_cons_zero, List.set_cons_succ]
    refine take_at 6 (some 44) (v := ?_) rfl rfl (by kernel_rfl) (by kernel_rfl) (by kernel_rfl) (fun _ _ _ h => h) ⟨by rfl, ?_⟩ hS ?_
    rotate_left
    · intro wq hSw; go_simp; try rfl
    simp only [Act.put, List.setIfInBounds_toArray, List.set_cons_zero, List.set_cons_succ]
    refine take_at 7 (some 45) (v := ?_) rfl rfl (by kernel_rfl) (by kernel_rfl) (by kernel_rfl) (fun _ _ _ h => h) ⟨by rfl, ?_⟩ hS ?_
    rotate_left
    · intro wq hSw; obtain ⟨c0, c1, c2, c3⟩ := hSw; go_simp; try rfl
    simp only [Act.put, List.setIfInBounds_toArray, List.set_cons_zero, List.set_cons_succ]
    refine take_at 8 (some 46) (v := ?_) rfl rfl (by kernel_rfl) (by kernel_rfl) (by kernel_rfl) (fun _ _ _ h => h) ⟨by rfl, ?_⟩ hS ?_
    rotate_left
    · intro wq hSw; go_simp; try rfl
    simp only [Act.put, List.setIfInBounds_toArray, List.set_cons_zero, List.set_cons_succ]
    refine take_at 9 (some 47) (v := ?_) rfl rfl (by kernel_rfl) (by kernel_rfl) (by kernel_rfl) (fun _ _ _ h => h) ⟨by rfl, ?_⟩ hS ?_
    rotate_left
    · intro wq hSw; obtain ⟨c0, c1, c2, c3⟩ := hSw; go_simp; try rfl
    simp only [Act.put, List.setIfInBounds_toArray, List.set_cons_zero, List.set_cons_succ]
    refine wpAnyH_ready (rs := [4]) (by kernel_rfl) (by simp) ?_
    refine AllReadyH.cons rfl (fun K hK => ?_) AllReadyH.nil
    go_simp
    go_wp2_with fail
    refine (KM _).mono ?_
    rintro r x ⟨rfl, hb⟩
    replace cb := cb.below hb
    replace cz := cz.below hb
    replace bw := bw.trans (hb.mono bw.size)
    go_wp2_with fail
    refine hK.out _ _ ⟨(cb.get 0 _ rfl).1, (cb.get 1 _ rfl).1, (cb.get 2 _ rfl).1, (cb.get 3 _ rfl).1⟩ (fun hS => ?_)
    clear hK K
    (try simp only [Act.put, List.setIfInBounds_toArray, List.set_cons_zero, List.set_cons_succ])
    refine take_at 5 (some 43) (v := ?_) rfl rfl (by kernel_rfl) (by kernel_rfl) (by kernel_rfl) (fun _ _ _ h => h) ⟨by rfl, ?_⟩ hS ?_
    rotate_left
    · intro wq hSw; go_simp; try rfl
    simp only [Act.put, List.setIfInBounds_toArray, List.set_cons_zero, List.set_cons_succ]
    refine take_at 10 (some 48) (v := ?_) rfl rfl (by kernel_rfl) (by kernel_rfl) (by kernel_rfl) (fun _ _ _ h => h) ⟨by rfl, ?_⟩ hS ?_
    rotate_left
    · intro wq hSw; go_simp; try rfl
    simp only [Act.put, List.setIfInBounds_toArray, List.set_cons_zero, List.set_cons_succ]
    obtain ⟨z0, f0⟩ := cz.get 0 _ rfl
    obtain ⟨z1, f1⟩ := cz.get 1 _ rfl
    obtain ⟨z2, f2⟩ := cz.get 2 _ rfl
    obtain ⟨z3, f3⟩ := cz.get 3 _ rfl
    obtain ⟨z4, f4⟩ := cz.get 4 _ rfl
    simp only [World.size_alloc] at z0 z1 z2 z3 z4 f0 f1 f2 f3 f4 ⊢
    refine wpAnyH_ready (rs := [11]) (by kernel_rfl) (by simp) ?_
    refine AllReadyH.cons rfl (fun K hK => ?_) AllReadyH.nil
    go_simp
    go_wp2_with fail
    have K5 := (((((Keep.refl (fun z => z = w.heap.size + 1) x).setCell (g := w.heap.size + 1) (j := 0) (fun _ => rfl) (.int .i64 (i + 1))).setCell (g := w.heap.size + 1) (j := 1) (fun _ => rfl) (.int .i64 (1 + g % 3))).setCell (g := w.heap.size + 1) (j := 2) (fun _ => rfl) (.int .i64 hi)).setCell (g := w.heap.size + 1) (j := 3) (fun _ => rfl) (.int .i64 lo)).setCell (g := w.heap.size + 1) (j := 4) (fun _ => rfl) (.int .i64 v)
    have hsz := bw.size
    have cb2 := cb.keep K5 (by omega)
    try simp only [wi, wg]
    refine hK.out _ _ ⟨(cb2.get 0 _ rfl).1, (cb2.get 1 _ rfl).1, (cb2.get 2 _ rfl).1, (cb2.get 3 _ rfl).1⟩ (fun hS => ?_)
    clear hK K hS cb2 cb
    try simp only [Act.put, List.setIfInBounds_toArray, List.set_cons_zero, List.set_cons_succ]
    refine wpAnyH_done (by kernel_rfl) ?_ _
    go_wp2_with fail
    refine bodyPost_ret (v := cV (i + 1) (1 + g % 3) hi lo v) (by simp [results, Tryz.results19, go_sem, z0, z1, z2, z3, z4]) rfl ⟨by rw [eL, eH, eV], ?_⟩
    exact bw.trans (K5.below bw.size (fun z hz q => by omega))
  · have eL : roomLo lo hi = hi := by unfold roomLo; (try rw [if_pos (by omega)]); (try rw [if_neg (by omega)])
    have eH : roomHi lo hi = lo := by unfold roomHi; (try rw [if_pos (by omega)]); (try rw [if_neg (by omega)])
    have eV : roomV lo hi v = hi := by unfold roomV; rw [eL, eH]; (try rw [if_pos (by omega)]); (try rw [if_neg (by omega)])
    have al := alloc_below (w.alloc (.cells #[.int .i64 g, .int .i64 hi, .int .i64 lo, .int .i64 hi] 56)) (.cells #[.int .i64 0, .int .i64 0, .int .i64 0, .int .i64 0, .int .i64 0] 43)
    have cb := (Cells.new w #[.int .i64 g, .int .i64 hi, .int .i64 lo, .int .i64 hi] 56).below al
    have cz := Cells.new (w.alloc (.cells #[.int .i64 g, .int .i64 hi, .int .i64 lo, .int .i64 hi] 56)) #[.int .i64 0, .int .i64 0, .int .i64 0, .int .i64 0, .int .i64 0] 43
    have bw := (alloc_below w (.cells #[.int .i64 g, .int .i64 hi, .int .i64 lo, .int .i64 hi] 56)).trans (al.mono (alloc_below w (.cells #[.int .i64 g, .int .i64 hi, .int .i64 lo, .int .i64 hi] 56)).size)
    have dr : ∀ X : World, Below X.heap.size X X.drew := fun X => (Below.refl _ _).drew
    replace cb := cb.below (dr _)
    replace cz := cz.below (dr _)
    replace bw := bw.trans ((dr _).mono bw.size)
    clear al dr
    refine wp_region_held_drew (S := fun wq => wq.cell? ⟨w.heap.size, 0, none⟩ = some (.int .i64 g) ∧ wq.cell? ⟨w.heap.size, 1, none⟩ = some (.int .i64 hi) ∧ wq.cell? ⟨w.heap.size, 2, none⟩ = some (.int .i64 lo) ∧ wq.cell? ⟨w.heap.size, 3, none⟩ = some (.int .i64 hi)) (by kernel_rfl) ⟨(cb.get 0 _ rfl).1, (cb.get 1 _ rfl).1, (cb.get 2 _ rfl).1, (cb.get 3 _ rfl).1⟩ (fun hS => ?_)
    refine take_at 0 (some 38) (v := ?_) rfl rfl (by kernel_rfl) (by kernel_rfl) (by kernel_rfl) (fun _ _ _ h => h) ⟨by rfl, ?_⟩ hS ?_
    rotate_left
    · intro wq hSw; go_simp; try rfl
    simp only [Act.put, List.setIfInBounds_toArray, List.set_cons_zero, List.set_cons_succ]
    refine take_at 1 (some 39) (v := ?_) rfl rfl (by kernel_rfl) (by kernel_rfl) (by kernel_rfl) (fun _ _ _ h => h) ⟨by rfl, ?_⟩ hS ?_
    rotate_left
    · intro wq hSw; go_simp; try rfl
    simp only [Act.put, List.setIfInBounds_toArray, List.set_cons_zero, List.set_cons_succ]
    refine take_at 2 (some 40) (v := ?_) rfl rfl (by kernel_rfl) (by kernel_rfl) (by kernel_rfl) (fun _ _ _ h => h) ⟨by rfl, ?_⟩ hS ?_
    rotate_left
    · intro wq hSw; go_simp; try rfl
    simp only [Act.put, List.setIfInBounds_toArray, List.set_cons_zero, List.set_cons_succ]
    refine take_at 3 (some 41) (v := ?_) rfl rfl (by kernel_rfl) (by kernel_rfl) (by kernel_rfl) (fun _ _ _ h => h) ⟨by rfl, ?_⟩ hS ?_
    rotate_left
    · intro wq hSw; obtain ⟨c0, c1, c2, c3⟩ := hSw; go_simp; try rfl
    simp only [Act.put, List.setIfInBounds_toArray, List.set_cons_zero, List.set_cons_succ]
    refine take_at 6 (some 44) (v := ?_) rfl rfl (by kernel_rfl) (by kernel_rfl) (by kernel_rfl) (fun _ _ _ h => h) ⟨by rfl, ?_⟩ hS ?_
    rotate_left
    · intro wq hSw; go_simp; try rfl
    simp only [Act.put, List.setIfInBounds_toArray, List.set_cons_zero, List.set_cons_succ]
    refine take_at 7 (some 45) (v := ?_) rfl rfl (by kernel_rfl) (by kernel_rfl) (by kernel_rfl) (fun _ _ _ h => h) ⟨by rfl, ?_⟩ hS ?_
    rotate_left
    · intro wq hSw; obtain ⟨c0, c1, c2, c3⟩ := hSw; go_simp; try rfl
    simp only [Act.put, List.setIfInBounds_toArray, List.set_cons_zero, List.set_cons_succ]
    refine take_at 8 (some 46) (v := ?_) rfl rfl (by kernel_rfl) (by kernel_rfl) (by kernel_rfl) (fun _ _ _ h => h) ⟨by rfl, ?_⟩ hS ?_
    rotate_left
    · intro wq hSw; go_simp; try rfl
    simp only [Act.put, List.setIfInBounds_toArray, List.set_cons_zero, List.set_cons_succ]
    refine take_at 9 (some 47) (v := ?_) rfl rfl (by kernel_rfl) (by kernel_rfl) (by kernel_rfl) (fun _ _ _ h => h) ⟨by rfl, ?_⟩ hS ?_
    rotate_left
    · intro wq hSw; obtain ⟨c0, c1, c2, c3⟩ := hSw; go_simp; try rfl
    simp only [Act.put, List.setIfInBounds_toArray, List.set_cons_zero, List.set_cons_succ]
    refine wpAnyH_ready (rs := [4]) (by kernel_rfl) (by simp) ?_
    refine AllReadyH.cons rfl (fun K hK => ?_) AllReadyH.nil
    go_simp
    go_wp2_with fail
    refine (KM _).mono ?_
    rintro r x ⟨rfl, hb⟩
    replace cb := cb.below hb
    replace cz := cz.below hb
    replace bw := bw.trans (hb.mono bw.size)
    go_wp2_with fail
    refine hK.out _ _ ⟨(cb.get 0 _ rfl).1, (cb.get 1 _ rfl).1, (cb.get 2 _ rfl).1, (cb.get 3 _ rfl).1⟩ (fun hS => ?_)
    clear hK K
    (try simp only [Act.put, List.setIfInBounds_toArray, List.set_cons_zero, List.set_cons_succ])
    refine take_at 5 (some 43) (v := ?_) rfl rfl (by kernel_rfl) (by kernel_rfl) (by kernel_rfl) (fun _ _ _ h => h) ⟨by rfl, ?_⟩ hS ?_
    rotate_left
    · intro wq hSw; go_simp; try rfl
    simp only [Act.put, List.setIfInBounds_toArray, List.set_cons_zero, List.set_cons_succ]
    refine take_at 10 (some 48) (v := ?_) rfl rfl (by kernel_rfl) (by kernel_rfl) (by kernel_rfl) (fun _ _ _ h => h) ⟨by rfl, ?_⟩ hS ?_
    rotate_left
    · intro wq hSw; go_simp; try rfl
    simp only [Act.put, List.setIfInBounds_toArray, List.set_cons_zero, List.set_cons_succ]
    obtain ⟨z0, f0⟩ := cz.get 0 _ rfl
    obtain ⟨z1, f1⟩ := cz.get 1 _ rfl
    obtain ⟨z2, f2⟩ := cz.get 2 _ rfl
    obtain ⟨z3, f3⟩ := cz.get 3 _ rfl
    obtain ⟨z4, f4⟩ := cz.get 4 _ rfl
    simp only [World.size_alloc] at z0 z1 z2 z3 z4 f0 f1 f2 f3 f4 ⊢
    refine wpAnyH_ready (rs := [11]) (by kernel_rfl) (by simp) ?_
    refine AllReadyH.cons rfl (fun K hK => ?_) AllReadyH.nil
    go_simp
    go_wp2_with fail
    have K5 := (((((Keep.refl (fun z => z = w.heap.size + 1) x).setCell (g := w.heap.size + 1) (j := 0) (fun _ => rfl) (.int .i64 (i + 1))).setCell (g := w.heap.size + 1) (j := 1) (fun _ => rfl) (.int .i64 (1 + g % 3))).setCell (g := w.heap.size + 1) (j := 2) (fun _ => rfl) (.int .i64 hi)).setCell (g := w.heap.size + 1) (j := 3) (fun _ => rfl) (.int .i64 lo)).setCell (g := w.heap.size + 1) (j := 4) (fun _ => rfl) (.int .i64 hi)
    have hsz := bw.size
    have cb2 := cb.keep K5 (by omega)
    try simp only [wi, wg]
    refine hK.out _ _ ⟨(cb2.get 0 _ rfl).1, (cb2.get 1 _ rfl).1, (cb2.get 2 _ rfl).1, (cb2.get 3 _ rfl).1⟩ (fun hS => ?_)
    clear hK K hS cb2 cb
    try simp only [Act.put, List.setIfInBounds_toArray, List.set_cons_zero, List.set_cons_succ]
    refine wpAnyH_done (by kernel_rfl) ?_ _
    go_wp2_with fail
    refine bodyPost_ret (v := cV (i + 1) (1 + g % 3) hi lo hi) (by simp [results, Tryz.results19, go_sem, z0, z1, z2, z3, z4]) rfl ⟨by rw [eL, eH, eV], ?_⟩
    exact bw.trans (K5.below bw.size (fun z hz q => by omega))
  · have eL : roomLo lo hi = lo := by unfold roomLo; (try rw [if_pos (by omega)]); (try rw [if_neg (by omega)])
    have eH : roomHi lo hi = hi := by unfold roomHi; (try rw [if_pos (by omega)]); (try rw [if_neg (by omega)])
    have eV : roomV lo hi v = lo := by unfold roomV; rw [eL, eH]; (try rw [if_pos (by omega)]); (try rw [if_neg (by omega)])
    have al := alloc_below (w.alloc (.cells #[.int .i64 g, .int .i64 lo, .int .i64 hi, .int .i64 lo] 56)) (.cells #[.int .i64 0, .int .i64 0, .int .i64 0, .int .i64 0, .int .i64 0] 43)
    have cb := (Cells.new w #[.int .i64 g, .int .i64 lo, .int .i64 hi, .int .i64 lo] 56).below al
    have cz := Cells.new (w.alloc (.cells #[.int .i64 g, .int .i64 lo, .int .i64 hi, .int .i64 lo] 56)) #[.int .i64 0, .int .i64 0, .int .i64 0, .int .i64 0, .int .i64 0] 43
    have bw := (alloc_below w (.cells #[.int .i64 g, .int .i64 lo, .int .i64 hi, .int .i64 lo] 56)).trans (al.mono (alloc_below w (.cells #[.int .i64 g, .int .i64 lo, .int .i64 hi, .int .i64 lo] 56)).size)
    have dr : ∀ X : World, Below X.heap.size X X.drew := fun X => (Below.refl _ _).drew
    replace cb := cb.below (dr _)
    replace cz := cz.below (dr _)
    replace bw := bw.trans ((dr _).mono bw.size)
    clear al dr
    refine wp_region_held_drew (S := fun wq => wq.cell? ⟨w.heap.size, 0, none⟩ = some (.int .i64 g) ∧ wq.cell? ⟨w.heap.size, 1, none⟩ = some (.int .i64 lo) ∧ wq.cell? ⟨w.heap.size, 2, none⟩ = some (.int .i64 hi) ∧ wq.cell? ⟨w.heap.size, 3, none⟩ = some (.int .i64 lo)) (by kernel_rfl) ⟨(cb.get 0 _ rfl).1, (cb.get 1 _ rfl).1, (cb.get 2 _ rfl).1, (cb.get 3 _ rfl).1⟩ (fun hS => ?_)
    refine take_at 0 (some 38) (v := ?_) rfl rfl (by kernel_rfl) (by kernel_rfl) (by kernel_rfl) (fun _ _ _ h => h) ⟨by rfl, ?_⟩ hS ?_
    rotate_left
    · intro wq hSw; go_simp; try rfl
    simp only [Act.put, List.setIfInBounds_toArray, List.set_cons_zero, List.set_cons_succ]
    refine take_at 1 (some 39) (v := ?_) rfl rfl (by kernel_rfl) (by kernel_rfl) (by kernel_rfl) (fun _ _ _ h => h) ⟨by rfl, ?_⟩ hS ?_
    rotate_left
    · intro wq hSw; go_simp; try rfl
    simp only [Act.put, List.setIfInBounds_toArray, List.set_cons_zero, List.set_cons_succ]
    refine take_at 2 (some 40) (v := ?_) rfl rfl (by kernel_rfl) (by kernel_rfl) (by kernel_rfl) (fun _ _ _ h => h) ⟨by rfl, ?_⟩ hS ?_
    rotate_left
    · intro wq hSw; go_simp; try rfl
    simp only [Act.put, List.setIfInBounds_toArray, List.set_cons_zero, List.set_cons_succ]
    refine take_at 3 (some 41) (v := ?_) rfl rfl (by kernel_rfl) (by kernel_rfl) (by kernel_rfl) (fun _ _ _ h => h) ⟨by rfl, ?_⟩ hS ?_
    rotate_left
    · intro wq hSw; obtain ⟨c0, c1, c2, c3⟩ := hSw; go_simp; try rfl
    simp only [Act.put, List.setIfInBounds_toArray, List.set_cons_zero, List.set_cons_succ]
    refine take_at 6 (some 44) (v := ?_) rfl rfl (by kernel_rfl) (by kernel_rfl) (by kernel_rfl) (fun _ _ _ h => h) ⟨by rfl, ?_⟩ hS ?_
    rotate_left
    · intro wq hSw; go_simp; try rfl
    simp only [Act.put, List.setIfInBounds_toArray, List.set_cons_zero, List.set_cons_succ]
    refine take_at 7 (some 45) (v := ?_) rfl rfl (by kernel_rfl) (by kernel_rfl) (by kernel_rfl) (fun _ _ _ h => h) ⟨by rfl, ?_⟩ hS ?_
    rotate_left
    · intro wq hSw; obtain ⟨c0, c1, c2, c3⟩ := hSw; go_simp; try rfl
    simp only [Act.put, List.setIfInBounds_toArray, List.set_cons_zero, List.set_cons_succ]
    refine take_at 8 (some 46) (v := ?_) rfl rfl (by kernel_rfl) (by kernel_rfl) (by kernel_rfl) (fun _ _ _ h => h) ⟨by rfl, ?_⟩ hS ?_
    rotate_left
    · intro wq hSw; go_simp; try rfl
    simp only [Act.put, List.setIfInBounds_toArray, List.set_cons_zero, List.set_cons_succ]
    refine take_at 9 (some 47) (v := ?_) rfl rfl (by kernel_rfl) (by kernel_rfl) (by kernel_rfl) (fun _ _ _ h => h) ⟨by rfl, ?_⟩ hS ?_
    rotate_left
    · intro wq hSw; obtain ⟨c0, c1, c2, c3⟩ := hSw; go_simp; try rfl
    simp only [Act.put, List.setIfInBounds_toArray, List.set_cons_zero, List.set_cons_succ]
    refine wpAnyH_ready (rs := [4]) (by kernel_rfl) (by simp) ?_
    refine AllReadyH.cons rfl (fun K hK => ?_) AllReadyH.nil
    go_simp
    go_wp2_with fail
    refine (KM _).mono ?_
    rintro r x ⟨rfl, hb⟩
    replace cb := cb.below hb
    replace cz := cz.below hb
    replace bw := bw.trans (hb.mono bw.size)
    go_wp2_with fail
    refine hK.out _ _ ⟨(cb.get 0 _ rfl).1, (cb.get 1 _ rfl).1, (cb.get 2 _ rfl).1, (cb.get 3 _ rfl).1⟩ (fun hS => ?_)
    clear hK K
    (try simp only [Act.put, List.setIfInBounds_toArray, List.set_cons_zero, List.set_cons_succ])
    refine take_at 5 (some 43) (v := ?_) rfl rfl (by kernel_rfl) (by kernel_rfl) (by kernel_rfl) (fun _ _ _ h => h) ⟨by rfl, ?_⟩ hS ?_
    rotate_left
    · intro wq hSw; go_simp; try rfl
    simp only [Act.put, List.setIfInBounds_toArray, List.set_cons_zero, List.set_cons_succ]
    refine take_at 10 (some 48) (v := ?_) rfl rfl (by kernel_rfl) (by kernel_rfl) (by kernel_rfl) (fun _ _ _ h => h) ⟨by rfl, ?_⟩ hS ?_
    rotate_left
    · intro wq hSw; go_simp; try rfl
    simp only [Act.put, List.setIfInBounds_toArray, List.set_cons_zero, List.set_cons_succ]
    obtain ⟨z0, f0⟩ := cz.get 0 _ rfl
    obtain ⟨z1, f1⟩ := cz.get 1 _ rfl
    obtain ⟨z2, f2⟩ := cz.get 2 _ rfl
    obtain ⟨z3, f3⟩ := cz.get 3 _ rfl
    obtain ⟨z4, f4⟩ := cz.get 4 _ rfl
    simp only [World.size_alloc] at z0 z1 z2 z3 z4 f0 f1 f2 f3 f4 ⊢
    refine wpAnyH_ready (rs := [11]) (by kernel_rfl) (by simp) ?_
    refine AllReadyH.cons rfl (fun K hK => ?_) AllReadyH.nil
    go_simp
    go_wp2_with fail
    have K5 := (((((Keep.refl (fun z => z = w.heap.size + 1) x).setCell (g := w.heap.size + 1) (j := 0) (fun _ => rfl) (.int .i64 (i + 1))).setCell (g := w.heap.size + 1) (j := 1) (fun _ => rfl) (.int .i64 (1 + g % 3))).setCell (g := w.heap.size + 1) (j := 2) (fun _ => rfl) (.int .i64 lo)).setCell (g := w.heap.size + 1) (j := 3) (fun _ => rfl) (.int .i64 hi)).setCell (g := w.heap.size + 1) (j := 4) (fun _ => rfl) (.int .i64 lo)
    have hsz := bw.size
    have cb2 := cb.keep K5 (by omega)
    try simp only [wi, wg]
    refine hK.out _ _ ⟨(cb2.get 0 _ rfl).1, (cb2.get 1 _ rfl).1, (cb2.get 2 _ rfl).1, (cb2.get 3 _ rfl).1⟩ (fun hS => ?_)
    clear hK K hS cb2 cb
    try simp only [Act.put, List.setIfInBounds_toArray, List.set_cons_zero, List.set_cons_succ]
    refine wpAnyH_done (by kernel_rfl) ?_ _
    go_wp2_with fail
    refine bodyPost_ret (v := cV (i + 1) (1 + g % 3) lo hi lo) (by simp [results, Tryz.results19, go_sem, z0, z1, z2, z3, z4]) rfl ⟨by rw [eL, eH, eV], ?_⟩
    exact bw.trans (K5.below bw.size (fun z hz q => by omega))
  · have eL : roomLo lo hi = lo := by unfold roomLo; (try rw [if_pos (by omega)]); (try rw [if_neg (by omega)])
    have eH : roomHi lo hi = hi := by unfold roomHi; (try rw [if_pos (by omega)]); (try rw [if_neg (by omega)])
    have eV : roomV lo hi v = v := by unfold roomV; rw [eL, eH]; (try rw [if_pos (by omega)]); (try rw [if_neg (by omega)])
    have al := alloc_below (w.alloc (.cells #[.int .i64 g, .int .i64 lo, .int .i64 hi, .int .i64 v] 56)) (.cells #[.int .i64 0, .int .i64 0, .int .i64 0, .int .i64 0, .int .i64 0] 43)
    have cb := (Cells.new w #[.int .i64 g, .int .i64 lo, .int .i64 hi, .int .i64 v] 56).below al
    have cz := Cells.new (w.alloc (.cells #[.int .i64 g, .int .i64 lo, .int .i64 hi, .int .i64 v] 56)) #[.int .i64 0, .int .i64 0, .int .i64 0, .int .i64 0, .int .i64 0] 43
    have bw := (alloc_below w (.cells #[.int .i64 g, .int .i64 lo, .int .i64 hi, .int .i64 v] 56)).trans (al.mono (alloc_below w (.cells #[.int .i64 g, .int .i64 lo, .int .i64 hi, .int .i64 v] 56)).size)
    have dr : ∀ X : World, Below X.heap.size X X.drew := fun X => (Below.refl _ _).drew
    replace cb := cb.below (dr _)
    replace cz := cz.below (dr _)
    replace bw := bw.trans ((dr _).mono bw.size)
    clear al dr
    refine wp_region_held_drew (S := fun wq => wq.cell? ⟨w.heap.size, 0, none⟩ = some (.int .i64 g) ∧ wq.cell? ⟨w.heap.size, 1, none⟩ = some (.int .i64 lo) ∧ wq.cell? ⟨w.heap.size, 2, none⟩ = some (.int .i64 hi) ∧ wq.cell? ⟨w.heap.size, 3, none⟩ = some (.int .i64 v)) (by kernel_rfl) ⟨(cb.get 0 _ rfl).1, (cb.get 1 _ rfl).1, (cb.get 2 _ rfl).1, (cb.get 3 _ rfl).1⟩ (fun hS => ?_)
    refine take_at 0 (some 38) (v := ?_) rfl rfl (by kernel_rfl) (by kernel_rfl) (by kernel_rfl) (fun _ _ _ h => h) ⟨by rfl, ?_⟩ hS ?_
    rotate_left
    · intro wq hSw; go_simp; try rfl
    simp only [Act.put, List.setIfInBounds_toArray, List.set_cons_zero, List.set_cons_succ]
    refine take_at 1 (some 39) (v := ?_) rfl rfl (by kernel_rfl) (by kernel_rfl) (by kernel_rfl) (fun _ _ _ h => h) ⟨by rfl, ?_⟩ hS ?_
    rotate_left
    · intro wq hSw; go_simp; try rfl
    simp only [Act.put, List.setIfInBounds_toArray, List.set_cons_zero, List.set_cons_succ]
    refine take_at 2 (some 40) (v := ?_) rfl rfl (by kernel_rfl) (by kernel_rfl) (by kernel_rfl) (fun _ _ _ h => h) ⟨by rfl, ?_⟩ hS ?_
    rotate_left
    · intro wq hSw; go_simp; try rfl
    simp only [Act.put, List.setIfInBounds_toArray, List.set_cons_zero, List.set_cons_succ]
    refine take_at 3 (some 41) (v := ?_) rfl rfl (by kernel_rfl) (by kernel_rfl) (by kernel_rfl) (fun _ _ _ h => h) ⟨by rfl, ?_⟩ hS ?_
    rotate_left
    · intro wq hSw; obtain ⟨c0, c1, c2, c3⟩ := hSw; go_simp; try rfl
    simp only [Act.put, List.setIfInBounds_toArray, List.set_cons_zero, List.set_cons_succ]
    refine take_at 6 (some 44) (v := ?_) rfl rfl (by kernel_rfl) (by kernel_rfl) (by kernel_rfl) (fun _ _ _ h => h) ⟨by rfl, ?_⟩ hS ?_
    rotate_left
    · intro wq hSw; go_simp; try rfl
    simp only [Act.put, List.setIfInBounds_toArray, List.set_cons_zero, List.set_cons_succ]
    refine take_at 7 (some 45) (v := ?_) rfl rfl (by kernel_rfl) (by kernel_rfl) (by kernel_rfl) (fun _ _ _ h => h) ⟨by rfl, ?_⟩ hS ?_
    rotate_left
    · intro wq hSw; obtain ⟨c0, c1, c2, c3⟩ := hSw; go_simp; try rfl
    simp only [Act.put, List.setIfInBounds_toArray, List.set_cons_zero, List.set_cons_succ]
    refine take_at 8 (some 46) (v := ?_) rfl rfl (by kernel_rfl) (by kernel_rfl) (by kernel_rfl) (fun _ _ _ h => h) ⟨by rfl, ?_⟩ hS ?_
    rotate_left
    · intro wq hSw; go_simp; try rfl
    simp only [Act.put, List.setIfInBounds_toArray, List.set_cons_zero, List.set_cons_succ]
    refine take_at 9 (some 47) (v := ?_) rfl rfl (by kernel_rfl) (by kernel_rfl) (by kernel_rfl) (fun _ _ _ h => h) ⟨by rfl, ?_⟩ hS ?_
    rotate_left
    · intro wq hSw; obtain ⟨c0, c1, c2, c3⟩ := hSw; go_simp; try rfl
    simp only [Act.put, List.setIfInBounds_toArray, List.set_cons_zero, List.set_cons_succ]
    refine wpAnyH_ready (rs := [4]) (by kernel_rfl) (by simp) ?_
    refine AllReadyH.cons rfl (fun K hK => ?_) AllReadyH.nil
    go_simp
    go_wp2_with fail
    refine (KM _).mono ?_
    rintro r x ⟨rfl, hb⟩
    replace cb := cb.below hb
    replace cz := cz.below hb
    replace bw := bw.trans (hb.mono bw.size)
    go_wp2_with fail
    refine hK.out _ _ ⟨(cb.get 0 _ rfl).1, (cb.get 1 _ rfl).1, (cb.get 2 _ rfl).1, (cb.get 3 _ rfl).1⟩ (fun hS => ?_)
    clear hK K
    (try simp only [Act.put, List.setIfInBounds_toArray, List.set_cons_zero, List.set_cons_succ])
    refine take_at 5 (some 43) (v := ?_) rfl rfl (by kernel_rfl) (by kernel_rfl) (by kernel_rfl) (fun _ _ _ h => h) ⟨by rfl, ?_⟩ hS ?_
    rotate_left
    · intro wq hSw; go_simp; try rfl
    simp only [Act.put, List.setIfInBounds_toArray, List.set_cons_zero, List.set_cons_succ]
    refine take_at 10 (some 48) (v := ?_) rfl rfl (by kernel_rfl) (by kernel_rfl) (by kernel_rfl) (fun _ _ _ h => h) ⟨by rfl, ?_⟩ hS ?_
    rotate_left
    · intro wq hSw; go_simp; try rfl
    simp only [Act.put, List.setIfInBounds_toArray, List.set_cons_zero, List.set_cons_succ]
    obtain ⟨z0, f0⟩ := cz.get 0 _ rfl
    obtain ⟨z1, f1⟩ := cz.get 1 _ rfl
    obtain ⟨z2, f2⟩ := cz.get 2 _ rfl
    obtain ⟨z3, f3⟩ := cz.get 3 _ rfl
    obtain ⟨z4, f4⟩ := cz.get 4 _ rfl
    simp only [World.size_alloc] at z0 z1 z2 z3 z4 f0 f1 f2 f3 f4 ⊢
    refine wpAnyH_ready (rs := [11]) (by kernel_rfl) (by simp) ?_
    refine AllReadyH.cons rfl (fun K hK => ?_) AllReadyH.nil
    go_simp
    go_wp2_with fail
    have K5 := (((((Keep.refl (fun z => z = w.heap.size + 1) x).setCell (g := w.heap.size + 1) (j := 0) (fun _ => rfl) (.int .i64 (i + 1))).setCell (g := w.heap.size + 1) (j := 1) (fun _ => rfl) (.int .i64 (1 + g % 3))).setCell (g := w.heap.size + 1) (j := 2) (fun _ => rfl) (.int .i64 lo)).setCell (g := w.heap.size + 1) (j := 3) (fun _ => rfl) (.int .i64 hi)).setCell (g := w.heap.size + 1) (j := 4) (fun _ => rfl) (.int .i64 v)
    have hsz := bw.size
    have cb2 := cb.keep K5 (by omega)
    try simp only [wi, wg]
    refine hK.out _ _ ⟨(cb2.get 0 _ rfl).1, (cb2.get 1 _ rfl).1, (cb2.get 2 _ rfl).1, (cb2.get 3 _ rfl).1⟩ (fun hS => ?_)
    clear hK K hS cb2 cb
    try simp only [Act.put, List.setIfInBounds_toArray, List.set_cons_zero, List.set_cons_succ]
    refine wpAnyH_done (by kernel_rfl) ?_ _
    go_wp2_with fail
    refine bodyPost_ret (v := cV (i + 1) (1 + g % 3) lo hi v) (by simp [results, Tryz.results19, go_sem, z0, z1, z2, z3, z4]) rfl ⟨by rw [eL, eH, eV], ?_⟩
    exact bw.trans (K5.below bw.size (fun z hz q => by omega))
  · have eL : roomLo lo hi = lo := by unfold roomLo; (try rw [if_pos (by omega)]); (try rw [if_neg (by omega)])
    have eH : roomHi lo hi = hi := by unfold roomHi; (try rw [if_pos (by omega)]); (try rw [if_neg (by omega)])
    have eV : roomV lo hi v = lo := by unfold roomV; rw [eL, eH]; (try rw [if_pos (by omega)]); (try rw [if_neg (by omega)])
    have al := alloc_below (w.alloc (.cells #[.int .i64 g, .int .i64 lo, .int .i64 hi, .int .i64 lo] 56)) (.cells #[.int .i64 0, .int .i64 0, .int .i64 0, .int .i64 0, .int .i64 0] 43)
    have cb := (Cells.new w #[.int .i64 g, .int .i64 lo, .int .i64 hi, .int .i64 lo] 56).below al
    have cz := Cells.new (w.alloc (.cells #[.int .i64 g, .int .i64 lo, .int .i64 hi, .int .i64 lo] 56)) #[.int .i64 0, .int .i64 0, .int .i64 0, .int .i64 0, .int .i64 0] 43
    have bw := (alloc_below w (.cells #[.int .i64 g, .int .i64 lo, .int .i64 hi, .int .i64 lo] 56)).trans (al.mono (alloc_below w (.cells #[.int .i64 g, .int .i64 lo, .int .i64 hi, .int .i64 lo] 56)).size)
    have dr : ∀ X : World, Below X.heap.size X X.drew := fun X => (Below.refl _ _).drew
    replace cb := cb.below (dr _)
    replace cz := cz.below (dr _)
    replace bw := bw.trans ((dr _).mono bw.size)
    clear al dr
    refine wp_region_held_drew (S := fun wq => wq.cell? ⟨w.heap.size, 0, none⟩ = some (.int .i64 g) ∧ wq.cell? ⟨w.heap.size, 1, none⟩ = some (.int .i64 lo) ∧ wq.cell? ⟨w.heap.size, 2, none⟩ = some (.int .i64 hi) ∧ wq.cell? ⟨w.heap.size, 3, none⟩ = some (.int .i64 lo)) (by kernel_rfl) ⟨(cb.get 0 _ rfl).1, (cb.get 1 _ rfl).1, (cb.get 2 _ rfl).1, (cb.get 3 _ rfl).1⟩ (fun hS => ?_)
    refine take_at 0 (some 38) (v := ?_) rfl rfl (by kernel_rfl) (by kernel_rfl) (by kernel_rfl) (fun _ _ _ h => h) ⟨by rfl, ?_⟩ hS ?_
    rotate_left
    · intro wq hSw; go_simp; try rfl
    simp only [Act.put, List.setIfInBounds_toArray, List.set_cons_zero, List.set_cons_succ]
    refine take_at 1 (some 39) (v := ?_) rfl rfl (by kernel_rfl) (by kernel_rfl) (by kernel_rfl) (fun _ _ _ h => h) ⟨by rfl, ?_⟩ hS ?_
    rotate_left
    · intro wq hSw; go_simp; try rfl
    simp only [Act.put, List.setIfInBounds_toArray, List.set_cons_zero, List.set_cons_succ]
    refine take_at 2 (some 40) (v := ?_) rfl rfl (by kernel_rfl) (by kernel_rfl) (by kernel_rfl) (fun _ _ _ h => h) ⟨by rfl, ?_⟩ hS ?_
    rotate_left
    · intro wq hSw; go_simp; try rfl
    simp only [Act.put, List.setIfInBounds_toArray, List.set_cons_zero, List.set_cons_succ]
    refine take_at 3 (some 41) (v := ?_) rfl rfl (by kernel_rfl) (by kernel_rfl) (by kernel_rfl) (fun _ _ _ h => h) ⟨by rfl, ?_⟩ hS ?_
    rotate_left
    · intro wq hSw; obtain ⟨c0, c1, c2, c3⟩ := hSw; go_simp; try rfl
    simp only [Act.put, List.setIfInBounds_toArray, List.set_cons_zero, List.set_cons_succ]
    refine take_at 6 (some 44) (v := ?_) rfl rfl (by kernel_rfl) (by kernel_rfl) (by kernel_rfl) (fun _ _ _ h => h) ⟨by rfl, ?_⟩ hS ?_
    rotate_left
    · intro wq hSw; go_simp; try rfl
    simp only [Act.put, List.setIfInBounds_toArray, List.set_cons_zero, List.set_cons_succ]
    refine take_at 7 (some 45) (v := ?_) rfl rfl (by kernel_rfl) (by kernel_rfl) (by kernel_rfl) (fun _ _ _ h => h) ⟨by rfl, ?_⟩ hS ?_
    rotate_left
    · intro wq hSw; obtain ⟨c0, c1, c2, c3⟩ := hSw; go_simp; try rfl
    simp only [Act.put, List.setIfInBounds_toArray, List.set_cons_zero, List.set_cons_succ]
    refine take_at 8 (some 46) (v := ?_) rfl rfl (by kernel_rfl) (by kernel_rfl) (by kernel_rfl) (fun _ _ _ h => h) ⟨by rfl, ?_⟩ hS ?_
    rotate_left
    · intro wq hSw; go_simp; try rfl
    simp only [Act.put, List.setIfInBounds_toArray, List.set_cons_zero, List.set_cons_succ]
    refine take_at 9 (some 47) (v := ?_) rfl rfl (by kernel_rfl) (by kernel_rfl) (by kernel_rfl) (fun _ _ _ h => h) ⟨by rfl, ?_⟩ hS ?_
    rotate_left
    · intro wq hSw; obtain ⟨c0, c1, c2, c3⟩ := hSw; go_simp; try rfl
    simp only [Act.put, List.setIfInBounds_toArray, List.set_cons_zero, List.set_cons_succ]
    refine wpAnyH_ready (rs := [4]) (by kernel_rfl) (by simp) ?_
    refine AllReadyH.cons rfl (fun K hK => ?_) AllReadyH.nil
    go_simp
    go_wp2_with fail
    refine (KM _).mono ?_
    rintro r x ⟨rfl, hb⟩
    replace cb := cb.below hb
    replace cz := cz.below hb
    replace bw := bw.trans (hb.mono bw.size)
    go_wp2_with fail
    refine hK.out _ _ ⟨(cb.get 0 _ rfl).1, (cb.get 1 _ rfl).1, (cb.get 2 _ rfl).1, (cb.get 3 _ rfl).1⟩ (fun hS => ?_)
    clear hK K
    (try simp only [Act.put, List.setIfInBounds_toArray, List.set_cons_zero, List.set_cons_succ])
    refine take_at 5 (some 43) (v := ?_) rfl rfl (by kernel_rfl) (by kernel_rfl) (by kernel_rfl) (fun _ _ _ h => h) ⟨by rfl, ?_⟩ hS ?_
    rotate_left
    · intro wq hSw; go_simp; try rfl
    simp only [Act.put, List.setIfInBounds_toArray, List.set_cons_zero, List.set_cons_succ]
    refine take_at 10 (some 48) (v := ?_) rfl rfl (by kernel_rfl) (by kernel_rfl) (by kernel_rfl) (fun _ _ _ h => h) ⟨by rfl, ?_⟩ hS ?_
    rotate_left
    · intro wq hSw; go_simp; try rfl
    simp only [Act.put, List.setIfInBounds_toArray, List.set_cons_zero, List.set_cons_succ]
    obtain ⟨z0, f0⟩ := cz.get 0 _ rfl
    obtain ⟨z1, f1⟩ := cz.get 1 _ rfl
    obtain ⟨z2, f2⟩ := cz.get 2 _ rfl
    obtain ⟨z3, f3⟩ := cz.get 3 _ rfl
    obtain ⟨z4, f4⟩ := cz.get 4 _ rfl
    simp only [World.size_alloc] at z0 z1 z2 z3 z4 f0 f1 f2 f3 f4 ⊢
    refine wpAnyH_ready (rs := [11]) (by kernel_rfl) (by simp) ?_
    refine AllReadyH.cons rfl (fun K hK => ?_) AllReadyH.nil
    go_simp
    go_wp2_with fail
    have K5 := (((((Keep.refl (fun z => z = w.heap.size + 1) x).setCell (g := w.heap.size + 1) (j := 0) (fun _ => rfl) (.int .i64 (i + 1))).setCell (g := w.heap.size + 1) (j := 1) (fun _ => rfl) (.int .i64 (1 + g % 3))).setCell (g := w.heap.size + 1) (j := 2) (fun _ => rfl) (.int .i64 lo)).setCell (g := w.heap.size + 1) (j := 3) (fun _ => rfl) (.int .i64 hi)).setCell (g := w.heap.size + 1) (j := 4) (fun _ => rfl) (.int .i64 lo)
    have hsz := bw.size
    have cb2 := cb.keep K5 (by omega)
    try simp only [wi, wg]
    refine hK.out _ _ ⟨(cb2.get 0 _ rfl).1, (cb2.get 1 _ rfl).1, (cb2.get 2 _ rfl).1, (cb2.get 3 _ rfl).1⟩ (fun hS => ?_)
    clear hK K hS cb2 cb
    try simp only [Act.put, List.setIfInBounds_toArray, List.set_cons_zero, List.set_cons_succ]
    refine wpAnyH_done (by kernel_rfl) ?_ _
    go_wp2_with fail
    refine bodyPost_ret (v := cV (i + 1) (1 + g % 3) lo hi lo) (by simp [results, Tryz.results19, go_sem, z0, z1, z2, z3, z4]) rfl ⟨by rw [eL, eH, eV], ?_⟩
    exact bw.trans (K5.below bw.size (fun z hz q => by omega))
end Go.Proofs.YtaohdmaenplbpaaGreat
