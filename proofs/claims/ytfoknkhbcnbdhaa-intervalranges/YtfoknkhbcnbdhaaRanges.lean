import Derived.Test.YtfoknkhbcnbdhaaTurns
import Derived.Deep.DeepCutAuto
import Derived.Deep.RegionHeld
import Derived.Test.YtfoknkhbcnbdhaaTake
namespace Go.Proofs.Ytfoknkhbcnbdhaa
open Go.RowKit Quota

/-- The two ranges lie in their boxes; below W0 nothing has turned. -/
def Two (W0 w' : World) (n : Nat) (al ah bl bh : Int) : Prop :=
  Below W0.heap.size W0 w' ∧ Box w' n (.int .i64 al) (.int .i64 ah) ∧ Box w' (n + 1) (.int .i64 bl) (.int .i64 bh)

theorem Two.on {W0 w' w'' : World} {n : Nat} {al ah bl bh : Int} (h : Two W0 w' n al ah bl bh) (hb : Below w'.heap.size w' w'') : Two W0 w'' n al ah bl bh :=
  ⟨h.1.trans (hb.mono h.1.size), h.2.1.below hb, h.2.2.below hb⟩
theorem Two.drew {W0 w' : World} {n : Nat} {al ah bl bh : Int} (h : Two W0 w' n al ah bl bh) : Two W0 w'.drew n al ah bl bh :=
  ⟨h.1.drew, h.2.1, h.2.2⟩
theorem Two.cells {W0 w' : World} {n : Nat} {al ah bl bh : Int} (h : Two W0 w' n al ah bl bh) :
    w'.cell? ⟨n, 0, none⟩ = some (.int .i64 al) ∧ w'.cell? ⟨n, 1, none⟩ = some (.int .i64 ah) ∧ w'.cell? ⟨n + 1, 0, none⟩ = some (.int .i64 bl) ∧ w'.cell? ⟨n + 1, 1, none⟩ = some (.int .i64 bh) :=
  ⟨h.2.1.2.1, h.2.1.2.2.1, h.2.2.2.1, h.2.2.2.2.1⟩

theorem two_start {w w1 : World} {al ah bl bh : Int} (h : Below ((w.alloc (.cells #[.int .i64 al, .int .i64 ah] 24)).alloc (.cells #[.int .i64 bl, .int .i64 bh] 24)).heap.size ((w.alloc (.cells #[.int .i64 al, .int .i64 ah] 24)).alloc (.cells #[.int .i64 bl, .int .i64 bh] 24)) w1) :
    Two w w1 w.heap.size al ah bl bh := by
  refine ⟨below2 h, ((Box.new _ _ _ _).alloc _).below h, ?_⟩
  have := Box.new (w.alloc (.cells #[.int .i64 al, .int .i64 ah] 24)) (.int .i64 bl) (.int .i64 bh) 24
  have k := this.below h
  simpa using k


theorem held_of {W0 w' : World} {n : Nat} {al ah bl bh : Int} (h : Two W0 w' n al ah bl bh) :
    w'.cell? ⟨n, 0, none⟩ = some (.int .i64 al) ∧ w'.cell? ⟨n, 1, none⟩ = some (.int .i64 ah) ∧ Two W0 w' n al ah bl bh := ⟨h.cells.1, h.cells.2.1, h⟩
theorem held_on {W0 w' w'' : World} {n : Nat} {al ah bl bh : Int} (hb : Below w'.heap.size w' w'') (h : w'.cell? ⟨n, 0, none⟩ = some (.int .i64 al) ∧ w'.cell? ⟨n, 1, none⟩ = some (.int .i64 ah) ∧ Two W0 w' n al ah bl bh) :
    w''.cell? ⟨n, 0, none⟩ = some (.int .i64 al) ∧ w''.cell? ⟨n, 1, none⟩ = some (.int .i64 ah) ∧ Two W0 w'' n al ah bl bh := held_of (Two.on h.2.2 hb)

theorem check_bad {lo hi : Int} (h : hi < lo) (w : World) : Calls Try.prog 11 #[rng lo hi] w fun r w' => r = .returned (.int .i64 11) ∧ Below w.heap.size w w' := by
  have k := check_any lo hi w
  rw [show chkE lo hi = 11 by simp [chkE, h]] at k
  exact k
theorem check_good {lo hi : Int} (h : ¬ hi < lo) (w : World) : Calls Try.prog 11 #[rng lo hi] w fun r w' => r = .returned (.int .i64 0) ∧ Below w.heap.size w w' := by
  have k := check_any lo hi w
  rw [show chkE lo hi = 0 by simp [chkE, h]] at k
  exact k
theorem has_is {lo hi v : Int} {t : Bool} (h : hasB lo hi v = t) (w : World) : Calls Try.prog 12 #[rng lo hi, .int .i64 v] w fun r w' => r = .returned (.bool t) ∧ Below w.heap.size w w' := by
  have k := has_any lo hi v w
  rw [h] at k
  exact k
theorem within_is {lo hi a b : Int} {t : Bool} (h : inB lo hi a b = t) (w : World) : Calls Try.prog 13 #[rng lo hi, rng a b] w fun r w' => r = .returned (.bool t) ∧ Below w.heap.size w w' := by
  have k := within_any lo hi a b w
  rw [h] at k
  exact k

set_option maxHeartbeats 1000000 in
set_option maxRecDepth 100000 in
theorem ranges_e (al ah bl bh v : Int) (w : World) (he : ah < al) :
    Calls Try.prog 4 #[rng al ah, rng bl bh, .int .i64 v] w fun e w' => e = .returned (.bool true) ∧ Below w.heap.size w w' := by
  have hd : decide (al ≤ ah) = false := by simp; omega
  have e2 : hasB al ah al = false := by simp [hasB]; omega
  have e3 : hasB al ah ah = false := by simp [hasB]; omega
  have eaa : inB al ah al ah = true := by simp [inB, hasB]; omega
  have ebb : inB 1 0 bl bh = true := by simp [inB]
  go_enter Try.func4, Try.ntmps4
  go_wp2_with fail
  refine (awake_any _).mono ?_
  rintro e w1 ⟨rfl, h1⟩
  have t1 := two_start h1
  clear h1
  obtain ⟨c0, c1, c2, c3⟩ := t1.cells
  go_wp2_with fail
  refine (check_bad he _).mono ?_
  rintro e w2 ⟨rfl, h2⟩
  have t2 := Two.on t1 h2
  clear t1 h2 c0 c1 c2 c3
  obtain ⟨c0, c1, c2, c3⟩ := t2.cells
  go_wp2_with (go_at_call 10; refine (num_any _ _).mono ?_; rintro e w' ⟨rfl, rfl⟩)
  refine (check_bad he _).mono ?_
  rintro e w3 ⟨rfl, h3⟩
  have t3 := Two.on t2 h3
  clear t2 h3 c0 c1 c2 c3
  obtain ⟨c0, c1, c2, c3⟩ := t3.cells
  go_upto_region 6 with (go_at_call 10; refine (num_any _ _).mono ?_; rintro e w' ⟨rfl, rfl⟩)
  go_cut [61] (fun s w' => s = .bool false ∧ Two w w' w.heap.size al ah bl bh)
  case first =>
    by_cases hv : al ≤ v
    · obtain ⟨t, e1⟩ : ∃ t, hasB al ah v = t := ⟨_, rfl⟩
      have e4 : decide (v ≤ ah) = t := by rw [← e1]; simp [hasB, hv]
      refine wp_region_held_drew (S := fun w' => w'.cell? ⟨w.heap.size, 0, none⟩ = some (.int .i64 al) ∧ w'.cell? ⟨w.heap.size, 1, none⟩ = some (.int .i64 ah) ∧ Two w w' w.heap.size al ah bl bh) (by kernel_rfl) (held_of (Two.drew t3)) (fun hS => ?_)
      refine take_at 0 (some 32) (v := ?_) rfl rfl (by kernel_rfl) (by kernel_rfl) (by kernel_rfl) (fun _ _ _ h => h) ⟨by rfl, ?_⟩ hS ?_
      rotate_left
      · intro wq hSw; (try dsimp only at hSw); go_simp; try rfl
      simp only [Act.put, List.setIfInBounds_toArray, List.set_cons_zero, List.set_cons_succ]
      refine take_at 1 (some 33) (v := ?_) rfl rfl (by kernel_rfl) (by kernel_rfl) (by kernel_rfl) (fun _ _ _ h => h) ⟨by rfl, ?_⟩ hS ?_
      rotate_left
      · intro wq hSw; (try dsimp only at hSw); go_simp; try rfl
      simp only [Act.put, List.setIfInBounds_toArray, List.set_cons_zero, List.set_cons_succ]
      refine take_at 3 (some 35) (v := ?_) rfl rfl (by kernel_rfl) (by kernel_rfl) (by kernel_rfl) (fun _ _ _ h => h) ⟨by rfl, ?_⟩ hS ?_
      rotate_left
      · intro wq hSw; (try dsimp only at hSw); go_simp; try rfl
      simp only [Act.put, List.setIfInBounds_toArray, List.set_cons_zero, List.set_cons_succ]
      refine take_at 4 (some 36) (v := ?_) rfl rfl (by kernel_rfl) (by kernel_rfl) (by kernel_rfl) (fun _ _ _ h => h) ⟨by rfl, ?_⟩ hS ?_
      rotate_left
      · intro wq hSw; (try dsimp only at hSw); go_simp; try rfl
      simp only [Act.put, List.setIfInBounds_toArray, List.set_cons_zero, List.set_cons_succ]
      refine take_at 5 (some 37) (v := ?_) rfl rfl (by kernel_rfl) (by kernel_rfl) (by kernel_rfl) (fun _ _ _ h => h) ⟨by rfl, ?_⟩ hS ?_
      rotate_left
      · intro wq hSw; (try dsimp only at hSw); go_simp; try rfl
      simp only [Act.put, List.setIfInBounds_toArray, List.set_cons_zero, List.set_cons_succ]
      refine take_at 6 (some 38) (v := ?_) rfl rfl (by kernel_rfl) (by kernel_rfl) (by kernel_rfl) (fun _ _ _ h => h) ⟨by rfl, ?_⟩ hS ?_
      rotate_left
      · intro wq hSw; (try dsimp only at hSw); go_simp; try rfl
      simp only [Act.put, List.setIfInBounds_toArray, List.set_cons_zero, List.set_cons_succ]
      refine wpAnyH_ready (rs := [2]) (by kernel_rfl) (by simp) ?_
      refine AllReadyH.cons rfl (fun K hK => ?_) AllReadyH.nil
      go_simp
      go_wp2_with fail
      refine (has_any _ _ _ _).mono ?_
      rintro e wz1 ⟨rfl, hb⟩
      go_wp2_with fail
      refine hK.out _ _ (held_on hb hS) (fun hT => ?_)
      clear hS hb
      have hS := hT
      clear hT
      clear hK K
      refine take_at 7 (some 39) (v := ?_) rfl rfl (by kernel_rfl) (by kernel_rfl) (by kernel_rfl) (fun _ _ _ h => h) ⟨by rfl, ?_⟩ hS ?_
      rotate_left
      · intro wq hSw; (try dsimp only at hSw); go_simp; try rfl
      simp only [Act.put, List.setIfInBounds_toArray, List.set_cons_zero, List.set_cons_succ]
      refine take_at 8 (some 40) (v := ?_) rfl rfl (by kernel_rfl) (by kernel_rfl) (by kernel_rfl) (fun _ _ _ h => h) ⟨by rfl, ?_⟩ hS ?_
      rotate_left
      · intro wq hSw; (try dsimp only at hSw); go_simp; try rfl
      simp only [Act.put, List.setIfInBounds_toArray, List.set_cons_zero, List.set_cons_succ]
      refine take_at 9 (some 41) (v := ?_) rfl rfl (by kernel_rfl) (by kernel_rfl) (by kernel_rfl) (fun _ _ _ h => h) ⟨by rfl, ?_⟩ hS ?_
      rotate_left
      · intro wq hSw; (try dsimp only at hSw); go_simp; try rfl
      simp only [Act.put, List.setIfInBounds_toArray, List.set_cons_zero, List.set_cons_succ]
      refine take_at 10 (some 42) (v := ?_) rfl rfl (by kernel_rfl) (by kernel_rfl) (by kernel_rfl) (fun _ _ _ h => h) ⟨by rfl, ?_⟩ hS ?_
      rotate_left
      · intro wq hSw; (try dsimp only at hSw); go_simp; try rfl
      simp only [Act.put, List.setIfInBounds_toArray, List.set_cons_zero, List.set_cons_succ]
      refine take_at 11 (some 43) (v := ?_) rfl rfl (by kernel_rfl) (by kernel_rfl) (by kernel_rfl) (fun _ _ _ h => h) ⟨by rfl, ?_⟩ hS ?_
      rotate_left
      · intro wq hSw; (try dsimp only at hSw); go_simp; try rfl
      simp only [Act.put, List.setIfInBounds_toArray, List.set_cons_zero, List.set_cons_succ]
      refine take_at 12 (some 44) (v := ?_) rfl rfl (by kernel_rfl) (by kernel_rfl) (by kernel_rfl) (fun _ _ _ h => h) ⟨by rfl, ?_⟩ hS ?_
      rotate_left
      · intro wq hSw; (try dsimp only at hSw); go_simp; try rfl
      simp only [Act.put, List.setIfInBounds_toArray, List.set_cons_zero, List.set_cons_succ]
      refine take_at 13 (some 45) (v := ?_) rfl rfl (by kernel_rfl) (by kernel_rfl) (by kernel_rfl) (fun _ _ _ h => h) ⟨by rfl, ?_⟩ hS ?_
      rotate_left
      · intro wq hSw; (try dsimp only at hSw); go_simp; try rfl
      simp only [Act.put, List.setIfInBounds_toArray, List.set_cons_zero, List.set_cons_succ]
      refine take_at 14 (some 46) (v := ?_) rfl rfl (by kernel_rfl) (by kernel_rfl) (by kernel_rfl) (fun _ _ _ h => h) ⟨by rfl, ?_⟩ hS ?_
      rotate_left
      · intro wq hSw; (try dsimp only at hSw); go_simp; try rfl
      simp only [Act.put, List.setIfInBounds_toArray, List.set_cons_zero, List.set_cons_succ]
      refine take_at 15 (some 47) (v := ?_) rfl rfl (by kernel_rfl) (by kernel_rfl) (by kernel_rfl) (fun _ _ _ h => h) ⟨by rfl, ?_⟩ hS ?_
      rotate_left
      · intro wq hSw; (try dsimp only at hSw); go_simp; try rfl
      simp only [Act.put, List.setIfInBounds_toArray, List.set_cons_zero, List.set_cons_succ]
      refine take_at 16 (some 48) (v := ?_) rfl rfl (by kernel_rfl) (by kernel_rfl) (by kernel_rfl) (fun _ _ _ h => h) ⟨by rfl, ?_⟩ hS ?_
      rotate_left
      · intro wq hSw; (try dsimp only at hSw); go_simp; try rfl
      simp only [Act.put, List.setIfInBounds_toArray, List.set_cons_zero, List.set_cons_succ]
      refine take_at 17 (some 49) (v := ?_) rfl rfl (by kernel_rfl) (by kernel_rfl) (by kernel_rfl) (fun _ _ _ h => h) ⟨by rfl, ?_⟩ hS ?_
      rotate_left
      · intro wq hSw; (try dsimp only at hSw); go_simp; try rfl
      simp only [Act.put, List.setIfInBounds_toArray, List.set_cons_zero, List.set_cons_succ]
      refine take_at 19 (some 51) (v := ?_) rfl rfl (by kernel_rfl) (by kernel_rfl) (by kernel_rfl) (fun _ _ _ h => h) ⟨by rfl, ?_⟩ hS ?_
      rotate_left
      · intro wq hSw; (try dsimp only at hSw); go_simp; try rfl
      simp only [Act.put, List.setIfInBounds_toArray, List.set_cons_zero, List.set_cons_succ]
      refine wpAnyH_ready (rs := [18]) (by kernel_rfl) (by simp) ?_
      refine AllReadyH.cons rfl (fun K hK => ?_) AllReadyH.nil
      go_simp
      go_wp2_with fail
      refine (has_any _ _ _ _).mono ?_
      rintro e wz2 ⟨rfl, hb⟩
      go_wp2_with fail
      refine hK.out _ _ (held_on hb hS) (fun hT => ?_)
      clear hS hb
      have hS := hT
      clear hT
      clear hK K
      refine take_at 20 (some 52) (v := ?_) rfl rfl (by kernel_rfl) (by kernel_rfl) (by kernel_rfl) (fun _ _ _ h => h) ⟨by rfl, ?_⟩ hS ?_
      rotate_left
      · intro wq hSw; (try dsimp only at hSw); go_simp; try rfl
      simp only [Act.put, List.setIfInBounds_toArray, List.set_cons_zero, List.set_cons_succ]
      refine take_at 21 (some 53) (v := ?_) rfl rfl (by kernel_rfl) (by kernel_rfl) (by kernel_rfl) (fun _ _ _ h => h) ⟨by rfl, ?_⟩ hS ?_
      rotate_left
      · intro wq hSw; (try dsimp only at hSw); go_simp; try rfl
      simp only [Act.put, List.setIfInBounds_toArray, List.set_cons_zero, List.set_cons_succ]
      refine take_at 22 (some 54) (v := ?_) rfl rfl (by kernel_rfl) (by kernel_rfl) (by kernel_rfl) (fun _ _ _ h => h) ⟨by rfl, ?_⟩ hS ?_
      rotate_left
      · intro wq hSw; (try dsimp only at hSw); go_simp; try rfl
      simp only [Act.put, List.setIfInBounds_toArray, List.set_cons_zero, List.set_cons_succ]
      refine take_at 23 (some 55) (v := ?_) rfl rfl (by kernel_rfl) (by kernel_rfl) (by kernel_rfl) (fun _ _ _ h => h) ⟨by rfl, ?_⟩ hS ?_
      rotate_left
      · intro wq hSw; (try dsimp only at hSw); go_simp; try rfl
      simp only [Act.put, List.setIfInBounds_toArray, List.set_cons_zero, List.set_cons_succ]
      refine take_at 24 (some 56) (v := ?_) rfl rfl (by kernel_rfl) (by kernel_rfl) (by kernel_rfl) (fun _ _ _ h => h) ⟨by rfl, ?_⟩ hS ?_
      rotate_left
      · intro wq hSw; (try dsimp only at hSw); go_simp; try rfl
      simp only [Act.put, List.setIfInBounds_toArray, List.set_cons_zero, List.set_cons_succ]
      refine take_at 25 (some 57) (v := ?_) rfl rfl (by kernel_rfl) (by kernel_rfl) (by kernel_rfl) (fun _ _ _ h => h) ⟨by rfl, ?_⟩ hS ?_
      rotate_left
      · intro wq hSw; (try dsimp only at hSw); go_simp; try rfl
      simp only [Act.put, List.setIfInBounds_toArray, List.set_cons_zero, List.set_cons_succ]
      refine take_at 27 (some 59) (v := ?_) rfl rfl (by kernel_rfl) (by kernel_rfl) (by kernel_rfl) (fun _ _ _ h => h) ⟨by rfl, ?_⟩ hS ?_
      rotate_left
      · intro wq hSw; (try dsimp only at hSw); go_simp; try rfl
      simp only [Act.put, List.setIfInBounds_toArray, List.set_cons_zero, List.set_cons_succ]
      refine wpAnyH_ready (rs := [26]) (by kernel_rfl) (by simp) ?_
      refine AllReadyH.cons rfl (fun K hK => ?_) AllReadyH.nil
      go_simp
      go_wp2_with fail
      refine (has_any _ _ _ _).mono ?_
      rintro e wz3 ⟨rfl, hb⟩
      go_wp2_with fail
      refine hK.out _ _ (held_on hb hS) (fun hT => ?_)
      clear hS hb
      have hS := hT
      clear hT
      clear hK K
      refine take_at 28 (some 60) (v := ?_) rfl rfl (by kernel_rfl) (by kernel_rfl) (by kernel_rfl) (fun _ _ _ h => h) ⟨by rfl, ?_⟩ hS ?_
      rotate_left
      · intro wq hSw; (try dsimp only at hSw); go_simp; try rfl
      simp only [Act.put, List.setIfInBounds_toArray, List.set_cons_zero, List.set_cons_succ]
      refine take_at 29 (some 61) (v := ?_) rfl rfl (by kernel_rfl) (by kernel_rfl) (by kernel_rfl) (fun _ _ _ h => h) ⟨by rfl, ?_⟩ hS ?_
      rotate_left
      · intro wq hSw; (try dsimp only at hSw); go_simp; try rfl
      simp only [Act.put, List.setIfInBounds_toArray, List.set_cons_zero, List.set_cons_succ]
      refine wpAnyH_done (by kernel_rfl) ?_ _
      go_wp2_with fail
      go_meet
      exact ⟨rfl, hS.2.2⟩
    · have e1 : hasB al ah v = false := by simp [hasB]; omega
      have hg : decide (al ≤ v) = false := by simpa using hv
      refine wp_region_held_drew (S := fun w' => w'.cell? ⟨w.heap.size, 0, none⟩ = some (.int .i64 al) ∧ w'.cell? ⟨w.heap.size, 1, none⟩ = some (.int .i64 ah) ∧ Two w w' w.heap.size al ah bl bh) (by kernel_rfl) (held_of (Two.drew t3)) (fun hS => ?_)
      refine take_at 0 (some 32) (v := ?_) rfl rfl (by kernel_rfl) (by kernel_rfl) (by kernel_rfl) (fun _ _ _ h => h) ⟨by rfl, ?_⟩ hS ?_
      rotate_left
      · intro wq hSw; (try dsimp only at hSw); go_simp; try rfl
      simp only [Act.put, List.setIfInBounds_toArray, List.set_cons_zero, List.set_cons_succ]
      refine take_at 1 (some 33) (v := ?_) rfl rfl (by kernel_rfl) (by kernel_rfl) (by kernel_rfl) (fun _ _ _ h => h) ⟨by rfl, ?_⟩ hS ?_
      rotate_left
      · intro wq hSw; (try dsimp only at hSw); go_simp; try rfl
      simp only [Act.put, List.setIfInBounds_toArray, List.set_cons_zero, List.set_cons_succ]
      refine take_at 3 (some 35) (v := ?_) rfl rfl (by kernel_rfl) (by kernel_rfl) (by kernel_rfl) (fun _ _ _ h => h) ⟨by rfl, ?_⟩ hS ?_
      rotate_left
      · intro wq hSw; (try dsimp only at hSw); go_simp; try rfl
      simp only [Act.put, List.setIfInBounds_toArray, List.set_cons_zero, List.set_cons_succ]
      refine take_at 4 (some 36) (v := ?_) rfl rfl (by kernel_rfl) (by kernel_rfl) (by kernel_rfl) (fun _ _ _ h => h) ⟨by rfl, ?_⟩ hS ?_
      rotate_left
      · intro wq hSw; (try dsimp only at hSw); go_simp; try rfl
      simp only [Act.put, List.setIfInBounds_toArray, List.set_cons_zero, List.set_cons_succ]
      refine take_at 5 (some 37) (v := ?_) rfl rfl (by kernel_rfl) (by kernel_rfl) (by kernel_rfl) (fun _ _ _ h => h) ⟨by rfl, ?_⟩ hS ?_
      rotate_left
      · intro wq hSw; (try dsimp only at hSw); go_simp; try rfl
      simp only [Act.put, List.setIfInBounds_toArray, List.set_cons_zero, List.set_cons_succ]
      refine take_at 6 (some 38) (v := ?_) rfl rfl (by kernel_rfl) (by kernel_rfl) (by kernel_rfl) (fun _ _ _ h => h) ⟨by rfl, ?_⟩ hS ?_
      rotate_left
      · intro wq hSw; (try dsimp only at hSw); go_simp; try rfl
      simp only [Act.put, List.setIfInBounds_toArray, List.set_cons_zero, List.set_cons_succ]
      refine wpAnyH_ready (rs := [2]) (by kernel_rfl) (by simp) ?_
      refine AllReadyH.cons rfl (fun K hK => ?_) AllReadyH.nil
      go_simp
      go_wp2_with fail
      refine (has_any _ _ _ _).mono ?_
      rintro e wz1 ⟨rfl, hb⟩
      go_wp2_with fail
      refine hK.out _ _ (held_on hb hS) (fun hT => ?_)
      clear hS hb
      have hS := hT
      clear hT
      clear hK K
      refine take_at 7 (some 39) (v := ?_) rfl rfl (by kernel_rfl) (by kernel_rfl) (by kernel_rfl) (fun _ _ _ h => h) ⟨by rfl, ?_⟩ hS ?_
      rotate_left
      · intro wq hSw; (try dsimp only at hSw); go_simp; try rfl
      simp only [Act.put, List.setIfInBounds_toArray, List.set_cons_zero, List.set_cons_succ]
      refine pass_at 8 (some 40) rfl rfl (by kernel_rfl) (by kernel_rfl) (by kernel_rfl) (fun _ _ _ h => h) (by rfl) hS ?_
      simp only [Act.put, List.setIfInBounds_toArray, List.set_cons_zero, List.set_cons_succ]
      refine pass_at 9 (some 41) rfl rfl (by kernel_rfl) (by kernel_rfl) (by kernel_rfl) (fun _ _ _ h => h) (by rfl) hS ?_
      simp only [Act.put, List.setIfInBounds_toArray, List.set_cons_zero, List.set_cons_succ]
      refine pass_at 10 (some 42) rfl rfl (by kernel_rfl) (by kernel_rfl) (by kernel_rfl) (fun _ _ _ h => h) (by rfl) hS ?_
      simp only [Act.put, List.setIfInBounds_toArray, List.set_cons_zero, List.set_cons_succ]
      refine pass_at 11 (some 43) rfl rfl (by kernel_rfl) (by kernel_rfl) (by kernel_rfl) (fun _ _ _ h => h) (by rfl) hS ?_
      simp only [Act.put, List.setIfInBounds_toArray, List.set_cons_zero, List.set_cons_succ]
      refine take_at 12 (some 44) (v := ?_) rfl rfl (by kernel_rfl) (by kernel_rfl) (by kernel_rfl) (fun _ _ _ h => h) ⟨by rfl, ?_⟩ hS ?_
      rotate_left
      · intro wq hSw; (try dsimp only at hSw); go_simp; try rfl
      simp only [Act.put, List.setIfInBounds_toArray, List.set_cons_zero, List.set_cons_succ]
      refine take_at 13 (some 45) (v := ?_) rfl rfl (by kernel_rfl) (by kernel_rfl) (by kernel_rfl) (fun _ _ _ h => h) ⟨by rfl, ?_⟩ hS ?_
      rotate_left
      · intro wq hSw; (try dsimp only at hSw); go_simp; try rfl
      simp only [Act.put, List.setIfInBounds_toArray, List.set_cons_zero, List.set_cons_succ]
      refine take_at 14 (some 46) (v := ?_) rfl rfl (by kernel_rfl) (by kernel_rfl) (by kernel_rfl) (fun _ _ _ h => h) ⟨by rfl, ?_⟩ hS ?_
      rotate_left
      · intro wq hSw; (try dsimp only at hSw); go_simp; try rfl
      simp only [Act.put, List.setIfInBounds_toArray, List.set_cons_zero, List.set_cons_succ]
      refine take_at 15 (some 47) (v := ?_) rfl rfl (by kernel_rfl) (by kernel_rfl) (by kernel_rfl) (fun _ _ _ h => h) ⟨by rfl, ?_⟩ hS ?_
      rotate_left
      · intro wq hSw; (try dsimp only at hSw); go_simp; try rfl
      simp only [Act.put, List.setIfInBounds_toArray, List.set_cons_zero, List.set_cons_succ]
      refine take_at 16 (some 48) (v := ?_) rfl rfl (by kernel_rfl) (by kernel_rfl) (by kernel_rfl) (fun _ _ _ h => h) ⟨by rfl, ?_⟩ hS ?_
      rotate_left
      · intro wq hSw; (try dsimp only at hSw); go_simp; try rfl
      simp only [Act.put, List.setIfInBounds_toArray, List.set_cons_zero, List.set_cons_succ]
      refine take_at 17 (some 49) (v := ?_) rfl rfl (by kernel_rfl) (by kernel_rfl) (by kernel_rfl) (fun _ _ _ h => h) ⟨by rfl, ?_⟩ hS ?_
      rotate_left
      · intro wq hSw; (try dsimp only at hSw); go_simp; try rfl
      simp only [Act.put, List.setIfInBounds_toArray, List.set_cons_zero, List.set_cons_succ]
      refine take_at 19 (some 51) (v := ?_) rfl rfl (by kernel_rfl) (by kernel_rfl) (by kernel_rfl) (fun _ _ _ h => h) ⟨by rfl, ?_⟩ hS ?_
      rotate_left
      · intro wq hSw; (try dsimp only at hSw); go_simp; try rfl
      simp only [Act.put, List.setIfInBounds_toArray, List.set_cons_zero, List.set_cons_succ]
      refine wpAnyH_ready (rs := [18]) (by kernel_rfl) (by simp) ?_
      refine AllReadyH.cons rfl (fun K hK => ?_) AllReadyH.nil
      go_simp
      go_wp2_with fail
      refine (has_any _ _ _ _).mono ?_
      rintro e wz2 ⟨rfl, hb⟩
      go_wp2_with fail
      refine hK.out _ _ (held_on hb hS) (fun hT => ?_)
      clear hS hb
      have hS := hT
      clear hT
      clear hK K
      refine take_at 20 (some 52) (v := ?_) rfl rfl (by kernel_rfl) (by kernel_rfl) (by kernel_rfl) (fun _ _ _ h => h) ⟨by rfl, ?_⟩ hS ?_
      rotate_left
      · intro wq hSw; (try dsimp only at hSw); go_simp; try rfl
      simp only [Act.put, List.setIfInBounds_toArray, List.set_cons_zero, List.set_cons_succ]
      refine take_at 21 (some 53) (v := ?_) rfl rfl (by kernel_rfl) (by kernel_rfl) (by kernel_rfl) (fun _ _ _ h => h) ⟨by rfl, ?_⟩ hS ?_
      rotate_left
      · intro wq hSw; (try dsimp only at hSw); go_simp; try rfl
      simp only [Act.put, List.setIfInBounds_toArray, List.set_cons_zero, List.set_cons_succ]
      refine take_at 22 (some 54) (v := ?_) rfl rfl (by kernel_rfl) (by kernel_rfl) (by kernel_rfl) (fun _ _ _ h => h) ⟨by rfl, ?_⟩ hS ?_
      rotate_left
      · intro wq hSw; (try dsimp only at hSw); go_simp; try rfl
      simp only [Act.put, List.setIfInBounds_toArray, List.set_cons_zero, List.set_cons_succ]
      refine take_at 23 (some 55) (v := ?_) rfl rfl (by kernel_rfl) (by kernel_rfl) (by kernel_rfl) (fun _ _ _ h => h) ⟨by rfl, ?_⟩ hS ?_
      rotate_left
      · intro wq hSw; (try dsimp only at hSw); go_simp; try rfl
      simp only [Act.put, List.setIfInBounds_toArray, List.set_cons_zero, List.set_cons_succ]
      refine take_at 24 (some 56) (v := ?_) rfl rfl (by kernel_rfl) (by kernel_rfl) (by kernel_rfl) (fun _ _ _ h => h) ⟨by rfl, ?_⟩ hS ?_
      rotate_left
      · intro wq hSw; (try dsimp only at hSw); go_simp; try rfl
      simp only [Act.put, List.setIfInBounds_toArray, List.set_cons_zero, List.set_cons_succ]
      refine take_at 25 (some 57) (v := ?_) rfl rfl (by kernel_rfl) (by kernel_rfl) (by kernel_rfl) (fun _ _ _ h => h) ⟨by rfl, ?_⟩ hS ?_
      rotate_left
      · intro wq hSw; (try dsimp only at hSw); go_simp; try rfl
      simp only [Act.put, List.setIfInBounds_toArray, List.set_cons_zero, List.set_cons_succ]
      refine take_at 27 (some 59) (v := ?_) rfl rfl (by kernel_rfl) (by kernel_rfl) (by kernel_rfl) (fun _ _ _ h => h) ⟨by rfl, ?_⟩ hS ?_
      rotate_left
      · intro wq hSw; (try dsimp only at hSw); go_simp; try rfl
      simp only [Act.put, List.setIfInBounds_toArray, List.set_cons_zero, List.set_cons_succ]
      refine wpAnyH_ready (rs := [26]) (by kernel_rfl) (by simp) ?_
      refine AllReadyH.cons rfl (fun K hK => ?_) AllReadyH.nil
      go_simp
      go_wp2_with fail
      refine (has_any _ _ _ _).mono ?_
      rintro e wz3 ⟨rfl, hb⟩
      go_wp2_with fail
      refine hK.out _ _ (held_on hb hS) (fun hT => ?_)
      clear hS hb
      have hS := hT
      clear hT
      clear hK K
      refine take_at 28 (some 60) (v := ?_) rfl rfl (by kernel_rfl) (by kernel_rfl) (by kernel_rfl) (fun _ _ _ h => h) ⟨by rfl, ?_⟩ hS ?_
      rotate_left
      · intro wq hSw; (try dsimp only at hSw); go_simp; try rfl
      simp only [Act.put, List.setIfInBounds_toArray, List.set_cons_zero, List.set_cons_succ]
      refine take_at 29 (some 61) (v := ?_) rfl rfl (by kernel_rfl) (by kernel_rfl) (by kernel_rfl) (fun _ _ _ h => h) ⟨by rfl, ?_⟩ hS ?_
      rotate_left
      · intro wq hSw; (try dsimp only at hSw); go_simp; try rfl
      simp only [Act.put, List.setIfInBounds_toArray, List.set_cons_zero, List.set_cons_succ]
      refine wpAnyH_done (by kernel_rfl) ?_ _
      go_wp2_with fail
      go_meet
      exact ⟨rfl, hS.2.2⟩
  case rest =>
    obtain ⟨hs61, tc⟩ := hcut
    rw [hs61]
    clear c0 c1 c2 c3 t3 hs61
    obtain ⟨c0, c1, c2, c3⟩ := tc.cells
    go_wp2_with fail
    have ein : inB al ah bl bh = true := by simp [inB]; omega
    have e1 : hasB al ah v = false := by simp [hasB]; omega
    refine (within_is ein _).mono ?_
    rintro e x1 ⟨rfl, h1⟩
    have y1 := Two.on tc h1
    clear tc h1 c0 c1 c2 c3
    obtain ⟨c0, c1, c2, c3⟩ := y1.cells
    go_wp2_with fail
    refine (has_is e1 _).mono ?_
    rintro e x2 ⟨rfl, h2⟩
    have y2 := Two.on y1 h2
    clear y1 h2 c0 c1 c2 c3
    obtain ⟨c0, c1, c2, c3⟩ := y2.cells
    go_wp2_with fail
    refine (within_is eaa _).mono ?_
    rintro e x3 ⟨rfl, h3⟩
    have y3 := Two.on y2 h3
    clear y2 h3 c0 c1 c2 c3
    obtain ⟨c0, c1, c2, c3⟩ := y3.cells
    go_wp2_with fail
    refine (within_is ebb _).mono ?_
    rintro e x4 ⟨rfl, h4⟩
    have y4 := Two.on y3 h4
    clear y3 h4 c0 c1 c2 c3
    obtain ⟨c0, c1, c2, c3⟩ := y4.cells
    go_wp2_with fail
    go_ret
    exact ⟨rfl, y4.1⟩

set_option maxHeartbeats 1000000 in
set_option maxRecDepth 100000 in
theorem ranges_n (al ah bl bh v : Int) (w : World) (he : al ≤ ah) :
    Calls Try.prog 4 #[rng al ah, rng bl bh, .int .i64 v] w fun e w' => e = .returned (.bool true) ∧ Below w.heap.size w w' := by
  have hd : decide (al ≤ ah) = true := by simp; omega
  have e2 : hasB al ah al = true := by simp [hasB]; omega
  have e3 : hasB al ah ah = true := by simp [hasB]; omega
  have eaa : inB al ah al ah = true := by simp [inB, hasB]; omega
  have ebb : inB 1 0 bl bh = true := by simp [inB]
  go_enter Try.func4, Try.ntmps4
  go_wp2_with fail
  refine (awake_any _).mono ?_
  rintro e w1 ⟨rfl, h1⟩
  have t1 := two_start h1
  clear h1
  obtain ⟨c0, c1, c2, c3⟩ := t1.cells
  go_wp2_with fail
  refine (check_good (Int.not_lt.2 he) _).mono ?_
  rintro e w2 ⟨rfl, h2⟩
  have t2 := Two.on t1 h2
  clear t1 h2 c0 c1 c2 c3
  obtain ⟨c0, c1, c2, c3⟩ := t2.cells
  have t3 := t2
  clear t2
  go_upto_region 6 with (go_at_call 10; refine (num_any _ _).mono ?_; rintro e w' ⟨rfl, rfl⟩)
  go_cut [61] (fun s w' => s = .bool false ∧ Two w w' w.heap.size al ah bl bh)
  case first =>
    by_cases hv : al ≤ v
    · obtain ⟨t, e1⟩ : ∃ t, hasB al ah v = t := ⟨_, rfl⟩
      have e4 : decide (v ≤ ah) = t := by rw [← e1]; simp [hasB, hv]
      refine wp_region_held_drew (S := fun w' => w'.cell? ⟨w.heap.size, 0, none⟩ = some (.int .i64 al) ∧ w'.cell? ⟨w.heap.size, 1, none⟩ = some (.int .i64 ah) ∧ Two w w' w.heap.size al ah bl bh) (by kernel_rfl) (held_of (Two.drew t3)) (fun hS => ?_)
      refine take_at 0 (some 32) (v := ?_) rfl rfl (by kernel_rfl) (by kernel_rfl) (by kernel_rfl) (fun _ _ _ h => h) ⟨by rfl, ?_⟩ hS ?_
      rotate_left
      · intro wq hSw; (try dsimp only at hSw); go_simp; try rfl
      simp only [Act.put, List.setIfInBounds_toArray, List.set_cons_zero, List.set_cons_succ]
      refine take_at 1 (some 33) (v := ?_) rfl rfl (by kernel_rfl) (by kernel_rfl) (by kernel_rfl) (fun _ _ _ h => h) ⟨by rfl, ?_⟩ hS ?_
      rotate_left
      · intro wq hSw; (try dsimp only at hSw); go_simp; try rfl
      simp only [Act.put, List.setIfInBounds_toArray, List.set_cons_zero, List.set_cons_succ]
      refine take_at 3 (some 35) (v := ?_) rfl rfl (by kernel_rfl) (by kernel_rfl) (by kernel_rfl) (fun _ _ _ h => h) ⟨by rfl, ?_⟩ hS ?_
      rotate_left
      · intro wq hSw; (try dsimp only at hSw); go_simp; try rfl
      simp only [Act.put, List.setIfInBounds_toArray, List.set_cons_zero, List.set_cons_succ]
      refine take_at 4 (some 36) (v := ?_) rfl rfl (by kernel_rfl) (by kernel_rfl) (by kernel_rfl) (fun _ _ _ h => h) ⟨by rfl, ?_⟩ hS ?_
      rotate_left
      · intro wq hSw; (try dsimp only at hSw); go_simp; try rfl
      simp only [Act.put, List.setIfInBounds_toArray, List.set_cons_zero, List.set_cons_succ]
      refine take_at 5 (some 37) (v := ?_) rfl rfl (by kernel_rfl) (by kernel_rfl) (by kernel_rfl) (fun _ _ _ h => h) ⟨by rfl, ?_⟩ hS ?_
      rotate_left
      · intro wq hSw; (try dsimp only at hSw); go_simp; try rfl
      simp only [Act.put, List.setIfInBounds_toArray, List.set_cons_zero, List.set_cons_succ]
      refine take_at 6 (some 38) (v := ?_) rfl rfl (by kernel_rfl) (by kernel_rfl) (by kernel_rfl) (fun _ _ _ h => h) ⟨by rfl, ?_⟩ hS ?_
      rotate_left
      · intro wq hSw; (try dsimp only at hSw); go_simp; try rfl
      simp only [Act.put, List.setIfInBounds_toArray, List.set_cons_zero, List.set_cons_succ]
      refine wpAnyH_ready (rs := [2]) (by kernel_rfl) (by simp) ?_
      refine AllReadyH.cons rfl (fun K hK => ?_) AllReadyH.nil
      go_simp
      go_wp2_with fail
      refine (has_any _ _ _ _).mono ?_
      rintro e wz1 ⟨rfl, hb⟩
      go_wp2_with fail
      refine hK.out _ _ (held_on hb hS) (fun hT => ?_)
      clear hS hb
      have hS := hT
      clear hT
      clear hK K
      refine take_at 7 (some 39) (v := ?_) rfl rfl (by kernel_rfl) (by kernel_rfl) (by kernel_rfl) (fun _ _ _ h => h) ⟨by rfl, ?_⟩ hS ?_
      rotate_left
      · intro wq hSw; (try dsimp only at hSw); go_simp; try rfl
      simp only [Act.put, List.setIfInBounds_toArray, List.set_cons_zero, List.set_cons_succ]
      refine take_at 8 (some 40) (v := ?_) rfl rfl (by kernel_rfl) (by kernel_rfl) (by kernel_rfl) (fun _ _ _ h => h) ⟨by rfl, ?_⟩ hS ?_
      rotate_left
      · intro wq hSw; (try dsimp only at hSw); go_simp; try rfl
      simp only [Act.put, List.setIfInBounds_toArray, List.set_cons_zero, List.set_cons_succ]
      refine take_at 9 (some 41) (v := ?_) rfl rfl (by kernel_rfl) (by kernel_rfl) (by kernel_rfl) (fun _ _ _ h => h) ⟨by rfl, ?_⟩ hS ?_
      rotate_left
      · intro wq hSw; (try dsimp only at hSw); go_simp; try rfl
      simp only [Act.put, List.setIfInBounds_toArray, List.set_cons_zero, List.set_cons_succ]
      refine take_at 10 (some 42) (v := ?_) rfl rfl (by kernel_rfl) (by kernel_rfl) (by kernel_rfl) (fun _ _ _ h => h) ⟨by rfl, ?_⟩ hS ?_
      rotate_left
      · intro wq hSw; (try dsimp only at hSw); go_simp; try rfl
      simp only [Act.put, List.setIfInBounds_toArray, List.set_cons_zero, List.set_cons_succ]
      refine take_at 11 (some 43) (v := ?_) rfl rfl (by kernel_rfl) (by kernel_rfl) (by kernel_rfl) (fun _ _ _ h => h) ⟨by rfl, ?_⟩ hS ?_
      rotate_left
      · intro wq hSw; (try dsimp only at hSw); go_simp; try rfl
      simp only [Act.put, List.setIfInBounds_toArray, List.set_cons_zero, List.set_cons_succ]
      refine take_at 12 (some 44) (v := ?_) rfl rfl (by kernel_rfl) (by kernel_rfl) (by kernel_rfl) (fun _ _ _ h => h) ⟨by rfl, ?_⟩ hS ?_
      rotate_left
      · intro wq hSw; (try dsimp only at hSw); go_simp; try rfl
      simp only [Act.put, List.setIfInBounds_toArray, List.set_cons_zero, List.set_cons_succ]
      refine take_at 13 (some 45) (v := ?_) rfl rfl (by kernel_rfl) (by kernel_rfl) (by kernel_rfl) (fun _ _ _ h => h) ⟨by rfl, ?_⟩ hS ?_
      rotate_left
      · intro wq hSw; (try dsimp only at hSw); go_simp; try rfl
      simp only [Act.put, List.setIfInBounds_toArray, List.set_cons_zero, List.set_cons_succ]
      refine take_at 14 (some 46) (v := ?_) rfl rfl (by kernel_rfl) (by kernel_rfl) (by kernel_rfl) (fun _ _ _ h => h) ⟨by rfl, ?_⟩ hS ?_
      rotate_left
      · intro wq hSw; (try dsimp only at hSw); go_simp; try rfl
      simp only [Act.put, List.setIfInBounds_toArray, List.set_cons_zero, List.set_cons_succ]
      refine take_at 15 (some 47) (v := ?_) rfl rfl (by kernel_rfl) (by kernel_rfl) (by kernel_rfl) (fun _ _ _ h => h) ⟨by rfl, ?_⟩ hS ?_
      rotate_left
      · intro wq hSw; (try dsimp only at hSw); go_simp; try rfl
      simp only [Act.put, List.setIfInBounds_toArray, List.set_cons_zero, List.set_cons_succ]
      refine take_at 16 (some 48) (v := ?_) rfl rfl (by kernel_rfl) (by kernel_rfl) (by kernel_rfl) (fun _ _ _ h => h) ⟨by rfl, ?_⟩ hS ?_
      rotate_left
      · intro wq hSw; (try dsimp only at hSw); go_simp; try rfl
      simp only [Act.put, List.setIfInBounds_toArray, List.set_cons_zero, List.set_cons_succ]
      refine take_at 17 (some 49) (v := ?_) rfl rfl (by kernel_rfl) (by kernel_rfl) (by kernel_rfl) (fun _ _ _ h => h) ⟨by rfl, ?_⟩ hS ?_
      rotate_left
      · intro wq hSw; (try dsimp only at hSw); go_simp; try rfl
      simp only [Act.put, List.setIfInBounds_toArray, List.set_cons_zero, List.set_cons_succ]
      refine take_at 19 (some 51) (v := ?_) rfl rfl (by kernel_rfl) (by kernel_rfl) (by kernel_rfl) (fun _ _ _ h => h) ⟨by rfl, ?_⟩ hS ?_
      rotate_left
      · intro wq hSw; (try dsimp only at hSw); go_simp; try rfl
      simp only [Act.put, List.setIfInBounds_toArray, List.set_cons_zero, List.set_cons_succ]
      refine wpAnyH_ready (rs := [18]) (by kernel_rfl) (by simp) ?_
      refine AllReadyH.cons rfl (fun K hK => ?_) AllReadyH.nil
      go_simp
      go_wp2_with fail
      refine (has_any _ _ _ _).mono ?_
      rintro e wz2 ⟨rfl, hb⟩
      go_wp2_with fail
      refine hK.out _ _ (held_on hb hS) (fun hT => ?_)
      clear hS hb
      have hS := hT
      clear hT
      clear hK K
      refine take_at 20 (some 52) (v := ?_) rfl rfl (by kernel_rfl) (by kernel_rfl) (by kernel_rfl) (fun _ _ _ h => h) ⟨by rfl, ?_⟩ hS ?_
      rotate_left
      · intro wq hSw; (try dsimp only at hSw); go_simp; try rfl
      simp only [Act.put, List.setIfInBounds_toArray, List.set_cons_zero, List.set_cons_succ]
      refine take_at 21 (some 53) (v := ?_) rfl rfl (by kernel_rfl) (by kernel_rfl) (by kernel_rfl) (fun _ _ _ h => h) ⟨by rfl, ?_⟩ hS ?_
      rotate_left
      · intro wq hSw; (try dsimp only at hSw); go_simp; try rfl
      simp only [Act.put, List.setIfInBounds_toArray, List.set_cons_zero, List.set_cons_succ]
      refine take_at 22 (some 54) (v := ?_) rfl rfl (by kernel_rfl) (by kernel_rfl) (by kernel_rfl) (fun _ _ _ h => h) ⟨by rfl, ?_⟩ hS ?_
      rotate_left
      · intro wq hSw; (try dsimp only at hSw); go_simp; try rfl
      simp only [Act.put, List.setIfInBounds_toArray, List.set_cons_zero, List.set_cons_succ]
      refine take_at 23 (some 55) (v := ?_) rfl rfl (by kernel_rfl) (by kernel_rfl) (by kernel_rfl) (fun _ _ _ h => h) ⟨by rfl, ?_⟩ hS ?_
      rotate_left
      · intro wq hSw; (try dsimp only at hSw); go_simp; try rfl
      simp only [Act.put, List.setIfInBounds_toArray, List.set_cons_zero, List.set_cons_succ]
      refine take_at 24 (some 56) (v := ?_) rfl rfl (by kernel_rfl) (by kernel_rfl) (by kernel_rfl) (fun _ _ _ h => h) ⟨by rfl, ?_⟩ hS ?_
      rotate_left
      · intro wq hSw; (try dsimp only at hSw); go_simp; try rfl
      simp only [Act.put, List.setIfInBounds_toArray, List.set_cons_zero, List.set_cons_succ]
      refine take_at 25 (some 57) (v := ?_) rfl rfl (by kernel_rfl) (by kernel_rfl) (by kernel_rfl) (fun _ _ _ h => h) ⟨by rfl, ?_⟩ hS ?_
      rotate_left
      · intro wq hSw; (try dsimp only at hSw); go_simp; try rfl
      simp only [Act.put, List.setIfInBounds_toArray, List.set_cons_zero, List.set_cons_succ]
      refine take_at 27 (some 59) (v := ?_) rfl rfl (by kernel_rfl) (by kernel_rfl) (by kernel_rfl) (fun _ _ _ h => h) ⟨by rfl, ?_⟩ hS ?_
      rotate_left
      · intro wq hSw; (try dsimp only at hSw); go_simp; try rfl
      simp only [Act.put, List.setIfInBounds_toArray, List.set_cons_zero, List.set_cons_succ]
      refine wpAnyH_ready (rs := [26]) (by kernel_rfl) (by simp) ?_
      refine AllReadyH.cons rfl (fun K hK => ?_) AllReadyH.nil
      go_simp
      go_wp2_with fail
      refine (has_any _ _ _ _).mono ?_
      rintro e wz3 ⟨rfl, hb⟩
      go_wp2_with fail
      refine hK.out _ _ (held_on hb hS) (fun hT => ?_)
      clear hS hb
      have hS := hT
      clear hT
      clear hK K
      refine take_at 28 (some 60) (v := ?_) rfl rfl (by kernel_rfl) (by kernel_rfl) (by kernel_rfl) (fun _ _ _ h => h) ⟨by rfl, ?_⟩ hS ?_
      rotate_left
      · intro wq hSw; (try dsimp only at hSw); go_simp; try rfl
      simp only [Act.put, List.setIfInBounds_toArray, List.set_cons_zero, List.set_cons_succ]
      refine take_at 29 (some 61) (v := ?_) rfl rfl (by kernel_rfl) (by kernel_rfl) (by kernel_rfl) (fun _ _ _ h => h) ⟨by rfl, ?_⟩ hS ?_
      rotate_left
      · intro wq hSw; (try dsimp only at hSw); go_simp; try rfl
      simp only [Act.put, List.setIfInBounds_toArray, List.set_cons_zero, List.set_cons_succ]
      refine wpAnyH_done (by kernel_rfl) ?_ _
      go_wp2_with fail
      go_meet
      exact ⟨rfl, hS.2.2⟩
    · have e1 : hasB al ah v = false := by simp [hasB]; omega
      have hg : decide (al ≤ v) = false := by simpa using hv
      refine wp_region_held_drew (S := fun w' => w'.cell? ⟨w.heap.size, 0, none⟩ = some (.int .i64 al) ∧ w'.cell? ⟨w.heap.size, 1, none⟩ = some (.int .i64 ah) ∧ Two w w' w.heap.size al ah bl bh) (by kernel_rfl) (held_of (Two.drew t3)) (fun hS => ?_)
      refine take_at 0 (some 32) (v := ?_) rfl rfl (by kernel_rfl) (by kernel_rfl) (by kernel_rfl) (fun _ _ _ h => h) ⟨by rfl, ?_⟩ hS ?_
      rotate_left
      · intro wq hSw; (try dsimp only at hSw); go_simp; try rfl
      simp only [Act.put, List.setIfInBounds_toArray, List.set_cons_zero, List.set_cons_succ]
      refine take_at 1 (some 33) (v := ?_) rfl rfl (by kernel_rfl) (by kernel_rfl) (by kernel_rfl) (fun _ _ _ h => h) ⟨by rfl, ?_⟩ hS ?_
      rotate_left
      · intro wq hSw; (try dsimp only at hSw); go_simp; try rfl
      simp only [Act.put, List.setIfInBounds_toArray, List.set_cons_zero, List.set_cons_succ]
      refine take_at 3 (some 35) (v := ?_) rfl rfl (by kernel_rfl) (by kernel_rfl) (by kernel_rfl) (fun _ _ _ h => h) ⟨by rfl, ?_⟩ hS ?_
      rotate_left
      · intro wq hSw; (try dsimp only at hSw); go_simp; try rfl
      simp only [Act.put, List.setIfInBounds_toArray, List.set_cons_zero, List.set_cons_succ]
      refine take_at 4 (some 36) (v := ?_) rfl rfl (by kernel_rfl) (by kernel_rfl) (by kernel_rfl) (fun _ _ _ h => h) ⟨by rfl, ?_⟩ hS ?_
      rotate_left
      · intro wq hSw; (try dsimp only at hSw); go_simp; try rfl
      simp only [Act.put, List.setIfInBounds_toArray, List.set_cons_zero, List.set_cons_succ]
      refine take_at 5 (some 37) (v := ?_) rfl rfl (by kernel_rfl) (by kernel_rfl) (by kernel_rfl) (fun _ _ _ h => h) ⟨by rfl, ?_⟩ hS ?_
      rotate_left
      · intro wq hSw; (try dsimp only at hSw); go_simp; try rfl
      simp only [Act.put, List.setIfInBounds_toArray, List.set_cons_zero, List.set_cons_succ]
      refine take_at 6 (some 38) (v := ?_) rfl rfl (by kernel_rfl) (by kernel_rfl) (by kernel_rfl) (fun _ _ _ h => h) ⟨by rfl, ?_⟩ hS ?_
      rotate_left
      · intro wq hSw; (try dsimp only at hSw); go_simp; try rfl
      simp only [Act.put, List.setIfInBounds_toArray, List.set_cons_zero, List.set_cons_succ]
      refine wpAnyH_ready (rs := [2]) (by kernel_rfl) (by simp) ?_
      refine AllReadyH.cons rfl (fun K hK => ?_) AllReadyH.nil
      go_simp
      go_wp2_with fail
      refine (has_any _ _ _ _).mono ?_
      rintro e wz1 ⟨rfl, hb⟩
      go_wp2_with fail
      refine hK.out _ _ (held_on hb hS) (fun hT => ?_)
      clear hS hb
      have hS := hT
      clear hT
      clear hK K
      refine take_at 7 (some 39) (v := ?_) rfl rfl (by kernel_rfl) (by kernel_rfl) (by kernel_rfl) (fun _ _ _ h => h) ⟨by rfl, ?_⟩ hS ?_
      rotate_left
      · intro wq hSw; (try dsimp only at hSw); go_simp; try rfl
      simp only [Act.put, List.setIfInBounds_toArray, List.set_cons_zero, List.set_cons_succ]
      refine pass_at 8 (some 40) rfl rfl (by kernel_rfl) (by kernel_rfl) (by kernel_rfl) (fun _ _ _ h => h) (by rfl) hS ?_
      simp only [Act.put, List.setIfInBounds_toArray, List.set_cons_zero, List.set_cons_succ]
      refine pass_at 9 (some 41) rfl rfl (by kernel_rfl) (by kernel_rfl) (by kernel_rfl) (fun _ _ _ h => h) (by rfl) hS ?_
      simp only [Act.put, List.setIfInBounds_toArray, List.set_cons_zero, List.set_cons_succ]
      refine pass_at 10 (some 42) rfl rfl (by kernel_rfl) (by kernel_rfl) (by kernel_rfl) (fun _ _ _ h => h) (by rfl) hS ?_
      simp only [Act.put, List.setIfInBounds_toArray, List.set_cons_zero, List.set_cons_succ]
      refine pass_at 11 (some 43) rfl rfl (by kernel_rfl) (by kernel_rfl) (by kernel_rfl) (fun _ _ _ h => h) (by rfl) hS ?_
      simp only [Act.put, List.setIfInBounds_toArray, List.set_cons_zero, List.set_cons_succ]
      refine take_at 12 (some 44) (v := ?_) rfl rfl (by kernel_rfl) (by kernel_rfl) (by kernel_rfl) (fun _ _ _ h => h) ⟨by rfl, ?_⟩ hS ?_
      rotate_left
      · intro wq hSw; (try dsimp only at hSw); go_simp; try rfl
      simp only [Act.put, List.setIfInBounds_toArray, List.set_cons_zero, List.set_cons_succ]
      refine take_at 13 (some 45) (v := ?_) rfl rfl (by kernel_rfl) (by kernel_rfl) (by kernel_rfl) (fun _ _ _ h => h) ⟨by rfl, ?_⟩ hS ?_
      rotate_left
      · intro wq hSw; (try dsimp only at hSw); go_simp; try rfl
      simp only [Act.put, List.setIfInBounds_toArray, List.set_cons_zero, List.set_cons_succ]
      refine take_at 14 (some 46) (v := ?_) rfl rfl (by kernel_rfl) (by kernel_rfl) (by kernel_rfl) (fun _ _ _ h => h) ⟨by rfl, ?_⟩ hS ?_
      rotate_left
      · intro wq hSw; (try dsimp only at hSw); go_simp; try rfl
      simp only [Act.put, List.setIfInBounds_toArray, List.set_cons_zero, List.set_cons_succ]
      refine take_at 15 (some 47) (v := ?_) rfl rfl (by kernel_rfl) (by kernel_rfl) (by kernel_rfl) (fun _ _ _ h => h) ⟨by rfl, ?_⟩ hS ?_
      rotate_left
      · intro wq hSw; (try dsimp only at hSw); go_simp; try rfl
      simp only [Act.put, List.setIfInBounds_toArray, List.set_cons_zero, List.set_cons_succ]
      refine take_at 16 (some 48) (v := ?_) rfl rfl (by kernel_rfl) (by kernel_rfl) (by kernel_rfl) (fun _ _ _ h => h) ⟨by rfl, ?_⟩ hS ?_
      rotate_left
      · intro wq hSw; (try dsimp only at hSw); go_simp; try rfl
      simp only [Act.put, List.setIfInBounds_toArray, List.set_cons_zero, List.set_cons_succ]
      refine take_at 17 (some 49) (v := ?_) rfl rfl (by kernel_rfl) (by kernel_rfl) (by kernel_rfl) (fun _ _ _ h => h) ⟨by rfl, ?_⟩ hS ?_
      rotate_left
      · intro wq hSw; (try dsimp only at hSw); go_simp; try rfl
      simp only [Act.put, List.setIfInBounds_toArray, List.set_cons_zero, List.set_cons_succ]
      refine take_at 19 (some 51) (v := ?_) rfl rfl (by kernel_rfl) (by kernel_rfl) (by kernel_rfl) (fun _ _ _ h => h) ⟨by rfl, ?_⟩ hS ?_
      rotate_left
      · intro wq hSw; (try dsimp only at hSw); go_simp; try rfl
      simp only [Act.put, List.setIfInBounds_toArray, List.set_cons_zero, List.set_cons_succ]
      refine wpAnyH_ready (rs := [18]) (by kernel_rfl) (by simp) ?_
      refine AllReadyH.cons rfl (fun K hK => ?_) AllReadyH.nil
      go_simp
      go_wp2_with fail
      refine (has_any _ _ _ _).mono ?_
      rintro e wz2 ⟨rfl, hb⟩
      go_wp2_with fail
      refine hK.out _ _ (held_on hb hS) (fun hT => ?_)
      clear hS hb
      have hS := hT
      clear hT
      clear hK K
      refine take_at 20 (some 52) (v := ?_) rfl rfl (by kernel_rfl) (by kernel_rfl) (by kernel_rfl) (fun _ _ _ h => h) ⟨by rfl, ?_⟩ hS ?_
      rotate_left
      · intro wq hSw; (try dsimp only at hSw); go_simp; try rfl
      simp only [Act.put, List.setIfInBounds_toArray, List.set_cons_zero, List.set_cons_succ]
      refine take_at 21 (some 53) (v := ?_) rfl rfl (by kernel_rfl) (by kernel_rfl) (by kernel_rfl) (fun _ _ _ h => h) ⟨by rfl, ?_⟩ hS ?_
      rotate_left
      · intro wq hSw; (try dsimp only at hSw); go_simp; try rfl
      simp only [Act.put, List.setIfInBounds_toArray, List.set_cons_zero, List.set_cons_succ]
      refine take_at 22 (some 54) (v := ?_) rfl rfl (by kernel_rfl) (by kernel_rfl) (by kernel_rfl) (fun _ _ _ h => h) ⟨by rfl, ?_⟩ hS ?_
      rotate_left
      · intro wq hSw; (try dsimp only at hSw); go_simp; try rfl
      simp only [Act.put, List.setIfInBounds_toArray, List.set_cons_zero, List.set_cons_succ]
      refine take_at 23 (some 55) (v := ?_) rfl rfl (by kernel_rfl) (by kernel_rfl) (by kernel_rfl) (fun _ _ _ h => h) ⟨by rfl, ?_⟩ hS ?_
      rotate_left
      · intro wq hSw; (try dsimp only at hSw); go_simp; try rfl
      simp only [Act.put, List.setIfInBounds_toArray, List.set_cons_zero, List.set_cons_succ]
      refine take_at 24 (some 56) (v := ?_) rfl rfl (by kernel_rfl) (by kernel_rfl) (by kernel_rfl) (fun _ _ _ h => h) ⟨by rfl, ?_⟩ hS ?_
      rotate_left
      · intro wq hSw; (try dsimp only at hSw); go_simp; try rfl
      simp only [Act.put, List.setIfInBounds_toArray, List.set_cons_zero, List.set_cons_succ]
      refine take_at 25 (some 57) (v := ?_) rfl rfl (by kernel_rfl) (by kernel_rfl) (by kernel_rfl) (fun _ _ _ h => h) ⟨by rfl, ?_⟩ hS ?_
      rotate_left
      · intro wq hSw; (try dsimp only at hSw); go_simp; try rfl
      simp only [Act.put, List.setIfInBounds_toArray, List.set_cons_zero, List.set_cons_succ]
      refine take_at 27 (some 59) (v := ?_) rfl rfl (by kernel_rfl) (by kernel_rfl) (by kernel_rfl) (fun _ _ _ h => h) ⟨by rfl, ?_⟩ hS ?_
      rotate_left
      · intro wq hSw; (try dsimp only at hSw); go_simp; try rfl
      simp only [Act.put, List.setIfInBounds_toArray, List.set_cons_zero, List.set_cons_succ]
      refine wpAnyH_ready (rs := [26]) (by kernel_rfl) (by simp) ?_
      refine AllReadyH.cons rfl (fun K hK => ?_) AllReadyH.nil
      go_simp
      go_wp2_with fail
      refine (has_any _ _ _ _).mono ?_
      rintro e wz3 ⟨rfl, hb⟩
      go_wp2_with fail
      refine hK.out _ _ (held_on hb hS) (fun hT => ?_)
      clear hS hb
      have hS := hT
      clear hT
      clear hK K
      refine take_at 28 (some 60) (v := ?_) rfl rfl (by kernel_rfl) (by kernel_rfl) (by kernel_rfl) (fun _ _ _ h => h) ⟨by rfl, ?_⟩ hS ?_
      rotate_left
      · intro wq hSw; (try dsimp only at hSw); go_simp; try rfl
      simp only [Act.put, List.setIfInBounds_toArray, List.set_cons_zero, List.set_cons_succ]
      refine take_at 29 (some 61) (v := ?_) rfl rfl (by kernel_rfl) (by kernel_rfl) (by kernel_rfl) (fun _ _ _ h => h) ⟨by rfl, ?_⟩ hS ?_
      rotate_left
      · intro wq hSw; (try dsimp only at hSw); go_simp; try rfl
      simp only [Act.put, List.setIfInBounds_toArray, List.set_cons_zero, List.set_cons_succ]
      refine wpAnyH_done (by kernel_rfl) ?_ _
      go_wp2_with fail
      go_meet
      exact ⟨rfl, hS.2.2⟩
  case rest =>
    obtain ⟨hs61, tc⟩ := hcut
    rw [hs61]
    clear c0 c1 c2 c3 t3 hs61
    obtain ⟨c0, c1, c2, c3⟩ := tc.cells
    go_wp2_with fail
    by_cases hx : hasB bl bh al = true
    · by_cases hy : hasB bl bh ah = true
      · have ein : inB al ah bl bh = true := by simp [inB, hx, hy]
        by_cases hz : hasB al ah v = true
        · have hu : hasB bl bh v = true := by simp [hasB] at hx hy hz ⊢; omega
          refine (within_is ein _).mono ?_
          rintro e x1 ⟨rfl, h1⟩
          have y1 := Two.on tc h1
          clear tc h1 c0 c1 c2 c3
          obtain ⟨c0, c1, c2, c3⟩ := y1.cells
          go_wp2_with fail
          refine (has_is hx _).mono ?_
          rintro e x2 ⟨rfl, h2⟩
          have y2 := Two.on y1 h2
          clear y1 h2 c0 c1 c2 c3
          obtain ⟨c0, c1, c2, c3⟩ := y2.cells
          go_wp2_with fail
          refine (has_is hy _).mono ?_
          rintro e x3 ⟨rfl, h3⟩
          have y3 := Two.on y2 h3
          clear y2 h3 c0 c1 c2 c3
          obtain ⟨c0, c1, c2, c3⟩ := y3.cells
          go_wp2_with fail
          refine (has_is hz _).mono ?_
          rintro e x4 ⟨rfl, h4⟩
          have y4 := Two.on y3 h4
          clear y3 h4 c0 c1 c2 c3
          obtain ⟨c0, c1, c2, c3⟩ := y4.cells
          go_wp2_with fail
          refine (has_is hu _).mono ?_
          rintro e x5 ⟨rfl, h5⟩
          have y5 := Two.on y4 h5
          clear y4 h5 c0 c1 c2 c3
          obtain ⟨c0, c1, c2, c3⟩ := y5.cells
          go_wp2_with fail
          refine (within_is eaa _).mono ?_
          rintro e x6 ⟨rfl, h6⟩
          have y6 := Two.on y5 h6
          clear y5 h6 c0 c1 c2 c3
          obtain ⟨c0, c1, c2, c3⟩ := y6.cells
          go_wp2_with fail
          refine (within_is ebb _).mono ?_
          rintro e x7 ⟨rfl, h7⟩
          have y7 := Two.on y6 h7
          clear y6 h7 c0 c1 c2 c3
          obtain ⟨c0, c1, c2, c3⟩ := y7.cells
          go_wp2_with fail
          go_ret
          exact ⟨rfl, y7.1⟩
        · have hz : hasB al ah v = false := by simpa using hz
          refine (within_is ein _).mono ?_
          rintro e x1 ⟨rfl, h1⟩
          have y1 := Two.on tc h1
          clear tc h1 c0 c1 c2 c3
          obtain ⟨c0, c1, c2, c3⟩ := y1.cells
          go_wp2_with fail
          refine (has_is hx _).mono ?_
          rintro e x2 ⟨rfl, h2⟩
          have y2 := Two.on y1 h2
          clear y1 h2 c0 c1 c2 c3
          obtain ⟨c0, c1, c2, c3⟩ := y2.cells
          go_wp2_with fail
          refine (has_is hy _).mono ?_
          rintro e x3 ⟨rfl, h3⟩
          have y3 := Two.on y2 h3
          clear y2 h3 c0 c1 c2 c3
          obtain ⟨c0, c1, c2, c3⟩ := y3.cells
          go_wp2_with fail
          refine (has_is hz _).mono ?_
          rintro e x4 ⟨rfl, h4⟩
          have y4 := Two.on y3 h4
          clear y3 h4 c0 c1 c2 c3
          obtain ⟨c0, c1, c2, c3⟩ := y4.cells
          go_wp2_with fail
          refine (within_is eaa _).mono ?_
          rintro e x5 ⟨rfl, h5⟩
          have y5 := Two.on y4 h5
          clear y4 h5 c0 c1 c2 c3
          obtain ⟨c0, c1, c2, c3⟩ := y5.cells
          go_wp2_with fail
          refine (within_is ebb _).mono ?_
          rintro e x6 ⟨rfl, h6⟩
          have y6 := Two.on y5 h6
          clear y5 h6 c0 c1 c2 c3
          obtain ⟨c0, c1, c2, c3⟩ := y6.cells
          go_wp2_with fail
          go_ret
          exact ⟨rfl, y6.1⟩
      · have hy : hasB bl bh ah = false := by simpa using hy
        have ein : inB al ah bl bh = false := by simp [inB, hx, hy]; omega
        refine (within_is ein _).mono ?_
        rintro e x1 ⟨rfl, h1⟩
        have y1 := Two.on tc h1
        clear tc h1 c0 c1 c2 c3
        obtain ⟨c0, c1, c2, c3⟩ := y1.cells
        go_wp2_with fail
        refine (has_is hx _).mono ?_
        rintro e x2 ⟨rfl, h2⟩
        have y2 := Two.on y1 h2
        clear y1 h2 c0 c1 c2 c3
        obtain ⟨c0, c1, c2, c3⟩ := y2.cells
        go_wp2_with fail
        refine (has_is hy _).mono ?_
        rintro e x3 ⟨rfl, h3⟩
        have y3 := Two.on y2 h3
        clear y2 h3 c0 c1 c2 c3
        obtain ⟨c0, c1, c2, c3⟩ := y3.cells
        go_wp2_with fail
        refine (within_is eaa _).mono ?_
        rintro e x4 ⟨rfl, h4⟩
        have y4 := Two.on y3 h4
        clear y3 h4 c0 c1 c2 c3
        obtain ⟨c0, c1, c2, c3⟩ := y4.cells
        go_wp2_with fail
        refine (within_is ebb _).mono ?_
        rintro e x5 ⟨rfl, h5⟩
        have y5 := Two.on y4 h5
        clear y4 h5 c0 c1 c2 c3
        obtain ⟨c0, c1, c2, c3⟩ := y5.cells
        go_wp2_with fail
        go_ret
        exact ⟨rfl, y5.1⟩
    · have hx : hasB bl bh al = false := by simpa using hx
      have ein : inB al ah bl bh = false := by simp [inB, hx]; omega
      refine (within_is ein _).mono ?_
      rintro e x1 ⟨rfl, h1⟩
      have y1 := Two.on tc h1
      clear tc h1 c0 c1 c2 c3
      obtain ⟨c0, c1, c2, c3⟩ := y1.cells
      go_wp2_with fail
      refine (has_is hx _).mono ?_
      rintro e x2 ⟨rfl, h2⟩
      have y2 := Two.on y1 h2
      clear y1 h2 c0 c1 c2 c3
      obtain ⟨c0, c1, c2, c3⟩ := y2.cells
      go_wp2_with fail
      refine (within_is eaa _).mono ?_
      rintro e x3 ⟨rfl, h3⟩
      have y3 := Two.on y2 h3
      clear y2 h3 c0 c1 c2 c3
      obtain ⟨c0, c1, c2, c3⟩ := y3.cells
      go_wp2_with fail
      refine (within_is ebb _).mono ?_
      rintro e x4 ⟨rfl, h4⟩
      have y4 := Two.on y3 h4
      clear y3 h4 c0 c1 c2 c3
      obtain ⟨c0, c1, c2, c3⟩ := y4.cells
      go_wp2_with fail
      go_ret
      exact ⟨rfl, y4.1⟩

theorem ranges_walk (al ah bl bh v : Int) (w : World) :
    Calls Try.prog 4 #[rng al ah, rng bl bh, .int .i64 v] w fun e w' => e = .returned (.bool true) ∧ Below w.heap.size w w' := by
  by_cases he : ah < al
  · exact ranges_e al ah bl bh v w he
  · exact ranges_n al ah bl bh v w (by omega)
end Go.Proofs.Ytfoknkhbcnbdhaa
