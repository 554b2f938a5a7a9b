import Derived.Test.YtblngphjoafidaaGreatAn1
namespace Go.Proofs.YtblngphjoafidaaGreat
open Go.RowKit Go.QK Go.Maps Go.QM Go.QT
set_option maxRecDepth 100000
theorem grown_keep {w w' : World} {r : Option Nat} (h : w.grownBy w' r) : Keep (fun z => r = some z) w w' := (Keep.refl _ w).grown h (fun _ e _ => e)
theorem dirtyCs_append (a b : List DirtyM) : dirtyCs (a ++ b) = dirtyCs a ++ dirtyCs b := by simp [dirtyCs]
theorem dirtyCs_one (l : List DirtyM) : ∀ u ∈ dirtyCs l, u.oneCell' = true := by
  intro u hu
  simp only [dirtyCs, List.mem_flatMap] at hu
  obtain ⟨d, _, hu⟩ := hu
  simp [dirtyC] at hu
  rcases hu with rfl | rfl <;> rfl
theorem lies_new2 (w : World) (p s : Int) (t : TypeId) : Lies (w.alloc (.cells #[.int .i64 p, .int .i64 s] t)) (some ⟨w.heap.size, 0, none⟩) (dirtyCs [⟨p, s⟩]) := by
  have h := Cells.new w #[.int .i64 p, .int .i64 s] t
  refine .inr ⟨w.heap.size, 0, rfl, h.1, fun i hi => ?_⟩
  have q := (h.2 i (by simpa [dirtyCs, dirtyC] using hi)).1
  rw [Nat.zero_add]
  exact q
theorem info52 : (Tryz.prog.info? 60).map (fun i => (i.zero, i.size, i.bytes)) = some (some (.agg #[.int .i64 0, .int .i64 0]), 2, 16) := by kernel_rfl
abbrev DRow (w : World) (B : Nat) (v : Value) (l : List DirtyM) : Prop := GRow w B 60 2 v l.length (dirtyCs l)
abbrev LRow (w : World) (B : Nat) (v : Value) (l : List Lv) : Prop := GRow w B 58 4 v l.length (rowsC lvC l)
theorem told_len (s : Nat → Int) (n : Nat) : (toldL s n).length ≤ n := by
  induction n with
  | zero => exact Nat.le_refl _
  | succ n ih =>
    unfold toldL
    rw [List.length_append]
    split
    · simp; omega
    · simp; omega
set_option maxHeartbeats 1000000 in
theorem told_any (b : Nat) (tv : Value) (s : Nat → Int) (w : World) (h : PS w b tv s) : Calls Tryz.prog 33 #[.pointer (some ⟨b, 1, none⟩)] w fun e w' => ∃ v, e = .returned v ∧ DRow w' w.heap.size v (toldL s 64) ∧ Below w.heap.size w w' := by
  go_enter Tryz.func33, Tryz.ntmps33
  go_wp2_with fail
  go_loopw [7, 3] (fun i v wr => ∃ (k : Nat), i = .int .i64 (k : Int) ∧ k ≤ 64 ∧ DRow wr w.heap.size v (toldL s k) ∧ Below w.heap.size w wr) (fun i _ _ => (64 + 1 - (intOf i).toNat))
  case atStart => exact ⟨0, rfl, by omega, World.ownsRow_nil _ _ _ _, Below.refl _ _⟩
  case round =>
    obtain ⟨k, rfl, hk, hr, hb⟩ := hrel
    have R0 := hide hr
    have B0 := hide hb
    have HL := hide (told_len s k)
    by_cases hlt : k < 64
    · have e1 : decide ((k : Int) < 64) = true := by simp; omega
      obtain ⟨k0, -⟩ := (h.below hb).get hlt
      by_cases hs : s k = 0
      · have e2 : (s k != 0) = false := by simpa using hs
        have R1 := hide (show DRow wr w.heap.size _ (toldL s (k + 1)) by rw [show toldL s (k + 1) = toldL s k by simp [toldL, hs]]; exact hr)
        generalize s k = y at *
        clear hr hb h hs
        go_wp2_with (go_quiet (fail))
        go_roundw
        case rel => exact ⟨k + 1, by go_num, by omega, GRow.below R1.out (below_drewN (Below.refl _ _) _), below_drewN B0.out _⟩
        case measure => simp [intOf]; omega
      · have e2 : (s k != 0) = true := by simpa using hs
        have HT := hide (show toldL s (k + 1) = toldL s k ++ [⟨(k : Int), s k⟩] by simp [toldL, hs])
        generalize s k = y at *
        obtain ⟨n, hn⟩ : ∃ n, n = (toldL s k).length := ⟨_, rfl⟩
        have R1 := hide (show GRow wr w.heap.size 60 2 u3 n (dirtyCs (toldL s k)) by rw [hn]; exact hr)
        obtain ⟨va, vc, hv, -⟩ := GRow.lies R1.out
        subst hv
        have HN := hide hn
        clear hr hb h hs R0 hn
        go_upto_region 6 with (go_quiet (fail))
        have R2 := hide (GRow.below R1.out (below_drewN (Below.refl wr.heap.size wr) nq))
        have B1 := hide (below_drewN B0.out nq)
        generalize wr.drewN nq = w1 at *
        go_wp2_with (at_builtin; refine wpList_appR Tryz.underlying32 info52 rfl (by decide) (by decide) rfl (.tmp _) (.tmp _) rfl w.heap.size _ n (dirtyCs (toldL s k)) rfl (GRow.below R2.out (alloc_below _ _)) (some ⟨w1.heap.size, 0, none⟩) 1 1 (dirtyCs [⟨(k : Int), y⟩]) rfl rfl (lies_new2 _ (k : Int) y 60) (dirtyCs_one _) (by nofun) (by have := HL.out; have := HN.out; omega) (by have := B1.out.size; simp; omega) ?_; intro vn w2 q1 q2 q3)
        have B2 : Below w.heap.size w w2 := (B1.out.alloc B1.out.size _).trans ((grown_keep q2).below (by have := B1.out.size; simp; omega) (fun z hz q => by have := (World.ownsRow.lt R2.out z q).1; omega))
        have R3 := hide (show DRow w2 w.heap.size vn (toldL s (k + 1)) by
          rw [HT.out]
          show GRow w2 w.heap.size 60 2 vn (toldL s k ++ [(⟨(k : Int), y⟩ : DirtyM)]).length (dirtyCs (toldL s k ++ [⟨(k : Int), y⟩]))
          rw [List.length_append, ← HN.out, dirtyCs_append]
          exact q1)
        go_roundw
        case rel => exact ⟨k + 1, by go_num, by omega, R3.out, B2⟩
        case measure => simp [intOf]; omega
    · obtain rfl : k = 64 := by omega
      go_wp2_with fail
      go_ret
      exact ⟨_, rfl, R0.out, B0.out⟩
theorem least_step (s : Nat → Int) (k : Nat) : leastL s (k + 1) = if s k ≠ 0 ∧ (leastL s k = 0 ∨ s k < leastL s k) then s k else leastL s k := rfl
set_option maxHeartbeats 1000000 in
theorem least_any (b : Nat) (tv : Value) (s : Nat → Int) (w : World) (h : PS w b tv s) : Calls Tryz.prog 34 #[.pointer (some ⟨b, 1, none⟩)] w fun e w' => e = .returned (.int .i64 (leastL s 64)) ∧ Below w.heap.size w w' := by
  go_enter Tryz.func34, Tryz.ntmps34
  go_wp2_with fail
  go_loopw [7, 3] (fun i v wr => ∃ (k : Nat), i = .int .i64 (k : Int) ∧ k ≤ 64 ∧ v = .int .i64 (leastL s k) ∧ Below w.heap.size w wr) (fun i _ _ => (64 + 1 - (intOf i).toNat))
  case atStart => exact ⟨0, rfl, by omega, rfl, Below.refl _ _⟩
  case round =>
    obtain ⟨k, rfl, hk, rfl, hb⟩ := hrel
    have B0 := hide hb
    by_cases hlt : k < 64
    · have e1 : decide ((k : Int) < 64) = true := by simp; omega
      obtain ⟨k0, -⟩ := (h.below hb).get hlt
      have HS := hide (least_step s k)
      obtain ⟨z, HZ⟩ : ∃ z, Hid (z = leastL s (k + 1)) := ⟨_, hide rfl⟩
      rw [← HZ.out] at HS
      generalize leastL s k = y at *
      generalize s k = x at *
      clear hb h
      by_cases h1 : x = 0
      · have e2 : (x != 0) = false := by simpa using h1
        have HE := hide (show z = y by rw [HS.out, if_neg (fun q => q.1 h1)])
        clear h1 HS
        go_wp2_with fail
        go_roundw
        case rel => exact ⟨k + 1, by go_num, by omega, by rw [← HZ.out, HE.out], B0.out⟩
        case measure => simp [intOf]; omega
      · have e2 : (x != 0) = true := by simpa using h1
        by_cases h2 : y = 0
        · have e3 : (y == 0) = true := by simpa using h2
          have HE := hide (show z = x by rw [HS.out, if_pos ⟨h1, .inl h2⟩])
          clear h1 h2 HS
          go_wp2_with fail
          go_roundw
          case rel => exact ⟨k + 1, by go_num, by omega, by rw [← HZ.out, HE.out], B0.out⟩
          case measure => simp [intOf]; omega
        · have e3 : (y == 0) = false := by simpa using h2
          by_cases h3 : x < y
          · have e4 : decide (x < y) = true := by simpa using h3
            have HE := hide (show z = x by rw [HS.out, if_pos ⟨h1, .inr h3⟩])
            clear h1 h2 h3 HS
            go_wp2_with fail
            go_roundw
            case rel => exact ⟨k + 1, by go_num, by omega, by rw [← HZ.out, HE.out], B0.out⟩
            case measure => simp [intOf]; omega
          · have e4 : decide (x < y) = false := by simpa using h3
            have HE := hide (show z = y by rw [HS.out, if_neg (fun q => by rcases q.2 with q | q <;> omega)])
            clear h1 h2 h3 HS
            go_wp2_with fail
            go_roundw
            case rel => exact ⟨k + 1, by go_num, by omega, by rw [← HZ.out, HE.out], B0.out⟩
            case measure => simp [intOf]; omega
    · obtain rfl : k = 64 := by omega
      go_wp2_with fail
      go_ret
      exact ⟨rfl, B0.out⟩
end Go.Proofs.YtblngphjoafidaaGreat
