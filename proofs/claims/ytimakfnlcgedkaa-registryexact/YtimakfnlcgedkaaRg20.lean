import Derived.Test.YtimakfnlcgedkaaRg19
namespace Go.Proofs.Ytimakfnlcgedkaa
open Go.RowKit Go.QK Go.Maps Go.QM Go.QR
set_option maxRecDepth 100000
/-! A number that goes down to its place. -/
def insAt (old : List Int) (x : Int) (k : Nat) : List Int := old.take k ++ x :: old.drop k
theorem insAt_len {old : List Int} {x : Int} {k : Nat} (h : k ≤ old.length) : (insAt old x k).length = old.length + 1 := by
  unfold insAt
  simp
  omega
theorem parts {old : List Int} {k : Nat} (h : k < old.length) : ∃ A y B, old = A ++ y :: B ∧ A.length = k ∧ y = old[k] := by
  refine ⟨old.take k, old[k], old.drop (k + 1), ?_, by simp; omega, rfl⟩
  rw [← List.drop_eq_getElem_cons h]
  exact (List.take_append_drop k old).symm
theorem insAt_swap {old : List Int} {x : Int} {k : Nat} (h : k < old.length) : ((insAt old x (k + 1)).set k x).set (k + 1) old[k] = insAt old x k := by
  obtain ⟨A, y, B, e, hA, hy⟩ := parts h
  rw [← hy]
  have e1 : insAt old x (k + 1) = A ++ y :: x :: B := by
    unfold insAt
    have q : A ++ y :: B = (A ++ [y]) ++ B := by simp
    rw [e, q, List.take_left' (by simp [hA]), List.drop_left' (by simp [hA])]
    simp
  have e2 : insAt old x k = A ++ x :: y :: B := by
    unfold insAt
    rw [e, List.take_left' hA, List.drop_left' hA]
  rw [e1, e2, ← hA]
  simp
theorem insAt_at {old : List Int} {x : Int} {k : Nat} (h : k ≤ old.length) : (insAt old x k)[k]? = some x := by
  unfold insAt
  have q : (old.take k).length = k := by simp; omega
  rw [List.getElem?_append_right (by omega), q, Nat.sub_self]
  rfl
theorem insAt_prev {old : List Int} {x : Int} {k : Nat} (h : k < old.length) : (insAt old x (k + 1))[k]? = some old[k] := by
  unfold insAt
  rw [List.getElem?_append_left (by simp; omega), List.getElem?_take_of_lt (by omega), List.getElem?_eq_getElem h]
theorem insAt_perm (old : List Int) (x : Int) (k : Nat) : (insAt old x k).Perm (x :: old) := by
  unfold insAt
  have : (old.take k ++ x :: old.drop k).Perm (x :: (old.take k ++ old.drop k)) := List.perm_middle
  rw [List.take_append_drop] at this
  exact this
theorem insAt_sorted {old : List Int} {x : Int} {k : Nat} (hs : old.Pairwise (· ≤ ·)) (h1 : ∀ b ∈ old.drop k, x ≤ b) (h2 : ∀ b ∈ old.take k, b ≤ x) : (insAt old x k).Pairwise (· ≤ ·) := by
  unfold insAt
  have hs' : (old.take k ++ old.drop k).Pairwise (· ≤ ·) := by rw [List.take_append_drop]; exact hs
  obtain ⟨p1, p2, p3⟩ := List.pairwise_append.1 hs'
  refine List.pairwise_append.2 ⟨p1, List.pairwise_cons.2 ⟨h1, p2⟩, fun a ha b hb => ?_⟩
  rcases List.mem_cons.1 hb with rfl | hb
  · exact h2 a ha
  · exact p3 a ha b hb
theorem sorted_prev {old : List Int} {x : Int} {k : Nat} (hs : old.Pairwise (· ≤ ·)) (h : k < old.length) (hx : old[k] ≤ x) : ∀ b ∈ old.take (k + 1), b ≤ x := by
  intro b hb
  rw [List.take_succ_eq_append_getElem h] at hb
  rcases List.mem_append.1 hb with hb | hb
  · obtain ⟨i, hi, rfl⟩ := List.getElem_of_mem hb
    simp at hi
    rw [List.getElem_take]
    have := List.pairwise_iff_getElem.1 hs i k (by omega) h (by omega)
    omega
  · simp at hb
    omega
theorem rise_more {l : List Int} {x : Int} {k : Nat} (h1 : ∀ b ∈ (rise l).drop k, x ≤ b) (h2 : ∀ b ∈ (rise l).take k, b ≤ x) : insAt (rise l) x k = rise (l ++ [x]) := by
  refine rise_of ?_ (insAt_sorted (rise_sorted l) h1 h2)
  exact (insAt_perm _ _ _).trans ((List.Perm.cons x (rise_perm l)).trans (List.perm_append_singleton x l).symm)
set_option maxHeartbeats 4000000 in
theorem rrising_any (xs : List Int) (a : Option Addr) (cp : Nat) (w : World) (hl : Lies w a (xs.map (Value.int .i64))) (hn : xs.length ≤ 1000000) : Calls Try.prog 49 #[.slice a xs.length cp] w fun e w' => ∃ v, e = .returned v ∧ GRow w' w.heap.size 3 1 v xs.length ((rise xs).map (Value.int .i64)) ∧ Below w.heap.size w w' := by
  have HL := hide hl
  clear hl
  go_enter Try.func49, Try.ntmps49
  go_wp2
  go_loopw [3, 4] (fun v i wr => ∃ k : Nat, i = .int .i64 (k : Int) ∧ k ≤ xs.length ∧ GRow wr w.heap.size 3 1 v k ((rise (xs.take k)).map (Value.int .i64)) ∧ Below w.heap.size w wr) (fun _ i _ => xs.length - (intOf i).toNat)
  case atStart => exact ⟨0, rfl, Nat.zero_le _, by simpa [rise] using World.ownsRow_nil w w.heap.size 3 1, Below.refl _ _⟩
  case round =>
    obtain ⟨k, rfl, hk, hr, hb⟩ := hrel
    have R0 := hide hr
    have B0 := hide hb
    obtain ⟨av, cv, hv, -⟩ := GRow.lies hr
    subst hv
    clear hr hb
    by_cases hlt : k < xs.length
    · obtain ⟨bl, off, ha, hbl, hc0⟩ := lies_int HL.out hlt
      subst ha
      have hc : wr.cell? ⟨bl, off + k, none⟩ = some (.int .i64 xs[k]) := (B0.out.cell (p := ⟨bl, off + k, none⟩) hbl).trans hc0
      obtain ⟨x, hx⟩ : ∃ x, x = xs[k] := ⟨_, rfl⟩
      rw [← hx] at hc
      have HX := hide hx
      clear hx hc0
      obtain ⟨old, hold⟩ : ∃ o, o = rise (xs.take k) := ⟨_, rfl⟩
      have hol : old.length = k := by rw [hold, (rise_perm _).length_eq]; simp; omega
      rw [← hold] at R0
      have HO := hide (And.intro hold hol)
      clear hold hol
      go_wp2_with (at_builtin; refine wpList_appR Try.underlying34 info3 rfl (by decide) (by decide) rfl (.tmp _) (.tmp _) rfl w.heap.size _ k (old.map (Value.int .i64)) rfl (GRow.below R0.out (alloc_below _ _)) (some ⟨wr.heap.size, 0, none⟩) 1 1 [.int .i64 x] rfl rfl (lies_one _ _ _) (by simp [Value.oneCell']) (by nofun) (by omega) (by have := B0.out.size; simp; omega) ?_; intro vn w2 q1 q2 q3)
      have O2 : Owns .i64 3 w2 w.heap.size vn (insAt old x k) := by
        have e1 : insAt old x k = old ++ [x] := by unfold insAt; rw [List.take_of_length_le (by rw [HO.out.2]; exact Nat.le_refl _), List.drop_of_length_le (by rw [HO.out.2]; exact Nat.le_refl _)]
        unfold Owns
        rw [e1]
        simp only [List.length_append, List.length_cons, List.length_nil, HO.out.2, List.map_append, List.map_cons, List.map_nil]
        exact q1
      have B2 : Below w.heap.size w w2 := (B0.out.trans ((alloc_below wr (.cells #[.int .i64 x] 3)).mono B0.out.size)).trans (((grown_keep q2)).below (by have := B0.out.size; simp; omega) (fun z hz q => by have := (World.ownsRow.lt R0.out z q).1; omega))
      obtain ⟨gb, cap, hv, hcap, hgB, -⟩ := O2.form (by rw [insAt_len (by rw [HO.out.2]; exact Nat.le_refl _)]; omega)
      have hlen : (insAt old x k).length = k + 1 := by rw [insAt_len (by rw [HO.out.2]; exact Nat.le_refl _), HO.out.2]
      rw [hlen] at hv hcap
      subst hv
      have HO2 := hide O2
      have HB2 := hide B2
      have hgB2 := hide hgB
      clear O2 B2 q1 q2 q3 R0 B0 hlen hgB hc
      go_loopw [5] (fun v ws => ∃ j : Nat, v = .int .i64 (j : Int) ∧ j ≤ k ∧ Owns .i64 3 ws w.heap.size (.slice (some ⟨gb, 0, none⟩) (k + 1) cap) (insAt old x j) ∧ (∀ b ∈ old.drop j, x ≤ b) ∧ Below w.heap.size w ws) (fun v _ => (intOf v).toNat)
      case atStart => exact ⟨k, rfl, Nat.le_refl _, HO2.out, by rw [List.drop_of_length_le (by rw [HO.out.2]; exact Nat.le_refl _)]; nofun, HB2.out⟩
      case round =>
        obtain ⟨j, rfl, hj, o3, hd, b3⟩ := hrel
        have O3 := hide o3
        have B3 := hide b3
        have HD := hide hd
        clear o3 b3 hd HO2 HB2
        have hfin : ∀ (h2 : ∀ b ∈ old.take j, b ≤ x), GRow wr w.heap.size 3 1 (.slice (some ⟨gb, 0, none⟩) (k + 1) cap) (k + 1) ((rise (xs.take (k + 1))).map (Value.int .i64)) := by
          intro h2
          have e1 : insAt old x j = rise (xs.take (k + 1)) := by
            rw [HO.out.1] at h2 ⊢
            have hd := HD.out
            rw [HO.out.1] at hd
            rw [rise_more hd h2, List.take_succ_eq_append_getElem hlt, ← HX.out]
          have o := O3.out
          unfold Owns at o
          rw [insAt_len (by rw [HO.out.2]; exact hj), HO.out.2, e1] at o
          exact o
        have HF := hide hfin
        clear hfin
        by_cases hj0 : 0 < j
        · obtain ⟨i, rfl⟩ : ∃ i, j = i + 1 := ⟨j - 1, by omega⟩
          have hio : i < old.length := by rw [HO.out.2]; omega
          have g1 := insAt_prev (x := x) hio
          have g2 := insAt_at (old := old) (x := x) (k := i + 1) (by omega)
          obtain ⟨gg1, ge1⟩ := List.getElem?_eq_some_iff.1 g1
          obtain ⟨gg2, ge2⟩ := List.getElem?_eq_some_iff.1 g2
          obtain ⟨_, _, ea, -, ca⟩ := O3.out.seen_at.at gg1
          cases ea
          obtain ⟨_, _, eb, -, cb⟩ := O3.out.seen_at.at gg2
          cases eb
          rw [ge1, Nat.zero_add] at ca
          rw [ge2, Nat.zero_add] at cb
          have ewi : (((i + 1 : Nat) : Int)) - 1 = (i : Int) := by omega
          have f0 := O3.out.frozen i
          have f1 := O3.out.frozen (i + 1)
          obtain ⟨y, hy⟩ : ∃ y, y = old[i] := ⟨_, rfl⟩
          rw [← hy] at ca
          have HY := hide hy
          clear g1 g2 gg1 gg2 ge1 ge2 hy
          by_cases hgt : x < y
          · go_upto_region 7 with fail
            go_quiet (fail)
            go_upto_region 8 with fail
            refine named (P := Code.wp _ _ _ _) ?_
            intro w4 hw4
            have b4 : Below wr.heap.size wr w4 := by rw [hw4]; exact below_drewN (Below.refl _ _) _
            have O4 := hide (O3.out.below b4)
            have B4 := hide (B3.out.trans (b4.mono B3.out.size))
            have lg : gb < wr.heap.size := (World.ownsRow.lt O3.out gb rfl).2
            have ca := (b4.cell (p := ⟨gb, i, none⟩) lg).trans ca
            have cb := (b4.cell (p := ⟨gb, i + 1, none⟩) lg).trans cb
            clear hw4 b4 O3 B3 lg f0 f1 HF
            have ewj : IntKind.i64.wrap (((i + 1 : Nat) : Int) - 1) = (i : Int) := by rw [IntKind.wrap_i64]; omega
            have ewk : IntKind.i64.wrap ((i : Int) + 1 - 1) = (i : Int) := by rw [IntKind.wrap_i64]; omega
            have ewl : (i : Int) + 1 - 1 = (i : Int) := by omega
            have hlt1 : i < k := by omega
            have hlt2 : (0 : Int) ≤ (i : Int) + 1 := by omega
            have hlt3 : (i : Int) < (k : Int) + 1 := by omega
            have ewm : IntKind.i64.wrap (i : Int) = (i : Int) := by rw [IntKind.wrap_i64]; omega
            refine wp_region_held_drew (S := fun wq => True) (by kernel_rfl) trivial (fun hS => ?_)
            have O5 := hide (O4.out.below (Below.refl _ _).drew)
            have B5 := hide B4.out.drew
            have ca5 : w4.drew.cell? ⟨gb, i, none⟩ = some (.int .i64 y) := ca
            have cb5 : w4.drew.cell? ⟨gb, i + 1, none⟩ = some (.int .i64 x) := cb
            clear ca cb O4 B4
            generalize w4.drew = w5 at *
            have ff0 := O5.out.frozen i
            have ff1 := O5.out.frozen (i + 1)
            refine take_at 0 (some 35) (v := ?_) rfl rfl (by kernel_rfl) (by kernel_rfl) (by kernel_rfl) (fun _ _ _ h => h) ⟨by rfl, ?_⟩ hS ?_
            rotate_left
            · intro wq hSw; go_simp; try rfl
            simp only [Act.put, List.setIfInBounds_toArray, List.set_cons_zero, List.set_cons_succ]
            refine take_at 1 (some 36) (v := ?_) rfl rfl (by kernel_rfl) (by kernel_rfl) (by kernel_rfl) (fun _ _ _ h => h) ⟨by rfl, ?_⟩ hS ?_
            rotate_left
            · intro wq hSw; go_simp; try rfl
            simp only [Act.put, List.setIfInBounds_toArray, List.set_cons_zero, List.set_cons_succ]
            refine take_at 2 (some 37) (v := ?_) rfl rfl (by kernel_rfl) (by kernel_rfl) (by kernel_rfl) (fun _ _ _ h => h) ⟨by rfl, ?_⟩ hS ?_
            rotate_left
            · intro wq hSw; go_simp; try rfl
            simp only [Act.put, List.setIfInBounds_toArray, List.set_cons_zero, List.set_cons_succ]
            refine take_at 3 (some 38) (v := ?_) rfl rfl (by kernel_rfl) (by kernel_rfl) (by kernel_rfl) (fun _ _ _ h => h) ⟨by rfl, ?_⟩ hS ?_
            rotate_left
            · intro wq hSw; go_simp; try rfl
            simp only [Act.put, List.setIfInBounds_toArray, List.set_cons_zero, List.set_cons_succ]
            refine take_at 4 (some 39) (v := ?_) rfl rfl (by kernel_rfl) (by kernel_rfl) (by kernel_rfl) (fun _ _ _ h => h) ⟨by rfl, ?_⟩ hS ?_
            rotate_left
            · intro wq hSw; go_simp; try rfl
            simp only [Act.put, List.setIfInBounds_toArray, List.set_cons_zero, List.set_cons_succ]
            refine take_at 5 (some 40) (v := ?_) rfl rfl (by kernel_rfl) (by kernel_rfl) (by kernel_rfl) (fun _ _ _ h => h) ⟨by rfl, ?_⟩ hS ?_
            rotate_left
            · intro wq hSw; go_simp; try rfl
            simp only [Act.put, List.setIfInBounds_toArray, List.set_cons_zero, List.set_cons_succ]
            refine take_at 6 (some 41) (v := ?_) rfl rfl (by kernel_rfl) (by kernel_rfl) (by kernel_rfl) (fun _ _ _ h => h) ⟨by rfl, ?_⟩ hS ?_
            rotate_left
            · intro wq hSw; go_simp; try rfl
            simp only [Act.put, List.setIfInBounds_toArray, List.set_cons_zero, List.set_cons_succ]
            refine take_at 7 (some 42) (v := ?_) rfl rfl (by kernel_rfl) (by kernel_rfl) (by kernel_rfl) (fun _ _ _ h => h) ⟨by rfl, ?_⟩ hS ?_
            rotate_left
            · intro wq hSw; go_simp; try rfl
            simp only [Act.put, List.setIfInBounds_toArray, List.set_cons_zero, List.set_cons_succ]
            refine take_at 9 (some 44) (v := ?_) rfl rfl (by kernel_rfl) (by kernel_rfl) (by kernel_rfl) (fun _ _ _ h => h) ⟨by rfl, ?_⟩ hS ?_
            rotate_left
            · intro wq hSw; go_simp; try rfl
            simp only [Act.put, List.setIfInBounds_toArray, List.set_cons_zero, List.set_cons_succ]
            refine take_at 10 (some 45) (v := ?_) rfl rfl (by kernel_rfl) (by kernel_rfl) (by kernel_rfl) (fun _ _ _ h => h) ⟨by rfl, ?_⟩ hS ?_
            rotate_left
            · intro wq hSw; go_simp; try rfl
            simp only [Act.put, List.setIfInBounds_toArray, List.set_cons_zero, List.set_cons_succ]
            refine take_at 11 (some 46) (v := ?_) rfl rfl (by kernel_rfl) (by kernel_rfl) (by kernel_rfl) (fun _ _ _ h => h) ⟨by rfl, ?_⟩ hS ?_
            rotate_left
            · intro wq hSw; go_simp; try rfl
            simp only [Act.put, List.setIfInBounds_toArray, List.set_cons_zero, List.set_cons_succ]
            refine take_at 12 (some 47) (v := ?_) rfl rfl (by kernel_rfl) (by kernel_rfl) (by kernel_rfl) (fun _ _ _ h => h) ⟨by rfl, ?_⟩ hS ?_
            rotate_left
            · intro wq hSw; go_simp; try rfl
            simp only [Act.put, List.setIfInBounds_toArray, List.set_cons_zero, List.set_cons_succ]
            refine wpAnyH_ready (rs := [8, 13]) (by kernel_rfl) (by simp) ?_
            refine AllReadyH.cons rfl (fun K hK => ?_) (AllReadyH.cons rfl (fun K hK => ?_) AllReadyH.nil)
            · go_simp
              go_wp2_with fail
              refine hK.out _ _ trivial (fun hS => ?_)
              clear hK K
              (try simp only [Act.put, List.setIfInBounds_toArray, List.set_cons_zero, List.set_cons_succ])
              refine wpAnyH_ready (rs := [13]) (by kernel_rfl) (by simp) ?_
              refine AllReadyH.cons rfl (fun K hK => ?_) AllReadyH.nil
              go_simp
              go_wp2_with fail
              refine hK.out _ _ trivial (fun hS => ?_)
              clear hK K
              (try simp only [Act.put, List.setIfInBounds_toArray, List.set_cons_zero, List.set_cons_succ])
              refine take_at 14 (some 49) (v := ?_) rfl rfl (by kernel_rfl) (by kernel_rfl) (by kernel_rfl) (fun _ _ _ h => h) ⟨by rfl, ?_⟩ hS ?_
              rotate_left
              · intro wq hSw; go_simp; try rfl
              simp only [Act.put, List.setIfInBounds_toArray, List.set_cons_zero, List.set_cons_succ]
              refine wpAnyH_ready (rs := [15]) (by kernel_rfl) (by simp) ?_
              refine AllReadyH.cons rfl (fun K hK => ?_) AllReadyH.nil
              go_simp
              go_wp2_with fail
              refine hK.out _ _ trivial (fun hS => ?_)
              clear hK K
              (try simp only [Act.put, List.setIfInBounds_toArray, List.set_cons_zero, List.set_cons_succ])
              refine take_at 16 (some 50) (v := ?_) rfl rfl (by kernel_rfl) (by kernel_rfl) (by kernel_rfl) (fun _ _ _ h => h) ⟨by rfl, ?_⟩ hS ?_
              rotate_left
              · intro wq hSw; go_simp; try rfl
              simp only [Act.put, List.setIfInBounds_toArray, List.set_cons_zero, List.set_cons_succ]
              refine wpAnyH_ready (rs := [17]) (by kernel_rfl) (by simp) ?_
              refine AllReadyH.cons rfl (fun K hK => ?_) AllReadyH.nil
              go_simp
              go_wp2_with fail
              refine hK.out _ _ trivial (fun hS => ?_)
              clear hK K
              (try simp only [Act.put, List.setIfInBounds_toArray, List.set_cons_zero, List.set_cons_succ])
              refine wpAnyH_done (by kernel_rfl) ?_ _
              go_wp2_with fail
              go_roundw
              case rel =>
                have OF := O5.out.stored i x |>.stored (i + 1) y
                have e7 : ((insAt old x (i + 1)).set i x).set (i + 1) y = insAt old x i := by rw [HY.out]; exact insAt_swap hio
                rw [e7] at OF
                have BF := (B5.out.setCell hgB2.out (Value.int .i64 x) (p := ⟨gb, i, none⟩)).setCell hgB2.out (Value.int .i64 y) (p := ⟨gb, i + 1, none⟩)
                have hd2 : ∀ b ∈ old.drop i, x ≤ b := by
                  rw [List.drop_eq_getElem_cons hio]
                  intro b hb
                  rcases List.mem_cons.1 hb with rfl | hb
                  · rw [← HY.out]; omega
                  · exact HD.out b hb
                first | exact ⟨i, by go_num, by omega, OF, hd2, BF⟩ | ((repeat apply Exists.intro); exact ⟨⟨i, by go_num, by omega, OF, hd2, BF⟩, rfl⟩)
              case measure => simp [intOf]
            · go_simp
              go_wp2_with fail
              refine hK.out _ _ trivial (fun hS => ?_)
              clear hK K
              (try simp only [Act.put, List.setIfInBounds_toArray, List.set_cons_zero, List.set_cons_succ])
              refine wpAnyH_ready (rs := [8]) (by kernel_rfl) (by simp) ?_
              refine AllReadyH.cons rfl (fun K hK => ?_) AllReadyH.nil
              go_simp
              go_wp2_with fail
              refine hK.out _ _ trivial (fun hS => ?_)
              clear hK K
              (try simp only [Act.put, List.setIfInBounds_toArray, List.set_cons_zero, List.set_cons_succ])
              refine take_at 14 (some 49) (v := ?_) rfl rfl (by kernel_rfl) (by kernel_rfl) (by kernel_rfl) (fun _ _ _ h => h) ⟨by rfl, ?_⟩ hS ?_
              rotate_left
              · intro wq hSw; go_simp; try rfl
              simp only [Act.put, List.setIfInBounds_toArray, List.set_cons_zero, List.set_cons_succ]
              refine wpAnyH_ready (rs := [15]) (by kernel_rfl) (by simp) ?_
              refine AllReadyH.cons rfl (fun K hK => ?_) AllReadyH.nil
              go_simp
              go_wp2_with fail
              refine hK.out _ _ trivial (fun hS => ?_)
              clear hK K
              (try simp only [Act.put, List.setIfInBounds_toArray, List.set_cons_zero, List.set_cons_succ])
              refine take_at 16 (some 50) (v := ?_) rfl rfl (by kernel_rfl) (by kernel_rfl) (by kernel_rfl) (fun _ _ _ h => h) ⟨by rfl, ?_⟩ hS ?_
              rotate_left
              · intro wq hSw; go_simp; try rfl
              simp only [Act.put, List.setIfInBounds_toArray, List.set_cons_zero, List.set_cons_succ]
              refine wpAnyH_ready (rs := [17]) (by kernel_rfl) (by simp) ?_
              refine AllReadyH.cons rfl (fun K hK => ?_) AllReadyH.nil
              go_simp
              go_wp2_with fail
              refine hK.out _ _ trivial (fun hS => ?_)
              clear hK K
              (try simp only [Act.put, List.setIfInBounds_toArray, List.set_cons_zero, List.set_cons_succ])
              refine wpAnyH_done (by kernel_rfl) ?_ _
              go_wp2_with fail
              go_roundw
              case rel =>
                have OF := O5.out.stored i x |>.stored (i + 1) y
                have e7 : ((insAt old x (i + 1)).set i x).set (i + 1) y = insAt old x i := by rw [HY.out]; exact insAt_swap hio
                rw [e7] at OF
                have BF := (B5.out.setCell hgB2.out (Value.int .i64 x) (p := ⟨gb, i, none⟩)).setCell hgB2.out (Value.int .i64 y) (p := ⟨gb, i + 1, none⟩)
                have hd2 : ∀ b ∈ old.drop i, x ≤ b := by
                  rw [List.drop_eq_getElem_cons hio]
                  intro b hb
                  rcases List.mem_cons.1 hb with rfl | hb
                  · rw [← HY.out]; omega
                  · exact HD.out b hb
                first | exact ⟨i, by go_num, by omega, OF, hd2, BF⟩ | ((repeat apply Exists.intro); exact ⟨⟨i, by go_num, by omega, OF, hd2, BF⟩, rfl⟩)
              case measure => simp [intOf]
          · have R3 := hide (HF.out (sorted_prev (by rw [HO.out.1]; exact rise_sorted _) hio (by rw [← HY.out]; omega)))
            clear HF O3
            go_upto_region 7 with fail
            go_quiet (fail)
            go_wp2_with fail
            go_roundw
            case rel => first | exact ⟨k + 1, by go_num, by omega, GRow.below R3.out (below_drewN (Below.refl _ _) _), below_drewN B3.out _⟩ | ((repeat apply Exists.intro); exact ⟨⟨k + 1, by go_num, by omega, GRow.below R3.out (below_drewN (Below.refl _ _) _), below_drewN B3.out _⟩, rfl⟩)
            case measure => simp [intOf]; omega
        · obtain rfl : j = 0 := by omega
          have R3 := hide (HF.out (by simp))
          clear HF O3
          go_upto_region 7 with fail
          go_quiet (fail)
          go_wp2_with fail
          go_roundw
          case rel => first | exact ⟨k + 1, by go_num, by omega, GRow.below R3.out (below_drewN (Below.refl _ _) _), below_drewN B3.out _⟩ | ((repeat apply Exists.intro); exact ⟨⟨k + 1, by go_num, by omega, GRow.below R3.out (below_drewN (Below.refl _ _) _), below_drewN B3.out _⟩, rfl⟩)
          case measure => simp [intOf]; omega
    · obtain rfl : k = xs.length := by omega
      have R1 := hide (show GRow wr w.heap.size 3 1 (.slice av xs.length cv) xs.length ((rise xs).map (Value.int .i64)) by have := R0.out; rw [List.take_length] at this; exact this)
      clear R0
      go_wp2
      go_ret
      exact ⟨_, rfl, R1.out, B0.out⟩
end Go.Proofs.Ytimakfnlcgedkaa
