import Derived.Test.YtpddmimacjknfaaTw3
namespace Go.Proofs.Ytpddmimacjknfaa
open Go.RowKit Go.QK
set_option maxRecDepth 100000

/-- A page's bytes while they are read: j halves are there. -/
def pgB (g : Dev) (first : Nat) : Nat → List Nat
  | 0 => List.replicate 1024 0
  | j + 1 => splice (pgB g first j) (512 * j) (g.content (first + j))
theorem pgB_two {g : Dev} {first : Nat} (h0 : (g.content first).length = 512) (h1 : (g.content (first + 1)).length = 512) : pgB g first 2 = g.content first ++ g.content (first + 1) := by
  show splice (splice (List.replicate 1024 0) 0 (g.content first)) 512 (g.content (first + 1)) = _
  have e : splice (List.replicate 1024 0) 0 (g.content first) = g.content first ++ List.replicate 512 0 := by
    unfold splice
    rw [h0, List.take_zero, List.nil_append, Nat.zero_add, List.drop_replicate]
  rw [e]
  unfold splice
  rw [h1, List.take_append_of_le_length (by omega), List.take_of_length_le (by omega), List.drop_of_length_le (by rw [List.length_append, h0, List.length_replicate]; omega), List.append_nil]
theorem pgB_length {g : Dev} {first : Nat} (h : ∀ j, j < 2 → (g.content (first + j)).length = 512) : (j : Nat) → j ≤ 2 → (pgB g first j).length = 1024
  | 0, _ => by show (List.replicate 1024 0).length = 1024; rw [List.length_replicate]
  | j + 1, hj => by
    have ih := pgB_length h j (by omega)
    unfold pgB
    rw [length_splice _ _ _ (by rw [ih, h j (by omega)]; omega), ih]
set_option maxHeartbeats 4000000 in
theorem readPage_any {w : World} {S : Nat → Prop} {d : Nat} {g : Dev} (h : PDev w S d g) (first : Nat) (hd : g.down = false) (hi : first + 1 < g.n) (hpl : g.pend.length ≤ 1000000) :
    Calls Try.prog 37 #[.pointer (some ⟨d, 0, none⟩), .int .i64 (first : Int)] w fun x w' => ∃ gb, x = .returned (.slice (some ⟨gb, 0, none⟩) 1024 1024) ∧ w.heap.size ≤ gb ∧ OwnB w' w.heap.size (.slice (some ⟨gb, 0, none⟩) 1024 1024) (g.content first ++ g.content (first + 1)) ∧ (g.content first).length = 512 ∧ (g.content (first + 1)).length = 512 ∧ Below w.heap.size w w' := by
  have hn := (n_le h).2
  have hlts := hide h.lt
  have hcl : ∀ j, j < 2 → (g.content (first + j)).length = 512 := fun j hj => content_len h.ok _ (by
    have : first + j < g.n := by omega
    unfold Dev.n at this
    omega)
  obtain ⟨w1, R1, O1, B1, Z1⟩ := makeB w 1024 (by omega)
  obtain ⟨P, hP⟩ : ∃ P, P = w.heap.size := ⟨_, rfl⟩
  rw [← hP] at R1 O1
  have R1 : (Instr.makeSlice 22 (.int .i64 1024) (.int .i64 1024)).run Try.prog w = .ok (.slice (some ⟨P, 0, none⟩) 1024 1024) w1 := R1
  have HP := hide hP
  have HO1 := hide O1
  have HB1 := hide B1
  have PD := hide (h.below B1)
  have HCL := hide hcl
  have h2 := hide (show pgB g first 2 = g.content first ++ g.content (first + 1) from pgB_two (hcl 0 (by omega)) (hcl 1 (by omega)))
  have hz : P < w1.heap.size := by omega
  clear O1 B1 h hcl hP
  go_enter Try.func37, Try.ntmps37
  go_wp2_with fail
  go_loopw [8] (fun i wr => ∃ j : Nat, i = .int .i64 (j : Int) ∧ j ≤ 2 ∧ OwnB wr P (.slice (some ⟨P, 0, none⟩) 1024 1024) (pgB g first j) ∧ Keep (fun b => b = P) w1 wr) (fun i _ => (3 - (intOf i).toNat))
  case atStart => exact ⟨0, rfl, Nat.zero_le _, HO1.out, Keep.refl _ _⟩
  case round =>
    obtain ⟨j, rfl, hj, ho, hk⟩ := hrel
    have HO := hide ho
    have HK := hide hk
    have hzr := hk.size
    clear ho hk HO1
    by_cases hlt : j < 2
    · have hdd : decide ((j : Int) < 2) = true := by simp; omega
      have PR := PD.out.keep HK.out (fun b hb hs => by have q := hlts.out b hs; have := HP.out; omega)
      obtain ⟨u, hu⟩ : ∃ u : Nat, u = 512 * j := ⟨_, rfl⟩
      have e1 : IntKind.i64.wrap (512 * (j : Int)) = (u : Int) := by rw [wrap_small _ (by omega)]; omega
      have e2 : IntKind.i64.wrap ((first : Int) + (j : Int)) = ((first + j : Nat) : Int) := by rw [wrap_small _ (by omega)]; simp
      have KR := read1_any (PR.below (w' := wr.drew) (Below.refl _ _).drew) (first + j) hd (by omega) hpl
      have hu1 : u ≤ 512 := by omega
      have HU := hide hu
      clear hu PR
      have e3 : ¬ (u = 1024) := by omega
      go_upto_region 5 with fail
      refine wp_region_held_drew (S := fun _ => True) (by kernel_rfl) trivial (fun hS => ?_)
      have HO' : Hid (OwnB wr.drew P (.slice (some ⟨P, 0, none⟩) 1024 1024) (pgB g first j)) := Owns.below HO.out (Below.refl _ _).drew
      have HK' : Hid (Keep (fun b => b = P) w1 wr.drew) := HK.out.drew
      have hzr' : w1.heap.size ≤ wr.drew.heap.size := hzr
      clear HO HK hzr
      generalize wr.drew = w3 at *
      refine take_at 0 (some 11) (v := ?_) rfl rfl (by kernel_rfl) (by kernel_rfl) (by kernel_rfl) (fun _ _ _ h => h) ⟨by rfl, ?_⟩ hS ?_
      rotate_left
      · intro wq hSw; go_simp; try rfl
      simp only [Act.put, List.setIfInBounds_toArray, List.set_cons_zero, List.set_cons_succ]
      refine take_at 1 (some 12) (v := ?_) rfl rfl (by kernel_rfl) (by kernel_rfl) (by kernel_rfl) (fun _ _ _ h => h) ⟨by rfl, ?_⟩ hS ?_
      rotate_left
      · intro wq hSw; go_simp; try rfl
      simp only [Act.put, List.setIfInBounds_toArray, List.set_cons_zero, List.set_cons_succ]
      refine take_at 2 (some 13) (v := ?_) rfl rfl (by kernel_rfl) (by kernel_rfl) (by kernel_rfl) (fun _ _ _ h => h) ⟨by rfl, ?_⟩ hS ?_
      rotate_left
      · intro wq hSw; go_simp; try rfl
      simp only [Act.put, List.setIfInBounds_toArray, List.set_cons_zero, List.set_cons_succ]
      refine take_at 3 (some 14) (v := ?_) rfl rfl (by kernel_rfl) (by kernel_rfl) (by kernel_rfl) (fun _ _ _ h => h) ⟨by rfl, ?_⟩ hS ?_
      rotate_left
      · intro wq hSw; go_simp; rw [if_pos (by omega), if_neg (by omega)]; try rfl
      simp only [Act.put, List.setIfInBounds_toArray, List.set_cons_zero, List.set_cons_succ]
      refine take_at 4 (some 15) (v := ?_) rfl rfl (by kernel_rfl) (by kernel_rfl) (by kernel_rfl) (fun _ _ _ h => h) ⟨by rfl, ?_⟩ hS ?_
      rotate_left
      · intro wq hSw; go_simp; try rfl
      simp only [Act.put, List.setIfInBounds_toArray, List.set_cons_zero, List.set_cons_succ]
      refine take_at 5 (some 16) (v := ?_) rfl rfl (by kernel_rfl) (by kernel_rfl) (by kernel_rfl) (fun _ _ _ h => h) ⟨by rfl, ?_⟩ hS ?_
      rotate_left
      · intro wq hSw; go_simp; try rfl
      simp only [Act.put, List.setIfInBounds_toArray, List.set_cons_zero, List.set_cons_succ]
      refine take_at 6 (some 17) (v := ?_) rfl rfl (by kernel_rfl) (by kernel_rfl) (by kernel_rfl) (fun _ _ _ h => h) ⟨by rfl, ?_⟩ hS ?_
      rotate_left
      · intro wq hSw; go_simp; try rfl
      simp only [Act.put, List.setIfInBounds_toArray, List.set_cons_zero, List.set_cons_succ]
      refine take_at 7 (some 18) (v := ?_) rfl rfl (by kernel_rfl) (by kernel_rfl) (by kernel_rfl) (fun _ _ _ h => h) ⟨by rfl, ?_⟩ hS ?_
      rotate_left
      · intro wq hSw; go_simp; try rfl
      simp only [Act.put, List.setIfInBounds_toArray, List.set_cons_zero, List.set_cons_succ]
      refine wpAnyH_ready (rs := [8]) (by kernel_rfl) (by simp) ?_
      refine AllReadyH.cons rfl (fun K hK => ?_) AllReadyH.nil
      go_simp
      go_wp2_with fail
      refine KR.mono ?_
      rintro e w4 ⟨gb, cap, rfl, o4, l4, b4⟩
      have ho4 := hide (Owns.below HO'.out b4)
      have sn := hide o4.seen_at
      have K4 := hide (HK'.out.then_below b4)
      have hz4 := b4.size
      clear KR b4 HO' HK'
      go_wp2_with fail
      refine hK.out _ _ hS (fun hS => ?_)
      clear hK K
      (try simp only [Act.put, List.setIfInBounds_toArray, List.set_cons_zero, List.set_cons_succ])
      refine wpAnyH_ready (rs := [9]) (by kernel_rfl) (by simp) ?_
      refine AllReadyH.cons rfl (fun K hK => ?_) AllReadyH.nil
      refine wp_copy (k := .u8) rfl (.tmp 14) (.tmp 19) 22 22 5 rfl Try.underlying22 (by kernel_rfl) P P 1024 1024 u (1024 - u) (1024 - u) (ints (pgB g first j)) ho4.out ⟨gb, 0, none⟩ 512 cap (ints (g.content (first + j))) rfl rfl sn.out (by rw [ints_length, l4]; show 512 = min 512 (1024 - u); omega) (by rw [ints_length, l4]; omega) ?_
      intro w5 o5 k5
      rw [← splice_ints] at o5
      have O5 := hide o5
      have K5 := hide (K4.out.trans k5 (fun _ _ r => r))
      clear ho4 sn K4 o5 k5
      refine hK.out _ _ trivial (fun hS => ?_)
      clear hK K
      refine wpAnyH_done (by kernel_rfl) ?_ _
      go_wp2_with fail
      go_roundw
      case rel =>
        refine ⟨j + 1, by go_num, by omega, ?_, K5.out⟩
        have o5 := O5.out
        rw [HU.out] at o5
        exact o5
      case measure => simp [intOf]; omega
    · have hdd : decide ((j : Int) < 2) = false := by simp; omega
      obtain rfl : j = 2 := by omega
      have O5 := HO.out
      rw [h2.out] at O5
      have B5 := hide (HB1.out.trans (HK.out.below (by omega) (fun k hk q => by have := HP.out; omega)))
      have O5 := hide O5
      clear HO HK HB1
      go_wp2_with fail
      go_ret
      exact ⟨P, rfl, by rw [HP.out]; omega, by rw [← HP.out]; exact O5.out, HCL.out 0 (by omega), HCL.out 1 (by omega), B5.out⟩
end Go.Proofs.Ytpddmimacjknfaa
