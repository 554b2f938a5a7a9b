import Derived.Test.YtohkmigahbellaaDuo
namespace Go.Proofs.Ytohkmigahbellaa
open Go.RowKit Go.QK

def entry (n : Nat) (p : Int × Nat) : Nat × List Nat := (bring p.1 n, filledB p.2 512)
def wroteD (g : Dev) (ps : List (Int × Nat)) : Dev := { g with pend := g.pend ++ ps.map (entry g.n), calls := g.calls + ps.length }
theorem wroteD_nil (g : Dev) : wroteD g [] = g := by simp [wroteD]
theorem wroteD_step (g : Dev) (ps : List (Int × Nat)) (k : Nat) (hk : k < ps.length) (hd : g.down = false) (hl : g.left = 0) (hn : 1 ≤ g.n) :
    wroteD g (ps.take (k + 1)) = (wroteD g (ps.take k)).write (bring ps[k].1 g.n : Nat) (filledB ps[k].2 512) ∧ (wroteD g (ps.take k)).writeE (bring ps[k].1 g.n : Nat) 512 = 0 := by
  have hb := bring_lt ps[k].1 g.n hn
  have hr : (wroteD g (ps.take k)).reach ((bring ps[k].1 g.n : Nat) : Int) = 0 := by
    unfold Dev.reach
    rw [if_neg (by show ¬ g.down = true; rw [hd]; decide), if_neg (by show ¬ (_ ∨ (g.n : Int) ≤ _); omega)]
  constructor
  · unfold Dev.write
    rw [if_neg (by rw [hr, filledB_length]; simp), if_neg (by show ¬ g.left = 1; omega), take_snoc ps k hk]
    have e1 : (ps.take k ++ [ps[k]]).map (entry g.n) = (ps.take k).map (entry g.n) ++ [entry g.n ps[k]] := List.map_append
    have e2 : (ps.take k ++ [ps[k]]).length = (ps.take k).length + 1 := by rw [List.length_append]; rfl
    show Dev.mk g.img (g.pend ++ (ps.take k ++ [ps[k]]).map (entry g.n)) (g.calls + (ps.take k ++ [ps[k]]).length) g.down g.left g.loss = Dev.mk g.img (g.pend ++ (ps.take k).map (entry g.n) ++ [(bring ps[k].1 g.n, filledB ps[k].2 512)]) (g.calls + (ps.take k).length + 1) g.down (g.left - 1) g.loss
    rw [e1, e2, hl, List.append_assoc]
    rfl
  · unfold Dev.writeE
    rw [if_neg (by omega), if_neg (by omega), if_neg (by show ¬ g.left = 1; omega)]

theorem PutsAt.step {w w' : World} {S S' : Nat → Prop} {a : Option Addr} {ps : List (Int × Nat)} (h : PutsAt w a ps) (ha : ps ≠ [] → ∀ ad, a = some ad → ¬ S ad.block) (hs : Step w S w' S') : PutsAt w' a ps := fun j hj => by
  obtain ⟨b, off, h1, h2, h3, h4⟩ := h j hj
  have hn : ¬ S b := ha (by intro q; rw [q] at hj; simp at hj) _ h1
  exact ⟨b, off, h1, Nat.lt_of_lt_of_le h2 hs.1.size, (hs.1.cell (p := ⟨b, off + j * 2, none⟩) h2 hn).trans h3, (hs.1.cell (p := ⟨b, off + j * 2 + 1, none⟩) h2 hn).trans h4⟩

set_option maxHeartbeats 1000000 in
set_option maxRecDepth 100000 in
theorem wrote_any {w : World} {S : Nat → Prop} {d : Nat} {g : Dev} (h : PDev w S d g) (a : Option Addr) (c : Nat) (ps : List (Int × Nat)) (m : Nat) (hp : PutsAt w a ps) (ha : ps ≠ [] → ∀ ad, a = some ad → ¬ S ad.block) (hm : m ≤ 1000) (hd : g.down = false) (hl : g.left = 0) (hpl : g.pend.length ≤ 900000) (hcl : g.calls ≤ 900000) (hpn : ps.length ≤ maxLen) :
    Calls Try.prog 26 #[.pointer (some ⟨d, 0, none⟩), .slice a ps.length c, .int .i64 (m : Int)] w fun e w' => ∃ S', e = .returned (.bool true) ∧ PDev w' S' d (wroteD g (ps.take m)) ∧ Step w S w' S' := by
  unfold maxLen at hpn
  have hn := h.ok.size
  obtain ⟨n0, n1, n2, n3⟩ := hn
  have hgn : 1 ≤ g.n ∧ g.n ≤ 8192 := by unfold Dev.n; omega
  clear n1 n2 n3 n0
  have HH := hide h
  have HP := hide hp
  have HA := hide ha
  clear h hp ha
  go_enter Try.func26, Try.ntmps26
  go_wp2_with fail
  go_loopw [7] (fun i wr => ∃ j : Nat, j ≤ m ∧ j ≤ ps.length ∧ i = .int .i64 (j : Int) ∧ ∃ S', PDev wr S' d (wroteD g (ps.take j)) ∧ Step w S wr S') (fun i _ => m - (intOf i).toNat)
  case atStart => exact ⟨0, by omega, by omega, rfl, S, by simpa [wroteD_nil] using HH.out, Step.refl _ _⟩
  case round =>
    obtain ⟨j, hjm, hjl, rfl, S1, hD, hst⟩ := hrel
    have HD := hide hD
    have HST := hide hst
    clear hD hst
    by_cases hlt : j < ps.length
    · have d1 : decide ((j : Int) < (ps.length : Int)) = true := by simp; omega
      by_cases h2 : j < m
      · have d2 : decide ((j : Int) < (m : Int)) = true := by simp; omega
        have hlt' : (j : Int) < (ps.length : Int) := by omega
        obtain ⟨b, off, rfl, hbl0, _⟩ := HP.out j hlt
        have hb0 : ¬ S b := HA.out (by intro q; rw [q] at hlt; simp at hlt) _ rfl
        have hbS : ¬ S1 b := fun q => (HST.out.2 b q).elim hb0 (fun r => by omega)
        obtain ⟨b', off', e, hbw, p0, p1⟩ := (HP.out.step HA.out HST.out) j hlt
        cases e
        obtain ⟨hs1, hwe⟩ := wroteD_step g ps j hlt hd hl hgn.1
        have HSTEP := hide hs1
        have hbr := bring_lt ps[j].1 g.n hgn.1
        have hpe : (wroteD g (ps.take j)).pend.length ≤ 999999 := by simp [wroteD]; omega
        have hce : (wroteD g (ps.take j)).calls ≤ 1000000 := by simp [wroteD]; omega
        have hn : (wroteD g (ps.take j)).n = g.n := rfl
        have HDd := hide (show PDev wr.drew S1 d (wroteD g (ps.take j)) from HD.out.below (Below.refl _ _).drew)
        generalize ps[j].1 = pi at *
        generalize ps[j].2 = pf at *
        clear hs1 hb0 hbl0
        go_upto_region 4 with fail
        refine wp_region_held_drew (S := fun x => x.cell? ⟨b, off + j * 2, none⟩ = some (.int .i64 pi) ∧ x.cell? ⟨b, off + j * 2 + 1, none⟩ = some (.int .u8 (pf : Int))) (by kernel_rfl) ⟨p0, p1⟩ (fun hS => ?_)
        refine take_at 0 (some 19) (v := ?_) rfl rfl (by kernel_rfl) (by kernel_rfl) (by kernel_rfl) (fun _ _ _ h => h) ⟨by rfl, ?_⟩ hS ?_
        rotate_left
        · intro wq hSw; obtain ⟨x0, x1⟩ := hSw; go_simp; try rfl
        simp only [Act.put, List.setIfInBounds_toArray, List.set_cons_zero, List.set_cons_succ]
        refine take_at 1 (some 20) (v := ?_) rfl rfl (by kernel_rfl) (by kernel_rfl) (by kernel_rfl) (fun _ _ _ h => h) ⟨by rfl, ?_⟩ hS ?_
        rotate_left
        · intro wq hSw; obtain ⟨x0, x1⟩ := hSw; go_simp; try rfl
        simp only [Act.put, List.setIfInBounds_toArray, List.set_cons_zero, List.set_cons_succ]
        refine take_at 2 (some 21) (v := ?_) rfl rfl (by kernel_rfl) (by kernel_rfl) (by kernel_rfl) (fun _ _ _ h => h) ⟨by rfl, ?_⟩ hS ?_
        rotate_left
        · intro wq hSw; obtain ⟨x0, x1⟩ := hSw; go_simp; try rfl
        simp only [Act.put, List.setIfInBounds_toArray, List.set_cons_zero, List.set_cons_succ]
        refine take_at 3 (some 22) (v := ?_) rfl rfl (by kernel_rfl) (by kernel_rfl) (by kernel_rfl) (fun _ _ _ h => h) ⟨by rfl, ?_⟩ hS ?_
        rotate_left
        · intro wq hSw; obtain ⟨x0, x1⟩ := hSw; go_simp; try rfl
        simp only [Act.put, List.setIfInBounds_toArray, List.set_cons_zero, List.set_cons_succ]
        refine take_at 4 (some 23) (v := ?_) rfl rfl (by kernel_rfl) (by kernel_rfl) (by kernel_rfl) (fun _ _ _ h => h) ⟨by rfl, ?_⟩ hS ?_
        rotate_left
        · intro wq hSw; obtain ⟨x0, x1⟩ := hSw; go_simp; try rfl
        simp only [Act.put, List.setIfInBounds_toArray, List.set_cons_zero, List.set_cons_succ]
        refine take_at 5 (some 24) (v := ?_) rfl rfl (by kernel_rfl) (by kernel_rfl) (by kernel_rfl) (fun _ _ _ h => h) ⟨by rfl, ?_⟩ hS ?_
        rotate_left
        · intro wq hSw; obtain ⟨x0, x1⟩ := hSw; go_simp; try rfl
        simp only [Act.put, List.setIfInBounds_toArray, List.set_cons_zero, List.set_cons_succ]
        refine take_at 6 (some 25) (v := ?_) rfl rfl (by kernel_rfl) (by kernel_rfl) (by kernel_rfl) (fun _ _ _ h => h) ⟨by rfl, ?_⟩ hS ?_
        rotate_left
        · intro wq hSw; obtain ⟨x0, x1⟩ := hSw; go_simp; try rfl
        simp only [Act.put, List.setIfInBounds_toArray, List.set_cons_zero, List.set_cons_succ]
        refine take_at 9 (some 28) (v := ?_) rfl rfl (by kernel_rfl) (by kernel_rfl) (by kernel_rfl) (fun _ _ _ h => h) ⟨by rfl, ?_⟩ hS ?_
        rotate_left
        · intro wq hSw; obtain ⟨x0, x1⟩ := hSw; go_simp; try rfl
        simp only [Act.put, List.setIfInBounds_toArray, List.set_cons_zero, List.set_cons_succ]
        refine take_at 10 (some 29) (v := ?_) rfl rfl (by kernel_rfl) (by kernel_rfl) (by kernel_rfl) (fun _ _ _ h => h) ⟨by rfl, ?_⟩ hS ?_
        rotate_left
        · intro wq hSw; obtain ⟨x0, x1⟩ := hSw; go_simp; try rfl
        simp only [Act.put, List.setIfInBounds_toArray, List.set_cons_zero, List.set_cons_succ]
        refine take_at 11 (some 30) (v := ?_) rfl rfl (by kernel_rfl) (by kernel_rfl) (by kernel_rfl) (fun _ _ _ h => h) ⟨by rfl, ?_⟩ hS ?_
        rotate_left
        · intro wq hSw; obtain ⟨x0, x1⟩ := hSw; go_simp; try rfl
        simp only [Act.put, List.setIfInBounds_toArray, List.set_cons_zero, List.set_cons_succ]
        refine take_at 12 (some 31) (v := ?_) rfl rfl (by kernel_rfl) (by kernel_rfl) (by kernel_rfl) (fun _ _ _ h => h) ⟨by rfl, ?_⟩ hS ?_
        rotate_left
        · intro wq hSw; obtain ⟨x0, x1⟩ := hSw; go_simp; try rfl
        simp only [Act.put, List.setIfInBounds_toArray, List.set_cons_zero, List.set_cons_succ]
        refine take_at 13 (some 32) (v := ?_) rfl rfl (by kernel_rfl) (by kernel_rfl) (by kernel_rfl) (fun _ _ _ h => h) ⟨by rfl, ?_⟩ hS ?_
        rotate_left
        · intro wq hSw; obtain ⟨x0, x1⟩ := hSw; go_simp; try rfl
        simp only [Act.put, List.setIfInBounds_toArray, List.set_cons_zero, List.set_cons_succ]
        refine take_at 14 (some 33) (v := ?_) rfl rfl (by kernel_rfl) (by kernel_rfl) (by kernel_rfl) (fun _ _ _ h => h) ⟨by rfl, ?_⟩ hS ?_
        rotate_left
        · intro wq hSw; obtain ⟨x0, x1⟩ := hSw; go_simp; try rfl
        simp only [Act.put, List.setIfInBounds_toArray, List.set_cons_zero, List.set_cons_succ]
        refine wpAnyH_ready (rs := [7]) (by kernel_rfl) (by simp) ?_
        refine AllReadyH.cons rfl (fun K hK => ?_) AllReadyH.nil
        go_simp
        go_wp2_with fail
        have SE := sectors_any (w := wr.drew) HDd.out
        rw [hn] at SE
        refine SE.mono ?_
        rintro e w' ⟨rfl, hw⟩
        subst hw
        clear SE
        go_wp2_with fail
        refine hK.out _ _ hS (fun _ => ?_)
        clear hK K
        refine wpAnyH_ready (rs := [8]) (by kernel_rfl) (by simp) ?_
        refine AllReadyH.cons rfl (fun K hK => ?_) AllReadyH.nil
        go_simp
        go_wp2_with fail
        refine (brought_any pi g.n wr.drew (by omega) (by omega)).mono ?_
        rintro e w' ⟨rfl, hw⟩
        subst hw
        go_wp2_with fail
        refine hK.out _ _ hS (fun _ => ?_)
        clear hK K
        refine wpAnyH_ready (rs := [15]) (by kernel_rfl) (by simp) ?_
        refine AllReadyH.cons rfl (fun K hK => ?_) AllReadyH.nil
        go_simp
        go_wp2_with fail
        have FL := filled_any 0 false 0 pf 0 none 0 0 0 0 wr.drew
        unfold opC at FL
        rw [fillLen0] at FL
        refine FL.mono ?_
        rintro e w2 ⟨gb, rfl, o2, b2⟩
        have H2 := hide (DevAt.below HD.out (below_undrew b2))
        have O2 := hide (Owns.seen_at o2)
        have B2 := hide (show Below wr.heap.size wr w2 from below_undrew b2)
        clear FL
        go_wp2_with fail
        have hS2 := (⟨(b2.cell (p := ⟨b, off + j * 2, none⟩) hbw).trans hS.1, (b2.cell (p := ⟨b, off + j * 2 + 1, none⟩) hbw).trans hS.2⟩ : w2.cell? ⟨b, off + j * 2, none⟩ = some (.int .i64 pi) ∧ w2.cell? ⟨b, off + j * 2 + 1, none⟩ = some (.int .u8 (pf : Int)))
        refine hK.out _ _ hS2 (fun _ => ?_)
        clear hK K
        clear hS o2 b2
        have hS := hS2
        clear hS2
        refine wpAnyH_ready (rs := [16]) (by kernel_rfl) (by simp) ?_
        refine AllReadyH.cons rfl (fun K hK => ?_) AllReadyH.nil
        go_simp
        go_wp2_with fail
        have WR := write_any H2.out ((bring pi g.n : Nat) : Int) (some ⟨gb, 0, none⟩) (filledB pf 512) 512 O2.out (by rw [filledB_length]; decide) nofun (filledB_allB _ _) (by rw [filledB_length]; decide) (by omega) (by omega)
        rw [filledB_length, hwe] at WR
        refine WR.mono ?_
        rintro e w3 ⟨S3, rfl, D3, st3⟩
        have HD3 := hide D3
        have ST3 := hide ((Step.of_below B2.out).trans st3)
        clear WR
        go_wp2_with fail
        have hbw2 : b < w2.heap.size := Nat.lt_of_lt_of_le hbw B2.out.size
        have hS3 := (⟨(st3.1.cell (p := ⟨b, off + j * 2, none⟩) hbw2 hbS).trans hS.1, (st3.1.cell (p := ⟨b, off + j * 2 + 1, none⟩) hbw2 hbS).trans hS.2⟩ : w3.cell? ⟨b, off + j * 2, none⟩ = some (.int .i64 pi) ∧ w3.cell? ⟨b, off + j * 2 + 1, none⟩ = some (.int .u8 (pf : Int)))
        refine hK.out _ _ hS3 (fun _ => ?_)
        clear hK K
        clear hS D3 st3
        have hS := hS3
        refine wpAnyH_ready (rs := [17]) (by kernel_rfl) (by simp) ?_
        refine AllReadyH.cons rfl (fun K hK => ?_) AllReadyH.nil
        go_simp
        go_wp2_with fail
        refine (num_any _ _).mono ?_
        rintro e w' ⟨rfl, hw⟩
        obtain rfl : w3 = w' := hw.symm
        go_wp2_with fail
        refine hK.out _ _ hS (fun _ => ?_)
        clear hK K
        refine take_at 18 (some 37) (v := ?_) rfl rfl (by kernel_rfl) (by kernel_rfl) (by kernel_rfl) (fun _ _ _ h => h) ⟨by rfl, ?_⟩ hS ?_
        rotate_left
        · intro wq hSw; obtain ⟨x0, x1⟩ := hSw; go_simp; try rfl
        simp only [Act.put, List.setIfInBounds_toArray, List.set_cons_zero, List.set_cons_succ]
        refine wpAnyH_done (by kernel_rfl) ?_ _
        clear hS hS3
        go_wp2_with fail
        go_roundw
        case rel => exact ⟨j + 1, by omega, by omega, by go_num, S3, by rw [HSTEP.out]; exact HD3.out, HST.out.trans ST3.out⟩
        case measure => simp [intOf]; omega
      · have d2 : decide ((j : Int) < (m : Int)) = false := by simp; omega
        obtain rfl : j = m := by omega
        go_wp2_with fail
        go_ret
        exact ⟨S1, rfl, HD.out, HST.out⟩
    · have d1 : decide ((j : Int) < (ps.length : Int)) = false := by simp; omega
      have e : ps.take m = ps.take j := by rw [List.take_of_length_le (by omega), List.take_of_length_le (by omega)]
      rw [← e] at HD
      go_wp2_with fail
      go_ret
      exact ⟨S1, rfl, HD.out, HST.out⟩
end Go.Proofs.Ytohkmigahbellaa
