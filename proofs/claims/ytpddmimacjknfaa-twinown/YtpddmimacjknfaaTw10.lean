import Derived.Test.YtpddmimacjknfaaTw9
import Derived.Test.YtpddmimacjknfaaTw8
import Derived.Test.YtpddmimacjknfaaTwT
namespace Go.Proofs.Ytpddmimacjknfaa
open Go.RowKit Go.QK
set_option maxRecDepth 100000

/-- A device that was made behind B. -/
structure Live (B : Nat) (w0 w : World) (S : Nat → Prop) (d : Nat) (g : Dev) : Prop where
  dev : PDev w S d g
  far : ∀ b, S b → B ≤ b
  bel : Below B w0 w
  le : B ≤ w0.heap.size
section
variable {B : Nat} {w0 w w' : World} {S S' : Nat → Prop} {d : Nat} {g g' : Dev}
theorem Live.step (h : Live B w0 w S d g) (hd : PDev w' S' d g') (hs : Step w S w' S') : Live B w0 w' S' d g' := by
  have hB := Nat.le_trans h.le h.bel.size
  exact ⟨hd, fun b hb => (hs.2 b hb).elim (h.far b) (fun q => Nat.le_trans hB q), h.bel.trans (hs.1.below hB (fun j hj q => by have := h.far j q; omega)), h.le⟩
theorem Live.below (h : Live B w0 w S d g) (hb : Below w.heap.size w w') : Live B w0 w' S d g := ⟨h.dev.below hb, h.far, bnext h.bel hb h.le, h.le⟩
theorem Live.size (h : Live B w0 w S d g) : B ≤ w.heap.size := Nat.le_trans h.le h.bel.size
end
/-- Bytes that lie apart from a device. -/
structure Apart (w : World) (S : Nat → Prop) (g : Nat) (l : List Nat) : Prop where
  bytes : Bytes w (some ⟨g, 0, none⟩) l
  out : ¬ S g
  lt : g < w.heap.size
section
variable {w w' : World} {S S' : Nat → Prop} {g : Nat} {l : List Nat}
theorem Apart.step (h : Apart w S g l) (hs : Step w S w' S') : Apart w' S' g l :=
  ⟨Seen.keep h.bytes hs.1 (fun ad had => by cases had; exact h.out), fun q => (hs.2 g q).elim h.out (fun r => by have := h.lt; omega), Nat.lt_of_lt_of_le h.lt hs.1.size⟩
theorem Apart.below (h : Apart w S g l) (hb : Below w.heap.size w w') : Apart w' S g l := ⟨Seen.below h.bytes hb, h.out, Nat.lt_of_lt_of_le h.lt hb.size⟩
/-- Bytes that were made behind a device. -/
theorem Apart.new {d : Nat} {dv : Dev} {n c : Nat} (h : PDev w S d dv) (o : OwnB w' w.heap.size (.slice (some ⟨g, 0, none⟩) n c) l) (hg : w.heap.size ≤ g) : Apart w' S g l :=
  ⟨Owns.seen_at o, fun q => by have := h.lt g q; omega, (World.ownsRow.lt o g rfl).2⟩
theorem Apart.conv (h : Apart w S g l) (c : Nat) : (convert 22 9 (.slice (some ⟨g, 0, none⟩) l.length c)).run Try.prog w = .ok (.string (strOf l)) w := conv_any _ l c w h.bytes
end
theorem new_run (n : Nat) (h1 : 1 ≤ n) (h2 : n ≤ 8192) : Run (Dev.new n) n ∧ ∀ i, i < n → sector (Dev.new n).img i = zerosB := by
  have ok := Dev.Ok.new h1 h2
  refine ⟨⟨ok, by simp [Dev.new], rfl, rfl⟩, fun i hi => ?_⟩
  show ((List.replicate (512 * n) 0).drop (512 * i)).take 512 = List.replicate 512 0
  rw [List.drop_replicate, List.take_replicate]
  congr 1
  omega
/-- Nothing was written yet: every page is zeros. -/
def zeros2 : List Nat := zerosB ++ zerosB
theorem zeros2_length : zeros2.length = 1024 := by unfold zeros2; rw [List.length_append, zerosB_length]
theorem zeros2_allB : AllB zeros2 := zerosB_allB.append zerosB_allB
theorem new_quiet (n A H : Nat) (h2 : n ≤ 8192) (hl : Lie A H n) : Quiet A H zeros2 (Dev.new n).img := by
  have ha := hl.a
  have hh := hl.h
  obtain ⟨_, hz⟩ := new_run n (by omega) h2
  refine ⟨by rw [hz A (by omega), zerosB_getD], ?_⟩
  rw [hz H (by omega), hz (H + 1) (by omega)]
  rfl
/-- What first's disk is behind its Write. -/
theorem first_disk (b : List Nat) (hb : b.length = 1024) (hB : AllB b) :
    (Dev.new 9).twE 2 4 b = 4 ∧ (Dev.new 9).twD 2 4 b = Dev.new 9 ∧ (Dev.new 9).twE 2 5 b = 0 ∧ ((Dev.new 9).twD 2 5 b).rdE 5 = 0 ∧ ((Dev.new 9).twD 2 5 b).rdB 5 = b ∧ ((Dev.new 9).twD 2 5 b).fnE 2 = 0 ∧ ((Dev.new 9).twD 2 5 b).fnD 2 = (Dev.new 9).twD 2 5 b ∧ ((Dev.new 9).twD 2 5 b).fnB 2 = false ∧ ((Dev.new 9).twD 2 5 b).calls = 10 ∧ ((Dev.new 9).twD 2 5 b).pend = [] := by
  obtain ⟨hr, hz⟩ := new_run 9 (by decide) (by decide)
  have hl : Lie 2 5 9 := ⟨by decide, by decide, by decide, by decide⟩
  have hq := new_quiet 9 2 5 (by decide) hl
  have h4 : ((Dev.new 9).has 2 3 && (Dev.new 9).homeB 2 4) = false := by
    unfold Dev.homeB Dev.has
    rw [hr.n_eq]
    decide
  obtain ⟨w1, w2, w3, w4, w5, w6⟩ := (hr.write (x := fun i => sector (Dev.new 9).img i) hl (fun i hi q1 q2 => rfl) hq hb hB).good (by show ¬ (1 ≤ 0 ∧ _); omega)
  obtain ⟨f1, f2, f3⟩ := w2.finish_quiet hl w6
  obtain ⟨r1, r2⟩ := w2.read (f := 5) (by decide)
  refine ⟨?_, ?_, w1, r1, ?_, f1, f2, f3, w3, w2.pend⟩
  · unfold Dev.twE
    rw [hr.up, if_neg (by simp), if_pos h4]
  · unfold Dev.twD
    rw [hr.up, if_neg (by simp), if_pos h4]
  · exact r2.trans w6.2
set_option maxHeartbeats 8000000 in
theorem first_any (w : World) : Calls Try.prog 7 #[] w fun e w' => e = .returned (.bool true) ∧ Below w.heap.size w w' := by
  obtain ⟨e1, e2, e3, e4, e5, e6, e7, e8, e9, e10⟩ := first_disk (pageB 97) (pageB_length _) (pageB_allB _)
  have KN := new_ok 9 w (by decide) (by decide)
  have KP := fun w => page_any 97 w
  have WN := fun a w => write_nil 2 5 (some a) 1024 1024 w
  have WB := fun (w : World) (S : Nat → Prop) (d gb : Nat) (h : PDev w S d (Dev.new 9)) (ha : Apart w S gb (pageB 97)) => write_twin h 2 4 (some ⟨gb, 0, none⟩) (pageB 97) 1024 ha.bytes (fun ad e => by cases e; exact ha.out) (by rw [pageB_length]; decide) (pageB_allB _) (by decide) (by decide)
  have WG := fun (w : World) (S : Nat → Prop) (d gb : Nat) (h : PDev w S d (Dev.new 9)) (ha : Apart w S gb (pageB 97)) => write_twin h 2 5 (some ⟨gb, 0, none⟩) (pageB 97) 1024 ha.bytes (fun ad e => by cases e; exact ha.out) (by rw [pageB_length]; decide) (pageB_allB _) (by decide) (by decide)
  have AN := fun (w w' : World) (S : Nat → Prop) (d gb : Nat) (h : PDev w S d (Dev.new 9)) (o : OwnB w' w.heap.size (.slice (some ⟨gb, 0, none⟩) 1024 1024) (pageB 97)) (hg : w.heap.size ≤ gb) => Apart.new h o hg
  have c0 : (Dev.new 9).calls = 0 := rfl
  simp only [e1, e2, e3, pageB_length] at WB WG
  obtain ⟨G0, hG0⟩ : ∃ G, G = Dev.new 9 := ⟨_, rfl⟩
  simp only [← hG0] at e4 e5 e6 e7 e8 e9 e10 KN WB WG AN c0
  obtain ⟨G1, hG1⟩ : ∃ G, G = G0.twD 2 5 (pageB 97) := ⟨_, rfl⟩
  simp only [← hG1] at e4 e5 e6 e7 e8 e9 e10 WG
  have RD := fun (w : World) (S : Nat → Prop) (d : Nat) (h : PDev w S d G1) => read_twin h 5 (by rw [e10]; decide)
  have FN := fun (w : World) (S : Nat → Prop) (d : Nat) (h : PDev w S d G1) => finish_twin h 2 (by rw [e10]; decide) (by rw [e9]; decide)
  simp only [e4, e5] at RD
  simp only [e6, e7, e8] at FN
  have hPL := pageB_length 97
  have CV := fun (w : World) (S : Nat → Prop) (gb : Nat) (h : Apart w S gb (pageB 97)) => h.conv 1024
  simp only [hPL] at CV
  generalize strOf (pageB 97) = SL at *
  generalize pageB 97 = PB at *
  have HKP := hide KP
  have HWN := hide WN
  have HWB := hide WB
  have HWG := hide WG
  have HAN := hide AN
  have HRD := hide RD
  have HFN := hide FN
  have HCV := hide CV
  have HC0 := hide c0
  have HE9 := hide e9
  clear KP WN WB WG AN RD FN CV c0 e1 e2 e3 e4 e5 e6 e7 e8 e9 e10 hG0 hG1 hPL
  go_enter Try.func7, Try.ntmps7
  go_wp2_with fail
  refine KN.mono ?_
  rintro e w1 ⟨d, S1, rfl, D1, f1, b1⟩
  have L1 := hide (show Live w.heap.size w w1 S1 d G0 from ⟨D1, f1, b1, Nat.le_refl _⟩)
  clear D1 f1 b1 KN
  go_wp2_with fail
  refine (HKP.out w1).mono ?_
  rintro e w2 ⟨gb2, rfl, hg2, o2, b2⟩
  have L2 := hide (L1.out.below b2)
  clear L1 hg2 o2 b2
  go_wp2_with fail
  refine (HWN.out _ w2).mono ?_
  rintro e w3 ⟨v3, rfl, t3, b3⟩
  rcases t3 with ⟨q, _⟩ | ⟨_, t3⟩
  · exact absurd q (by decide)
  obtain ⟨eb3, rfl, _, c3⟩ := t3
  have K3 := told_yes writeS 3 eb3 w3 c3 (by decide)
  have L3 := hide (L2.out.below b3)
  clear L2 b3 c3
  go_wp2_with fail
  refine K3.mono ?_
  rintro e w4 ⟨rfl, hw4⟩
  obtain rfl : w3 = w4 := hw4.symm
  clear hw4 K3
  go_wp2_with fail
  refine (HKP.out w3).mono ?_
  rintro e w5 ⟨gb5, rfl, hg5, o5, b5⟩
  have A5 := HAN.out w3 w5 S1 d gb5 L3.out.dev o5 hg5
  have L5 := hide (L3.out.below b5)
  have K5 := HWB.out w5 S1 d gb5 L5.out.dev A5
  clear L3 hg5 o5 b5 A5
  go_wp2_with fail
  refine K5.mono ?_
  rintro e w6 ⟨S6, v6, rfl, t6, p6, s6⟩
  rcases t6 with ⟨q, _⟩ | ⟨_, t6⟩
  · exact absurd q (by decide)
  obtain ⟨eb6, rfl, _, c6⟩ := t6
  have K6 := told_yes writeS 4 eb6 w6 c6 (by decide)
  have L6 := hide (L5.out.step p6 s6)
  have KC := calls_any L6.out.dev
  rw [HC0.out] at KC
  clear L5 p6 s6 c6 K5
  go_wp2_with fail
  refine K6.mono ?_
  rintro e w7 ⟨rfl, hw7⟩
  obtain rfl : w6 = w7 := hw7.symm
  clear hw7 K6
  go_wp2_with fail
  refine KC.mono ?_
  rintro e w7 ⟨rfl, hw7⟩
  obtain rfl : w6 = w7 := hw7.symm
  clear hw7 KC
  go_wp2_with fail
  refine (HKP.out w6).mono ?_
  rintro e w8 ⟨gb8, rfl, hg8, o8, b8⟩
  have A8 := HAN.out w6 w8 S6 d gb8 L6.out.dev o8 hg8
  have L8 := hide (L6.out.below b8)
  have K8 := HWG.out w8 S6 d gb8 L8.out.dev A8
  clear L6 hg8 o8 b8 A8
  go_wp2_with fail
  refine K8.mono ?_
  rintro e w9 ⟨S9, v9, rfl, t9, p9, s9⟩
  rcases t9 with ⟨_, rfl⟩ | ⟨q, _⟩
  rotate_left
  · exact absurd rfl q
  have L9 := hide (L8.out.step p9 s9)
  have K9 := HRD.out w9 S9 d L9.out.dev
  clear L8 p9 s9 K8
  go_wp2_with fail
  refine K9.mono ?_
  rintro e w10 ⟨v10, x10, rfl, t10, o10, b10⟩
  rcases t10 with ⟨_, rfl⟩ | ⟨q, _⟩
  rotate_left
  · exact absurd rfl q
  rcases o10 with ⟨q, _⟩ | ⟨_, _, gb10, rfl, hg10, o10⟩
  · exact absurd rfl q
  have A10 := Apart.new L9.out.dev o10 hg10
  have L10 := hide (L9.out.below b10)
  have K10 := HFN.out w10 S9 d L10.out.dev
  have HA10 := hide A10
  clear L9 o10 hg10 b10 A10 K9
  go_wp2_with fail
  refine K10.mono ?_
  rintro e w11 ⟨S11, v11, rfl, t11, p11, s11⟩
  rcases t11 with ⟨_, rfl⟩ | ⟨q, _⟩
  rotate_left
  · exact absurd rfl q
  have DR : Below w11.heap.size w11 w11.drew := (Below.refl _ _).drew
  have A11 := HA10.out.step s11
  have cv0 := HCV.out w11.drew S11 gb10 (A11.below DR)
  have L11 := hide ((L10.out.step p11 s11).below DR)
  have HA11 := hide (A11.below DR)
  clear L10 p11 s11 K10 HA10 A11 DR
  go_upto_region 7 with fail
  refine wp_region_held_drew (S := fun wq => (convert 22 9 (.slice (some ⟨gb10, 0, none⟩) 1024 1024)).run Try.prog wq = .ok (.string SL) wq) (by kernel_rfl) cv0 (fun hS => ?_)
  clear cv0
  generalize w11.drew = w12 at *
  refine take_at 0 (some 49) (v := ?_) rfl rfl (by kernel_rfl) (by kernel_rfl) (by kernel_rfl) (fun _ _ _ h => h) ⟨by rfl, ?_⟩ hS ?_
  rotate_left
  · intro wq hSw; go_simp; try rfl
  simp only [Act.put, List.setIfInBounds_toArray, List.set_cons_zero, List.set_cons_succ]
  refine take_at 1 (some 50) (v := ?_) rfl rfl (by kernel_rfl) (by kernel_rfl) (by kernel_rfl) (fun _ _ _ h => h) ⟨by rfl, ?_⟩ hS ?_
  rotate_left
  · intro wq hSw; go_simp; try rfl
  simp only [Act.put, List.setIfInBounds_toArray, List.set_cons_zero, List.set_cons_succ]
  refine take_at 2 (some 51) (v := ?_) rfl rfl (by kernel_rfl) (by kernel_rfl) (by kernel_rfl) (fun _ _ _ h => h) ⟨by rfl, ?_⟩ hS ?_
  rotate_left
  · intro wq hSw; go_simp; try rfl
  simp only [Act.put, List.setIfInBounds_toArray, List.set_cons_zero, List.set_cons_succ]
  refine take_at 3 (some 52) (v := ?_) rfl rfl (by kernel_rfl) (by kernel_rfl) (by kernel_rfl) (fun _ _ _ h => h) ⟨by rfl, ?_⟩ hS ?_
  rotate_left
  · intro wq hSw; go_simp; try rfl
  simp only [Act.put, List.setIfInBounds_toArray, List.set_cons_zero, List.set_cons_succ]
  refine take_at 4 (some 53) (v := ?_) rfl rfl (by kernel_rfl) (by kernel_rfl) (by kernel_rfl) (fun _ _ _ h => h) ⟨by rfl, ?_⟩ hS ?_
  rotate_left
  · intro wq hSw; go_simp; try rfl
  simp only [Act.put, List.setIfInBounds_toArray, List.set_cons_zero, List.set_cons_succ]
  refine take_at 5 (some 54) (v := ?_) rfl rfl (by kernel_rfl) (by kernel_rfl) (by kernel_rfl) (fun _ _ _ h => h) ⟨by rfl, ?_⟩ hS ?_
  rotate_left
  · intro wq hSw; go_simp; try rfl
  simp only [Act.put, List.setIfInBounds_toArray, List.set_cons_zero, List.set_cons_succ]
  refine take_at 6 (some 55) (v := ?_) rfl rfl (by kernel_rfl) (by kernel_rfl) (by kernel_rfl) (fun _ _ _ h => h) ⟨by rfl, ?_⟩ hS ?_
  rotate_left
  · intro wq hSw; go_simp; try rfl
  simp only [Act.put, List.setIfInBounds_toArray, List.set_cons_zero, List.set_cons_succ]
  refine take_at 7 (some 56) (v := ?_) rfl rfl (by kernel_rfl) (by kernel_rfl) (by kernel_rfl) (fun _ _ _ h => h) ⟨by rfl, ?_⟩ hS ?_
  rotate_left
  · intro wq hSw; go_simp; try rfl
  simp only [Act.put, List.setIfInBounds_toArray, List.set_cons_zero, List.set_cons_succ]
  refine take_at 8 (some 57) (v := ?_) rfl rfl (by kernel_rfl) (by kernel_rfl) (by kernel_rfl) (fun _ _ _ h => h) ⟨by rfl, ?_⟩ hS ?_
  rotate_left
  · intro wq hSw; go_simp; try rfl
  simp only [Act.put, List.setIfInBounds_toArray, List.set_cons_zero, List.set_cons_succ]
  refine take_at 9 (some 58) (v := ?_) rfl rfl (by kernel_rfl) (by kernel_rfl) (by kernel_rfl) (fun _ _ _ h => h) ⟨by rfl, ?_⟩ hS ?_
  rotate_left
  · intro wq hSw; go_simp; try rfl
  simp only [Act.put, List.setIfInBounds_toArray, List.set_cons_zero, List.set_cons_succ]
  refine take_at 10 (some 59) (v := ?_) rfl rfl (by kernel_rfl) (by kernel_rfl) (by kernel_rfl) (fun _ _ _ h => h) ⟨by rfl, ?_⟩ hS ?_
  rotate_left
  · intro wq hSw; go_simp; try rfl
  simp only [Act.put, List.setIfInBounds_toArray, List.set_cons_zero, List.set_cons_succ]
  refine take_at 11 (some 60) (v := ?_) rfl rfl (by kernel_rfl) (by kernel_rfl) (by kernel_rfl) (fun _ _ _ h => h) ⟨by rfl, ?_⟩ hS ?_
  rotate_left
  · intro wq hSw; go_simp; try rfl
  simp only [Act.put, List.setIfInBounds_toArray, List.set_cons_zero, List.set_cons_succ]
  refine take_at 12 (some 61) (v := ?_) rfl rfl (by kernel_rfl) (by kernel_rfl) (by kernel_rfl) (fun _ _ _ h => h) ⟨by rfl, ?_⟩ hS ?_
  rotate_left
  · intro wq hSw; go_simp; try rfl
  simp only [Act.put, List.setIfInBounds_toArray, List.set_cons_zero, List.set_cons_succ]
  refine take_at 13 (some 62) (v := ?_) rfl rfl (by kernel_rfl) (by kernel_rfl) (by kernel_rfl) (fun _ _ _ h => h) ⟨by rfl, ?_⟩ hS ?_
  rotate_left
  · intro wq hSw; go_simp; try rfl
  simp only [Act.put, List.setIfInBounds_toArray, List.set_cons_zero, List.set_cons_succ]
  refine take_at 14 (some 63) (v := ?_) rfl rfl (by kernel_rfl) (by kernel_rfl) (by kernel_rfl) (fun _ _ _ h => h) ⟨by rfl, ?_⟩ hS ?_
  rotate_left
  · intro wq hSw; go_simp; try rfl
  simp only [Act.put, List.setIfInBounds_toArray, List.set_cons_zero, List.set_cons_succ]
  refine take_at 15 (some 64) (v := ?_) rfl rfl (by kernel_rfl) (by kernel_rfl) (by kernel_rfl) (fun _ _ _ h => h) ⟨by rfl, ?_⟩ hS ?_
  rotate_left
  · intro wq hSw; go_simp; try rfl
  simp only [Act.put, List.setIfInBounds_toArray, List.set_cons_zero, List.set_cons_succ]
  refine take_at 16 (some 65) (v := ?_) rfl rfl (by kernel_rfl) (by kernel_rfl) (by kernel_rfl) (fun _ _ _ h => h) ⟨by rfl, ?_⟩ hS ?_
  rotate_left
  · intro wq hSw; go_simp; try rfl
  simp only [Act.put, List.setIfInBounds_toArray, List.set_cons_zero, List.set_cons_succ]
  refine wpAnyH_ready (rs := [17]) (by kernel_rfl) (by simp) ?_
  refine AllReadyH.cons rfl (fun K hK => ?_) AllReadyH.nil
  go_simp
  go_wp2_with fail
  refine (HKP.out w12).mono ?_
  rintro e w13 ⟨gb13, rfl, hg13, o13, b13⟩
  have A13 := Apart.new L11.out.dev o13 hg13
  have cv13 := HCV.out w13 S11 gb13 A13
  have L13 := hide (L11.out.below b13)
  have hS13 := HCV.out w13 S11 gb10 (HA11.out.below b13)
  have KC13 := calls_any L13.out.dev
  rw [HE9.out] at KC13
  clear hg13 o13 b13 A13
  go_wp2_with fail
  refine hK.out _ _ hS13 (fun hS => ?_)
  clear hK K
  (try simp only [Act.put, List.setIfInBounds_toArray, List.set_cons_zero, List.set_cons_succ])
  refine wpAnyH_ready (rs := [18]) (by kernel_rfl) (by simp) ?_
  refine AllReadyH.cons rfl (fun K hK => ?_) AllReadyH.nil
  go_simp
  (try go_wp2_with fail)
  refine hK.out _ _ hS13 (fun hS => ?_)
  clear hK K
  (try simp only [Act.put, List.setIfInBounds_toArray, List.set_cons_zero, List.set_cons_succ])
  refine take_at 19 (some 68) (v := ?_) rfl rfl (by kernel_rfl) (by kernel_rfl) (by kernel_rfl) (fun _ _ _ h => h) ⟨by rfl, ?_⟩ hS ?_
  rotate_left
  · intro wq hSw; go_simp; try rfl
  simp only [Act.put, List.setIfInBounds_toArray, List.set_cons_zero, List.set_cons_succ]
  refine take_at 20 (some 69) (v := ?_) rfl rfl (by kernel_rfl) (by kernel_rfl) (by kernel_rfl) (fun _ _ _ h => h) ⟨by rfl, ?_⟩ hS ?_
  rotate_left
  · intro wq hSw; go_simp; try rfl
  simp only [Act.put, List.setIfInBounds_toArray, List.set_cons_zero, List.set_cons_succ]
  refine take_at 21 (some 70) (v := ?_) rfl rfl (by kernel_rfl) (by kernel_rfl) (by kernel_rfl) (fun _ _ _ h => h) ⟨by rfl, ?_⟩ hS ?_
  rotate_left
  · intro wq hSw; go_simp; try rfl
  simp only [Act.put, List.setIfInBounds_toArray, List.set_cons_zero, List.set_cons_succ]
  refine take_at 22 (some 71) (v := ?_) rfl rfl (by kernel_rfl) (by kernel_rfl) (by kernel_rfl) (fun _ _ _ h => h) ⟨by rfl, ?_⟩ hS ?_
  rotate_left
  · intro wq hSw; go_simp; try rfl
  simp only [Act.put, List.setIfInBounds_toArray, List.set_cons_zero, List.set_cons_succ]
  refine wpAnyH_ready (rs := [23]) (by kernel_rfl) (by simp) ?_
  refine AllReadyH.cons rfl (fun K hK => ?_) AllReadyH.nil
  go_simp
  go_wp2_with fail
  refine KC13.mono ?_
  rintro e w14 ⟨rfl, hw14⟩
  obtain rfl : w13 = w14 := hw14.symm
  go_wp2_with fail
  refine hK.out _ _ hS13 (fun hS => ?_)
  clear hK K
  (try simp only [Act.put, List.setIfInBounds_toArray, List.set_cons_zero, List.set_cons_succ])
  refine take_at 24 (some 73) (v := ?_) rfl rfl (by kernel_rfl) (by kernel_rfl) (by kernel_rfl) (fun _ _ _ h => h) ⟨by rfl, ?_⟩ hS ?_
  rotate_left
  · intro wq hSw; go_simp; try rfl
  simp only [Act.put, List.setIfInBounds_toArray, List.set_cons_zero, List.set_cons_succ]
  refine take_at 25 (some 74) (v := ?_) rfl rfl (by kernel_rfl) (by kernel_rfl) (by kernel_rfl) (fun _ _ _ h => h) ⟨by rfl, ?_⟩ hS ?_
  rotate_left
  · intro wq hSw; go_simp; try rfl
  simp only [Act.put, List.setIfInBounds_toArray, List.set_cons_zero, List.set_cons_succ]
  refine take_at 26 (some 0) (v := ?_) rfl rfl (by kernel_rfl) (by kernel_rfl) (by kernel_rfl) (fun _ _ _ h => h) ⟨by rfl, ?_⟩ hS ?_
  rotate_left
  · intro wq hSw; go_simp; try rfl
  simp only [Act.put, List.setIfInBounds_toArray, List.set_cons_zero]
  refine wpAnyH_done (by kernel_rfl) ?_ _
  go_wp2_with fail
  go_ret
  exact ⟨by simp, L13.out.bel⟩
end Go.Proofs.Ytpddmimacjknfaa
