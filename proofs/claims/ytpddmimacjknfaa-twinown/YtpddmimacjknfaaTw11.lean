import Derived.Test.YtpddmimacjknfaaTw10
namespace Go.Proofs.Ytpddmimacjknfaa
open Go.RowKit Go.QK
set_option maxRecDepth 100000

/-- The law's disk while its pages are laid: j of them are there. -/
structure Shelf (j : Nat) (g : Dev) : Prop where
  run : Run g 13
  left : g.left = 0
  calls : g.calls = 10 * j
  mark : (sector g.img 2).getD 511 0 = 0
  homes : ∀ i, i < j → sector g.img (5 + 2 * i) ++ sector g.img (5 + 2 * i + 1) = pageB (5 + 2 * i)
  lo : sector g.img 0 = zerosB ∧ sector g.img 1 = zerosB
theorem Shelf.zero : Shelf 0 (Dev.new 13) := by
  obtain ⟨hr, hz⟩ := new_run 13 (by decide) (by decide)
  exact ⟨hr, rfl, rfl, by rw [hz 2 (by decide), zerosB_getD], nofun, hz 0 (by decide), hz 1 (by decide)⟩
theorem lie13 (i : Nat) (hi : i < 4) : Lie 2 (5 + 2 * i) 13 := ⟨by decide, by omega, by omega, by decide⟩
theorem Shelf.next {j : Nat} {g : Dev} (h : Shelf j g) (hj : j < 4) : g.twE 2 ((5 + 2 * j : Nat) : Int) (pageB (5 + 2 * j)) = 0 ∧ Shelf (j + 1) (g.twD 2 ((5 + 2 * j : Nat) : Int) (pageB (5 + 2 * j))) := by
  have hl := lie13 j hj
  obtain ⟨w1, w2, w3, w4, w5, w6⟩ := (h.run.write (x := fun i => sector g.img i) (p := sector g.img (5 + 2 * j) ++ sector g.img (5 + 2 * j + 1)) hl (fun i hi q1 q2 => rfl) ⟨h.mark, rfl⟩ (pageB_length (5 + 2 * j)) (pageB_allB _)).good (by rw [h.left]; omega)
  refine ⟨w1, w2, by rw [show (g.twD 2 ((5 + 2 * j : Nat) : Int) (pageB (5 + 2 * j))).left = g.left - 10 from w4, h.left], by rw [show (g.twD 2 ((5 + 2 * j : Nat) : Int) (pageB (5 + 2 * j))).calls = g.calls + 10 from w3, h.calls]; omega, w6.1, fun i hi => ?_, ?_, ?_⟩
  · by_cases q : i = j
    · subst q; exact w6.2
    · have e1 := w5 (5 + 2 * i) (by omega) (by omega) (by omega)
      have e2 := w5 (5 + 2 * i + 1) (by omega) (by omega) (by omega)
      rw [show sector (g.twD 2 ((5 + 2 * j : Nat) : Int) (pageB (5 + 2 * j))).img (5 + 2 * i) = _ from e1, show sector (g.twD 2 ((5 + 2 * j : Nat) : Int) (pageB (5 + 2 * j))).img (5 + 2 * i + 1) = _ from e2]
      exact h.homes i (by omega)
  · exact (w5 0 (by omega) (by omega) (by omega)).trans h.lo.1
  · exact (w5 1 (by omega) (by omega) (by omega)).trans h.lo.2
set_option maxHeartbeats 4000000 in
theorem store_any (w : World) : Calls Try.prog 8 #[] w fun e w' => ∃ d S g, e = .returned (.tuple #[.pointer (some ⟨d, 0, none⟩), .bool true]) ∧ Live w.heap.size w w' S d g ∧ Shelf 4 g := by
  have KN := new_ok 13 w (by decide) (by decide)
  have HKP := hide (fun f w => page_any f w)
  obtain ⟨G0, hG0⟩ : ∃ G, G = Dev.new 13 := ⟨_, rfl⟩
  rw [← hG0] at KN
  have SH0 := hide (show Shelf 0 G0 by rw [hG0]; exact Shelf.zero)
  clear hG0
  go_enter Try.func8, Try.ntmps8
  go_wp2_with fail
  refine KN.mono ?_
  rintro e w1 ⟨d, S1, rfl, D1, f1, b1⟩
  have L1 := hide (show Live w.heap.size w w1 S1 d G0 from ⟨D1, f1, b1, Nat.le_refl _⟩)
  clear D1 f1 b1 KN
  go_wp2_with fail
  go_loopw [4] (fun i wr => ∃ (j : Nat) (S : Nat → Prop) (g : Dev), i = .int .i64 ((5 + 2 * j : Nat) : Int) ∧ j ≤ 4 ∧ Live w.heap.size w wr S d g ∧ Shelf j g) (fun i _ => (20 - (intOf i).toNat))
  case atStart => exact ⟨0, S1, G0, rfl, by decide, L1.out, SH0.out⟩
  case round =>
    obtain ⟨j, S, g, rfl, hj, hL, hS⟩ := hrel
    have HL := hide hL
    have HS := hide hS
    clear hL hS SH0 L1
    obtain ⟨H, hH⟩ : ∃ H, H = 5 + 2 * j := ⟨_, rfl⟩
    by_cases hlt : j < 4
    · obtain ⟨n1, n2⟩ := HS.out.next hlt
      rw [← hH] at n1 n2 ⊢
      have hdd : decide ((H : Int) ≤ 11) = true := by simp; omega
      have hH2 : H ≤ 11 := by omega
      have HN1 := hide n1
      have HN2 := hide n2
      have HH := hide hH
      have hcv : ((H : Int) % 256) = (H : Int) := by omega
      clear n1 n2 hH
      go_wp2_with fail
      refine (HKP.out H wr).mono ?_
      rintro e w2 ⟨gb, rfl, hg, o2, b2⟩
      have A2 := Apart.new HL.out.dev o2 hg
      have L2 := hide (HL.out.below b2)
      have KW := write_twin L2.out.dev 2 (H : Int) (some ⟨gb, 0, none⟩) (pageB H) 1024 A2.bytes (fun ad e => by cases e; exact A2.out) (by rw [pageB_length]; decide) (pageB_allB _) (by rw [HS.out.run.pend]; decide) (by rw [HS.out.calls]; omega)
      rw [HN1.out, pageB_length] at KW
      clear A2 o2 hg b2 HL
      go_wp2_with fail
      refine KW.mono ?_
      rintro e w3 ⟨S3, v3, rfl, t3, p3, s3⟩
      rcases t3 with ⟨_, rfl⟩ | ⟨q, _⟩
      rotate_left
      · exact absurd rfl q
      have L3 := hide (L2.out.step p3 s3)
      clear L2 p3 s3 KW HN1
      go_wp2_with fail
      go_roundw
      case rel => exact ⟨j + 1, S3, _, by rw [HH.out]; congr 1, by omega, L3.out, HN2.out⟩
      case measure => have := HH.out; simp [intOf]; omega
    · obtain rfl : j = 4 := by omega
      clear hH
      have FIN := hide (show ∃ d' S' g', (Ending.returned (.tuple #[.pointer (some ⟨d, 0, none⟩), .bool true])) = .returned (.tuple #[.pointer (some ⟨d', 0, none⟩), .bool true]) ∧ Live w.heap.size w wr S' d' g' ∧ Shelf 4 g' from ⟨d, S, g, rfl, HL.out, HS.out⟩)
      clear HL HS
      go_wp2_with fail
      exact bodyPost_ret (v := .tuple #[.pointer (some ⟨d, 0, none⟩), .bool true]) (by simp [results, Try.results8, go_sem]) rfl FIN.out
end Go.Proofs.Ytpddmimacjknfaa
