import Derived.Test.YthaiagalndcndaaPo10
namespace Go.Proofs.Ythaiagalndcndaa
open Go.RowKit Go.QK Go.Maps Go.QM Go.QP
set_option maxRecDepth 100000
set_option maxHeartbeats 1000000 in
theorem kept_true (B g k cap : Nat) (b : Option Addr) (d : Nat) (l : List Dr) (w : World) (h : Lent w B g k cap l) (h2 : Lies w b (drs l)) (hk : k ≤ 100000) :
    Calls Try.prog 17 #[.slice (some ⟨g, 0, none⟩) k cap, .slice b k d] w fun e w' => e = .returned (.bool true) ∧ Below w.heap.size w w' := by
  obtain ⟨hall, hcap, hmax, -, hgw⟩ := h.all
  have hmark := h.mark
  have hlen := h.len
  have hsl : ∀ wq, (Instr.slice 23 (.slice (some ⟨g, 0, none⟩) k cap) none (some (.int .i64 ((k : Int) + 1))) none).run Try.prog wq = .ok (.slice (some ⟨g, 0, none⟩) (k + 1) cap) wq := fun wq => by
    have := slice_to (a := some ⟨g, 0, none⟩) (n := k) (k + 1) wq hcap (by nofun)
    rwa [show (((k + 1 : Nat) : Int)) = (k : Int) + 1 by omega] at this
  have HA := hide (show Lies w (some ⟨g, 0, none⟩) (drs l) by rw [drs_append] at hall; exact hall.front)
  have H2 := hide h2
  have HM := hide hmark
  have HLEN := hide hlen
  clear h h2 hall hmark hlen
  go_enter Try.func17, Try.ntmps17
  go_wp2
  go_loopw [6] (fun v wr => ∃ j : Nat, v = .int .i64 (j : Int) ∧ j ≤ k ∧ Below w.heap.size w wr) (fun v _ => k - (intOf v).toNat)
  case atStart => exact ⟨0, rfl, Nat.zero_le _, Below.refl _ _⟩
  case round =>
    obtain ⟨j, rfl, hj, hb⟩ := hrel
    have HB := hide hb
    clear hb
    by_cases hlt : j < k
    · have hjl : j < l.length := by rw [← HLEN.out]; exact hlt
      obtain ⟨b1, o1, e1, hb1, p0, p1⟩ := (HA.out.below HB.out).dr hjl
      cases e1
      obtain ⟨b2, o2, e2, hb2, r0, r1⟩ := (H2.out.below HB.out).dr hjl
      subst e2
      rw [Nat.zero_add] at p0 p1
      generalize l[j] = x at *
      obtain ⟨z1, z2⟩ := x
      simp only at p0 p1 r0 r1
      go_upto_region 5 with fail
      go_quiet (fail)
      go_wp2_with fail
      go_roundw
      case rel => exact ⟨j + 1, by go_num, by omega, below_drewN HB.out _⟩
      case measure => simp [intOf]; omega
    · obtain rfl : j = k := by omega
      have m0 := (HB.out.cell (p := ⟨g, j * 2, none⟩) hgw).trans HM.out.1
      have m1 := (HB.out.cell (p := ⟨g, j * 2 + 1, none⟩) hgw).trans HM.out.2
      go_wp2
      go_ret
      exact ⟨rfl, HB.out⟩
theorem Lies.lv {w : World} {a : Option Addr} {l : List LiveM} (h : Lies w a (liveCs l)) {k : Nat} (hk : k < l.length) : ∃ b off, a = some ⟨b, off, none⟩ ∧ b < w.heap.size ∧ w.cell? ⟨b, off + k * 4, none⟩ = some (.int .i64 l[k].tx) ∧ w.cell? ⟨b, off + k * 4 + 1, none⟩ = some (.int .i64 l[k].last) ∧ w.cell? ⟨b, off + k * 4 + 2, none⟩ = some (.bool l[k].com) ∧ w.cell? ⟨b, off + k * 4 + 3, none⟩ = some (.bool l[k].und) := h.liveAt k hk
set_option maxHeartbeats 1000000 in
theorem sameLive_true (l : List LiveM) (a b : Option Addr) (n c d : Nat) (w : World) (h1 : Lies w a (liveCs l)) (h2 : Lies w b (liveCs l)) (hn : n = l.length) (hl : n ≤ 1000000000000000) :
    Calls Try.prog 18 #[.slice a n c, .slice b n d] w fun e w' => e = .returned (.bool true) ∧ Below w.heap.size w w' := by
  have HN := hide hn
  clear hn
  go_enter Try.func18, Try.ntmps18
  go_wp2
  go_loopw [5] (fun v wr => ∃ k : Nat, v = .int .i64 (k : Int) ∧ k ≤ n ∧ Below w.heap.size w wr) (fun v _ => n - (intOf v).toNat)
  case atStart => exact ⟨0, rfl, Nat.zero_le _, Below.refl _ _⟩
  case round =>
    obtain ⟨k, rfl, hk, hb⟩ := hrel
    by_cases hlt : k < n
    · have hkl : k < l.length := by rw [← HN.out]; exact hlt
      obtain ⟨b1, o1, rfl, hb1, p0, p1, p2, p3⟩ := (h1.below hb).lv hkl
      obtain ⟨b2, o2, rfl, hb2, r0, r1, r2, r3⟩ := (h2.below hb).lv hkl
      have HB := hide hb
      generalize l[k] = x at *
      obtain ⟨z1, z2, z3, z4⟩ := x
      simp only at p0 p1 p2 p3 r0 r1 r2 r3
      clear hb h1 h2
      go_upto_region 6 with fail
      go_quiet (fail)
      go_wp2_with fail
      go_roundw
      case rel => exact ⟨k + 1, by go_num, by omega, below_drewN HB.out _⟩
      case measure => simp [intOf]; omega
    · have HB := hide hb
      clear hb h1 h2
      go_wp2
      go_ret
      exact ⟨rfl, HB.out⟩
end Go.Proofs.Ythaiagalndcndaa
