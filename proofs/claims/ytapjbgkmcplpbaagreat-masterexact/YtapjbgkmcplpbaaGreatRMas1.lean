import Derived.Test.YtapjbgkmcplpbaaGreatRRight
import Derived.Test.YtapjbgkmcplpbaaGreatRef7
namespace Go.Proofs.YtapjbgkmcplpbaaGreat
open Go.RowKit Go.QK

/-! The master of two slots, as the document finds it. -/
def masC (L M : List Nat) (n : Nat) : Bool := rightB M 1 n && (!rightB L 0 n || decide ((rightT L 0 n).stamp < (rightT M 1 n).stamp))
def masT (L M : List Nat) (n : Nat) : Slot := if masC L M n = true then rightT M 1 n else rightT L 0 n
def masB (L M : List Nat) (n : Nat) : Bool := if masC L M n = true then true else rightB L 0 n

theorem right_yes {L : List Nat} {i n : Nat} (h : rightB L i n = true) : readB L i n = rightT L i n ∧ 1 ≤ (rightT L i n).stamp := by
  have q := of_decide_eq_true h
  unfold readB rightT
  rw [if_pos q, if_pos q.1]
  exact ⟨rfl, q.1.1⟩
theorem right_no {L : List Nat} {i n : Nat} (h : rightB L i n = false) : readB L i n = Slot.none := by
  have q := of_decide_eq_false h
  unfold readB
  rw [if_neg q]
theorem mas_master {g : Dev} (hn : 2 ≤ g.n) : (masB (g.content 0) (g.content 1) g.n = true → g.master ≠ Slot.none ∧ masT (g.content 0) (g.content 1) g.n = g.master) ∧ (masB (g.content 0) (g.content 1) g.n = false → g.master = Slot.none) := by
  have e0 : g.slot 0 = readB (g.content 0) 0 g.n := by unfold Dev.slot; rw [if_pos (by omega)]
  have e1 : g.slot 1 = readB (g.content 1) 1 g.n := by unfold Dev.slot; rw [if_pos (by omega)]
  unfold Dev.master
  rw [e0, e1]
  unfold masT masB masC
  generalize g.content 0 = L
  generalize g.content 1 = M
  generalize g.n = n
  have ne : ∀ s : Slot, 1 ≤ s.stamp → s ≠ Slot.none := fun s hs q => by rw [q] at hs; simp [Slot.none] at hs
  cases hL : rightB L 0 n with
  | true =>
    obtain ⟨rL, sL⟩ := right_yes hL
    cases hM : rightB M 1 n with
    | true =>
      obtain ⟨rM, sM⟩ := right_yes hM
      rw [rL, rM]
      by_cases q : (rightT L 0 n).stamp < (rightT M 1 n).stamp
      · simp [q, ne _ sM]
      · simp [q, ne _ sL]
    | false =>
      have rM := right_no hM
      rw [rL, rM]
      have q : ¬ (rightT L 0 n).stamp < Slot.none.stamp := by simp [Slot.none]
      simp [q, ne _ sL]
  | false =>
    have rL := right_no hL
    cases hM : rightB M 1 n with
    | true =>
      obtain ⟨rM, sM⟩ := right_yes hM
      rw [rL, rM]
      have q : Slot.none.stamp < (rightT M 1 n).stamp := by simp [Slot.none]; omega
      simp [q, ne _ sM]
    | false =>
      have rM := right_no hM
      rw [rL, rM]
      simp

set_option maxHeartbeats 4000000 in
set_option maxRecDepth 100000 in
theorem rMaster_any (a b : Option Addr) (L M : List Nat) (c e n : Nat) (w : World) (hs : Bytes w a L) (hl : L.length = 512) (hb : AllB L) (hs2 : Bytes w b M) (hl2 : M.length = 512) (hb2 : AllB M) (hn : n ≤ 8192) :
    Calls Tryz.prog 89 #[.slice a 512 c, .slice b 512 e, .int .i64 (n : Int)] w fun r w' => r = .returned (.tuple #[.agg (slotC (masT L M n)), .bool (masB L M n)]) ∧ Below w.heap.size w w' := by
  obtain ⟨rt, hrt⟩ : ∃ rt, rt = masT L M n := ⟨_, rfl⟩
  obtain ⟨rb, hrb⟩ : ∃ rb, rb = masB L M n := ⟨_, rfl⟩
  rw [← hrt, ← hrb]
  unfold masT masC at hrt
  unfold masB masC at hrb
  obtain ⟨w1, hw1⟩ : ∃ w1, w1 = w.alloc (.cells zero5 113) := ⟨_, rfl⟩
  have z1 : w1.heap.size = w.heap.size + 1 := by rw [hw1]; simp
  have b1 : Below w.heap.size w w1 := by rw [hw1]; exact alloc_below _ _
  have R1 : SlotAt w1 w.heap.size Slot.none := by rw [hw1]; exact Cells.new w zero5 113
  have K1 := rRight_any a L c 0 n w1 (Seen.below hs b1) hl hb (by omega) hn
  obtain ⟨x, hx⟩ : ∃ x, x = rightT L 0 n := ⟨_, rfl⟩
  obtain ⟨ok, hok⟩ : ∃ ok, ok = rightB L 0 n := ⟨_, rfl⟩
  obtain ⟨y, hy⟩ : ∃ y, y = rightT M 1 n := ⟨_, rfl⟩
  obtain ⟨fine, hfine⟩ : ∃ fine, fine = rightB M 1 n := ⟨_, rfl⟩
  rw [← hx, ← hok, show ((0 : Nat) : Int) = 0 from rfl] at K1
  have K2 : ∀ w', Below w.heap.size w w' → Calls Tryz.prog 96 #[.slice b 512 e, .int .i64 1, .int .i64 (n : Int)] w' fun r w'' => r = .returned (.tuple #[.agg (slotC y), .bool fine]) ∧ Below w'.heap.size w' w'' := fun w' hw' => by
    rw [hy, hfine]
    exact rRight_any b M e 1 n w' (Seen.below hs2 hw') hl2 hb2 (by omega) hn
  rw [← hx, ← hy, ← hok, ← hfine] at hrt
  rw [← hx, ← hy, ← hok, ← hfine] at hrb
  have HRT := hide hrt
  have HRB := hide hrb
  have K1 := hide K1
  have K2 := hide K2
  have HW1 := hide hw1
  have R1 := hide R1
  have B1 := hide b1
  have Z1 := hide z1
  unfold zero5 at HW1
  unfold slotC at K1 K2
  clear hrt hrb hw1 b1 hs hl hb hs2 hl2 hb2 hn hx hok hy hfine z1
  go_enter Tryz.func89, Tryz.ntmps89
  go_wp2_with fail
  rw [← HW1.out]
  clear HW1
  refine K1.out.mono ?_
  rintro r w2 ⟨rfl, b2⟩
  obtain ⟨w3, hw3⟩ : ∃ w3, w3 = w2.alloc (.cells (slotC x) 113) := ⟨_, rfl⟩
  have X3 : SlotAt w3 w2.heap.size x := by rw [hw3]; exact Cells.new w2 (slotC x) 113
  have b3 : Below w2.heap.size w2 w3 := by rw [hw3]; exact alloc_below _ _
  have bb := bnext b2 b3 (Nat.le_refl _)
  have R3 := hide (R1.out.below bb)
  have B3 := hide (bnext B1.out bb (Nat.le_refl _))
  have X3 := hide X3
  have z2 : w.heap.size < w2.heap.size := by have := Z1.out; have := b2.size; omega
  have HW3 := hide hw3
  unfold slotC at HW3
  have KK := hide (K2.out w3 B3.out)
  clear hw3 b2 b3 bb K1 K2 R1 B1
  go_upto_region 2 with fail
  rw [← HW3.out]
  clear HW3
  go_wp2_with fail
  refine KK.out.mono ?_
  rintro r w4 ⟨rfl, b4⟩
  obtain ⟨w5, hw5⟩ : ∃ w5, w5 = w4.alloc (.cells (slotC y) 113) := ⟨_, rfl⟩
  have Y5 : SlotAt w5 w4.heap.size y := by rw [hw5]; exact Cells.new w4 (slotC y) 113
  have b5 : Below w4.heap.size w4 w5 := by rw [hw5]; exact alloc_below _ _
  have bb := bnext b4 b5 (Nat.le_refl _)
  have R5 := hide (R3.out.below bb)
  have X5 := hide (X3.out.below bb)
  have B5 := hide (bnext B3.out bb (Nat.le_refl _))
  have HW5 := hide hw5
  unfold slotC at HW5
  clear hw5 b4 b5 bb KK R3 X3 B3
  go_upto_region 3 with fail
  rw [← HW5.out]
  clear HW5
  have q0 := R5.out.at0
  have q1 := R5.out.at1
  have q2 := R5.out.at2
  have q3 := R5.out.at3
  have q4 := R5.out.at4
  have r0 := R5.out.fr 0 (by omega)
  have r1 := R5.out.fr 1 (by omega)
  have r2 := R5.out.fr 2 (by omega)
  have r3 := R5.out.fr 3 (by omega)
  have r4 := R5.out.fr 4 (by omega)
  simp only [Slot.none] at q0 q1 q2 q3 q4
  obtain ⟨x0, x1, x2, x3, x4⟩ := X5.out.five
  obtain ⟨y0, y1, y2, y3, y4⟩ := Y5.five
  have FIN : ∀ s : Slot, SlotAt (put5 w5 w.heap.size s) w.heap.size s ∧ Below w.heap.size w (put5 w5 w.heap.size s) := fun s => ⟨R5.out.put5 s, B5.out.trans ((put5_keep w5 w.heap.size s).below B5.out.size (fun k hk => by omega))⟩
  have FX := hide (FIN x)
  have FY := hide (FIN y)
  have UX := hide (show put5 w5 w.heap.size x = put5 w5 w.heap.size x from rfl)
  have UY := hide (show put5 w5 w.heap.size y = put5 w5 w.heap.size y from rfl)
  obtain ⟨px, hpx⟩ : ∃ px, px = put5 w5 w.heap.size x := ⟨_, rfl⟩
  obtain ⟨py, hpy⟩ : ∃ py, py = put5 w5 w.heap.size y := ⟨_, rfl⟩
  rw [← hpx] at FX
  rw [← hpy] at FY
  unfold put5 at hpx hpy
  have HPX := hide hpx
  have HPY := hide hpy
  clear hpx hpy FIN UX UY R5 X5 Y5 B5
  cases fine with
  | true =>
    cases ok with
    | true =>
      by_cases h : x.stamp < y.stamp
      · have g1 : (x.stamp : Int) < (y.stamp : Int) := by omega
        have FA := hide (show Ending.returned (.tuple #[.agg (slotC rt), .bool rb]) = Ending.returned (.tuple #[.agg (slotC y), .bool true]) by rw [HRT.out, HRB.out]; simp [h])
        clear h
        go_wp2_with fail
        rw [← HPY.out]
        have j0 := FY.out.1.at0
        have j1 := FY.out.1.at1
        have j2 := FY.out.1.at2
        have j3 := FY.out.1.at3
        have j4 := FY.out.1.at4
        exact bodyPost_ret (v := .tuple #[.agg (slotC y), .bool true]) (by simp [results, Tryz.results89, go_sem, j0, j1, j2, j3, j4, slotC]) rfl ⟨FA.out.symm, FY.out.2⟩
      · have g1 : ¬ (x.stamp : Int) < (y.stamp : Int) := by omega
        have FA := hide (show Ending.returned (.tuple #[.agg (slotC rt), .bool rb]) = Ending.returned (.tuple #[.agg (slotC x), .bool true]) by rw [HRT.out, HRB.out]; simp [h])
        clear h
        go_wp2_with fail
        rw [← HPX.out]
        have j0 := FX.out.1.at0
        have j1 := FX.out.1.at1
        have j2 := FX.out.1.at2
        have j3 := FX.out.1.at3
        have j4 := FX.out.1.at4
        exact bodyPost_ret (v := .tuple #[.agg (slotC x), .bool true]) (by simp [results, Tryz.results89, go_sem, j0, j1, j2, j3, j4, slotC]) rfl ⟨FA.out.symm, FX.out.2⟩
    | false =>
      have FA := hide (show Ending.returned (.tuple #[.agg (slotC rt), .bool rb]) = Ending.returned (.tuple #[.agg (slotC y), .bool true]) by rw [HRT.out, HRB.out]; simp)
      go_wp2_with fail
      rw [← HPY.out]
      have j0 := FY.out.1.at0
      have j1 := FY.out.1.at1
      have j2 := FY.out.1.at2
      have j3 := FY.out.1.at3
      have j4 := FY.out.1.at4
      exact bodyPost_ret (v := .tuple #[.agg (slotC y), .bool true]) (by simp [results, Tryz.results89, go_sem, j0, j1, j2, j3, j4, slotC]) rfl ⟨FA.out.symm, FY.out.2⟩
  | false =>
    have FA := hide (show Ending.returned (.tuple #[.agg (slotC rt), .bool rb]) = Ending.returned (.tuple #[.agg (slotC x), .bool ok]) by rw [HRT.out, HRB.out]; simp)
    go_wp2_with fail
    rw [← HPX.out]
    have j0 := FX.out.1.at0
    have j1 := FX.out.1.at1
    have j2 := FX.out.1.at2
    have j3 := FX.out.1.at3
    have j4 := FX.out.1.at4
    exact bodyPost_ret (v := .tuple #[.agg (slotC x), .bool ok]) (by simp [results, Tryz.results89, go_sem, j0, j1, j2, j3, j4, slotC]) rfl ⟨FA.out.symm, FX.out.2⟩
end Go.Proofs.YtapjbgkmcplpbaaGreat
