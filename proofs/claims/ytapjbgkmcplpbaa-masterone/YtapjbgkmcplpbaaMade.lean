import Derived.Test.YtapjbgkmcplpbaaSmall
namespace Go.QK
open Go.RowKit

/-- A disk that Format has made and Points have changed: its master, and what stands in the other sector. -/
structure Made (g : Dev) (p l f k last : Nat) : Prop where
  still : Still g
  n : g.n = 5 + 2 * p + l
  mst : g.master = ⟨k, p, l, f, last⟩
  k1 : 1 ≤ k
  old : Old (sector g.img ((k + 1) % 2)) k
  calls : g.calls ≤ 4 + 2 * k
theorem Made.ne {g : Dev} {p l f k last : Nat} (h : Made g p l f k last) : g.master ≠ Slot.none := by
  intro q
  have := congrArg Slot.stamp q
  rw [h.mst] at this
  have := h.k1
  simp [Slot.none] at *
  omega
theorem Made.point {g : Dev} {p l f k last : Nat} (h : Made g p l f k last) (hk : k ≤ 1000) (x : Nat) (hx : x ≤ 2147483647) :
    g.pointE (x : Int) = 0 ∧ Made (g.pointD (x : Int)) p l f (k + 1) x := by
  have hl : lsnN (x : Int) := by unfold lsnN; omega
  have hs : g.master.stamp = k := by rw [h.mst]
  obtain ⟨e1, e2, e3, e4, e5⟩ := h.still.point h.ne (by omega) (by rw [h.n]; omega) hl
  have st := Dev.master_stands h.ne
  refine ⟨e1, ⟨e3, by rw [e5, h.n], ?_, by omega, ?_, ?_⟩⟩
  · rw [e4, h.mst]
    simp [Slot.next]
  · rw [e2, hs, h.mst]
    show Old (sector (lay g.img ((k + 1) % 2) _ 512) ((k + 1 + 1) % 2)) (k + 1)
    have sz := h.still.size
    rw [sector_lay_other _ _ _ _ _ (by rw [sz, h.n]; omega) (by rw [sz, h.n]; omega) (slotB_length _) (Nat.le_refl _) (by omega)]
    have hc := st.2.2.1
    rw [h.still.content, hs] at hc
    rw [show (k + 1 + 1) % 2 = k % 2 by omega, hc, h.mst]
    have f := st.1.fit
    rw [h.mst] at f
    exact Old.slot f
  · rw [e2]
    show g.calls + 2 ≤ _
    have := h.calls
    omega
theorem Made.first {g : Dev} (h : Still g) (hc : g.calls = 0) {p l f : Nat} (hf : fitsN p l f g.n) : g.formatE p l f = 0 ∧ Made (g.formatD p l f) p l f 1 0 := by
  obtain ⟨e1, e2, e3, e4, e5, e6⟩ := h.format hf
  have hn := hf.2
  refine ⟨e1, ⟨e3, by rw [e5]; omega, by rw [e4]; simp [firstS], by omega, ?_, ?_⟩⟩
  · show Old (sector _ 0) 1
    rw [e6]
    exact Old.zeros
  · rw [e2]
    show g.calls + 2 + 2 ≤ _
    omega
end Go.QK
namespace Go.Proofs.Ytapjbgkmcplpbaa
open Go.RowKit Go.QK

/-- What 'formatted' answers. -/
def Fmt (p l f : Nat) (w : World) (e : Ending) (w' : World) : Prop := ∃ (d k last : Nat) (S : Nat → Prop) (g : Dev), e = .returned (.tuple #[.pointer (some ⟨d, 0, none⟩), .int .i64 (last : Int), .bool true]) ∧ Made g p l f k last ∧ k ≤ 21 ∧ PDev w' S d g ∧ (∀ b, S b → w.heap.size ≤ b) ∧ Below w.heap.size w w'

set_option maxHeartbeats 4000000 in
set_option maxRecDepth 100000 in
theorem formatted_any (p l f : Nat) (hm : mayN (p : Int) (l : Int) (f : Int)) (a : Option Addr) (xs : List Int) (c : Nat) (w : World) (hs : Seen .i64 w a xs) (_hc : xs.length ≤ c) (_hcm : c ≤ maxLen) :
    Calls Try.prog 16 #[.agg (shC p l f), .slice a xs.length c] w (Fmt p l f w) := by
  obtain ⟨w1, hw1⟩ : ∃ w1, w1 = w.alloc (.cells #[.int .i64 (p : Int), .int .i64 (l : Int), .int .i64 (f : Int)] 23) := ⟨_, rfl⟩
  have b1 : Below w.heap.size w w1 := by rw [hw1]; exact alloc_below _ _
  have C1 : cell3 w1 w.heap.size p l f := by rw [hw1]; exact cell3.new w p l f
  have hm' := hm
  unfold mayN at hm'
  have K1 := need_any (p : Int) (l : Int) (f : Int) w1
  rw [show needN p l f = ((5 + 2 * p + l : Nat) : Int) from by unfold needN; rw [if_pos hm]; omega, show mayE p l f = 0 from if_pos hm] at K1
  have K2 := fun w' => new_ok (5 + 2 * p + l) w' (by omega) (by omega)
  obtain ⟨n0c, n0n⟩ := new_calm (5 + 2 * p + l) (by omega) (by omega)
  obtain ⟨fE, M1⟩ := Made.first n0c rfl (p := p) (l := l) (f := f) ⟨hm, by rw [n0n]; omega⟩
  obtain ⟨n, hn⟩ : ∃ n, n = 5 + 2 * p + l := ⟨_, rfl⟩
  rw [← hn] at K1 K2 fE M1
  have hn1 : n ≤ 8192 := by omega
  unfold shC at K1 ⊢
  have NU := hide (fun e w' => num_any e w')
  have K1 := hide K1
  have K2 := hide K2
  have HW := hide hw1
  have C1 := hide C1
  have B1 := hide b1
  have M1 := hide M1
  have HS := hide hs
  clear hw1 b1 n0c n0n hn hs hm hm'
  unfold maxLen at _hcm
  go_enter Try.func16, Try.ntmps16
  go_wp2_with fail
  rw [← HW.out]
  clear HW
  refine K1.out.mono ?_
  rintro e w2 ⟨rfl, b2⟩
  have C2 := hide (C1.out.below b2)
  have B2 := hide (bnext B1.out b2 (Nat.le_refl _))
  clear b2 C1 B1 K1
  go_wp2_with fail
  refine (K2.out w2).mono ?_
  rintro e w3 ⟨d, S3, rfl, P3, far3, b3⟩
  have C3 := hide (C2.out.below b3)
  have B3 := hide (bnext B2.out b3 (Nat.le_refl _))
  have LO3 := hide (show ∀ b, S3 b → w.heap.size < b from fun b hb => by have := far3 b hb; have := C2.out.1; omega)
  have KF := Format_any P3 p l f (by show 0 ≤ _; omega) (by show 0 ≤ _; omega)
  rw [fE] at KF
  unfold shC at KF
  have KF := hide KF
  clear b3 far3 C2 B2 K2 P3 fE
  have c0 := C3.out.c0
  have c1 := C3.out.c1
  have c2 := C3.out.c2
  go_wp2_with fail
  refine (NU.out 0 w3).mono ?_
  rintro e w' ⟨rfl, hw⟩
  obtain rfl : w3 = w' := hw.symm
  go_wp2_with fail
  refine (NU.out 0 w3).mono ?_
  rintro e w' ⟨rfl, hw⟩
  obtain rfl : w3 = w' := hw.symm
  go_wp2_with fail
  refine KF.out.mono ?_
  rintro e w4 ⟨S4, v4, rfl, e4, P4, st4⟩
  obtain rfl := e4.none
  have B4 : Below w.heap.size w w4 := B3.out.trans (st4.1.below (by have := C3.out.1; omega) (fun k hk q => by have := LO3.out _ q; omega))
  have LO4 : ∀ b, S4 b → w.heap.size ≤ b := fun b hb => by
    rcases st4.2 b hb with q | q
    · have := LO3.out b q; omega
    · have := C3.out.1; omega
  clear c0 c1 c2 C3 B3 LO3 KF e4 st4
  go_wp2_with fail
  go_loopw [11, 12] (fun la i wr => ∃ (j k last : Nat) (S : Nat → Prop) (g : Dev), i = .int .i64 (j : Int) ∧ j ≤ xs.length ∧ j ≤ 20 ∧ la = .int .i64 (last : Int) ∧ Made g p l f k last ∧ k ≤ j + 1 ∧ PDev wr S d g ∧ (∀ b, S b → w.heap.size ≤ b) ∧ Below w.heap.size w wr) (fun _ i _ => 20 - (intOf i).toNat)
  case atStart => exact ⟨0, 1, 0, S4, _, rfl, by omega, by omega, rfl, M1.out, by omega, P4, LO4, B4⟩
  case round =>
    obtain ⟨j, k, last, S, g, rfl, hj1, hj2, rfl, hM, hk, hP, hlo, hB⟩ := hrel
    have hM := hide hM
    have hP := hide hP
    have hlo := hide hlo
    have hB := hide hB
    clear P4 LO4 B4 M1
    by_cases q1 : j < xs.length
    · by_cases q2 : j < 20
      · have q1' : (j : Int) < (xs.length : Int) := by omega
        have q2' : (j : Int) < 20 := by omega
        obtain ⟨b, off, rfl, hbl, hcell⟩ := Seen.at (Seen.below HS.out hB.out) q1
        obtain ⟨x, hx⟩ : ∃ x, x = xs[j] := ⟨_, rfl⟩
        rw [← hx] at hcell
        clear hx
        by_cases x1 : x < 0
        · go_wp2_with fail
          go_roundw
          case rel => exact ⟨j + 1, k, last, S, g, by go_num, by omega, by omega, rfl, hM.out, by omega, hP.out, hlo.out, hB.out⟩
          case measure => simp [intOf]; omega
        · by_cases x2 : 2147483647 < x
          · go_wp2_with fail
            go_roundw
            case rel => exact ⟨j + 1, k, last, S, g, by go_num, by omega, by omega, rfl, hM.out, by omega, hP.out, hlo.out, hB.out⟩
            case measure => simp [intOf]; omega
          · obtain ⟨y, rfl⟩ : ∃ y : Nat, x = (y : Int) := ⟨x.toNat, by omega⟩
            obtain ⟨pE, M2⟩ := hM.out.point (by omega) y (by omega)
            have cl := hM.out.calls
            have KP := Point_any hP.out (y : Int) (by rw [hM.out.still.pend]; decide) (by omega)
            rw [pE] at KP
            have KP := hide KP
            have M2 := hide M2
            have x2' : ¬ (2147483647 : Int) < (y : Int) := x2
            have x1' : ¬ (y : Int) < 0 := x1
            clear pE cl
            go_wp2_with fail
            refine KP.out.mono ?_
            rintro e w5 ⟨S5, v5, rfl, e5, P5, st5⟩
            obtain rfl := e5.none
            have B5 := hide (hB.out.trans (st5.1.below hB.out.size (fun k hk q => by have := hlo.out _ q; omega)))
            have LO5 := hide (show ∀ b, S5 b → w.heap.size ≤ b from fun b hb => by
              rcases st5.2 b hb with q | q
              · exact hlo.out b q
              · have := hB.out.size; omega)
            have P5 := hide P5
            have SN := Seen.at (Seen.below HS.out B5.out) q1
            obtain ⟨b', off', hab, _, hcell'⟩ := SN
            simp only [Option.some.injEq, Addr.mk.injEq] at hab
            obtain ⟨rfl, rfl, _⟩ := hab
            have hc5 : w5.cell? ⟨b, off + j, none⟩ = some (.int .i64 (y : Int)) := by
              have hr := Seen.at (Seen.below HS.out hB.out) q1
              obtain ⟨b2, off2, hab2, _, hc2⟩ := hr
              simp only [Option.some.injEq, Addr.mk.injEq] at hab2
              obtain ⟨rfl, rfl, _⟩ := hab2
              rw [hcell']
              rw [hcell] at hc2
              exact hc2.symm
            clear KP e5 st5 hcell hcell' hP hB hlo hM
            go_wp2_with fail
            go_roundw
            case rel => exact ⟨j + 1, k + 1, y, S5, _, by go_num, by omega, by omega, rfl, M2.out, by omega, P5.out, LO5.out, B5.out⟩
            case measure => simp [intOf]; omega
      · have q1' : (j : Int) < (xs.length : Int) := by omega
        have q2' : ¬ (j : Int) < 20 := by omega
        go_wp2_with fail
        exact bodyPost_ret (v := .tuple #[.pointer (some ⟨d, 0, none⟩), .int .i64 (last : Int), .bool true]) (by simp [results, Try.results16, go_sem]) rfl ⟨d, k, last, S, g, rfl, hM.out, by omega, hP.out, hlo.out, hB.out⟩
    · have q1' : ¬ (j : Int) < (xs.length : Int) := by omega
      go_wp2_with fail
      exact bodyPost_ret (v := .tuple #[.pointer (some ⟨d, 0, none⟩), .int .i64 (last : Int), .bool true]) (by simp [results, Try.results16, go_sem]) rfl ⟨d, k, last, S, g, rfl, hM.out, by omega, hP.out, hlo.out, hB.out⟩
end Go.Proofs.Ytapjbgkmcplpbaa
