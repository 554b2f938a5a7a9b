import Derived.Test.YtpddmimacjknfaaTw1
namespace Go.Proofs.Ytpddmimacjknfaa
open Go.RowKit Go.QK
set_option maxRecDepth 100000

theorem write_len {g : Dev} {i : Int} {b : List Nat} : (g.write i b).pend.length ≤ g.pend.length + 1 ∧ (g.write i b).calls ≤ g.calls + 1 := by
  unfold Dev.write
  split
  · exact ⟨Nat.le_succ _, Nat.le_succ _⟩
  · split
    · unfold Dev.crashes
      split
      · exact ⟨by simp [Dev.fall], by simp [Dev.fall, Dev.strike, Dev.push]⟩
      · exact ⟨by simp [Dev.strike, Dev.push], by simp [Dev.strike, Dev.push]⟩
    · exact ⟨by simp [Dev.strike, Dev.push], by simp [Dev.strike, Dev.push]⟩
theorem sync_len {g : Dev} : g.sync.pend.length ≤ g.pend.length ∧ g.sync.calls ≤ g.calls + 1 := by
  unfold Dev.sync
  split
  · exact ⟨Nat.le_refl _, Nat.le_succ _⟩
  · split
    · unfold Dev.crashes
      split
      · exact ⟨by simp [Dev.fall], by simp [Dev.fall, Dev.strike]⟩
      · exact ⟨by simp [Dev.strike], by simp [Dev.strike]⟩
    · exact ⟨by simp [Dev.settle], by simp [Dev.settle, Dev.strike]⟩
theorem puts_len : (ws : List (Nat × List Nat)) → (g : Dev) → (putsD ws g).pend.length ≤ g.pend.length + ws.length ∧ (putsD ws g).calls ≤ g.calls + ws.length + 1
  | [], g => by have := sync_len (g := g); exact ⟨by simpa [putsD] using this.1, by simpa [putsD] using this.2⟩
  | p :: ps, g => by
    have h1 := write_len (g := g) (i := (p.1 : Int)) (b := p.2)
    have h2 := puts_len ps (g.write (p.1 : Int) p.2)
    unfold putsD
    rw [List.length_cons]
    split <;> omega
theorem putsE_cons (p : Nat × List Nat) (ps : List (Nat × List Nat)) (g : Dev) : putsE (p :: ps) g = if g.writeE (p.1 : Int) p.2.length ≠ 0 then g.writeE (p.1 : Int) p.2.length else putsE ps (g.write (p.1 : Int) p.2) := rfl
theorem putsD_cons (p : Nat × List Nat) (ps : List (Nat × List Nat)) (g : Dev) : putsD (p :: ps) g = if g.writeE (p.1 : Int) p.2.length ≠ 0 then g.write (p.1 : Int) p.2 else putsD ps (g.write (p.1 : Int) p.2) := rfl
theorem puts_one (at_ : Nat) (m : List Nat) (g : Dev) : putsE [(at_, m)] g = (if g.writeE (at_ : Int) m.length ≠ 0 then g.writeE (at_ : Int) m.length else (g.write (at_ : Int) m).syncE) ∧ putsD [(at_, m)] g = (if g.writeE (at_ : Int) m.length ≠ 0 then g.write (at_ : Int) m else (g.write (at_ : Int) m).sync) := ⟨rfl, rfl⟩

set_option maxHeartbeats 2000000 in
theorem layMarker_any {w : World} {S : Nat → Prop} {d : Nat} {g : Dev} (h : PDev w S d g) (at_ : Nat) (m : List Nat) (hm : m.length = 512) (hb : AllB m) (hpl : g.pend.length ≤ 999998) (hcl : g.calls ≤ 999998) :
    Calls Try.prog 33 #[.pointer (some ⟨d, 0, none⟩), .int .i64 (at_ : Int), .agg (bytesV m)] w fun e w' => ∃ S', e = fin (putsE [(at_, m)] g) ∧ PDev w' S' d (putsD [(at_, m)] g) ∧ Step w S w' S' := by
  obtain ⟨w1, hw1⟩ : ∃ w1, w1 = w.alloc (.cells (bytesV m) 76) := ⟨_, rfl⟩
  have b1 : Below w.heap.size w w1 := by rw [hw1]; exact alloc_below _ _
  have a1 : Arr w1 76 w.heap.size m := by rw [hw1]; exact Arr.new w 76 m
  have P1 := h.below b1
  have KW := write_any P1 (at_ : Int) (some ⟨w.heap.size, 0, none⟩) m 512 a1.seen (by omega) nofun hb (by omega) (by omega) (by omega)
  obtain ⟨q1, q2⟩ := puts_one at_ m g
  have hwl := write_len (g := g) (i := (at_ : Int)) (b := m)
  obtain ⟨PE, hPE⟩ : ∃ x, x = putsE [(at_, m)] g := ⟨_, rfl⟩
  obtain ⟨PD, hPD⟩ : ∃ x, x = putsD [(at_, m)] g := ⟨_, rfl⟩
  rw [← hPE, ← hPD]
  rw [← hPE] at q1
  rw [← hPD] at q2
  generalize g.writeE (at_ : Int) m.length = ee at *
  generalize g.write (at_ : Int) m = g2 at *
  rw [hm] at KW
  have KW := hide KW
  have SL := fun w' => slice_arr w.heap.size w'
  have HW := hide hw1
  have B1 := hide b1
  have M0 := fun w => must_ok w
  have M1 := hide (fun e h w => must_no e h w)
  have Q1 := hide q1
  have Q2 := hide q2
  have HWL := hide hwl
  clear hw1 h P1 b1 a1 hm hb q1 q2 hwl hPE hPD
  go_enter Try.func33, Try.ntmps33
  go_upto_region 1 with fail
  rw [← HW.out]
  clear HW
  go_wp2_with fail
  refine KW.out.mono ?_
  rintro e w2 ⟨S2, rfl, p2, s2⟩
  have ST := hide ((Step.of_below (S := S) B1.out).trans s2)
  have P2 := hide p2
  clear KW p2 s2 SL
  by_cases he : ee = 0
  · subst he
    have hQ1 := Q1.out
    have hQ2 := Q2.out
    rw [if_neg (by simp)] at hQ1 hQ2
    have KS := sync_any P2.out (by have := HWL.out.1; omega) (by have := HWL.out.2; omega)
    rw [← hQ1, ← hQ2] at KS
    clear hQ1 hQ2 Q1 Q2 P2
    go_wp2_with fail
    refine (M0 w2).mono ?_
    rintro e w3 ⟨rfl, rfl⟩
    go_wp2_with fail
    refine KS.mono ?_
    rintro e w4 ⟨rfl, p4, k4⟩
    have ST4 := hide (ST.out.trans ⟨k4, fun _ q => .inl q⟩)
    have P4 := hide p4
    clear KS p4 k4 ST
    by_cases hp : PE = 0
    · subst hp
      go_wp2_with fail
      refine (M0 w4).mono ?_
      rintro e w5 ⟨rfl, rfl⟩
      go_wp2_with fail
      go_end0
      exact ⟨S2, rfl, P4.out, ST4.out⟩
    · have HP := hide hp
      clear hp
      go_wp2_with fail
      refine (M1.out PE HP.out w4).mono ?_
      rintro e w5 ⟨rfl, rfl⟩
      exact ⟨rfl, S2, (fin_no HP.out).symm, P4.out, ST4.out⟩
  · have hQ1 := Q1.out
    have hQ2 := Q2.out
    rw [if_pos he] at hQ1 hQ2
    have HP := hide he
    rw [← hQ2] at P2
    have HQ1 := hide hQ1
    clear he Q1 Q2 hQ2 hQ1
    go_wp2_with fail
    refine (M1.out ee HP.out w2).mono ?_
    rintro e w5 ⟨rfl, rfl⟩
    exact ⟨rfl, S2, by rw [HQ1.out]; exact (fin_no HP.out).symm, P2.out, ST.out⟩

theorem sub_bytes {w : World} {k o : Nat} {b : List Nat} (hs : Bytes w (some ⟨k, o, none⟩) b) (j n : Nat) (hn : j + n ≤ b.length) (hn0 : 1 ≤ n) : Bytes w (some ⟨k, o + j, none⟩) ((b.drop j).take n) := by
  obtain ⟨b0, o0, e0, hk, _⟩ := hs.at (i := 0) (by omega)
  cases e0
  refine .inr ⟨k, o + j, rfl, hk, fun i hi => ?_⟩
  have hi' : i < n := by simp at hi; omega
  obtain ⟨b1, o1, e1, _, hc⟩ := hs.at (i := j + i) (by omega)
  cases e1
  rw [Nat.add_assoc, hc, ints_getD]
  simp [hi', List.getElem?_drop]
/-- How the writing of a page's halves stands: j of them are written. -/
structure Lp (w : World) (S : Nat → Prop) (d : Nat) (g : Dev) (ws : List (Nat × List Nat)) (wr : World) (j : Nat) (S' : Nat → Prop) (g' : Dev) : Prop where
  le : j ≤ 2
  eqE : putsE ws g = putsE (ws.drop j) g'
  eqD : putsD ws g = putsD (ws.drop j) g'
  dev : PDev wr S' d g'
  st : Step w S wr S'
  pl : g'.pend.length ≤ g.pend.length + j
  cl : g'.calls ≤ g.calls + j
theorem half_drop (b : List Nat) (first j : Nat) (hb : b.length = 1024) (hj : j < 2) : ([(first, b.take 512), (first + 1, b.drop 512)] : List (Nat × List Nat)).drop j = (first + j, (b.drop (512 * j)).take 512) :: ([(first, b.take 512), (first + 1, b.drop 512)] : List (Nat × List Nat)).drop (j + 1) := by
  rcases j with _ | _ | j
  · simp
  · simp
    rw [List.take_of_length_le (by simp; omega)]
  · omega
theorem wrap_small (z : Int) (h : -9000000 ≤ z ∧ z ≤ 9000000) : IntKind.i64.wrap z = z := by rw [IntKind.wrap_i64]; omega
set_option maxHeartbeats 4000000 in
theorem layPage_any {w : World} {S : Nat → Prop} {d : Nat} {g : Dev} (h : PDev w S d g) (first k o c : Nat) (b : List Nat) (hs : Bytes w (some ⟨k, o, none⟩) b) (hS : ¬ S k) (hl : b.length = 1024) (hc : 1024 ≤ c) (hb : AllB b) (hf : first ≤ 1000000) (hpl : g.pend.length ≤ 999990) (hcl : g.calls ≤ 999990) :
    Calls Try.prog 32 #[.pointer (some ⟨d, 0, none⟩), .int .i64 (first : Int), .slice (some ⟨k, o, none⟩) 1024 c] w fun e w' => ∃ S', e = fin (putsE [(first, b.take 512), (first + 1, b.drop 512)] g) ∧ PDev w' S' d (putsD [(first, b.take 512), (first + 1, b.drop 512)] g) ∧ Step w S w' S' := by
  have HD := fun j (hj : j < 2) => half_drop b first j hl hj
  obtain ⟨ws, hws⟩ : ∃ ws : List (Nat × List Nat), ws = [(first, b.take 512), (first + 1, b.drop 512)] := ⟨_, rfl⟩
  rw [← hws]
  rw [← hws] at HD
  have hwl : ws.length = 2 := by rw [hws]; rfl
  obtain ⟨PE, hPE⟩ : ∃ x, x = putsE ws g := ⟨_, rfl⟩
  obtain ⟨PD, hPD⟩ : ∃ x, x = putsD ws g := ⟨_, rfl⟩
  rw [← hPE, ← hPD]
  have HI : Lp w S d g ws w 0 S g := ⟨by omega, rfl, rfl, h, Step.refl _ _, by omega, by omega⟩
  have hkl : k < w.heap.size := by
    obtain ⟨b0, o0, e0, hk, _⟩ := hs.at (i := 0) (by omega)
    cases e0
    exact hk
  have HS := hide hs
  have M0 := fun w => must_ok w
  have M1 := hide (fun e h w => must_no e h w)
  have HPE := hide hPE
  have HPD := hide hPD
  have HHD := hide HD
  have HWL := hide hwl
  have HL := hide hl
  have HB := hide hb
  clear hs hPE hPD HD hws h hwl hl hb
  go_enter Try.func32, Try.ntmps32
  go_wp2_with fail
  go_loopw [7] (fun i wr => ∃ (j : Nat) (S' : Nat → Prop) (g' : Dev), i = .int .i64 (j : Int) ∧ Lp w S d g ws wr j S' g') (fun i _ => (3 - (intOf i).toNat))
  case atStart => exact ⟨0, S, g, rfl, HI⟩
  case round =>
    obtain ⟨j, S', g', rfl, hst⟩ := hrel
    have HST := hide hst
    have hle := hst.le
    have hpl' := hst.pl
    have hcl' := hst.cl
    clear hst HI
    by_cases hlt : j < 2
    · have hd : decide ((j : Int) < 2) = true := by simp; omega
      have hk' : ¬ S' k := fun q => by
        rcases HST.out.st.2 k q with r | r
        · exact hS r
        · omega
      have hsr : Bytes wr (some ⟨k, o, none⟩) b := HS.out.keep HST.out.st.1 (fun ad e => by cases e; exact hS)
      have hsub := sub_bytes hsr (512 * j) 512 (by rw [HL.out]; omega) (by omega)
      have hhl : ((b.drop (512 * j)).take 512).length = 512 := by simp; rw [HL.out]; omega
      have KW := write_any HST.out.dev ((first + j : Nat) : Int) (some ⟨k, o + 512 * j, none⟩) ((b.drop (512 * j)).take 512) (c - 512 * j) hsub (by rw [hhl]; omega) nofun ((HB.out.drop _).take _) (by omega) (by omega) (by omega)
      have hwl := write_len (g := g') (i := ((first + j : Nat) : Int)) (b := (b.drop (512 * j)).take 512)
      have qE := HST.out.eqE
      have qD := HST.out.eqD
      rw [HHD.out j hlt] at qE qD
      rw [putsE_cons] at qE
      rw [putsD_cons] at qD
      simp only at qE qD
      rw [hhl] at KW qE qD
      generalize (b.drop (512 * j)).take 512 = hb2 at *
      generalize g'.writeE ((first + j : Nat) : Int) 512 = ee at *
      generalize g'.write ((first + j : Nat) : Int) hb2 = g2 at *
      obtain ⟨u, hu⟩ : ∃ u : Nat, u = 512 * j := ⟨_, rfl⟩
      have e1 : IntKind.i64.wrap ((first : Int) + (j : Int)) = ((first + j : Nat) : Int) := by rw [wrap_small _ (by omega)]; simp
      have e2 : IntKind.i64.wrap (512 * (j : Int)) = (u : Int) := by rw [wrap_small _ (by omega)]; omega
      have e3 : IntKind.i64.wrap ((j : Int) + 1) = ((j + 1 : Nat) : Int) := by rw [wrap_small _ (by omega)]; simp
      have e4 : IntKind.i64.wrap (512 * ((j + 1 : Nat) : Int)) = ((u + 512 : Nat) : Int) := by rw [wrap_small _ (by omega)]; omega
      rw [← hu] at KW
      have hu1 : u ≤ 512 := by omega
      have KW := hide KW
      have QE := hide qE
      have QD := hide qD
      have HU := hide hu
      have HWL2 := hide hwl
      have KW2 := KW.out
      rw [show ((first + j : Nat) : Int) = (first : Int) + (j : Int) by simp] at KW2
      clear hsub hsr hu hwl qE qD hhl KW
      go_wp2_with fail
      rw [show 512 * (j + 1) - u = 512 by have := HU.out; omega]
      refine KW2.mono ?_
      rintro e w2 ⟨S2, rfl, p2, s2⟩
      have ST := hide (HST.out.st.trans s2)
      have P2 := hide p2
      clear KW2 p2 s2
      by_cases he : ee = 0
      · subst he
        have hQ1 := QE.out
        have hQ2 := QD.out
        rw [if_neg (by simp)] at hQ1 hQ2
        have NXT := hide (show Lp w S d g ws w2 (j + 1) S2 g2 from ⟨by omega, hQ1, hQ2, P2.out, ST.out, by have := HWL2.out.1; omega, by have := HWL2.out.2; omega⟩)
        clear hQ1 hQ2 QE QD P2 ST HWL2 e2 e4
        go_wp2_with fail
        refine (M0 w2).mono ?_
        rintro e w3 ⟨rfl, rfl⟩
        go_wp2_with fail
        go_roundw
        case rel => exact ⟨j + 1, S2, g2, by go_num, NXT.out⟩
        case measure => simp [intOf]; omega
      · have hQ1 := QE.out
        have hQ2 := QD.out
        rw [if_pos he] at hQ1 hQ2
        have HP := hide he
        rw [← hQ2] at P2
        have HQ1 := hide hQ1
        clear he QE QD hQ2 hQ1 HWL2 e2 e4
        go_wp2_with fail
        refine (M1.out ee HP.out w2).mono ?_
        rintro e w5 ⟨rfl, rfl⟩
        exact ⟨rfl, S2, by rw [HPE.out, HQ1.out]; exact (fin_no HP.out).symm, by rw [HPD.out]; exact P2.out, ST.out⟩
    · have hd : decide ((j : Int) < 2) = false := by simp; omega
      obtain rfl : j = 2 := by omega
      have KS := sync_any HST.out.dev (by omega) (by omega)
      have qE := HST.out.eqE
      have qD := HST.out.eqD
      have hdn : ws.drop 2 = [] := List.drop_of_length_le (by rw [HWL.out]; omega)
      rw [hdn] at qE qD
      rw [show g'.syncE = PE by rw [HPE.out, qE]; rfl, show g'.sync = PD by rw [HPD.out, qD]; rfl] at KS
      have ST := hide HST.out.st
      clear qE qD hdn HST hpl' hcl'
      go_wp2_with fail
      refine KS.mono ?_
      rintro e w4 ⟨rfl, p4, k4⟩
      have ST4 := hide (ST.out.trans ⟨k4, fun _ q => .inl q⟩)
      have P4 := hide p4
      clear KS p4 k4 ST
      by_cases hp : PE = 0
      · subst hp
        go_wp2_with fail
        refine (M0 w4).mono ?_
        rintro e w5 ⟨rfl, rfl⟩
        go_wp2_with fail
        go_end0
        exact ⟨S', rfl, P4.out, ST4.out⟩
      · have HP := hide hp
        clear hp
        go_wp2_with fail
        refine (M1.out PE HP.out w4).mono ?_
        rintro e w5 ⟨rfl, rfl⟩
        exact ⟨rfl, S', (fin_no HP.out).symm, P4.out, ST4.out⟩
end Go.Proofs.Ytpddmimacjknfaa
