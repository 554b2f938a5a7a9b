import Derived.Test.YtapjbgkmcplpbaaGreatG12
namespace Go.Proofs.YtapjbgkmcplpbaaGreat
open Go.RowKit Go.QK

/-! The document's device: the small calls. -/

section
variable {w : World} {S : Nat → Prop} {d : Nat} {g : Dev}
set_option maxRecDepth 100000 in
theorem rSectors_any (h : RDev w S d g) : Calls Tryz.prog 74 #[.pointer (some ⟨d, 0, none⟩)] w fun e w' => e = .returned (.int .i64 ((g.n : Nat) : Int)) ∧ w' = w := by
  obtain ⟨ib, ic, pv, ps, kv, tn, off, hc, hb, hp, ok⟩ := h
  obtain ⟨n, n1, n2, hn⟩ := ok.size
  obtain ⟨c0, _⟩ := hc.get 0 _ rfl
  have q := quo512 g.img.length
  have hg : g.n = n := by unfold Dev.n; omega
  have q2 : g.img.length / 512 = n := by omega
  rw [q2] at q
  rw [hg]
  generalize g.img.length = m at *
  clear hn hg q2 hb hp ok hc
  go_enter Tryz.func74, Tryz.ntmps74
  go_wp2_with fail
  go_ret
  exact ⟨rfl, rfl⟩
set_option maxRecDepth 100000 in
theorem rDown_any (h : RDev w S d g) : Calls Tryz.prog 36 #[.pointer (some ⟨d, 0, none⟩)] w fun e w' => e = .returned (.bool g.down) ∧ w' = w := by
  obtain ⟨ib, ic, pv, ps, kv, tn, off, hc, hb, hp, ok⟩ := h
  obtain ⟨c0, _⟩ := hc.get 2 _ rfl
  clear hb hp ok hc
  go_enter Tryz.func36, Tryz.ntmps36
  go_wp2_with fail
  go_ret
  exact ⟨rfl, rfl⟩
set_option maxRecDepth 100000 in
theorem rCalls_any (h : RDev w S d g) : Calls Tryz.prog 38 #[.pointer (some ⟨d, 0, none⟩)] w fun e w' => e = .returned (.int .i64 (g.calls : Int)) ∧ w' = w := by
  obtain ⟨ib, ic, pv, ps, kv, tn, off, hc, hb, hp, ok⟩ := h
  obtain ⟨c0, _⟩ := hc.get 3 _ rfl
  clear hb hp ok hc
  go_enter Tryz.func38, Tryz.ntmps38
  go_wp2_with fail
  go_ret
  exact ⟨rfl, rfl⟩
set_option maxRecDepth 100000 in
theorem rImage_any (h : RDev w S d g) : Calls Tryz.prog 40 #[.pointer (some ⟨d, 0, none⟩)] w fun e w' => ∃ v, e = .returned v ∧ OwnB w' w.heap.size v g.img ∧ Below w.heap.size w w' := by
  have hl := img_le h
  obtain ⟨ib, ic, pv, ps, kv, tn, off, hc, hb, hp, ok⟩ := h
  obtain ⟨c0, _⟩ := hc.get 0 _ rfl
  obtain ⟨a, cap, hv, hs, ha, hle, _⟩ := hb.img.seen
  rw [ints_length] at hle hv
  cases hv
  clear hb hp ok hc
  go_enter Tryz.func40, Tryz.ntmps40
  go_wp2_with fail
  refine (own_any _ g.img ic w hs nofun (by omega)).mono ?_
  rintro e w1 ⟨v, rfl, ho, hb⟩
  have HO := hide ho
  clear ho
  go_wp2_with fail
  go_ret
  exact ⟨v, rfl, HO.out, hb⟩
def _root_.Go.QK.Dev.there (g : Dev) (i : Int) : Bool := decide (0 ≤ i ∧ i < (g.n : Int))
theorem there_reach {g : Dev} (hd : g.down = false) (i : Int) : g.reach i = if g.there i = true then 0 else 41 := by
  unfold Dev.reach Dev.there
  rw [hd, if_neg (by decide)]
  by_cases q : 0 ≤ i ∧ i < (g.n : Int)
  · rw [if_neg (by omega), if_pos (by simpa using q)]
  · rw [if_pos (by omega), if_neg (by simpa using q)]
set_option maxRecDepth 100000 in
theorem there_any (i : Int) (h : RDev w S d g) : Calls Tryz.prog 83 #[.pointer (some ⟨d, 0, none⟩), .int .i64 i] w fun e w' => e = .returned (.bool (g.there i)) ∧ w' = w := by
  have hsec := hide (rSectors_any h)
  unfold Dev.there
  generalize g.n = n at *
  clear h
  by_cases hi : 0 ≤ i
  · by_cases hj : i < (n : Int)
    · rw [decide_eq_true (And.intro hi hj)]
      have hi' : decide (0 ≤ i) = true := by simpa using hi
      have hj' : decide (i < (n : Int)) = true := by simpa using hj
      clear hi hj
      go_enter Tryz.func83, Tryz.ntmps83
      go_wp2_with fail
      refine hsec.out.mono ?_
      rintro e w' ⟨rfl, rfl⟩
      go_wp2_with fail
      go_ret
      exact ⟨rfl, rfl⟩
    · rw [decide_eq_false (fun q => hj q.2)]
      have hi' : decide (0 ≤ i) = true := by simpa using hi
      have hj' : decide (i < (n : Int)) = false := by simpa using hj
      clear hi hj
      go_enter Tryz.func83, Tryz.ntmps83
      go_wp2_with fail
      refine hsec.out.mono ?_
      rintro e w' ⟨rfl, rfl⟩
      go_wp2_with fail
      go_ret
      exact ⟨rfl, rfl⟩
  · rw [decide_eq_false (fun q => hi q.1)]
    have hi' : decide (0 ≤ i) = false := by simpa using hi
    clear hi hsec
    go_enter Tryz.func83, Tryz.ntmps83
    go_wp2_with fail
    go_ret
    exact ⟨rfl, rfl⟩
end

set_option maxRecDepth 100000 in
theorem counted_at {w : World} {d calls left : Nat} {a0 a1 a2 a5 a6 a7 : Value} (h : Cells w d [a0, a1, a2, .int .i64 (calls : Int), .int .i64 (left : Int), a5, a6, a7]) (hc : calls ≤ 1000000) (hl : left ≤ 9223372036854775807) :
    Calls Tryz.prog 61 #[.pointer (some ⟨d, 0, none⟩)] w fun e w' => e = .returned (.bool (decide (left = 1))) ∧ Cells w' d [a0, a1, a2, .int .i64 ((calls + 1 : Nat) : Int), .int .i64 ((left - 1 : Nat) : Int), a5, a6, a7] ∧ Keep (fun j => j = d) w w' := by
  obtain ⟨c2, f2⟩ := h.get 3 _ rfl
  obtain ⟨c4, f4⟩ := h.get 4 _ rfl
  have H := hide h
  have e1 : IntKind.i64.wrap ((calls : Int) + 1) = ((calls + 1 : Nat) : Int) := by rw [IntKind.wrap_i64]; omega
  clear h
  by_cases hz : left = 0
  · subst hz
    go_enter Tryz.func61, Tryz.ntmps61
    go_wp2_with fail
    go_ret
    refine ⟨rfl, ?_, ?_⟩
    · exact H.out.stored (j := 3) (by simp) _
    · exact (Keep.refl (fun j => j = d) w).setCell (fun _ => rfl) _
  · obtain ⟨m, rfl⟩ : ∃ m, left = m + 1 := ⟨left - 1, by omega⟩
    have e2 : IntKind.i64.wrap (((m + 1 : Nat) : Int) - 1) = (m : Int) := by rw [IntKind.wrap_i64]; omega
    have e3 : (((m + 1 : Nat) : Int) == 0) = false := by simp; omega
    rw [Nat.add_sub_cancel]
    go_enter Tryz.func61, Tryz.ntmps61
    go_wp2_with fail
    go_ret
    refine ⟨?_, ?_, ?_⟩
    · show Ending.returned (Value.bool _) = _
      congr 2
      by_cases q : m = 0 <;> simp [q] <;> omega
    · exact (H.out.stored (j := 3) (by simp) _).stored (j := 4) (by simp) _
    · exact ((Keep.refl (fun j => j = d) w).setCell (fun _ => rfl) _).setCell (fun _ => rfl) _

set_option maxRecDepth 100000 in
theorem rUp_any {w : World} {S : Nat → Prop} {d : Nat} {g : Dev} (h : RDev w S d g) :
    Calls Tryz.prog 31 #[.pointer (some ⟨d, 0, none⟩)] w fun e w' => e = .returned (.int .i64 0) ∧ RDev w' S d g.up ∧ Keep S w w' := by
  obtain ⟨ib, ic, pv, ps, kv, tn, off, hc, hb, hp, ok⟩ := h
  obtain ⟨c2, f2⟩ := hc.get 2 _ rfl
  obtain ⟨c4, f4⟩ := hc.get 4 _ rfl
  have hdl := hc.1
  have HC := hide hc
  have HB := hide hb
  clear hc hb
  go_enter Tryz.func31, Tryz.ntmps31
  go_wp2_with fail
  go_ret
  have KD : Keep (fun j => j = d) w ((w.setCell ⟨d, 2, none⟩ (.bool false)).setCell ⟨d, 4, none⟩ (.int .i64 0)) := ((Keep.refl (fun j => j = d) w).setCell (fun _ => rfl) _).setCell (fun _ => rfl) _
  refine ⟨rfl, ⟨ib, ic, pv, ps, kv, tn, off, ?_, (HB.out.keep KD (fun _ q _ => q)).forget _ _ _, hp, ok.up⟩, KD.mono (fun j _ q => by subst q; exact HB.out.dS)⟩
  exact (HC.out.stored (j := 2) (by simp [rcs]) _).stored (j := 4) (by simp [rcs]) _
end Go.Proofs.YtapjbgkmcplpbaaGreat

namespace Go.Proofs.YtapjbgkmcplpbaaGreat
open Go.RowKit Go.QK

theorem lay_len {img b : List Nat} {s n : Nat} (hb : b.length = 512) (hs : 512 * s + 512 ≤ img.length) : (lay img s b n).length = img.length := by
  unfold lay
  rw [length_splice _ _ _ (by simp; omega)]
theorem lay_zero (img : List Nat) (s : Nat) (b : List Nat) : lay img s b 0 = img := by
  unfold lay Go.splice
  simp
theorem lay_all {img b : List Nat} {s n : Nat} (hb : b.length = 512) (hn : 512 ≤ n) : lay img s b n = lay img s b 512 := by
  unfold lay
  rw [List.take_of_length_le (by omega), List.take_of_length_le (by omega)]
theorem lay_step {img b : List Nat} {s k : Nat} (hb : b.length = 512) (hk : k < 512) (hs : 512 * s + 512 ≤ img.length) : (lay img s b k).set (512 * s + k) (b.getD k 0) = lay img s b (k + 1) := by
  unfold lay Go.splice
  have e1 : (b.take k).length = k := by simp; omega
  have e2 : (b.take (k + 1)).length = k + 1 := by simp; omega
  have e3 : (img.take (512 * s)).length = 512 * s := by simp; omega
  rw [e1, e2, List.set_append_right _ _ (by omega), e3, Nat.add_sub_cancel_left, List.set_append_right _ _ (by omega), e1, Nat.sub_self]
  have e4 : img.drop (512 * s + k) = img[512 * s + k]'(by omega) :: img.drop (512 * s + (k + 1)) := by rw [List.drop_eq_getElem_cons (by omega)]; rfl
  rw [e4, List.set_cons_zero, take_snoc b k (by omega)]
  have e5 : b.getD k 0 = b[k]'(by omega) := by simp [show k < b.length by omega]
  rw [e5]
  simp only [List.append_assoc, List.singleton_append]

set_option maxHeartbeats 1000000 in
set_option maxRecDepth 100000 in
theorem lay_at {w : World} {d ib ic k c s n : Nat} {img b : List Nat} (c0 : w.cell? ⟨d, 0, none⟩ = some (.slice (some ⟨ib, 0, none⟩) img.length ic)) (hd : d < w.heap.size) (hdi : d ≠ ib) (hi : OwnB w 0 (.slice (some ⟨ib, 0, none⟩) img.length ic) img)
    (hb : Bytes w (some ⟨k, 0, none⟩) b) (hki : k ≠ ib) (hbl : b.length = 512) (hs : 512 * s + 512 ≤ img.length) (hm : img.length ≤ 4194304) :
    Calls Tryz.prog 62 #[.pointer (some ⟨d, 0, none⟩), .agg #[.int .i64 (s : Int), .slice (some ⟨k, 0, none⟩) 512 c], .int .i64 (n : Int)] w fun e w' => (∃ v, e = .returned v) ∧ OwnB w' 0 (.slice (some ⟨ib, 0, none⟩) img.length ic) (lay img s b n) ∧ Keep (fun j => j = ib) w w' := by
  have hib : ib < w.heap.size := (World.ownsRow.lt hi ib rfl).2
  have B0 := alloc_below w (.cells #[.int .i64 (s : Int), .slice (some ⟨k, 0, none⟩) 512 c] 98)
  have k0 : (w.alloc (.cells #[.int .i64 (s : Int), .slice (some ⟨k, 0, none⟩) 512 c] 98)).cell? ⟨w.heap.size, 0, none⟩ = some (.int .i64 (s : Int)) := by rw [World.cell?_alloc_new]; rfl
  have k1 : (w.alloc (.cells #[.int .i64 (s : Int), .slice (some ⟨k, 0, none⟩) 512 c] 98)).cell? ⟨w.heap.size, 1, none⟩ = some (.slice (some ⟨k, 0, none⟩) 512 c) := by rw [World.cell?_alloc_new]; rfl
  have K0 := ((B0.cell (p := ⟨d, 0, none⟩) hd).trans c0 : (w.alloc (.cells #[.int .i64 (s : Int), .slice (some ⟨k, 0, none⟩) 512 c] 98)).cell? ⟨d, 0, none⟩ = _)
  have OI := hide ((Owns.below hi B0 : OwnB (w.alloc (.cells #[.int .i64 (s : Int), .slice (some ⟨k, 0, none⟩) 512 c] 98)) 0 _ img))
  have BS := hide (Seen.below hb B0 : Bytes (w.alloc (.cells #[.int .i64 (s : Int), .slice (some ⟨k, 0, none⟩) 512 c] 98)) (some ⟨k, 0, none⟩) b)
  have KW0 := hide (Keep.of_below (S := fun j => j = ib) B0)
  have Z0 : (w.alloc (.cells #[.int .i64 (s : Int), .slice (some ⟨k, 0, none⟩) 512 c] 98)).heap.size = w.heap.size + 1 := by simp
  obtain ⟨W0, hW0⟩ : ∃ W0, W0 = w.alloc (.cells #[.int .i64 (s : Int), .slice (some ⟨k, 0, none⟩) 512 c] 98) := ⟨_, rfl⟩
  rw [← hW0] at k0 k1 K0 OI BS KW0 Z0
  have HW0 := hide hW0.symm
  clear hW0 c0 hi hb B0
  have e1 : IntKind.i64.wrap ((s : Int) * 512) = ((512 * s : Nat) : Int) := by rw [IntKind.wrap_i64]; omega
  go_enter Tryz.func62, Tryz.ntmps62
  go_wp2_with fail
  rw [HW0.out]
  go_loopw [6] (fun j wr => ∃ q : Nat, q ≤ n ∧ q ≤ 512 ∧ j = .int .i64 (q : Int) ∧ OwnB wr 0 (.slice (some ⟨ib, 0, none⟩) img.length ic) (lay img s b q) ∧ Keep (fun j => j = ib) W0 wr) (fun j _ => 512 - (intOf j).toNat)
  case atStart => exact ⟨0, Nat.zero_le _, by omega, rfl, by rw [lay_zero]; exact OI.out, Keep.refl _ _⟩
  case round =>
    obtain ⟨q, hq, hq5, rfl, hown, hkeep⟩ := hrel
    by_cases hlt : q < n ∧ q < 512
    · obtain ⟨h1, h2⟩ := hlt
      have h1' : (q : Int) < (n : Int) := by omega
      have h2' : (q : Int) < 512 := by omega
      have x0 := (hkeep.cell (p := ⟨w.heap.size, 0, none⟩) (by show w.heap.size < _; omega) (by show w.heap.size ≠ _; omega)).trans k0
      have x1 := (hkeep.cell (p := ⟨w.heap.size, 1, none⟩) (by show w.heap.size < _; omega) (by show w.heap.size ≠ _; omega)).trans k1
      have x2 := (hkeep.cell (p := ⟨d, 0, none⟩) (by show d < _; omega) hdi).trans K0
      have bs := Seen.keep BS.out hkeep (fun ad had => by cases had; exact hki)
      obtain ⟨b1, off1, hab, hb1, hcell⟩ := Bytes.at bs (i := q) (by omega)
      cases hab
      rw [Nat.zero_add] at hcell
      have hin : 512 * s + q < (ints (lay img s b q)).length := by rw [ints_length, lay_len hbl hs]; omega
      obtain ⟨b2, off2, hab, hb2, hc2⟩ := Seen.at (Owns.seen_at hown) hin
      cases hab
      rw [Nat.zero_add] at hc2
      obtain ⟨z, hz⟩ : ∃ z, wr.cell? ⟨ib, 512 * s + q, none⟩ = some (.int .u8 z) := ⟨_, hc2⟩
      clear hc2
      have hfz := Owns.frozen hown (512 * s + q)
      have ST := hide (lay_step (img := img) (b := b) (s := s) (k := q) hbl h2 hs)
      have HO := hide hown
      have HK := hide hkeep
      have e2 : IntKind.i64.wrap (((512 * s : Nat) : Int) + (q : Int)) = ((512 * s + q : Nat) : Int) := by rw [IntKind.wrap_i64]; omega
      have hlen : 512 * s + q < img.length := by omega
      clear hown hkeep bs hin
      generalize b.getD q 0 = y at *
      generalize hU : 512 * s + q = u at *
      generalize 512 * s = v at *
      generalize hM : img.length = m at *
      have HM := hide hM
      have HU := hide hU
      clear hM hU
      go_upto_region 4 with fail
      go_region
      go_wp2_with fail
      go_roundw
      case rel =>
        refine ⟨q + 1, by omega, by omega, by go_num, ?_, (HK.out.setCell (fun _ => rfl) _).drew⟩
        have := Owns.stored HO.out u (y : Int)
        rw [← ints_set, ST.out] at this
        exact this
      case measure => simp [intOf]; omega
    · have hex : lay img s b q = lay img s b n := by
        rcases Nat.lt_or_ge q n with h | h
        · obtain rfl : q = 512 := by omega
          exact (lay_all hbl (by omega)).symm
        · obtain rfl : q = n := by omega
          rfl
      rw [hex] at hown
      have HO := hide hown
      have HK := hide (KW0.out.trans hkeep (fun _ _ q => q))
      clear hown hkeep hex
      by_cases h1 : (q : Int) < (n : Int)
      · have h2 : ¬ (q : Int) < 512 := by omega
        go_wp2_with fail
        go_end0
        exact ⟨⟨_, rfl⟩, HO.out, HK.out⟩
      · go_wp2_with fail
        go_end0
        exact ⟨⟨_, rfl⟩, HO.out, HK.out⟩
end Go.Proofs.YtapjbgkmcplpbaaGreat
