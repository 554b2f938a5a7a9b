import Derived.Test.YtohkmigahbellaaLaw1
namespace Go.Proofs.Ytohkmigahbellaa
open Go.RowKit Go.QK

/-! The document's device: the small calls. -/

section
variable {w : World} {S : Nat → Prop} {d : Nat} {g : Dev}
set_option maxRecDepth 100000 in
theorem rSectors_any (h : RDev w S d g) : Calls Try.prog 53 #[.pointer (some ⟨d, 0, none⟩)] w fun e w' => e = .returned (.int .i64 ((g.n : Nat) : Int)) ∧ w' = w := by
  obtain ⟨ib, ic, pv, ps, kv, tn, off, hc, hb, hp, ok⟩ := h
  obtain ⟨n, n1, n2, hn⟩ := ok.size
  obtain ⟨c0, _⟩ := hc.get 0 _ rfl
  have q := quo512 g.img.length
  have hg : g.n = n := by unfold Dev.n; omega
  have q2 : g.img.length / 512 = n := by omega
  rw [q2] at q
  rw [hg]
  generalize g.img.length = m at *
  clear hn hg q2 hb hp ok hc
  go_enter Try.func53, Try.ntmps53
  go_wp2_with fail
  go_ret
  exact ⟨rfl, rfl⟩
set_option maxRecDepth 100000 in
theorem rDown_any (h : RDev w S d g) : Calls Try.prog 57 #[.pointer (some ⟨d, 0, none⟩)] w fun e w' => e = .returned (.bool g.down) ∧ w' = w := by
  obtain ⟨ib, ic, pv, ps, kv, tn, off, hc, hb, hp, ok⟩ := h
  obtain ⟨c0, _⟩ := hc.get 2 _ rfl
  clear hb hp ok hc
  go_enter Try.func57, Try.ntmps57
  go_wp2_with fail
  go_ret
  exact ⟨rfl, rfl⟩
set_option maxRecDepth 100000 in
theorem rCalls_any (h : RDev w S d g) : Calls Try.prog 56 #[.pointer (some ⟨d, 0, none⟩)] w fun e w' => e = .returned (.int .i64 (g.calls : Int)) ∧ w' = w := by
  obtain ⟨ib, ic, pv, ps, kv, tn, off, hc, hb, hp, ok⟩ := h
  obtain ⟨c0, _⟩ := hc.get 3 _ rfl
  clear hb hp ok hc
  go_enter Try.func56, Try.ntmps56
  go_wp2_with fail
  go_ret
  exact ⟨rfl, rfl⟩
set_option maxRecDepth 100000 in
theorem rImage_any (h : RDev w S d g) : Calls Try.prog 58 #[.pointer (some ⟨d, 0, none⟩)] w fun e w' => ∃ v, e = .returned v ∧ OwnB w' w.heap.size v g.img ∧ Below w.heap.size w w' := by
  have hl := img_le h
  obtain ⟨ib, ic, pv, ps, kv, tn, off, hc, hb, hp, ok⟩ := h
  obtain ⟨c0, _⟩ := hc.get 0 _ rfl
  obtain ⟨a, cap, hv, hs, ha, hle, _⟩ := hb.img.seen
  rw [ints_length] at hle hv
  cases hv
  clear hb hp ok hc
  go_enter Try.func58, Try.ntmps58
  go_wp2_with fail
  refine (own_any _ g.img ic w hs nofun (by omega)).mono ?_
  rintro e w1 ⟨v, rfl, ho, hb⟩
  have HO := hide ho
  clear ho
  go_wp2_with fail
  go_ret
  exact ⟨v, rfl, HO.out, hb⟩
def _root_.Go.QK.Dev.there (g : Dev) (i : Int) : Bool := decide (0 ≤ i ∧ i < (g.n : Int))
theorem there_reach {g : Dev} (hd : g.down = false) (i : Int) : g.reach i = if g.there i = true then 0 else 41 := by
  unfold Dev.reach Dev.there
  rw [hd, if_neg (by decide)]
  by_cases q : 0 ≤ i ∧ i < (g.n : Int)
  · rw [if_neg (by omega), if_pos (by simpa using q)]
  · rw [if_pos (by omega), if_neg (by simpa using q)]
set_option maxRecDepth 100000 in
theorem there_any (i : Int) (h : RDev w S d g) : Calls Try.prog 63 #[.pointer (some ⟨d, 0, none⟩), .int .i64 i] w fun e w' => e = .returned (.bool (g.there i)) ∧ w' = w := by
  have hsec := hide (rSectors_any h)
  unfold Dev.there
  generalize g.n = n at *
  clear h
  by_cases hi : 0 ≤ i
  · by_cases hj : i < (n : Int)
    · rw [decide_eq_true (And.intro hi hj)]
      have hi' : decide (0 ≤ i) = true := by simpa using hi
      have hj' : decide (i < (n : Int)) = true := by simpa using hj
      clear hi hj
      go_enter Try.func63, Try.ntmps63
      go_wp2_with fail
      refine hsec.out.mono ?_
      rintro e w' ⟨rfl, rfl⟩
      go_wp2_with fail
      go_ret
      exact ⟨rfl, rfl⟩
    · rw [decide_eq_false (fun q => hj q.2)]
      have hi' : decide (0 ≤ i) = true := by simpa using hi
      have hj' : decide (i < (n : Int)) = false := by simpa using hj
      clear hi hj
      go_enter Try.func63, Try.ntmps63
      go_wp2_with fail
      refine hsec.out.mono ?_
      rintro e w' ⟨rfl, rfl⟩
      go_wp2_with fail
      go_ret
      exact ⟨rfl, rfl⟩
  · rw [decide_eq_false (fun q => hi q.1)]
    have hi' : decide (0 ≤ i) = false := by simpa using hi
    clear hi hsec
    go_enter Try.func63, Try.ntmps63
    go_wp2_with fail
    go_ret
    exact ⟨rfl, rfl⟩
end

set_option maxRecDepth 100000 in
theorem counted_at {w : World} {d calls left : Nat} {a0 a1 a2 a5 a6 a7 : Value} (h : Cells w d [a0, a1, a2, .int .i64 (calls : Int), .int .i64 (left : Int), a5, a6, a7]) (hc : calls ≤ 1000000) (hl : left ≤ 9223372036854775807) :
    Calls Try.prog 65 #[.pointer (some ⟨d, 0, none⟩)] w fun e w' => e = .returned (.bool (decide (left = 1))) ∧ Cells w' d [a0, a1, a2, .int .i64 ((calls + 1 : Nat) : Int), .int .i64 ((left - 1 : Nat) : Int), a5, a6, a7] ∧ Keep (fun j => j = d) w w' := by
  obtain ⟨c2, f2⟩ := h.get 3 _ rfl
  obtain ⟨c4, f4⟩ := h.get 4 _ rfl
  have H := hide h
  have e1 : IntKind.i64.wrap ((calls : Int) + 1) = ((calls + 1 : Nat) : Int) := by rw [IntKind.wrap_i64]; omega
  clear h
  by_cases hz : left = 0
  · subst hz
    go_enter Try.func65, Try.ntmps65
    go_wp2_with fail
    go_ret
    refine ⟨rfl, ?_, ?_⟩
    · exact H.out.stored (j := 3) (by simp) _
    · exact (Keep.refl (fun j => j = d) w).setCell (fun _ => rfl) _
  · obtain ⟨m, rfl⟩ : ∃ m, left = m + 1 := ⟨left - 1, by omega⟩
    have e2 : IntKind.i64.wrap (((m + 1 : Nat) : Int) - 1) = (m : Int) := by rw [IntKind.wrap_i64]; omega
    have e3 : (((m + 1 : Nat) : Int) == 0) = false := by simp; omega
    rw [Nat.add_sub_cancel]
    go_enter Try.func65, Try.ntmps65
    go_wp2_with fail
    go_ret
    refine ⟨?_, ?_, ?_⟩
    · show Ending.returned (Value.bool _) = _
      congr 2
      by_cases q : m = 0 <;> simp [q] <;> omega
    · exact (H.out.stored (j := 3) (by simp) _).stored (j := 4) (by simp) _
    · exact ((Keep.refl (fun j => j = d) w).setCell (fun _ => rfl) _).setCell (fun _ => rfl) _

set_option maxRecDepth 100000 in
theorem rUp_any {w : World} {S : Nat → Prop} {d : Nat} {g : Dev} (h : RDev w S d g) :
    Calls Try.prog 52 #[.pointer (some ⟨d, 0, none⟩)] w fun e w' => e = .returned (.int .i64 0) ∧ RDev w' S d g.up ∧ Keep S w w' := by
  obtain ⟨ib, ic, pv, ps, kv, tn, off, hc, hb, hp, ok⟩ := h
  obtain ⟨c2, f2⟩ := hc.get 2 _ rfl
  obtain ⟨c4, f4⟩ := hc.get 4 _ rfl
  have hdl := hc.1
  have HC := hide hc
  have HB := hide hb
  clear hc hb
  go_enter Try.func52, Try.ntmps52
  go_wp2_with fail
  go_ret
  have KD : Keep (fun j => j = d) w ((w.setCell ⟨d, 2, none⟩ (.bool false)).setCell ⟨d, 4, none⟩ (.int .i64 0)) := ((Keep.refl (fun j => j = d) w).setCell (fun _ => rfl) _).setCell (fun _ => rfl) _
  refine ⟨rfl, ⟨ib, ic, pv, ps, kv, tn, off, ?_, (HB.out.keep KD (fun _ q _ => q)).forget _ _ _, hp, ok.up⟩, KD.mono (fun j _ q => by subst q; exact HB.out.dS)⟩
  exact (HC.out.stored (j := 2) (by simp [rcs]) _).stored (j := 4) (by simp [rcs]) _
end Go.Proofs.Ytohkmigahbellaa
