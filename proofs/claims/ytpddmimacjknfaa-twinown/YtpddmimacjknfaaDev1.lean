import Derived.Test.YtpddmimacjknfaaLeaf
import Derived.Test.YtpddmimacjknfaaTake
namespace Go.Proofs.Ytpddmimacjknfaa
open Go.RowKit Go.QK

theorem hide {p : Prop} (h : p) : Hid p := h
def ptrAt (p : Nat) : Value := .pointer (some ⟨p, 0, none⟩)
theorem quo512 (p : Nat) : (p : Int).tdiv 512 = ((p / 512 : Nat) : Int) := by rw [Int.tdiv_eq_ediv_of_nonneg (by omega)]; omega

section
variable {w : World} {S : Nat → Prop} {d : Nat} {g : Dev}
set_option maxRecDepth 100000 in
theorem sectors_any (h : PDev w S d g) : Calls Try.prog 82 #[.pointer (some ⟨d, 0, none⟩)] w fun e w' => e = .returned (.int .i64 ((g.n : Nat) : Int)) ∧ w' = w := by
  obtain ⟨ib, ic, pv, ps, kv, to, off, hc, hb, hp, ok⟩ := h
  obtain ⟨n, n1, n2, hn⟩ := ok.size
  obtain ⟨c0, _⟩ := hc.get 0 _ rfl
  have q := quo512 g.img.length
  have hg : g.n = n := by unfold Dev.n; omega
  have q2 : g.img.length / 512 = n := by omega
  rw [q2] at q
  rw [hg]
  generalize g.img.length = m at *
  clear hn hg q2 hb hp ok hc
  go_enter Try.func82, Try.ntmps82
  go_wp2_with fail
  go_ret
  exact ⟨rfl, rfl⟩
set_option maxRecDepth 100000 in
theorem down_any (h : PDev w S d g) : Calls Try.prog 18 #[.pointer (some ⟨d, 0, none⟩)] w fun e w' => e = .returned (.bool g.down) ∧ w' = w := by
  obtain ⟨ib, ic, pv, ps, kv, to, off, hc, hb, hp, ok⟩ := h
  obtain ⟨c0, _⟩ := hc.get 3 _ rfl
  clear hb hp ok hc
  go_enter Try.func18, Try.ntmps18
  go_wp2_with fail
  go_ret
  exact ⟨rfl, rfl⟩
set_option maxRecDepth 100000 in
theorem calls_any (h : PDev w S d g) : Calls Try.prog 19 #[.pointer (some ⟨d, 0, none⟩)] w fun e w' => e = .returned (.int .i64 (g.calls : Int)) ∧ w' = w := by
  obtain ⟨ib, ic, pv, ps, kv, to, off, hc, hb, hp, ok⟩ := h
  obtain ⟨c0, _⟩ := hc.get 2 _ rfl
  clear hb hp ok hc
  go_enter Try.func19, Try.ntmps19
  go_wp2_with fail
  go_ret
  exact ⟨rfl, rfl⟩
theorem img_le {cs : Value → Value → Dev → Value → Int → Int → List Value} (h : DevAt cs w S d g) : g.img.length ≤ 4194304 := by
  obtain ⟨ib, ic, pv, ps, kv, to, off, hc, hb, hp, ok⟩ := h
  obtain ⟨n, n1, n2, hn⟩ := ok.size
  omega
set_option maxRecDepth 100000 in
theorem image_any (h : PDev w S d g) : Calls Try.prog 60 #[.pointer (some ⟨d, 0, none⟩)] w fun e w' => ∃ v, e = .returned v ∧ OwnB w' w.heap.size v g.img ∧ Below w.heap.size w w' := by
  have hl := img_le h
  obtain ⟨ib, ic, pv, ps, kv, to, off, hc, hb, hp, ok⟩ := h
  obtain ⟨c0, _⟩ := hc.get 0 _ rfl
  obtain ⟨a, cap, hv, hs, ha, hle, _⟩ := hb.img.seen
  rw [ints_length] at hle hv
  cases hv
  clear hb hp ok hc
  go_enter Try.func60, Try.ntmps60
  go_wp2_with fail
  refine (clone_any _ g.img ic w hs hle nofun (by omega)).mono ?_
  rintro e w1 ⟨v, rfl, ho, hb⟩
  have HO := hide ho
  clear ho
  go_wp2_with fail
  go_ret
  exact ⟨v, rfl, HO.out, hb⟩
set_option maxRecDepth 100000 in
theorem reach_any (i : Int) (h : PDev w S d g) : Calls Try.prog 74 #[.pointer (some ⟨d, 0, none⟩), .int .i64 i] w fun e w' => e = .returned (.int .i64 ((g.reach i : Nat) : Int)) ∧ w' = w := by
  have hsec := hide (sectors_any h)
  obtain ⟨ib, ic, pv, ps, kv, to, off, hc, hb, hp, ok⟩ := h
  obtain ⟨c3, _⟩ := hc.get 3 _ rfl
  clear hb hp ok hc
  unfold Dev.reach
  by_cases hd : g.down = true
  · rw [hd] at c3
    rw [if_pos hd]
    clear hsec
    go_enter Try.func74, Try.ntmps74
    go_wp2_with fail
    go_ret
    exact ⟨rfl, rfl⟩
  · rw [if_neg hd]
    simp only [Bool.not_eq_true] at hd
    rw [hd] at c3
    generalize g.n = n at *
    by_cases hi : i < 0
    · rw [if_pos (Or.inl hi)]
      clear hsec
      go_enter Try.func74, Try.ntmps74
      go_wp2_with fail
      go_ret
      exact ⟨rfl, rfl⟩
    · by_cases hj : (n : Int) ≤ i
      · rw [if_pos (Or.inr hj)]
        have hi' : decide (i < 0) = false := by simpa using hi
        clear hi
        go_enter Try.func74, Try.ntmps74
        go_wp2_with fail
        refine hsec.out.mono ?_
        rintro e w' ⟨rfl, rfl⟩
        go_wp2_with fail
        go_ret
        exact ⟨rfl, rfl⟩
      · rw [if_neg (by omega)]
        have hi' : decide (i < 0) = false := by simpa using hi
        have hj' : decide ((n : Int) ≤ i) = false := by simpa using hj
        clear hi hj
        go_enter Try.func74, Try.ntmps74
        go_wp2_with fail
        refine hsec.out.mono ?_
        rintro e w' ⟨rfl, rfl⟩
        go_wp2_with fail
        go_ret
        exact ⟨rfl, rfl⟩
end

set_option maxRecDepth 100000 in
/-- The image's cell of a device: what 'durable' reads. -/
theorem durable_at {w : World} {d ib m ic : Nat} (i : Nat) (c0 : w.cell? ⟨d, 0, none⟩ = some (.slice (some ⟨ib, 0, none⟩) m ic)) (hi : 512 * i + 512 ≤ m) (hm : m ≤ ic) (hl : m ≤ 4194304) :
    Calls Try.prog 86 #[.pointer (some ⟨d, 0, none⟩), .int .i64 (i : Int)] w fun e w' => e = .returned (.slice (some ⟨ib, 512 * i, none⟩) 512 (ic - 512 * i)) ∧ w' = w := by
  have e1 : IntKind.i64.wrap ((i : Int) * 512) = ((512 * i : Nat) : Int) := by rw [IntKind.wrap_i64]; omega
  have e2 : IntKind.i64.wrap (((i : Int) + 1) * 512) = ((512 * i + 512 : Nat) : Int) := by rw [IntKind.wrap_i64]; omega
  have e3 : IntKind.i64.wrap ((i : Int) + 1) = (i : Int) + 1 := by rw [IntKind.wrap_i64]; omega
  generalize 512 * i = u at *
  go_enter Try.func86, Try.ntmps86
  go_wp2_with fail
  go_ret
  exact ⟨by simp, rfl⟩
end Go.Proofs.Ytpddmimacjknfaa
