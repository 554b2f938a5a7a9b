import Derived.Test.YtpddmimacjknfaaTArr
import Derived.Test.YtpddmimacjknfaaTwM
import Derived.Recover
import Derived.Defers
namespace Go.Proofs.Ytpddmimacjknfaa
open Go.RowKit Go.QK
set_option maxRecDepth 100000

/-- How a call ends that gives up: by a panic of the package's own. -/
def stopV (e : Nat) : Value := .iface 104 (.agg #[.int .i64 (e : Int)])
def pan (e : Nat) : List PanicEntry := [{ v := stopV e, recovered := false }]
/-- How a call of the package's own ends: with nothing, or given up. -/
def fin (e : Nat) : Ending := if e = 0 then .returned (.tuple #[]) else .panicked (pan e)
theorem fin_zero : fin 0 = .returned (.tuple #[]) := rfl
theorem fin_no {e : Nat} (h : e ≠ 0) : fin e = .panicked (pan e) := if_neg h

theorem giveUp_any (e : Nat) (w : World) : Calls Try.prog 31 #[.int .i64 (e : Int)] w fun x w' => x = .panicked (pan e) ∧ w' = w := by
  go_enter Try.func31, Try.ntmps31
  go_wp2_with fail
  exact ⟨rfl, rfl, rfl⟩
theorem must_no (e : Nat) (h : e ≠ 0) (w : World) : Calls Try.prog 63 #[.int .i64 (e : Int)] w fun x w' => x = .panicked (pan e) ∧ w' = w := by
  have G := hide (giveUp_any e w)
  have h' : ((e : Int) == 0) = false := by simpa using h
  have h2 : ((e : Int) != 0) = true := by simpa using h
  clear h
  go_enter Try.func63, Try.ntmps63
  go_wp2_with fail
  refine G.out.mono ?_
  rintro x w1 ⟨rfl, rfl⟩
  exact ⟨rfl, rfl, rfl⟩
theorem must_ok (w : World) : Calls Try.prog 63 #[.int .i64 0] w fun x w' => x = .returned (.tuple #[]) ∧ w' = w := by
  go_enter Try.func63, Try.ntmps63
  go_wp2_with fail
  go_end0
  exact ⟨rfl, rfl⟩
theorem run_nil (w : World) : Calls Try.prog 28 #[.pointer none] w fun x w' => x = .panicked (pan 3) ∧ w' = w := by
  have G := hide (giveUp_any 3 w)
  go_enter Try.func28, Try.ntmps28
  go_wp2_with fail
  refine G.out.mono ?_
  rintro x w1 ⟨rfl, rfl⟩
  exact ⟨rfl, rfl, rfl⟩
theorem run_down {w : World} {S : Nat → Prop} {d : Nat} {g : Dev} (h : PDev w S d g) (hd : g.down = true) : Calls Try.prog 28 #[.pointer (some ⟨d, 0, none⟩)] w fun x w' => x = .panicked (pan 40) ∧ w' = w := by
  have G := hide (giveUp_any 40 w)
  have K := down_any h
  rw [hd] at K
  go_enter Try.func28, Try.ntmps28
  go_wp2_with fail
  refine K.mono ?_
  rintro x w1 ⟨rfl, rfl⟩
  go_wp2_with fail
  refine G.out.mono ?_
  rintro x w2 ⟨rfl, rfl⟩
  exact ⟨rfl, rfl, rfl⟩
theorem run_ok {w : World} {S : Nat → Prop} {d : Nat} {g : Dev} (h : PDev w S d g) (hd : g.down = false) : Calls Try.prog 28 #[.pointer (some ⟨d, 0, none⟩)] w fun x w' => x = .returned (.tuple #[]) ∧ w' = w := by
  have K := down_any h
  rw [hd] at K
  go_enter Try.func28, Try.ntmps28
  go_wp2_with fail
  refine K.mono ?_
  rintro x w1 ⟨rfl, rfl⟩
  go_wp2_with fail
  go_end0
  exact ⟨rfl, rfl⟩
theorem n_le {w : World} {S : Nat → Prop} {d : Nat} {g : Dev} (h : PDev w S d g) : 1 ≤ g.n ∧ g.n ≤ 8192 := by
  obtain ⟨n, a, b, c⟩ := h.ok.size
  unfold Dev.n
  omega
theorem has_any {w : World} {S : Nat → Prop} {d : Nat} {g : Dev} (h : PDev w S d g) (first : Int) (count : Nat) (hc : count ≤ 3) : Calls Try.prog 62 #[.pointer (some ⟨d, 0, none⟩), .int .i64 first, .int .i64 (count : Int)] w fun x w' => x = .returned (.bool (g.has first count)) ∧ w' = w := by
  have K := sectors_any h
  obtain ⟨h1, h2⟩ := n_le h
  by_cases q : 0 ≤ first
  · have d1 : decide (first ≥ 0) = true := by simp [q]
    have d2 : decide (0 ≤ first) = true := by simp [q]
    have hh : g.has first count = decide (first ≤ (g.n : Int) - (count : Int)) := by unfold Dev.has; rw [d2, Bool.true_and]
    rw [hh]
    generalize g.n = n at *
    have e1 : IntKind.i64.wrap ((n : Int) - (count : Int)) = (n : Int) - (count : Int) := by rw [IntKind.wrap_i64]; omega
    clear hh h
    go_enter Try.func62, Try.ntmps62
    go_wp2_with fail
    refine K.mono ?_
    rintro x w1 ⟨rfl, rfl⟩
    go_wp2_with fail
    go_ret
    exact ⟨rfl, rfl⟩
  · have d1 : decide (first ≥ 0) = false := by simp; omega
    have d2 : decide (0 ≤ first) = false := by simp; omega
    have hh : g.has first count = false := by unfold Dev.has; rw [d2, Bool.false_and]
    rw [hh]
    clear hh h
    go_enter Try.func62, Try.ntmps62
    go_wp2_with fail
    go_ret
    exact ⟨rfl, rfl⟩
theorem mayTwin_any {w : World} {S : Nat → Prop} {d : Nat} {g : Dev} (h : PDev w S d g) (at_ : Int) : Calls Try.prog 29 #[.pointer (some ⟨d, 0, none⟩), .int .i64 at_] w fun x w' => x = .returned (.bool (g.has at_ 3)) ∧ w' = w := by
  have K := has_any h at_ 3 (Nat.le_refl _)
  go_enter Try.func29, Try.ntmps29
  go_wp2_with fail
  refine K.mono ?_
  rintro x w1 ⟨rfl, rfl⟩
  go_wp2_with fail
  go_ret
  exact ⟨rfl, rfl⟩
theorem mayPage_any {w : World} {S : Nat → Prop} {d : Nat} {g : Dev} (h : PDev w S d g) (at_ : Int) : Calls Try.prog 36 #[.pointer (some ⟨d, 0, none⟩), .int .i64 at_] w fun x w' => x = .returned (.bool (g.has at_ 2)) ∧ w' = w := by
  have K := has_any h at_ 2 (by omega)
  go_enter Try.func36, Try.ntmps36
  go_wp2_with fail
  refine K.mono ?_
  rintro x w1 ⟨rfl, rfl⟩
  go_wp2_with fail
  go_ret
  exact ⟨rfl, rfl⟩
theorem has_num {w : World} {S : Nat → Prop} {d : Nat} {g : Dev} (h : PDev w S d g) {x : Int} {c : Nat} (q : g.has x c = true) : 0 ≤ x ∧ x + c ≤ g.n ∧ x ≤ 8192 := by
  obtain ⟨h1, h2⟩ := n_le h
  unfold Dev.has at q
  simp at q
  omega
/-- Asked of a twin that may be. -/
theorem mayHome_any {w : World} {S : Nat → Prop} {d : Nat} {g : Dev} (h : PDev w S d g) (at_ hm : Int) (ha : g.has at_ 3 = true) : Calls Try.prog 30 #[.pointer (some ⟨d, 0, none⟩), .int .i64 at_, .int .i64 hm] w fun x w' => x = .returned (.bool (g.homeB at_ hm)) ∧ w' = w := by
  have K := mayPage_any h hm
  obtain ⟨a1, a2, a3⟩ := has_num h ha
  cases q : g.has hm 2 with
  | false =>
    have hh : g.homeB at_ hm = false := by unfold Dev.homeB; rw [q, Bool.false_and]
    rw [hh]
    rw [q] at K
    clear hh h a1 a2 a3 ha q
    go_enter Try.func30, Try.ntmps30
    go_wp2_with fail
    refine K.mono ?_
    rintro x w1 ⟨rfl, rfl⟩
    go_wp2_with fail
    go_ret
    exact ⟨rfl, rfl⟩
  | true =>
    obtain ⟨b1, b2, b3⟩ := has_num h q
    have hh : g.homeB at_ hm = (decide (hm + 2 ≤ at_) || decide (at_ + 3 ≤ hm)) := by unfold Dev.homeB; rw [q, Bool.true_and]
    rw [hh]
    rw [q] at K
    have e1 : IntKind.i64.wrap (hm + 2) = hm + 2 := by rw [IntKind.wrap_i64]; omega
    have e2 : IntKind.i64.wrap (at_ + 3) = at_ + 3 := by rw [IntKind.wrap_i64]; omega
    clear hh h a1 a2 a3 ha q b1 b2 b3
    by_cases r : hm + 2 ≤ at_
    · have d1 : decide (hm + 2 ≤ at_) = true := by simp [r]
      rw [d1, Bool.true_or]
      go_enter Try.func30, Try.ntmps30
      go_wp2_with fail
      refine K.mono ?_
      rintro x w1 ⟨rfl, rfl⟩
      go_wp2_with fail
      go_ret
      exact ⟨rfl, rfl⟩
    · have d1 : decide (hm + 2 ≤ at_) = false := by simp; omega
      rw [d1, Bool.false_or]
      go_enter Try.func30, Try.ntmps30
      go_wp2_with fail
      refine K.mono ?_
      rintro x w1 ⟨rfl, rfl⟩
      go_wp2_with fail
      go_ret
      exact ⟨rfl, rfl⟩
/-- A sector that is the disk's, of a disk that runs. -/
theorem read1_any {w : World} {S : Nat → Prop} {d : Nat} {g : Dev} (h : PDev w S d g) (i : Nat) (hd : g.down = false) (hi : i < g.n) (hpl : g.pend.length ≤ 1000000) :
    Calls Try.prog 41 #[.pointer (some ⟨d, 0, none⟩), .int .i64 (i : Int)] w fun x w' => ∃ gb cap, x = .returned (.slice (some ⟨gb, 0, none⟩) 512 cap) ∧ OwnB w' w.heap.size (.slice (some ⟨gb, 0, none⟩) 512 cap) (g.content i) ∧ (g.content i).length = 512 ∧ Below w.heap.size w w' := by
  have hr : g.reach (i : Int) = 0 := by unfold Dev.reach; rw [hd, if_neg (by simp), if_neg (by omega)]
  have hR := Dev.reach_ok h.ok hr
  have hlen : (g.content i).length = 512 := content_len h.ok _ (by have := hR.2.2.1; simpa using this)
  have hrb : g.readB (i : Int) = g.content i := by unfold Dev.readB; rw [if_pos hr]; simp
  have KR := read_any h (i : Int) hpl
  rw [hr, hrb] at KR
  have KM := fun w => must_ok w
  have HL := hide hlen
  generalize g.content i = L at *
  clear hr hR hrb h hlen
  go_enter Try.func41, Try.ntmps41
  go_wp2_with fail
  refine KR.mono ?_
  rintro e w4 ⟨v4, rfl, o4, b4⟩
  obtain ⟨gb, cap, rfl, hcap, _, hgb⟩ := o4.form (by rw [ints_length, HL.out]; omega)
  rw [ints_length, HL.out] at o4 ⊢
  have O4 := hide o4
  have B4 := hide b4
  clear o4 b4 KR hcap hgb
  go_wp2_with fail
  refine (KM w4).mono ?_
  rintro e w5 ⟨rfl, rfl⟩
  go_wp2_with fail
  go_ret
  exact ⟨gb, cap, rfl, O4.out, HL.out, B4.out⟩
end Go.Proofs.Ytpddmimacjknfaa
