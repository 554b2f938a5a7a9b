import Derived.Test.YtapjbgkmcplpbaaStand
namespace Go.Proofs.Ytapjbgkmcplpbaa
open Go.RowKit Go.QK

theorem Dev.write_len {g : Dev} {i : Int} {b : List Nat} : (g.write i b).pend.length ≤ g.pend.length + 1 ∧ (g.write i b).calls ≤ g.calls + 1 := by
  unfold Dev.write
  split
  · exact ⟨Nat.le_succ _, Nat.le_succ _⟩
  · split
    · unfold Dev.crashes
      split
      · exact ⟨by simp [Dev.fall], by simp [Dev.fall, Dev.strike, Dev.push]⟩
      · exact ⟨by simp [Dev.strike, Dev.push], by simp [Dev.strike, Dev.push]⟩
    · exact ⟨by simp [Dev.strike, Dev.push], by simp [Dev.strike, Dev.push]⟩
theorem Dev.sync_len {g : Dev} : g.sync.pend.length ≤ g.pend.length ∧ g.sync.calls ≤ g.calls + 1 := by
  unfold Dev.sync
  split
  · exact ⟨Nat.le_refl _, Nat.le_succ _⟩
  · split
    · unfold Dev.crashes
      split
      · exact ⟨by simp [Dev.fall], by simp [Dev.fall, Dev.strike]⟩
      · exact ⟨by simp [Dev.strike], by simp [Dev.strike]⟩
    · exact ⟨by simp [Dev.settle], by simp [Dev.settle, Dev.strike]⟩
theorem Dev.put_len {g : Dev} {i : Int} {b : List Nat} : (g.putD i b).pend.length ≤ g.pend.length + 1 ∧ (g.putD i b).calls ≤ g.calls + 2 := by
  have h := @Dev.write_len g i b
  have k := @Dev.sync_len (g.write i b)
  unfold Dev.putD
  split
  · omega
  · omega

set_option maxHeartbeats 1000000 in
set_option maxRecDepth 100000 in
theorem put_any {w : World} {S : Nat → Prop} {d : Nat} {g : Dev} (h : PDev w S d g) (i : Int) (b : List Nat) (hl : b.length = 512) (hb : AllB b) (hpl : g.pend.length ≤ 999999) (hcl : g.calls ≤ 999999) :
    Calls Try.prog 53 #[.pointer (some ⟨d, 0, none⟩), .int .i64 i, .agg (bytesV b)] w fun e w' => ∃ S', e = .returned (.int .i64 ((g.putE i b : Nat) : Int)) ∧ PDev w' S' d (g.putD i b) ∧ Step w S w' S' := by
  obtain ⟨w1, hw1⟩ : ∃ w1, w1 = w.alloc (.cells (bytesV b) 91) := ⟨_, rfl⟩
  have A1 : Arr w1 91 w.heap.size b := by rw [hw1]; exact Arr.new w 91 b
  have b1 : Below w.heap.size w w1 := by rw [hw1]; exact alloc_below _ _
  have P1 := h.below b1
  have SL := fun w' => slice_arr w.heap.size w'
  have K := write_any P1 i (some ⟨w.heap.size, 0, none⟩) b 512 A1.seen (by omega) nofun hb (by omega) hpl (by omega)
  have ln := @Dev.write_len g i b
  unfold Dev.putE Dev.putD
  rw [hl] at K ⊢
  have K := hide K
  have HW := hide hw1
  have LN := hide ln
  have B1 := hide b1
  have HP := hide (h.lt)
  clear hw1 P1 A1 b1 ln h hl hb
  by_cases q : g.writeE i 512 = 0
  · rw [if_neg (not_not_intro q), if_neg (not_not_intro q)]
    rw [q] at K
    go_enter Try.func53, Try.ntmps53
    go_wp2_with fail
    rw [← HW.out]
    clear HW
    refine K.out.mono ?_
    rintro e w2 ⟨S2, rfl, P2, st2⟩
    have KS := hide (sync_any P2 (by have := LN.out; omega) (by have := LN.out; omega))
    have ST := hide st2
    clear K P2 st2 SL
    go_wp2_with fail
    refine KS.out.mono ?_
    rintro e w3 ⟨rfl, P3, k3⟩
    go_wp2_with fail
    go_ret
    exact ⟨S2, rfl, P3, (Step.of_below B1.out).trans (ST.out.trans (Step.of_keep k3))⟩
  · rw [if_pos q, if_pos q]
    have q' : (((g.writeE i 512 : Nat) : Int) == 0) = false := by simpa using q
    have q2 : (((g.writeE i 512 : Nat) : Int) != 0) = true := by simpa using q
    generalize g.writeE i 512 = ee at *
    clear q
    go_enter Try.func53, Try.ntmps53
    go_wp2_with fail
    rw [← HW.out]
    clear HW
    refine K.out.mono ?_
    rintro e w2 ⟨S2, rfl, P2, st2⟩
    have ST := hide st2
    have HP2 := hide P2
    clear K P2 st2 SL
    go_wp2_with fail
    go_ret
    exact ⟨S2, rfl, HP2.out, (Step.of_below B1.out).trans ST.out⟩
end Go.Proofs.Ytapjbgkmcplpbaa
