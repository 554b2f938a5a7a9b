import Derived.Test.YtpddmimacjknfaaDev3
namespace Go.Proofs.Ytpddmimacjknfaa
open Go.RowKit Go.QK

set_option maxRecDepth 100000 in
theorem disarm_at {w : World} {d : Nat} {a0 a1 a2 a3 a4 a5 a6 a7 : Value} (h : Cells w d [a0, a1, a2, a3, a4, a5, a6, a7]) :
    Calls Try.prog 38 #[.pointer (some ⟨d, 0, none⟩)] w fun e w' => (∃ v, e = .returned v) ∧ Cells w' d [a0, a1, a2, a3, .int .i64 0, .slice none 0 0, .int .i64 0, .int .i64 0] ∧ Keep (fun j => j = d) w w' := by
  obtain ⟨c4, f4⟩ := h.get 4 _ rfl
  obtain ⟨c5, f5⟩ := h.get 5 _ rfl
  obtain ⟨c6, f6⟩ := h.get 6 _ rfl
  obtain ⟨c7, f7⟩ := h.get 7 _ rfl
  have H := hide h
  clear h
  go_enter Try.func38, Try.ntmps38
  go_wp2_with fail
  go_end0
  refine ⟨⟨_, rfl⟩, ?_, ?_⟩
  · exact (((H.out.stored (j := 4) (by simp) _).stored (j := 5) (by simp) _).stored (j := 6) (by simp) _).stored (j := 7) (by simp) _
  · exact ((((Keep.refl (fun j => j = d) w).setCell (fun _ => rfl) _).setCell (fun _ => rfl) _).setCell (fun _ => rfl) _).setCell (fun _ => rfl) _

set_option maxRecDepth 100000 in
theorem strikes_at {w : World} {d calls left : Nat} {a0 a1 a3 a5 a6 a7 : Value} (h : Cells w d [a0, a1, .int .i64 (calls : Int), a3, .int .i64 (left : Int), a5, a6, a7]) (hc : calls ≤ 1000000) (hl : left ≤ 9223372036854775807) :
    Calls Try.prog 76 #[.pointer (some ⟨d, 0, none⟩)] w fun e w' => e = .returned (.bool (decide (left = 1))) ∧ Cells w' d [a0, a1, .int .i64 ((calls + 1 : Nat) : Int), a3, .int .i64 ((left - 1 : Nat) : Int), a5, a6, a7] ∧ Keep (fun j => j = d) w w' := by
  obtain ⟨c2, f2⟩ := h.get 2 _ rfl
  obtain ⟨c4, f4⟩ := h.get 4 _ rfl
  have H := hide h
  have e1 : IntKind.i64.wrap ((calls : Int) + 1) = ((calls + 1 : Nat) : Int) := by rw [IntKind.wrap_i64]; omega
  clear h
  by_cases hz : left = 0
  · subst hz
    go_enter Try.func76, Try.ntmps76
    go_wp2_with fail
    go_ret
    refine ⟨rfl, ?_, ?_⟩
    · exact H.out.stored (j := 2) (by simp) _
    · exact (Keep.refl (fun j => j = d) w).setCell (fun _ => rfl) _
  · obtain ⟨m, rfl⟩ : ∃ m, left = m + 1 := ⟨left - 1, by omega⟩
    have e2 : IntKind.i64.wrap (((m + 1 : Nat) : Int) - 1) = (m : Int) := by rw [IntKind.wrap_i64]; omega
    have e3 : (((m + 1 : Nat) : Int) == 0) = false := by simp; omega
    rw [Nat.add_sub_cancel]
    go_enter Try.func76, Try.ntmps76
    go_wp2_with fail
    go_ret
    refine ⟨?_, ?_, ?_⟩
    · show Ending.returned (Value.bool _) = _
      congr 2
      by_cases q : m = 0 <;> simp [q] <;> omega
    · exact (H.out.stored (j := 2) (by simp) _).stored (j := 4) (by simp) _
    · exact ((Keep.refl (fun j => j = d) w).setCell (fun _ => rfl) _).setCell (fun _ => rfl) _
end Go.Proofs.Ytpddmimacjknfaa
