import Derived.Test.YtadppakflbilcaaRm11
import Derived.Test.YtadppakflbilcaaRm6
import Derived.Test.YtadppakflbilcaaRmX
namespace Go.Proofs.Ytadppakflbilcaa
open Go.RowKit Go.QK Go.Maps Go.QM Go.QR
set_option maxRecDepth 100000
/-- A call that may change something: its answer, and what it leaves. -/
def askE (L : List Tx) (o : OpX) : Int := if o.kind = 1 then beginE L o.tx else if o.kind = 2 then holdE L o.tx o.ctr else if o.kind = 3 then wroteE L o.tx o.what o.ctr else -1
def askL (L : List Tx) (o : OpX) : List Tx := if o.kind = 1 then beginL L o.tx else if o.kind = 2 then holdL L o.tx o.ctr else if o.kind = 3 then wroteL L o.tx o.what o.ctr else L
theorem begin_same {L : List Tx} {tx : Int} (h : beginE L tx ≠ 0) : beginL L tx = L := by unfold beginL; rw [if_neg h]
theorem hold_same {L : List Tx} {tx c : Int} (h : holdE L tx c ≠ 0) : holdL L tx c = L := by unfold holdL; rw [if_neg h]
theorem wrote_same {L : List Tx} {tx k c : Int} (h : wroteE L tx k c ≠ 0) : wroteL L tx k c = L := by unfold wroteL; rw [if_neg h]
theorem ask_same {L : List Tx} {o : OpX} (h : askE L o ≠ 0) : askL L o = L := by
  unfold askE at h
  unfold askL
  split at h
  · rename_i e; rw [if_pos e]; exact begin_same h
  · rename_i e; rw [if_neg e]
    split at h
    · rename_i e; rw [if_pos e]; exact hold_same h
    · rename_i e; rw [if_neg e]
      split at h
      · rename_i e; rw [if_pos e]; exact wrote_same h
      · rename_i e; rw [if_neg e]
theorem Ok.ask {L : List Tx} (h : Ok L) (o : OpX) : Ok (askL L o) := by
  unfold askL
  split
  · exact h.begin _
  · split
    · exact h.hold _ _
    · split
      · exact h.wrote _ _ _
      · exact h
set_option maxHeartbeats 2000000 in
theorem asked_any (S : Nat → Prop) (p : Nat) (L : List Tx) (o : OpX) (w : World) (h : Room w S p L) (ho : o.Ok) : Calls Try.prog 11 #[ptr p, .agg o.cs.toArray] w fun r w' => r = .returned (.int .i64 (askE L o)) ∧ Out w S p (askL L o) w' := by
  obtain ⟨kind, two, tx, ctr, what, free, more⟩ := o
  obtain ⟨i2, i3, i5, i6⟩ := ho
  simp only at i2 i3 i5 i6
  simp only [OpX.cs]
  obtain ⟨w1, hw1⟩ : ∃ w1, w1 = w.alloc (.cells #[.int .i64 kind, .bool two, .int .i64 tx, .int .i64 ctr, .int .i64 what, .int .i64 free, .int .i64 more] 26) := ⟨_, rfl⟩
  obtain ⟨nb, hnb⟩ : ∃ nb, nb = w.heap.size := ⟨_, rfl⟩
  have A1 : Below w.heap.size w w1 := by rw [hw1]; exact alloc_below _ _
  have C1 : Cells w1 nb [.int .i64 kind, .bool two, .int .i64 tx, .int .i64 ctr, .int .i64 what, .int .i64 free, .int .i64 more] := by rw [hw1, hnb]; exact Cells.new w #[.int .i64 kind, .bool two, .int .i64 tx, .int .i64 ctr, .int .i64 what, .int .i64 free, .int .i64 more] 26
  obtain ⟨c0, -⟩ := C1.get 0 _ rfl
  obtain ⟨c2, -⟩ := C1.get 2 _ rfl
  obtain ⟨c3, -⟩ := C1.get 3 _ rfl
  obtain ⟨c4, -⟩ := C1.get 4 _ rfl
  have h1 := h.below A1
  have KB := Begin_any S p L tx w1 h1 i2
  have KH := Hold_any S p L tx ctr w1 h1 i2 i3
  have KW := Wrote_any S p L tx what ctr w1 h1 i2 i3
  have HA := hide A1
  have HR := hide h
  have HW := hide hw1
  have HN := hide hnb
  clear h h1 A1 C1 hw1 hnb
  unfold askE askL
  simp only
  by_cases e1 : kind = 1
  · subst e1
    simp only [if_true]
    generalize beginE L tx = E at *
    generalize beginL L tx = LL at *
    go_enter Try.func11, Try.ntmps11
    go_upto_region 1 with fail
    rw [← HW.out, ← HN.out]
    go_wp2_with (first | (go_at_call 25; refine KB.mono ?_; rintro e w3 ⟨rfl, b3⟩) | (go_at_call 16; refine (num_eq _ _).mono ?_; rintro e wz ⟨rfl, rfl⟩))
    go_ret
    exact ⟨rfl, Out.after HA.out b3⟩
  rw [if_neg e1, if_neg e1]
  by_cases e2 : kind = 2
  · subst e2
    simp only [if_true]
    generalize holdE L tx ctr = E at *
    generalize holdL L tx ctr = LL at *
    go_enter Try.func11, Try.ntmps11
    go_upto_region 1 with fail
    rw [← HW.out, ← HN.out]
    go_wp2_with (first | (go_at_call 21; refine KH.mono ?_; rintro e w3 ⟨rfl, b3⟩) | (go_at_call 16; refine (num_eq _ _).mono ?_; rintro e wz ⟨rfl, rfl⟩))
    go_ret
    exact ⟨rfl, Out.after HA.out b3⟩
  rw [if_neg e2, if_neg e2]
  by_cases e3 : kind = 3
  · subst e3
    simp only [if_true]
    generalize wroteE L tx what ctr = E at *
    generalize wroteL L tx what ctr = LL at *
    go_enter Try.func11, Try.ntmps11
    go_upto_region 1 with fail
    rw [← HW.out, ← HN.out]
    go_wp2_with (first | (go_at_call 26; refine KW.mono ?_; rintro e w3 ⟨rfl, b3⟩) | (go_at_call 16; refine (num_eq _ _).mono ?_; rintro e wz ⟨rfl, rfl⟩))
    go_ret
    exact ⟨rfl, Out.after HA.out b3⟩
  rw [if_neg e3, if_neg e3]
  have q1 : (kind == 1) = false := by simpa using e1
  have q2 : (kind == 2) = false := by simpa using e2
  have q3 : (kind == 3) = false := by simpa using e3
  clear e1 e2 e3 KB KH KW
  go_enter Try.func11, Try.ntmps11
  go_upto_region 1 with fail
  rw [← HW.out, ← HN.out]
  go_wp2_with fail
  go_ret
  exact ⟨rfl, HR.out.stays HA.out⟩
section
variable {S : Nat → Prop} {w : World} {b : Nat} {v : Value} {P : List TV} {L : List Tx}
theorem Ls.bookAt (h : Ls bookL w S b v P) {i : Nat} {t : Tx} {vv : Value} (hp : P[i]? = some (t, vv)) : ∃ g cap, v = .slice (some ⟨g, 0, none⟩) P.length cap ∧ g < w.heap.size ∧ w.cell? ⟨g, i * 4, none⟩ = some (.int .i64 t.n) ∧ w.cell? ⟨g, i * 4 + 1, none⟩ = some vv ∧ w.cell? ⟨g, i * 4 + 2, none⟩ = some (.bool (t.st == 1)) ∧ w.cell? ⟨g, i * 4 + 3, none⟩ = some (.bool (t.st == 2)) ∧ ∀ j, w.frozen? ⟨g, j, none⟩ = false := by
  obtain ⟨g, cap, h1, h2, h3, h4⟩ := h.at book_good hp
  exact ⟨g, cap, h1, h2, h3 0 _ rfl, h3 1 _ rfl, h3 2 _ rfl, h3 3 _ rfl, h4⟩
theorem Ls.blist (h : Ls bookL w S b v P) {i : Nat} {t : Tx} {vv : Value} (hp : P[i]? = some (t, vv)) : ∃ a c, vv = .slice a t.hs.length c ∧ Seen .i64 w a t.hs := by
  obtain ⟨a, c, h1, h2, _⟩ := (h.own_at hp).seen
  exact ⟨a, c, h1, h2⟩
end
end Go.Proofs.Ytadppakflbilcaa
