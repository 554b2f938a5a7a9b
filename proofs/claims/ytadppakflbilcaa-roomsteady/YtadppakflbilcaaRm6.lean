import Derived.Test.YtadppakflbilcaaRm5
namespace Go.Proofs.Ytadppakflbilcaa
open Go.RowKit Go.QK Go.Maps Go.QM Go.QR
set_option maxRecDepth 100000
section
variable {L : List Tx} {tx c : Int} {t : Tx}
theorem wrote5 (h : get L tx = some t) : wroteE L tx 5 c = (if t.st = 0 then 0 else 70) ∧ wroteL L tx 5 c = (if t.st = 0 then upd L tx (fun u => u.turn 1) else L) := by
  have e : wroteE L tx 5 c = (if t.st = 0 then 0 else 70) := by unfold wroteE; rw [h]; simp [Tx.wroteE]
  refine ⟨e, ?_⟩
  unfold wroteL
  rw [e]
  by_cases q : t.st = 0 <;> simp [q]
theorem wrote6 (h : get L tx = some t) : wroteE L tx 6 c = (if t.st = 0 then 0 else 70) ∧ wroteL L tx 6 c = (if t.st = 0 then upd L tx (fun u => u.turn 2) else L) := by
  have e : wroteE L tx 6 c = (if t.st = 0 then 0 else 70) := by unfold wroteE; rw [h]; simp [Tx.wroteE]
  refine ⟨e, ?_⟩
  unfold wroteL
  rw [e]
  by_cases q : t.st = 0 <;> simp [q]
theorem wrote4 (h : get L tx = some t) : wroteE L tx 4 c = (if t.st ≠ 2 then 70 else if c ∈ t.hs then 0 else 120) ∧ wroteL L tx 4 c = (if t.st = 2 ∧ c ∈ t.hs then upd L tx (fun u => u.less c) else L) := by
  have e : wroteE L tx 4 c = (if t.st ≠ 2 then 70 else if c ∈ t.hs then 0 else 120) := by unfold wroteE; rw [h]; simp [Tx.wroteE]
  refine ⟨e, ?_⟩
  unfold wroteL
  rw [e]
  by_cases q : t.st = 2
  · by_cases r : c ∈ t.hs <;> simp [q, r]
  · simp [q]
theorem wrote7 (h : get L tx = some t) : wroteE L tx 7 c = (if t.st = 0 ∨ (t.st = 2 ∧ t.hs ≠ []) then 70 else 0) ∧ wroteL L tx 7 c = (if t.st = 0 ∨ (t.st = 2 ∧ t.hs ≠ []) then L else del L tx) := by
  have e : wroteE L tx 7 c = (if t.st = 0 ∨ (t.st = 2 ∧ t.hs ≠ []) then 70 else 0) := by unfold wroteE; rw [h]; simp [Tx.wroteE]
  refine ⟨e, ?_⟩
  unfold wroteL
  rw [e]
  by_cases q : t.st = 0 ∨ (t.st = 2 ∧ t.hs ≠ [])
  · rw [if_pos q, if_pos q, if_neg (by decide)]
  · rw [if_neg q, if_neg q, if_pos rfl, if_neg (by decide), if_neg (by decide), if_neg (by decide)]
theorem wroteX (h : get L tx = some t) {k : Int} (h4 : k ≠ 4) (h5 : k ≠ 5) (h6 : k ≠ 6) (h7 : k ≠ 7) : wroteE L tx k c = 70 ∧ wroteL L tx k c = L := by
  have e : wroteE L tx k c = 70 := by unfold wroteE; rw [h]; simp [Tx.wroteE, h4, h5, h6, h7]
  refine ⟨e, ?_⟩
  unfold wroteL
  rw [e, if_neg (by decide)]
theorem wrote0 (h : get L tx = none) (k : Int) : wroteE L tx k c = 130 ∧ wroteL L tx k c = L := by
  have e : wroteE L tx k c = 130 := by unfold wroteE; rw [h]
  refine ⟨e, ?_⟩
  unfold wroteL
  rw [e, if_neg (by decide)]
end
theorem Out.then {S : Nat → Prop} {w w1 w' : World} {b : Nat} {L : List Tx} (h : Below w.heap.size w w1) (o : Room w' S b L ∧ Keep S w1 w') : Out w S b L w' := Out.after h (Out.of o)
set_option maxHeartbeats 2000000 in
theorem Wrote_any (S : Nat → Prop) (b : Nat) (L : List Tx) (tx k c : Int) (w : World) (h : Room w S b L) (hx : I64 tx) (hc : I64 c) : Calls Try.prog 26 #[ptr b, .int .i64 tx, .int .i64 k, .int .i64 c] w fun r w' => r = .returned (.int .i64 (wroteE L tx k c)) ∧ Out w S b (wroteL L tx k c) w' := by
  have HR := hide h
  obtain ⟨m, M, hv, h⟩ := h
  obtain ⟨k0, -⟩ := h.box.get 0 _ rfl
  have hl := h.look hx
  cases hg : get L tx with
  | none =>
    rw [hg, h.gone hg] at hl
    simp only [Option.getD_none, Option.isSome_none] at hl
    rw [(wrote0 hg k).1, (wrote0 hg k).2]
    clear h hg
    go_enter Try.func26, Try.ntmps26
    go_wp2
    go_ret
    exact ⟨rfl, HR.out.stays (alloc_below _ _)⟩
  | some t =>
    rw [hg, h.got hg] at hl
    simp only [Option.getD_some, Option.isSome_some] at hl
    obtain ⟨ht, rfl⟩ := get_mem hg
    have A1 := alloc_below w (.cells #[.int .i64 t.st, .map (hv t.n)] 68)
    have HA := hide A1
    have h1 := h.below A1
    by_cases e5 : k = 5
    · subst e5
      rw [(wrote5 hg).1, (wrote5 hg).2]
      have K := commit_any S b m M hv L t (hv t.n) _ h1 ht
      obtain ⟨E, hE⟩ : ∃ E : Int, E = if t.st = 0 then 0 else 70 := ⟨_, rfl⟩
      obtain ⟨LL, hLL⟩ : ∃ LL : List Tx, LL = if t.st = 0 then upd L t.n (fun u => u.turn 1) else L := ⟨_, rfl⟩
      rw [← hE, ← hLL] at K ⊢
      clear hLL hE h h1 hg A1
      go_enter Try.func26, Try.ntmps26
      go_wp2_with (go_at_call 39; refine K.mono ?_; rintro e w3 ⟨rfl, b3⟩)
      go_ret
      exact ⟨rfl, Out.then HA.out b3⟩
    by_cases e6 : k = 6
    · subst e6
      rw [(wrote6 hg).1, (wrote6 hg).2]
      have K := abort_any S b m M hv L t _ h1 ht
      obtain ⟨E, hE⟩ : ∃ E : Int, E = if t.st = 0 then 0 else 70 := ⟨_, rfl⟩
      obtain ⟨LL, hLL⟩ : ∃ LL : List Tx, LL = if t.st = 0 then upd L t.n (fun u => u.turn 2) else L := ⟨_, rfl⟩
      rw [← hE, ← hLL] at K ⊢
      clear hLL hE h h1 hg A1
      go_enter Try.func26, Try.ntmps26
      go_wp2_with (go_at_call 40; refine K.mono ?_; rintro e w3 ⟨rfl, b3⟩)
      go_ret
      exact ⟨rfl, Out.then HA.out b3⟩
    by_cases e4 : k = 4
    · subst e4
      rw [(wrote4 hg).1, (wrote4 hg).2]
      have K := undo_any S b m M hv L t c _ h1 ht hc
      obtain ⟨E, hE⟩ : ∃ E : Int, E = if t.st ≠ 2 then 70 else if c ∈ t.hs then 0 else 120 := ⟨_, rfl⟩
      obtain ⟨LL, hLL⟩ : ∃ LL : List Tx, LL = if t.st = 2 ∧ c ∈ t.hs then upd L t.n (fun u => u.less c) else L := ⟨_, rfl⟩
      rw [← hE, ← hLL] at K ⊢
      clear hLL hE h h1 hg A1
      go_enter Try.func26, Try.ntmps26
      go_wp2_with (go_at_call 41; refine K.mono ?_; rintro e w3 ⟨rfl, b3⟩)
      go_ret
      exact ⟨rfl, Out.then HA.out b3⟩
    by_cases e7 : k = 7
    · subst e7
      rw [(wrote7 hg).1, (wrote7 hg).2]
      have K := end_any S b m M hv L t _ h1 ht
      obtain ⟨E, hE⟩ : ∃ E : Int, E = if t.st = 0 ∨ (t.st = 2 ∧ t.hs ≠ []) then 70 else 0 := ⟨_, rfl⟩
      obtain ⟨LL, hLL⟩ : ∃ LL : List Tx, LL = if t.st = 0 ∨ (t.st = 2 ∧ t.hs ≠ []) then L else del L t.n := ⟨_, rfl⟩
      rw [← hE, ← hLL] at K ⊢
      clear hLL hE h h1 hg A1
      go_enter Try.func26, Try.ntmps26
      go_wp2_with (go_at_call 42; refine K.mono ?_; rintro e w3 ⟨rfl, b3⟩)
      go_ret
      exact ⟨rfl, Out.then HA.out b3⟩
    rw [(wroteX hg e4 e5 e6 e7).1, (wroteX hg e4 e5 e6 e7).2]
    have q4 : (k == 4) = false := by simpa using e4
    have q5 : (k == 5) = false := by simpa using e5
    have q6 : (k == 6) = false := by simpa using e6
    have q7 : (k == 7) = false := by simpa using e7
    clear h h1 hg A1 e4 e5 e6 e7
    go_enter Try.func26, Try.ntmps26
    go_wp2
    go_ret
    exact ⟨rfl, HR.out.stays HA.out⟩
/-- A room that was made behind B. -/
def Mine (B : Nat) (w : World) (b : Nat) (L : List Tx) : Prop := ∃ S, Room w S b L ∧ ∀ k, S k → B ≤ k
theorem Mine.call {B : Nat} {S : Nat → Prop} {w0 w w' : World} {b : Nat} {L : List Tx} (hS : ∀ k, S k → B ≤ k) (hb : Below B w0 w) (hB : B ≤ w.heap.size) (h : Out w S b L w') : Mine B w' b L ∧ Below B w0 w' := by
  obtain ⟨S', h1, h2, h3⟩ := h
  refine ⟨⟨S', h1, fun k q => ?_⟩, hb.trans (h3.below hB (fun k hk q => by have := hS k q; omega))⟩
  by_cases z : k < w.heap.size
  · exact hS k (h2 k z q)
  · omega
end Go.Proofs.Ytadppakflbilcaa
