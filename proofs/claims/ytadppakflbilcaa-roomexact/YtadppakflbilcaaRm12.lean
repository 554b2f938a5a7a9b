import Derived.Test.YtadppakflbilcaaRm11
namespace Go.Proofs.Ytadppakflbilcaa
open Go.RowKit Go.QK Go.Maps Go.QM Go.QR
set_option maxRecDepth 100000
set_option maxHeartbeats 400000 in
theorem rnew_any (w : World) : Calls Try.prog 32 #[] w fun r w' => r = .returned (ptr w.heap.size) ∧ Lst refL w' (fun k => k = w.heap.size) w.heap.size [] ∧ Below w.heap.size w w' ∧ w'.heap.size = w.heap.size + 1 := by
  go_enter Try.func32, Try.ntmps32
  go_wp2
  go_ret
  refine ⟨rfl, ⟨.slice none 0 0, [], ⟨fun k q => by simp; omega, rfl, ?_, World.ownsRow_nil _ _ _ _, nofun, nofun, nofun, List.Pairwise.nil⟩, rfl⟩, alloc_below _ _, by simp⟩
  have := Cells.new w #[.slice none 0 0] 78
  simpa using this
theorem prom_take {L : List Tx} {k : Nat} (h : k < L.length) : prom (L.take (k + 1)) = prom (L.take k) + L[k].owes := by
  rw [List.take_succ_eq_append_getElem h, prom_append]
  simp [prom]
theorem prom_take_le {L : List Tx} (k : Nat) : 0 ≤ prom (L.take k) ∧ prom (L.take k) ≤ prom L := by
  have e := prom_append (L.take k) (L.drop k)
  rw [List.take_append_drop] at e
  have := prom_nonneg (L.drop k)
  have := prom_nonneg (L.take k)
  omega
section
variable {S : Nat → Prop} {w : World} {b : Nat} {v : Value} {P : List TV} {L : List Tx}
/-- The cells of the document's transaction at i. -/
theorem Ls.refAt (h : Ls refL w S b v P) {i : Nat} {t : Tx} {vv : Value} (hp : P[i]? = some (t, vv)) : ∃ g cap, v = .slice (some ⟨g, 0, none⟩) P.length cap ∧ g < w.heap.size ∧ w.cell? ⟨g, i * 3, none⟩ = some (.int .i64 t.n) ∧ w.cell? ⟨g, i * 3 + 1, none⟩ = some (.int .i64 t.st) ∧ w.cell? ⟨g, i * 3 + 2, none⟩ = some vv ∧ ∀ j, w.frozen? ⟨g, j, none⟩ = false := by
  obtain ⟨g, cap, h1, h2, h3, h4⟩ := h.at ref_good hp
  exact ⟨g, cap, h1, h2, h3 0 _ rfl, h3 1 _ rfl, h3 2 _ rfl, h4⟩
theorem Ls.list (h : Ls refL w S b v P) {i : Nat} {t : Tx} {vv : Value} (hp : P[i]? = some (t, vv)) : ∃ a c, vv = .slice a t.hs.length c := by
  obtain ⟨a, c, h1, _⟩ := (h.own_at hp).seen
  exact ⟨a, c, h1⟩
end
set_option maxHeartbeats 1000000 in
theorem rPromised_any (S : Nat → Prop) (b : Nat) (L : List Tx) (w : World) (h : Lst refL w S b L) (hok : Ok L) : Calls Try.prog 37 #[ptr b] w fun r w' => r = .returned (.int .i64 (prom L)) ∧ Below w.heap.size w w' := by
  obtain ⟨v, P, h, e⟩ := h
  have HH := hide h
  have HE := hide e
  have HOK := hide hok
  have hpb := hok.prom
  have few := hok.few
  have hlen := map_len e
  have HLN := hide hlen
  obtain ⟨a, cap, rfl, -⟩ := h.form
  clear h e hok hlen
  go_enter Try.func37, Try.ntmps37
  go_wp2
  go_loopw [3, 4] (fun s vi wr => ∃ k : Nat, vi = .int .i64 (k : Int) ∧ s = .int .i64 (prom (L.take k)) ∧ k ≤ L.length ∧ Below w.heap.size w wr) (fun _ vi _ => L.length - (intOf vi).toNat)
  case atStart => exact ⟨0, rfl, rfl, Nat.zero_le _, Below.refl _ _⟩
  case round =>
    obtain ⟨k, rfl, rfl, hk, hb⟩ := hrel
    have hr := HH.out.below hb
    have HB := hide hb
    clear hb
    obtain ⟨k0, -⟩ := hr.box.get 0 _ rfl
    rw [HLN.out] at k0
    by_cases hlt : k < L.length
    · obtain ⟨vk, hpk⟩ := map_at HE.out (List.getElem?_eq_getElem hlt)
      obtain ⟨g, cap', ev, hg, p0, p1, p2, -⟩ := hr.refAt hpk
      cases ev
      obtain ⟨a2, c2, rfl⟩ := hr.list hpk
      have hs := prom_take hlt
      have hs1 := prom_take_le (L := L) (k + 1)
      have hs0 := prom_take_le (L := L) k
      have K := rpromised_any L[k] a2 c2 wr (HOK.out.each _ (List.getElem_mem hlt))
      have hw : wrap64 (prom (L.take k) + L[k].owes) = prom (L.take k) + L[k].owes := wrapI (by unfold I64; omega)
      have ES := hide (show prom (L.take k) + L[k].owes = prom (L.take (k + 1)) from hs.symm)
      clear hs hpk hr
      generalize L[k] = t at *
      generalize prom (L.take k) = s0 at *
      go_wp2_with (go_at_call 46; refine K.mono ?_; rintro e w3 ⟨rfl, b3⟩)
      go_roundw
      case rel => exact ⟨k + 1, by go_num, by rw [hw, ES.out], by omega, HB.out.trans (b3.mono HB.out.size)⟩
      case measure => simp [intOf]; omega
    · have ek : L.take k = L := List.take_of_length_le (by omega)
      rw [ek]
      clear ek
      go_wp2
      go_ret
      exact ⟨rfl, HB.out⟩
set_option maxHeartbeats 1000000 in
theorem rOf_any (S : Nat → Prop) (b : Nat) (L : List Tx) (x : Int) (w : World) (h : Lst refL w S b L) (hok : Ok L) : Calls Try.prog 38 #[ptr b, .int .i64 x] w fun r w' => r = .returned (.int .i64 (of L x)) ∧ Below w.heap.size w w' := by
  have K := rat_any S b L x w h (by have := hok.few; omega)
  obtain ⟨v, P, h, e⟩ := h
  unfold of
  cases hi : idx L x with
  | none =>
    rw [hi] at K
    rw [idx_none.1 hi]
    simp only [placeI] at K
    clear h e hi
    go_enter Try.func38, Try.ntmps38
    go_wp2_with (go_at_call 43; refine K.mono ?_; rintro e w3 ⟨rfl, rfl⟩)
    go_ret
    exact ⟨rfl, Below.refl _ _⟩
  | some i =>
    rw [hi] at K
    simp only [placeI] at K
    have hil := idx_lt hi
    obtain ⟨t, ht, hg, htn⟩ := idx_get hi
    rw [hg]
    obtain ⟨vk, hpk⟩ := map_at e ht
    obtain ⟨g, cap, rfl, hgl, p0, p1, p2, -⟩ := h.refAt hpk
    obtain ⟨a2, c2, rfl⟩ := h.list hpk
    obtain ⟨k0, -⟩ := h.box.get 0 _ rfl
    have K2 := rpromised_any t a2 c2 w (hok.each _ (get_mem hg).1)
    have few := hok.few
    have hlen := map_len e
    rw [hlen] at k0
    have hd : decide ((i : Int) < 0) = false := by simp
    clear h e hi hpk ht hg htn hlen hok
    go_enter Try.func38, Try.ntmps38
    go_wp2_with (first | (go_at_call 43; refine K.mono ?_; rintro e w3 ⟨rfl, rfl⟩) | (go_at_call 46; refine K2.mono ?_; rintro e w4 ⟨rfl, b4⟩))
    go_ret
    exact ⟨rfl, b4⟩
set_option maxHeartbeats 2000000 in
theorem rMay_any (S : Nat → Prop) (b : Nat) (L : List Tx) (free parts more : Int) (w : World) (h : Lst refL w S b L) (hok : Ok L) (h1 : I64 free) (h2 : I64 parts) (h3 : I64 more) : Calls Try.prog 36 #[ptr b, .int .i64 free, .int .i64 parts, .int .i64 more] w fun r w' => r = .returned (.int .i64 (mayE L free parts more)) ∧ Below w.heap.size w w' := by
  have K := rPromised_any S b L w h hok
  have hp := hok.prom
  clear h hok
  obtain ⟨E, hE⟩ : ∃ E, E = mayE L free parts more := ⟨_, rfl⟩
  rw [← hE]
  unfold mayE at hE
  generalize prom L = p at *
  unfold I64 at h1 h2 h3
  by_cases c1 : free < 0
  · have e1 : decide (free < 0) = true := by simpa using c1
    rw [if_pos (.inl c1)] at hE
    subst hE
    go_enter Try.func36, Try.ntmps36
    go_wp2
    go_ret
    exact ⟨rfl, Below.refl _ _⟩
  have e1 : decide (free < 0) = false := by simpa using c1
  by_cases c2 : parts < 0
  · have e2 : decide (parts < 0) = true := by simpa using c2
    rw [if_pos (.inr (.inl c2))] at hE
    subst hE
    go_enter Try.func36, Try.ntmps36
    go_wp2
    go_ret
    exact ⟨rfl, Below.refl _ _⟩
  have e2 : decide (parts < 0) = false := by simpa using c2
  by_cases c3 : more < 0
  · have e3 : decide (more < 0) = true := by simpa using c3
    rw [if_pos (.inr (.inr c3))] at hE
    subst hE
    go_enter Try.func36, Try.ntmps36
    go_wp2
    go_ret
    exact ⟨rfl, Below.refl _ _⟩
  have e3 : decide (more < 0) = false := by simpa using c3
  rw [if_neg (by omega)] at hE
  have w1 : wrap64 (free - parts) = free - parts := wrapI (by unfold I64; omega)
  by_cases c4 : free < parts
  · have e4 : decide (free < parts) = true := by simpa using c4
    rw [if_pos (.inl c4)] at hE
    subst hE
    go_enter Try.func36, Try.ntmps36
    go_wp2
    go_ret
    exact ⟨rfl, Below.refl _ _⟩
  have e4 : decide (free < parts) = false := by simpa using c4
  by_cases c5 : free - parts < more
  · have e5 : decide (free - parts < more) = true := by simpa using c5
    rw [if_pos (.inr (.inl c5))] at hE
    subst hE
    go_enter Try.func36, Try.ntmps36
    go_wp2
    go_ret
    exact ⟨rfl, Below.refl _ _⟩
  have e5 : decide (free - parts < more) = false := by simpa using c5
  have w2 : wrap64 (free - parts - more) = free - parts - more := wrapI (by unfold I64; omega)
  by_cases c6 : free - parts - more < p
  · have e6 : decide (free - parts - more < p) = true := by simpa using c6
    rw [if_pos (.inr (.inr c6))] at hE
    subst hE
    go_enter Try.func36, Try.ntmps36
    go_wp2_with (go_at_call 37; refine K.mono ?_; rintro e w3 ⟨rfl, b3⟩)
    go_ret
    exact ⟨rfl, b3⟩
  · have e6 : decide (free - parts - more < p) = false := by simpa using c6
    rw [if_neg (by omega)] at hE
    subst hE
    go_enter Try.func36, Try.ntmps36
    go_wp2_with (go_at_call 37; refine K.mono ?_; rintro e w3 ⟨rfl, b3⟩)
    go_ret
    exact ⟨rfl, b3⟩
end Go.Proofs.Ytadppakflbilcaa
