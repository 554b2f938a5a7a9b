import Derived.Test.YtakjpljpdlhicaaDoorPgM
namespace Go.Pg
open Go.RowKit Go.QK

/-! P7.6: one bit turned. -/

/-- The bytes with one bit turned. -/
def flip (b : List Nat) (p : Nat) : List Nat := b.set (p / 8) (b.getD (p / 8) 0 ^^^ 2 ^ (p % 8))
theorem flip_turned (b : List Nat) (p : Nat) (h : p / 8 < b.length) : flip b p = turned b (2 ^ p) := by
  have e := turned_step b 0 p h
  rw [Nat.zero_xor, turned_zero] at e
  exact e.symm
@[simp] theorem flip_length (b : List Nat) (p : Nat) : (flip b p).length = b.length := by simp [flip]
theorem flip_bytes {b : List Nat} (h : AllB b) (p : Nat) (hp : p / 8 < b.length) : AllB (flip b p) := by
  rw [flip_turned b p hp]
  exact turned_bytes _ h
theorem flip_other (b : List Nat) (p j : Nat) (h : j ≠ p / 8) : (flip b p).getD j 0 = b.getD j 0 := by
  unfold flip
  simp only [List.getD_eq_getElem?_getD]
  rw [List.getElem?_set_ne (by omega)]
theorem flip_same (b : List Nat) (p : Nat) (h : p / 8 < b.length) : (flip b p).getD (p / 8) 0 = b.getD (p / 8) 0 ^^^ 2 ^ (p % 8) := by
  unfold flip
  simp [h]
theorem sum_flip (b : List Nat) (p : Nat) (h : p / 8 < b.length) (hl : 4 ≤ b.length) : sumOf (flip b p) ≠ sumOf b := by
  rw [flip_turned b p h]
  by_cases q : p + 32 ≤ 8 * b.length
  · have := sum_turned b p 1 q (by decide) (by decide)
    rwa [Nat.one_mul] at this
  · have hm : 2 ^ (p - (8 * b.length - 32)) < 4294967296 := by
      have : 2 ^ (p - (8 * b.length - 32)) < 2 ^ 32 := Nat.pow_lt_pow_right (by decide) (by omega)
      simpa using this
    have := sum_turned b (8 * b.length - 32) (2 ^ (p - (8 * b.length - 32))) (by omega) hm (Nat.ne_of_gt (Nat.two_pow_pos _))
    rwa [← Nat.pow_add, Nat.sub_add_cancel (by omega)] at this

theorem take_getD {l m : List Nat} {n : Nat} (h : ∀ j, j < n → l.getD j 0 = m.getD j 0) (hl : l.length = m.length) : l.take n = m.take n := by
  apply ext_getD (by simp [hl])
  intro j hj
  simp only [List.length_take] at hj
  have := h j (by omega)
  simpa [List.getElem?_take, show j < n by omega] using this
theorem drop_getD {l m : List Nat} {n : Nat} (h : ∀ j, n ≤ j → l.getD j 0 = m.getD j 0) (hl : l.length = m.length) : l.drop n = m.drop n := by
  apply ext_getD (by simp [hl])
  intro j _
  have := h (n + j) (by omega)
  simpa [List.getElem?_drop] using this
/-- The bit stands where the checksum stands: the checksum of it all is the same. -/
theorem hollow_in (b : List Nat) (p : Nat) (h1 : 12 ≤ p / 8) (h2 : p / 8 < 16) : hollow (flip b p) = hollow b := by
  unfold hollow
  rw [take_getD (n := 12) (fun j hj => flip_other b p j (by omega)) (by simp), drop_getD (n := 16) (fun j hj => flip_other b p j (by omega)) (by simp)]
theorem hollow_getD (b : List Nat) (hl : b.length = 1024) (j : Nat) : (hollow b).getD j 0 = if 12 ≤ j ∧ j < 16 then 0 else b.getD j 0 := by
  unfold hollow zs
  simp only [List.getD_eq_getElem?_getD, List.getElem?_append, List.length_append, List.length_take, List.length_replicate, hl, List.getElem?_take, List.getElem?_drop, List.getElem?_replicate]
  rw [show min 12 1024 = 12 from rfl]
  by_cases q1 : j < 12
  · simp [q1, show j < 16 by omega, show ¬ 12 ≤ j by omega]
  · by_cases q2 : j < 16
    · simp [q1, q2, show 12 ≤ j by omega, show j - 12 < 4 by omega]
    · rw [if_neg (show ¬ j < 12 + 4 by omega), if_neg (show ¬ (12 ≤ j ∧ j < 16) by omega)]
      congr 2
      omega
theorem hollow_length (b : List Nat) (hl : b.length = 1024) : (hollow b).length = 1024 := by simp [hollow, hl]
theorem hollow_out (b : List Nat) (hl : b.length = 1024) (p : Nat) (hp : p / 8 < 1024) (h : p / 8 < 12 ∨ 16 ≤ p / 8) : hollow (flip b p) = flip (hollow b) p := by
  have l1 := hollow_length b hl
  apply ext_getD (by rw [hollow_length _ (by simp [hl]), flip_length, l1])
  intro j _
  rw [hollow_getD _ (by simp [hl])]
  by_cases q : j = p / 8
  · subst q
    rw [if_neg (by omega), flip_same _ _ (by omega), flip_same _ _ (by omega), hollow_getD _ hl, if_neg (by omega)]
  · rw [flip_other _ _ _ q, flip_other _ _ _ q, hollow_getD _ hl]

theorem pow_ne_113 : ∀ k, k < 8 → (2 : Nat) ^ k ≠ 113 ∧ 113 ^^^ 2 ^ k ≠ 0 ∧ (113 ^^^ 2 ^ k : Nat) ≠ 113 ∧ (2 : Nat) ^ k ≠ 0 := by decide
theorem head0 (b : List Nat) (hl : b.length = 1024) : (takeN headS b).getD 0 0 = b.getD 0 0 := by
  match b, hl with
  | x :: l, _ => simp [takeN, headS, QK.fromB]
theorem head6 (b : List Nat) : (takeN headS b).getD 6 0 = QK.fromB ((b.drop 12).take 4) := by
  simp only [takeN, headS, List.getD_cons_succ, List.getD_cons_zero, List.drop_drop]
theorem headE_zero {h : List Nat} {number : Int} {s : Nat} (q4 : headE h number s = 0) : h.getD 0 0 = 113 ∧ h.getD 6 0 = s := by
  unfold headE at q4
  by_cases r0 : h.getD 0 0 ≠ 113
  · rw [if_pos r0] at q4; simp at q4
  rw [if_neg r0] at q4
  by_cases r1 : h.getD 1 0 ≠ 1 ∧ h.getD 1 0 ≠ 2
  · rw [if_pos r1] at q4; simp at q4
  rw [if_neg r1] at q4
  by_cases r2 : h.getD 6 0 ≠ s
  · rw [if_pos r2] at q4; simp at q4
  exact ⟨by simpa using r0, by simpa using r2⟩
theorem allZ_at {b : List Nat} {j : Nat} (h : b.getD j 0 ≠ 0) : allZ b = false := by
  rw [← Bool.not_eq_true, allZ_iff]
  intro q
  rw [q] at h
  refine h ?_
  unfold zs
  simp only [List.getD_eq_getElem?_getD, List.getElem?_replicate]
  split <;> rfl
theorem fromB_inj {l m : List Nat} (hl : AllB l) (hm : AllB m) (h : l.length = m.length) (e : QK.fromB l = QK.fromB m) : l = m := by
  rw [← bytesOf_fromB l hl, ← bytesOf_fromB m hm, h, e]

theorem decE_zero {b : List Nat} {number : Int} (hz : allZ b = false) (h : decE b number = 0) : headE (takeN headS b) number (psum b) = 0 := by
  unfold decE at h
  by_cases q1 : number < 0 ∨ 63 < number
  · rw [if_pos q1] at h; simp at h
  rw [if_neg q1] at h
  by_cases q2 : b.length ≠ 1024
  · rw [if_pos q2] at h; simp at h
  rw [if_neg q2, hz, if_neg (by simp)] at h
  by_cases q4 : headE (takeN headS b) number (psum b) ≠ 0
  · rw [if_pos q4] at h; exact absurd h q4
  exact Decidable.not_not.1 q4

theorem flip_refused {p : PageM} (h : checkE p = 0) (k : Nat) (hk : k / 8 < 1024) (number : Int) : decE (flip (encB p) k) number ≠ 0 := by
  have hlen := encB_length h
  have hl' : (flip (encB p) k).length = 1024 := by simp [hlen]
  have hb := encB_bytes p
  intro hE
  obtain ⟨p1, p2, p3, p4⟩ := pow_ne_113 (k % 8) (Nat.mod_lt _ (by decide))
  by_cases he : isEmpty p = true
  · have e : encB p = zs 1024 := by unfold encB; rw [he]; rfl
    have g : ∀ j, (encB p).getD j 0 = 0 := by
      intro j
      rw [e]
      unfold zs
      simp only [List.getD_eq_getElem?_getD, List.getElem?_replicate]
      split <;> rfl
    have hs := flip_same (encB p) k (by omega)
    rw [g, Nat.zero_xor] at hs
    have hz := allZ_at (b := flip (encB p) k) (j := k / 8) (by rw [hs]; exact p4)
    have q := (headE_zero (decE_zero hz hE)).1
    rw [head0 _ hl'] at q
    by_cases q0 : k / 8 = 0
    · rw [q0] at hs
      exact p1 (hs.symm.trans q)
    · rw [flip_other _ _ _ (by omega), g] at q
      exact absurd q (by decide)
  · have he : isEmpty p = false := by simpa using he
    have hs : psum (headB p 0 ++ restB p) < 4294967296 := psum_lt ((headB_bytes p 0).append (restB_bytes p))
    have eE : encB p = headB p (psum (headB p 0 ++ restB p)) ++ restB p := by unfold encB; rw [he]; simp
    have hps : psum (encB p) = psum (headB p 0 ++ restB p) := by rw [eE]; exact psum_head p _ _ _
    rw [← hps] at eE hs
    have ht := take_head h hs (restB p)
    rw [← eE] at ht
    have t0 : (encB p).getD 0 0 = 113 := by rw [← head0 _ hlen, ht]; rfl
    have t6 : QK.fromB (((encB p).drop 12).take 4) = psum (encB p) := by rw [← head6, ht]; rfl
    have hz : allZ (flip (encB p) k) = false := by
      refine allZ_at (j := 0) ?_
      by_cases q0 : k / 8 = 0
      · have := flip_same (encB p) k (by omega)
        rw [q0, t0] at this
        rw [this]
        exact p2
      · rw [flip_other _ _ _ (by omega), t0]
        decide
    obtain ⟨q, q6⟩ := headE_zero (decE_zero hz hE)
    rw [head0 _ hl'] at q
    rw [head6] at q6
    by_cases q0 : k / 8 = 0
    · have := flip_same (encB p) k (by omega)
      rw [q0, t0] at this
      exact p3 (this.symm.trans q)
    · by_cases qi : 12 ≤ k / 8 ∧ k / 8 < 16
      · unfold psum at q6
        rw [hollow_in _ _ qi.1 qi.2] at q6
        have e : QK.fromB (((flip (encB p) k).drop 12).take 4) = QK.fromB (((encB p).drop 12).take 4) := by rw [q6, t6]; rfl
        have e2 := fromB_inj (((flip_bytes hb k (by omega)).drop 12).take 4) ((hb.drop 12).take 4) (by simp) e
        have hs := flip_same (encB p) k (by omega)
        have a : (((flip (encB p) k).drop 12).take 4).getD (k / 8 - 12) 0 = (flip (encB p) k).getD (k / 8) 0 := by
          simp only [List.getD_eq_getElem?_getD, List.getElem?_take, List.getElem?_drop]
          rw [if_pos (by omega)]
          congr 2
          omega
        have b : (((encB p).drop 12).take 4).getD (k / 8 - 12) 0 = (encB p).getD (k / 8) 0 := by
          simp only [List.getD_eq_getElem?_getD, List.getElem?_take, List.getElem?_drop]
          rw [if_pos (by omega)]
          congr 2
          omega
        rw [e2, b, hs] at a
        exact xor_ne p4 a.symm
      · have e : ((flip (encB p) k).drop 12).take 4 = ((encB p).drop 12).take 4 := by
          apply ext_getD (by simp)
          intro j hj
          have hj4 : j < 4 := by simp at hj; omega
          simp only [List.getD_eq_getElem?_getD, List.getElem?_take, List.getElem?_drop, if_pos hj4]
          have := flip_other (encB p) k (12 + j) (by omega)
          simpa using this
        rw [e, t6] at q6
        have hp : psum (flip (encB p) k) = sumOf (flip (hollow (encB p)) k) := by unfold psum; rw [hollow_out _ hlen _ hk (by omega)]
        rw [hp] at q6
        exact sum_flip (hollow (encB p)) k (by rw [hollow_length _ hlen]; omega) (by rw [hollow_length _ hlen]; decide) q6.symm
end Go.Pg
