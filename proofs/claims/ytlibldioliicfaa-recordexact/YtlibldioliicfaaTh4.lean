import Derived.Test.YtlibldioliicfaaTh3
namespace Go.Proofs.Ytlibldioliicfaa
open Go.RowKit Go.QK

theorem ahead0 (n : Int) : aheadB n 0 = true := by unfold aheadB; simp
theorem recB0 {n lsn : Int} (h : recB n lsn = true) : recB n 0 = true := by
  unfold recB at *
  simp only [Bool.and_eq_true] at h
  simp [h.1, ahead0]
theorem liveB0 {next lsn : Int} : {ls : List LiveM} → {m : Int} → liveB next lsn m ls = true → liveB next 0 m ls = true
  | [], _, _ => rfl
  | x :: ls, m, h => by
    simp only [liveB, Bool.and_eq_true] at h ⊢
    exact ⟨⟨⟨h.1.1.1, recB0 h.1.1.2⟩, h.1.2⟩, liveB0 h.2⟩
theorem dirtyB0 {lsn : Int} : {ls : List DirtyM} → {m : Int} → dirtyB lsn m ls = true → dirtyB 0 m ls = true
  | [], _, _ => rfl
  | x :: ls, m, h => by
    simp only [dirtyB, Bool.and_eq_true] at h ⊢
    exact ⟨⟨h.1.1, recB0 h.1.2⟩, dirtyB0 h.2⟩
theorem pointsB0 {has : Bool} {ls : List LiveM} {ds : List DirtyM} {next lsn : Int} (h : pointsB has ls ds next lsn = true) : pointsB has ls ds next 0 = true := by
  unfold pointsB at *
  cases has
  · exact h
  · simp only [cond_true, Bool.and_eq_true] at h ⊢
    exact ⟨⟨h.1.1, h.1.2.1, liveB0 h.1.2.2⟩, h.2.1, dirtyB0 h.2.2⟩
theorem okB0 {r : RecM} (h : okB r = true) : okB (noLsn r) = true := by
  simp only [okB, Bool.and_eq_true, noLsn] at h ⊢
  obtain ⟨⟨⟨⟨⟨⟨⟨⟨h0, h1⟩, h2⟩, h3⟩, h4⟩, h5⟩, h6⟩, h7⟩, h8⟩ := h
  exact ⟨⟨⟨⟨⟨⟨⟨⟨by unfold fromB; simp, ahead0 _⟩, h2⟩, h3⟩, h4⟩, h5⟩, h6⟩, h7⟩, pointsB0 h8⟩
theorem chkE_of {r : RecM} (h1 : 1 ≤ r.kind) (h8 : r.kind ≤ 8) (h : okB r = true) : chkE r = 0 := by
  unfold chkE
  rw [if_pos (fromB_iff.2 ⟨h1, h8⟩), if_pos h]
theorem chkE0 {r : RecM} (h : chkE r = 0) : chkE (noLsn r) = 0 := by
  obtain ⟨hk, ho⟩ := chkE_ok h
  exact chkE_of hk.1 hk.2 (okB0 ho)

/-- The bytes of a record that may be one, and what may stand behind them. -/
theorem dec_of {r : RecM} (h : chkE r = 0) (hf : Fits r) (m : List Nat) :
    decM (bytesR r ++ m) = if m = [] then (noLsn r, 0) else (zeroR, 21) := by
  obtain ⟨hk, ho⟩ := chkE_ok h
  have hfw := Fw.read (okB_in ho) hf (okB_kn ho)
  have hb : bytesR r = form r.kind.toNat ++ (tailN r).flatMap form := by unfold bytesR; rw [nums_tail, List.flatMap_cons]
  have hu := u_form (l := bytesR r ++ m) (pos := 0) (n := r.kind.toNat) (r := (tailN r).flatMap form ++ m) 18446744073709551615 (by rw [hb]; simp) (by omega) (by omega)
  have hkm : kindM (bytesR r ++ m) = ((r.kind.toNat, 0), ⟨(form r.kind.toNat).length, 0⟩) := by
    unfold kindM
    simp only
    rw [hu]
    simp only [Nat.zero_add]
    rw [if_neg (by simp), if_pos (by omega)]
  have hr := hfw (bytesR r ++ m) (form r.kind.toNat).length m (by rw [hb, List.append_assoc, List.drop_left])
  have hkk : ((r.kind.toNat : Nat) : Int) = r.kind := by omega
  unfold decM
  rw [hkm]
  simp only
  rw [if_neg (by simp)]
  unfold restM
  rw [hkk, hr]
  simp only
  have hlen : (form r.kind.toNat).length + ((tailN r).flatMap form).length = (bytesR r).length := by rw [hb, List.length_append]
  rw [hlen]
  by_cases hm : m = []
  · have he : endE (bytesR r ++ m) (bytesR r).length 0 = 0 := by unfold endE; rw [if_neg (by rw [hm]; simp)]
    rw [he, if_pos hm, if_neg (by simp), if_neg (by rw [chkE0 h]; simp)]
  · have he : endE (bytesR r ++ m) (bytesR r).length 0 = 21 := by
      unfold endE
      rw [if_pos]
      have := List.length_pos_iff.2 hm
      simp
      omega
    rw [he, if_neg hm, if_pos (by simp)]
theorem back {r : RecM} (h : chkE r = 0) (hf : Fits r) : decM (bytesR r) = (noLsn r, 0) := by
  have := dec_of h hf []
  simpa using this
theorem more {r : RecM} (h : chkE r = 0) (hf : Fits r) {m : List Nat} (hm : m ≠ []) : decM (bytesR r ++ m) = (zeroR, 21) := by
  rw [dec_of h hf m, if_neg hm]
theorem end20 (l : List Nat) (pos : Nat) : endE l pos 20 = 20 := by unfold endE; rw [if_neg (by simp)]
theorem cut_short {r : RecM} (h : chkE r = 0) (hf : Fits r) {k : Nat} (hk : k < (bytesR r).length) : decM ((bytesR r).take k) = (zeroR, 20) := by
  obtain ⟨hkd, ho⟩ := chkE_ok h
  have hfw := Fw.read (okB_in ho) hf (okB_kn ho)
  have hb : bytesR r = form r.kind.toNat ++ (tailN r).flatMap form := by unfold bytesR; rw [nums_tail, List.flatMap_cons]
  have hall : AllB (bytesR r) := allB_forms _
  have hsplit : (bytesR r).take k ++ (bytesR r).drop k = bytesR r := List.take_append_drop _ _
  have hxl : ((bytesR r).take k).length = k := by rw [List.length_take]; omega
  have hu := u_form (l := bytesR r) (pos := 0) (n := r.kind.toNat) (r := (tailN r).flatMap form) 18446744073709551615 (by rw [hb]; simp) (by omega) (by omega)
  have hr := hfw (bytesR r) (form r.kind.toNat).length [] (by rw [hb, List.drop_left]; simp)
  have hkk : ((r.kind.toNat : Nat) : Int) = r.kind := by omega
  have hlen : (form r.kind.toNat).length + ((tailN r).flatMap form).length = (bytesR r).length := by rw [hb, List.length_append]
  rw [hlen] at hr
  rw [Nat.zero_add] at hu
  have c1 := Cu.u 18446744073709551615 ((bytesR r).take k) ((bytesR r).drop k) ⟨0, 0⟩ (by rw [hsplit]; exact hall) rfl (Nat.zero_le _) (by rw [hsplit, hu])
  rw [hsplit, hu] at c1
  rcases c1 with ⟨e1, e2⟩ | e1
  · rw [e1] at e2
    simp only at e2
    have hkm : kindM ((bytesR r).take k) = ((r.kind.toNat, 0), ⟨(form r.kind.toNat).length, 0⟩) := by
      unfold kindM
      simp only
      rw [e1]
      simp only
      rw [if_neg (by simp), if_pos (by omega)]
    have c2 := Cu.read r.kind ((bytesR r).take k) ((bytesR r).drop k) ⟨(form r.kind.toNat).length, 0⟩ (by rw [hsplit]; exact hall) rfl e2 (by rw [hsplit, hr])
    rw [hsplit, hr] at c2
    unfold decM
    rw [hkm]
    simp only
    rw [if_neg (by simp)]
    unfold restM
    rw [hkk]
    rcases c2 with ⟨e3, e4⟩ | e3
    · rw [e3] at e4
      simp only at e4
      omega
    · simp only
      rw [e3, end20, if_pos (by simp)]
  · have hkm : (kindM ((bytesR r).take k)).1.2 = 20 := by
      unfold kindM
      simp only
      rw [if_pos (by rw [e1]; simp)]
      exact e1
    unfold decM
    rw [hkm, if_pos (by simp)]
theorem dec_err {l : List Nat} (h : (decM l).2 ≠ 0) : (decM l).1 = zeroR := by
  unfold decM at *
  split
  · rfl
  · rename_i q
    rw [if_neg q] at h
    unfold restM at *
    simp only at *
    split
    · rfl
    · rename_i q1
      rw [if_neg q1] at h
      split
      · rfl
      · rename_i q2
        rw [if_neg q2] at h
        exact absurd rfl h
end Go.Proofs.Ytlibldioliicfaa
