import Derived.Test.YtgpmghdoofcpaaaG47
namespace Go.Proofs.Ytgpmghdoofcpaaa
open Go.RowKit Go.QK

/-! How long. -/
theorem form_le : (j n : Nat) → n < 128 ^ (j + 1) → (form n).length ≤ j + 1
  | 0, n, h => by rw [form_small (by simpa using h)]; simp
  | j + 1, n, h => by
    by_cases q : n < 128
    · rw [form_small q]; simp
    · rw [form_big q]
      have : n / 128 < 128 ^ (j + 1) := by
        rw [Nat.div_lt_iff_lt_mul (by decide), Nat.pow_succ] at *
        exact h
      have := form_le j (n / 128) this
      simp
      omega
theorem f1 {n : Nat} (h : n < 128) : (form n).length ≤ 1 := form_le 0 n (by simpa using h)
theorem f3 {n : Nat} (h : n ≤ 1048576) : (form n).length ≤ 3 := form_le 2 n (by omega)
theorem f5 {n : Nat} (h : n ≤ 2147483648) : (form n).length ≤ 5 := form_le 4 n (by omega)
theorem fm_len {α : Type} (g : α → List Nat) (c : Nat) (h : ∀ x, (g x).length ≤ c) (xs : List α) : (xs.flatMap g).length ≤ c * xs.length := by
  induction xs with
  | nil => simp
  | cons x xs ih =>
    rw [List.flatMap_cons, List.length_append, List.length_cons, Nat.mul_succ]
    have := h x
    omega
theorem fm_len_mem {α : Type} (g : α → List Nat) (c : Nat) : (xs : List α) → (∀ x ∈ xs, (g x).length ≤ c) → (xs.flatMap g).length ≤ c * xs.length
  | [], _ => by simp
  | x :: xs, h => by
    rw [List.flatMap_cons, List.length_append, List.length_cons, Nat.mul_succ]
    have := h x (by simp)
    have := fm_len_mem g c xs (fun y hy => h y (by simp [hy]))
    omega
theorem fm2 {α : Type} (g : α → List Nat) (xs : List α) : (xs.flatMap g).flatMap form = xs.flatMap (fun x => (g x).flatMap form) := by
  induction xs with
  | nil => rfl
  | cons x xs ih => rw [List.flatMap_cons, List.flatMap_append, List.flatMap_cons, ih]
theorem live_bytes {l : LiveM} (h : liveIn2 l) : ((liveNs l).flatMap form).length ≤ 11 := by
  unfold liveIn2 at h
  have a1 := f5 (n := l.tx.toNat) (by omega)
  have a2 := f5 (n := l.last.toNat) (by omega)
  have a3 := f1 (n := stateN l) (by have := stateN_le l; omega)
  simp [liveNs]
  omega
theorem dirty_bytes {l : DirtyM} (h : dirtyIn2 l) : ((dirtyNs l).flatMap form).length ≤ 6 := by
  unfold dirtyIn2 at h
  have a1 := f1 (n := l.page.toNat) (by omega)
  have a2 := f5 (n := l.since.toNat) (by omega)
  simp [dirtyNs]
  omega
theorem points_bytes {r : RecM} (h : InR r) : ((pointsNs r.live r.dirty r.next.toNat).flatMap form).length ≤ 455 := by
  have b := h.next
  have a1 := f5 (n := r.next.toNat) (by omega)
  have a2 := f1 (n := r.live.length) (by have := h.ll; omega)
  have a3 := f1 (n := r.dirty.length) (by have := h.dl; omega)
  have c1 := fm_len_mem (fun l => (liveNs l).flatMap form) 11 r.live (fun l q => live_bytes (h.li l q))
  have c2 := fm_len_mem (fun l => (dirtyNs l).flatMap form) 6 r.dirty (fun l q => dirty_bytes (h.di l q))
  have d1 := h.ll
  have d2 := h.dl
  unfold pointsNs
  rw [List.flatMap_append, List.flatMap_append, List.flatMap_append, fm2, fm2]
  simp only [List.length_append, List.flatMap_cons, List.flatMap_nil, List.append_nil]
  omega
theorem cond_bytes {b : Bool} {l : List Nat} {n : Nat} (h : b = true → (l.flatMap form).length ≤ n) : ((bif b then l else []).flatMap form).length ≤ n := by
  cases b
  · simp
  · exact h rfl
theorem bytes_502 {r : RecM} (h : chkE r = 0) (hf : Fits r) : 2 ≤ (bytesR r).length ∧ (bytesR r).length ≤ 502 := by
  obtain ⟨hk, ho⟩ := chkE_ok h
  have hi := okB_in ho
  obtain ⟨g1, g2, g3, g4⟩ := hf
  have b1 := hi.tx; have b2 := hi.prev; have b3 := hi.wp; have b4 := hi.wi; have b5 := hi.sp; have b6 := hi.si; have b7 := hi.id; have b8 := hi.grp
  have hb : bytesR r = form r.kind.toNat ++ (tailN r).flatMap form := by unfold bytesR; rw [nums_tail, List.flatMap_cons]
  have l0 := f1 (n := r.kind.toNat) (by omega)
  have l0' := (form_len (n := r.kind.toNat) (by omega)).1
  have c1 := cond_bytes (b := hTx r.kind) (l := [r.tx.toNat]) (n := 5) (fun _ => by have := f5 (n := r.tx.toNat) (by omega); simpa using this)
  have c2 := cond_bytes (b := hPrev r.kind) (l := [r.prev.toNat]) (n := 5) (fun _ => by have := f5 (n := r.prev.toNat) (by omega); simpa using this)
  have c3 := cond_bytes (b := hCtr r.kind) (l := [r.wp.toNat, r.wi.toNat, r.sp.toNat, r.si.toNat, r.id.toNat]) (n := 7) (fun _ => by
    have a1 := f1 (n := r.wp.toNat) (by omega)
    have a2 := f1 (n := r.wi.toNat) (by omega)
    have a3 := f1 (n := r.sp.toNat) (by omega)
    have a4 := f1 (n := r.si.toNat) (by omega)
    have a5 := f3 (n := r.id.toNat) (by omega)
    simp
    omega)
  have c4 := cond_bytes (b := hFirst r.kind) (l := firstNs r.grp.toNat r.lo r.hi r.val) (n := 40) (fun _ => by
    have := flatForm_len (firstNs r.grp.toNat r.lo r.hi r.val) (by
      have := sgn_lt g2.1 g2.2; have := sgn_lt g3.1 g3.2; have := sgn_lt g4.1 g4.2
      intro n hn; simp [firstNs] at hn; omega)
    simpa [firstNs] using this)
  have c5 := cond_bytes (b := hDelta r.kind) (l := [sgn r.delta]) (n := 10) (fun _ => by
    have := (form_len (sgn_lt g1.1 g1.2)).2
    simpa using this)
  have c6 := cond_bytes (b := hPts r.kind) (l := pointsNs r.live r.dirty r.next.toNat) (n := 455) (fun _ => points_bytes hi)
  have hpos : 0 < ((tailN r).flatMap form).length := by
    have hne : tailN r ≠ [] := by
      unfold tailN
      rcases kinds5 hk.1 hk.2 with q | q | q | q | q
      · rw [q]; simp [hTx]
      · rw [q]; simp [hTx, hPrev, hCtr]
      · rcases q with q | q <;> rw [q] <;> simp [hTx]
      · rcases q with q | q | q <;> rw [q] <;> simp [hTx]
      · rw [q]; simp [hTx, hPrev, hCtr, hFirst, hDelta, hPts, pointsNs]
    obtain ⟨n, ns, e⟩ := List.exists_cons_of_ne_nil hne
    rw [e, List.flatMap_cons, List.length_append]
    have := List.length_pos_iff.2 (form_ok n).ne
    omega
  rw [hb, List.length_append]
  refine ⟨by omega, ?_⟩
  unfold tailN
  simp only [List.flatMap_append, List.length_append]
  by_cases hp : hPts r.kind = true
  · have hk8 : r.kind = 8 := by simpa [hPts] using hp
    rw [hk8] at c1 c2 c3 c4 c5 c6 ⊢
    have e1 : hTx 8 = false := rfl
    have e2 : hPrev 8 = false := rfl
    have e3 : hCtr 8 = false := rfl
    have e4 : hFirst 8 = false := rfl
    have e5 : hDelta 8 = false := rfl
    rw [e1, e2, e3, e4, e5]
    simp only [cond_false, List.flatMap_nil, List.length_nil]
    rw [hk8] at l0
    omega
  · have hp' : hPts r.kind = false := by simpa using hp
    rw [hp'] at c6 ⊢
    simp only [cond_false, List.flatMap_nil, List.length_nil]
    omega
end Go.Proofs.Ytgpmghdoofcpaaa
