import Derived.Test.YtgpmghdoofcpaaaTh2
import Derived.Test.YtgpmghdoofcpaaaDec8
namespace Go.Proofs.Ytgpmghdoofcpaaa
open Go.RowKit Go.QK

theorem toN {n : Int} (h : 0 ≤ n) : ((n.toNat : Nat) : Int) = n := by omega
/-- A field that its kind does not have is zero. -/
theorem oneB_no {n m : Int} (h : oneB false n m = true) : n = 0 := by simpa [oneB] using h
/-- What a record that may be one has, field by field, by its kind. -/
structure Kn (r : RecM) : Prop where
  tx : hTx r.kind = false → r.tx = 0
  prev : hPrev r.kind = false → r.prev = 0
  ctr : hCtr r.kind = false → r.wp = 0 ∧ r.wi = 0 ∧ r.sp = 0 ∧ r.si = 0 ∧ r.id = 0
  first : hFirst r.kind = false → r.grp = 0 ∧ r.lo = 0 ∧ r.hi = 0 ∧ r.val = 0
  delta : hDelta r.kind = false → r.delta = 0
  pts : hPts r.kind = false → r.next = 0 ∧ r.live = [] ∧ r.dirty = []
theorem okB_kn {r : RecM} (h : okB r = true) : Kn r := by
  simp only [okB, Bool.and_eq_true] at h
  obtain ⟨⟨⟨⟨⟨⟨⟨⟨h0, h1⟩, h2⟩, h3⟩, h4⟩, h5⟩, h6⟩, h7⟩, h8⟩ := h
  refine ⟨fun q => ?_, fun q => ?_, fun q => ?_, fun q => ?_, fun q => ?_, fun q => ?_⟩
  · rw [q] at h2; exact oneB_no h2
  · rw [q] at h3; exact oneB_no h3
  · rw [q] at h4 h5
    have := oneB_no h5
    simp [slotsB] at h4
    omega
  · rw [q] at h6
    simp [firstB] at h6
    omega
  · rw [q] at h7
    simpa using h7
  · rw [q] at h8
    simp [pointsB] at h8
    exact ⟨h8.1.1, h8.1.2, h8.2⟩

def tailN (r : RecM) : List Nat :=
  (bif hTx r.kind then [r.tx.toNat] else []) ++ ((bif hPrev r.kind then [r.prev.toNat] else []) ++ ((bif hCtr r.kind then [r.wp.toNat, r.wi.toNat, r.sp.toNat, r.si.toNat, r.id.toNat] else []) ++
    ((bif hFirst r.kind then firstNs r.grp.toNat r.lo r.hi r.val else []) ++ ((bif hDelta r.kind then [sgn r.delta] else []) ++ (bif hPts r.kind then pointsNs r.live r.dirty r.next.toNat else [])))))
theorem nums_tail (r : RecM) : nums r = r.kind.toNat :: tailN r := by simp only [nums, tailN, List.append_assoc, List.cons_append, List.nil_append]
def r1 (r : RecM) : RecM := { zeroR with kind := r.kind, tx := r.tx }
def r2 (r : RecM) : RecM := { r1 r with prev := r.prev }
def r3 (r : RecM) : RecM := { r2 r with wp := r.wp, wi := r.wi, sp := r.sp, si := r.si, id := r.id }
def r4 (r : RecM) : RecM := { r3 r with grp := r.grp, lo := r.lo, hi := r.hi, val := r.val }
def r5 (r : RecM) : RecM := { r4 r with delta := r.delta }
def noLsn (r : RecM) : RecM := { r with lsn := 0 }
theorem Fw.read {r : RecM} (h : InR r) (hf : Fits r) (hk : Kn r) : Fw (readM r.kind) (tailN r) (noLsn r) := by
  obtain ⟨f1, f2, f3, f4⟩ := hf
  have b1 := h.tx; have b2 := h.prev; have b3 := h.wp; have b4 := h.wi; have b5 := h.sp; have b6 := h.si; have b7 := h.id; have b8 := h.grp; have b9 := h.next
  have p1 : Fw (part1 r.kind { zeroR with kind := r.kind }) (bif hTx r.kind then [r.tx.toNat] else []) (r1 r) := by
    refine Fw.cond (fun _ => ?_) (fun q => ?_)
    · have := (Fw.take (n := r.tx) (by omega)).bind (g := fun (n : Nat) => pureM { zeroR with kind := r.kind, tx := (n : Int) }) (Fw.pure _)
      rw [toN b1.1] at this
      exact this
    · unfold r1; rw [hk.tx q]; rfl
  have p2 : Fw (part2 r.kind (r1 r)) (bif hPrev r.kind then [r.prev.toNat] else []) (r2 r) := by
    refine Fw.cond (fun _ => ?_) (fun q => ?_)
    · have := (Fw.take (n := r.prev) (by omega)).bind (g := fun (n : Nat) => pureM { r1 r with prev := (n : Int) }) (Fw.pure _)
      rw [toN b2.1] at this
      exact this
    · unfold r2; rw [hk.prev q]; rfl
  have p3 : Fw (part3 r.kind (r2 r)) (bif hCtr r.kind then [r.wp.toNat, r.wi.toNat, r.sp.toNat, r.si.toNat, r.id.toNat] else []) (r3 r) := by
    refine Fw.cond (fun _ => ?_) (fun q => ?_)
    · have a3 := (Fw.take (n := r.id) (by omega)).bind (g := fun (n : Nat) => pureM { r2 r with wp := ((r.wp.toNat : Nat) : Int), wi := ((r.wi.toNat : Nat) : Int), sp := ((r.sp.toNat : Nat) : Int), si := ((r.si.toNat : Nat) : Int), id := (n : Int) }) (Fw.pure _)
      have a2 := (Fw.slot (a := r.sp) (b := r.si) (by omega) (by omega)).bind (g := fun (b : Nat × Nat) => bindM takeM fun (n : Nat) => pureM { r2 r with wp := ((r.wp.toNat : Nat) : Int), wi := ((r.wi.toNat : Nat) : Int), sp := (b.1 : Int), si := (b.2 : Int), id := (n : Int) }) a3
      have a1 := (Fw.slot (a := r.wp) (b := r.wi) (by omega) (by omega)).bind (g := fun (a : Nat × Nat) => bindM slotM fun (b : Nat × Nat) => bindM takeM fun (n : Nat) => pureM { r2 r with wp := (a.1 : Int), wi := (a.2 : Int), sp := (b.1 : Int), si := (b.2 : Int), id := (n : Int) }) a2
      rw [toN b3.1, toN b4.1, toN b5.1, toN b6.1, toN b7.1] at a1
      exact a1
    · obtain ⟨q1, q2, q3, q4, q5⟩ := hk.ctr q
      unfold r3; rw [q1, q2, q3, q4, q5]; rfl
  have p4 : Fw (part4 r.kind (r3 r)) (bif hFirst r.kind then firstNs r.grp.toNat r.lo r.hi r.val else []) (r4 r) := by
    refine Fw.cond (fun _ => ?_) (fun q => ?_)
    · have a4 := (Fw.sign f4).bind (g := fun v => pureM { r3 r with grp := ((r.grp.toNat : Nat) : Int), lo := r.lo, hi := r.hi, val := v }) (Fw.pure _)
      have a3 := (Fw.sign f3).bind (g := fun hi => bindM signM fun v => pureM { r3 r with grp := ((r.grp.toNat : Nat) : Int), lo := r.lo, hi := hi, val := v }) a4
      have a2 := (Fw.sign f2).bind (g := fun lo => bindM signM fun hi => bindM signM fun v => pureM { r3 r with grp := ((r.grp.toNat : Nat) : Int), lo := lo, hi := hi, val := v }) a3
      have a1 := (Fw.take (n := r.grp) (by omega)).bind (g := fun (n : Nat) => bindM signM fun lo => bindM signM fun hi => bindM signM fun v => pureM { r3 r with grp := (n : Int), lo := lo, hi := hi, val := v }) a2
      rw [toN b8.1] at a1
      exact a1
    · obtain ⟨q1, q2, q3, q4⟩ := hk.first q
      unfold r4; rw [q1, q2, q3, q4]; rfl
  have p5 : Fw (part5 r.kind (r4 r)) (bif hDelta r.kind then [sgn r.delta] else []) (r5 r) := by
    refine Fw.cond (fun _ => ?_) (fun q => ?_)
    · exact (Fw.sign f1).bind (g := fun n => pureM { r4 r with delta := n }) (Fw.pure _)
    · unfold r5; rw [hk.delta q]; rfl
  have p6 : Fw (part6 r.kind (r5 r)) (bif hPts r.kind then pointsNs r.live r.dirty r.next.toNat else []) (noLsn r) := by
    refine Fw.cond (fun _ => ?_) (fun q => ?_)
    · have a1 := (Fw.points (ls := r.live) (ds := r.dirty) (nx := r.next.toNat) (by omega) h.ll h.dl h.li h.di).bind (g := fun (p : Nat × List LiveM × List DirtyM) => pureM { r5 r with next := (p.1 : Int), live := p.2.1, dirty := p.2.2 }) (Fw.pure _)
      rw [List.append_nil] at a1
      have e : ({ r5 r with next := ((r.next.toNat, r.live, r.dirty).1 : Int), live := (r.next.toNat, r.live, r.dirty).2.1, dirty := (r.next.toNat, r.live, r.dirty).2.2 } : RecM) = noLsn r := by
        unfold noLsn r5 r4 r3 r2 r1
        simp only
        rw [toN b9.1]
        rfl
      rw [e] at a1
      exact a1
    · obtain ⟨q1, q2, q3⟩ := hk.pts q
      unfold noLsn r5 r4 r3 r2 r1; rw [q1, q2, q3]; rfl
  rw [readM_eq]
  exact p1.bind (p2.bind (p3.bind (p4.bind (p5.bind p6))))
end Go.Proofs.Ytgpmghdoofcpaaa

namespace Go.Proofs.Ytgpmghdoofcpaaa
open Go.RowKit Go.QK

theorem ahead0 (n : Int) : aheadB n 0 = true := by unfold aheadB; simp
theorem recB0 {n lsn : Int} (h : recB n lsn = true) : recB n 0 = true := by
  unfold recB at *
  simp only [Bool.and_eq_true] at h
  simp [h.1, ahead0]
theorem liveB0 {next lsn : Int} : {ls : List LiveM} → {m : Int} → liveB next lsn m ls = true → liveB next 0 m ls = true
  | [], _, _ => rfl
  | x :: ls, m, h => by
    simp only [liveB, Bool.and_eq_true] at h ⊢
    exact ⟨⟨⟨h.1.1.1, recB0 h.1.1.2⟩, h.1.2⟩, liveB0 h.2⟩
theorem dirtyB0 {lsn : Int} : {ls : List DirtyM} → {m : Int} → dirtyB lsn m ls = true → dirtyB 0 m ls = true
  | [], _, _ => rfl
  | x :: ls, m, h => by
    simp only [dirtyB, Bool.and_eq_true] at h ⊢
    exact ⟨⟨h.1.1, recB0 h.1.2⟩, dirtyB0 h.2⟩
theorem pointsB0 {has : Bool} {ls : List LiveM} {ds : List DirtyM} {next lsn : Int} (h : pointsB has ls ds next lsn = true) : pointsB has ls ds next 0 = true := by
  unfold pointsB at *
  cases has
  · exact h
  · simp only [cond_true, Bool.and_eq_true] at h ⊢
    exact ⟨⟨h.1.1, h.1.2.1, liveB0 h.1.2.2⟩, h.2.1, dirtyB0 h.2.2⟩
theorem okB0 {r : RecM} (h : okB r = true) : okB (noLsn r) = true := by
  simp only [okB, Bool.and_eq_true, noLsn] at h ⊢
  obtain ⟨⟨⟨⟨⟨⟨⟨⟨h0, h1⟩, h2⟩, h3⟩, h4⟩, h5⟩, h6⟩, h7⟩, h8⟩ := h
  exact ⟨⟨⟨⟨⟨⟨⟨⟨by unfold fromB; simp, ahead0 _⟩, h2⟩, h3⟩, h4⟩, h5⟩, h6⟩, h7⟩, pointsB0 h8⟩
theorem chkE_of {r : RecM} (h1 : 1 ≤ r.kind) (h8 : r.kind ≤ 8) (h : okB r = true) : chkE r = 0 := by
  unfold chkE
  rw [if_pos (fromB_iff.2 ⟨h1, h8⟩), if_pos h]
theorem chkE0 {r : RecM} (h : chkE r = 0) : chkE (noLsn r) = 0 := by
  obtain ⟨hk, ho⟩ := chkE_ok h
  exact chkE_of hk.1 hk.2 (okB0 ho)

/-- The bytes of a record that may be one, and what may stand behind them. -/
theorem dec_of {r : RecM} (h : chkE r = 0) (hf : Fits r) (m : List Nat) :
    decM (bytesR r ++ m) = if m = [] then (noLsn r, 0) else (zeroR, 21) := by
  obtain ⟨hk, ho⟩ := chkE_ok h
  have hfw := Fw.read (okB_in ho) hf (okB_kn ho)
  have hb : bytesR r = form r.kind.toNat ++ (tailN r).flatMap form := by unfold bytesR; rw [nums_tail, List.flatMap_cons]
  have hu := u_form (l := bytesR r ++ m) (pos := 0) (n := r.kind.toNat) (r := (tailN r).flatMap form ++ m) 18446744073709551615 (by rw [hb]; simp) (by omega) (by omega)
  have hkm : kindM (bytesR r ++ m) = ((r.kind.toNat, 0), ⟨(form r.kind.toNat).length, 0⟩) := by
    unfold kindM
    simp only
    rw [hu]
    simp only [Nat.zero_add]
    rw [if_neg (by simp), if_pos (by omega)]
  have hr := hfw (bytesR r ++ m) (form r.kind.toNat).length m (by rw [hb, List.append_assoc, List.drop_left])
  have hkk : ((r.kind.toNat : Nat) : Int) = r.kind := by omega
  unfold decM
  rw [hkm]
  simp only
  rw [if_neg (by simp)]
  unfold restM
  rw [hkk, hr]
  simp only
  have hlen : (form r.kind.toNat).length + ((tailN r).flatMap form).length = (bytesR r).length := by rw [hb, List.length_append]
  rw [hlen]
  by_cases hm : m = []
  · have he : endE (bytesR r ++ m) (bytesR r).length 0 = 0 := by unfold endE; rw [if_neg (by rw [hm]; simp)]
    rw [he, if_pos hm, if_neg (by simp), if_neg (by rw [chkE0 h]; simp)]
  · have he : endE (bytesR r ++ m) (bytesR r).length 0 = 21 := by
      unfold endE
      rw [if_pos]
      have := List.length_pos_iff.2 hm
      simp
      omega
    rw [he, if_neg hm, if_pos (by simp)]
theorem back {r : RecM} (h : chkE r = 0) (hf : Fits r) : decM (bytesR r) = (noLsn r, 0) := by
  have := dec_of h hf []
  simpa using this
theorem more {r : RecM} (h : chkE r = 0) (hf : Fits r) {m : List Nat} (hm : m ≠ []) : decM (bytesR r ++ m) = (zeroR, 21) := by
  rw [dec_of h hf m, if_neg hm]
theorem end20 (l : List Nat) (pos : Nat) : endE l pos 20 = 20 := by unfold endE; rw [if_neg (by simp)]
theorem cut_short {r : RecM} (h : chkE r = 0) (hf : Fits r) {k : Nat} (hk : k < (bytesR r).length) : decM ((bytesR r).take k) = (zeroR, 20) := by
  obtain ⟨hkd, ho⟩ := chkE_ok h
  have hfw := Fw.read (okB_in ho) hf (okB_kn ho)
  have hb : bytesR r = form r.kind.toNat ++ (tailN r).flatMap form := by unfold bytesR; rw [nums_tail, List.flatMap_cons]
  have hall : AllB (bytesR r) := allB_forms _
  have hsplit : (bytesR r).take k ++ (bytesR r).drop k = bytesR r := List.take_append_drop _ _
  have hxl : ((bytesR r).take k).length = k := by rw [List.length_take]; omega
  have hu := u_form (l := bytesR r) (pos := 0) (n := r.kind.toNat) (r := (tailN r).flatMap form) 18446744073709551615 (by rw [hb]; simp) (by omega) (by omega)
  have hr := hfw (bytesR r) (form r.kind.toNat).length [] (by rw [hb, List.drop_left]; simp)
  have hkk : ((r.kind.toNat : Nat) : Int) = r.kind := by omega
  have hlen : (form r.kind.toNat).length + ((tailN r).flatMap form).length = (bytesR r).length := by rw [hb, List.length_append]
  rw [hlen] at hr
  rw [Nat.zero_add] at hu
  have c1 := Cu.u 18446744073709551615 ((bytesR r).take k) ((bytesR r).drop k) ⟨0, 0⟩ (by rw [hsplit]; exact hall) rfl (Nat.zero_le _) (by rw [hsplit, hu])
  rw [hsplit, hu] at c1
  rcases c1 with ⟨e1, e2⟩ | e1
  · rw [e1] at e2
    simp only at e2
    have hkm : kindM ((bytesR r).take k) = ((r.kind.toNat, 0), ⟨(form r.kind.toNat).length, 0⟩) := by
      unfold kindM
      simp only
      rw [e1]
      simp only
      rw [if_neg (by simp), if_pos (by omega)]
    have c2 := Cu.read r.kind ((bytesR r).take k) ((bytesR r).drop k) ⟨(form r.kind.toNat).length, 0⟩ (by rw [hsplit]; exact hall) rfl e2 (by rw [hsplit, hr])
    rw [hsplit, hr] at c2
    unfold decM
    rw [hkm]
    simp only
    rw [if_neg (by simp)]
    unfold restM
    rw [hkk]
    rcases c2 with ⟨e3, e4⟩ | e3
    · rw [e3] at e4
      simp only at e4
      omega
    · simp only
      rw [e3, end20, if_pos (by simp)]
  · have hkm : (kindM ((bytesR r).take k)).1.2 = 20 := by
      unfold kindM
      simp only
      rw [if_pos (by rw [e1]; simp)]
      exact e1
    unfold decM
    rw [hkm, if_pos (by simp)]
theorem dec_err {l : List Nat} (h : (decM l).2 ≠ 0) : (decM l).1 = zeroR := by
  unfold decM at *
  split
  · rfl
  · rename_i q
    rw [if_neg q] at h
    unfold restM at *
    simp only at *
    split
    · rfl
    · rename_i q1
      rw [if_neg q1] at h
      split
      · rfl
      · rename_i q2
        rw [if_neg q2] at h
        exact absurd rfl h
end Go.Proofs.Ytgpmghdoofcpaaa
