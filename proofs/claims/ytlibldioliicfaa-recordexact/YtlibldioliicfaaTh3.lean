import Derived.Test.YtlibldioliicfaaTh2
import Derived.Test.YtlibldioliicfaaDec8
namespace Go.Proofs.Ytlibldioliicfaa
open Go.RowKit Go.QK

theorem toN {n : Int} (h : 0 ≤ n) : ((n.toNat : Nat) : Int) = n := by omega
/-- A field that its kind does not have is zero. -/
theorem oneB_no {n m : Int} (h : oneB false n m = true) : n = 0 := by simpa [oneB] using h
/-- What a record that may be one has, field by field, by its kind. -/
structure Kn (r : RecM) : Prop where
  tx : hTx r.kind = false → r.tx = 0
  prev : hPrev r.kind = false → r.prev = 0
  ctr : hCtr r.kind = false → r.wp = 0 ∧ r.wi = 0 ∧ r.sp = 0 ∧ r.si = 0 ∧ r.id = 0
  first : hFirst r.kind = false → r.grp = 0 ∧ r.lo = 0 ∧ r.hi = 0 ∧ r.val = 0
  delta : hDelta r.kind = false → r.delta = 0
  pts : hPts r.kind = false → r.next = 0 ∧ r.live = [] ∧ r.dirty = []
theorem okB_kn {r : RecM} (h : okB r = true) : Kn r := by
  simp only [okB, Bool.and_eq_true] at h
  obtain ⟨⟨⟨⟨⟨⟨⟨⟨h0, h1⟩, h2⟩, h3⟩, h4⟩, h5⟩, h6⟩, h7⟩, h8⟩ := h
  refine ⟨fun q => ?_, fun q => ?_, fun q => ?_, fun q => ?_, fun q => ?_, fun q => ?_⟩
  · rw [q] at h2; exact oneB_no h2
  · rw [q] at h3; exact oneB_no h3
  · rw [q] at h4 h5
    have := oneB_no h5
    simp [slotsB] at h4
    omega
  · rw [q] at h6
    simp [firstB] at h6
    omega
  · rw [q] at h7
    simpa using h7
  · rw [q] at h8
    simp [pointsB] at h8
    exact ⟨h8.1.1, h8.1.2, h8.2⟩

def tailN (r : RecM) : List Nat :=
  (bif hTx r.kind then [r.tx.toNat] else []) ++ ((bif hPrev r.kind then [r.prev.toNat] else []) ++ ((bif hCtr r.kind then [r.wp.toNat, r.wi.toNat, r.sp.toNat, r.si.toNat, r.id.toNat] else []) ++
    ((bif hFirst r.kind then firstNs r.grp.toNat r.lo r.hi r.val else []) ++ ((bif hDelta r.kind then [sgn r.delta] else []) ++ (bif hPts r.kind then pointsNs r.live r.dirty r.next.toNat else [])))))
theorem nums_tail (r : RecM) : nums r = r.kind.toNat :: tailN r := by simp only [nums, tailN, List.append_assoc, List.cons_append, List.nil_append]
def r1 (r : RecM) : RecM := { zeroR with kind := r.kind, tx := r.tx }
def r2 (r : RecM) : RecM := { r1 r with prev := r.prev }
def r3 (r : RecM) : RecM := { r2 r with wp := r.wp, wi := r.wi, sp := r.sp, si := r.si, id := r.id }
def r4 (r : RecM) : RecM := { r3 r with grp := r.grp, lo := r.lo, hi := r.hi, val := r.val }
def r5 (r : RecM) : RecM := { r4 r with delta := r.delta }
def noLsn (r : RecM) : RecM := { r with lsn := 0 }
theorem Fw.read {r : RecM} (h : InR r) (hf : Fits r) (hk : Kn r) : Fw (readM r.kind) (tailN r) (noLsn r) := by
  obtain ⟨f1, f2, f3, f4⟩ := hf
  have b1 := h.tx; have b2 := h.prev; have b3 := h.wp; have b4 := h.wi; have b5 := h.sp; have b6 := h.si; have b7 := h.id; have b8 := h.grp; have b9 := h.next
  have p1 : Fw (part1 r.kind { zeroR with kind := r.kind }) (bif hTx r.kind then [r.tx.toNat] else []) (r1 r) := by
    refine Fw.cond (fun _ => ?_) (fun q => ?_)
    · have := (Fw.take (n := r.tx) (by omega)).bind (g := fun (n : Nat) => pureM { zeroR with kind := r.kind, tx := (n : Int) }) (Fw.pure _)
      rw [toN b1.1] at this
      exact this
    · unfold r1; rw [hk.tx q]; rfl
  have p2 : Fw (part2 r.kind (r1 r)) (bif hPrev r.kind then [r.prev.toNat] else []) (r2 r) := by
    refine Fw.cond (fun _ => ?_) (fun q => ?_)
    · have := (Fw.take (n := r.prev) (by omega)).bind (g := fun (n : Nat) => pureM { r1 r with prev := (n : Int) }) (Fw.pure _)
      rw [toN b2.1] at this
      exact this
    · unfold r2; rw [hk.prev q]; rfl
  have p3 : Fw (part3 r.kind (r2 r)) (bif hCtr r.kind then [r.wp.toNat, r.wi.toNat, r.sp.toNat, r.si.toNat, r.id.toNat] else []) (r3 r) := by
    refine Fw.cond (fun _ => ?_) (fun q => ?_)
    · have a3 := (Fw.take (n := r.id) (by omega)).bind (g := fun (n : Nat) => pureM { r2 r with wp := ((r.wp.toNat : Nat) : Int), wi := ((r.wi.toNat : Nat) : Int), sp := ((r.sp.toNat : Nat) : Int), si := ((r.si.toNat : Nat) : Int), id := (n : Int) }) (Fw.pure _)
      have a2 := (Fw.slot (a := r.sp) (b := r.si) (by omega) (by omega)).bind (g := fun (b : Nat × Nat) => bindM takeM fun (n : Nat) => pureM { r2 r with wp := ((r.wp.toNat : Nat) : Int), wi := ((r.wi.toNat : Nat) : Int), sp := (b.1 : Int), si := (b.2 : Int), id := (n : Int) }) a3
      have a1 := (Fw.slot (a := r.wp) (b := r.wi) (by omega) (by omega)).bind (g := fun (a : Nat × Nat) => bindM slotM fun (b : Nat × Nat) => bindM takeM fun (n : Nat) => pureM { r2 r with wp := (a.1 : Int), wi := (a.2 : Int), sp := (b.1 : Int), si := (b.2 : Int), id := (n : Int) }) a2
      rw [toN b3.1, toN b4.1, toN b5.1, toN b6.1, toN b7.1] at a1
      exact a1
    · obtain ⟨q1, q2, q3, q4, q5⟩ := hk.ctr q
      unfold r3; rw [q1, q2, q3, q4, q5]; rfl
  have p4 : Fw (part4 r.kind (r3 r)) (bif hFirst r.kind then firstNs r.grp.toNat r.lo r.hi r.val else []) (r4 r) := by
    refine Fw.cond (fun _ => ?_) (fun q => ?_)
    · have a4 := (Fw.sign f4).bind (g := fun v => pureM { r3 r with grp := ((r.grp.toNat : Nat) : Int), lo := r.lo, hi := r.hi, val := v }) (Fw.pure _)
      have a3 := (Fw.sign f3).bind (g := fun hi => bindM signM fun v => pureM { r3 r with grp := ((r.grp.toNat : Nat) : Int), lo := r.lo, hi := hi, val := v }) a4
      have a2 := (Fw.sign f2).bind (g := fun lo => bindM signM fun hi => bindM signM fun v => pureM { r3 r with grp := ((r.grp.toNat : Nat) : Int), lo := lo, hi := hi, val := v }) a3
      have a1 := (Fw.take (n := r.grp) (by omega)).bind (g := fun (n : Nat) => bindM signM fun lo => bindM signM fun hi => bindM signM fun v => pureM { r3 r with grp := (n : Int), lo := lo, hi := hi, val := v }) a2
      rw [toN b8.1] at a1
      exact a1
    · obtain ⟨q1, q2, q3, q4⟩ := hk.first q
      unfold r4; rw [q1, q2, q3, q4]; rfl
  have p5 : Fw (part5 r.kind (r4 r)) (bif hDelta r.kind then [sgn r.delta] else []) (r5 r) := by
    refine Fw.cond (fun _ => ?_) (fun q => ?_)
    · exact (Fw.sign f1).bind (g := fun n => pureM { r4 r with delta := n }) (Fw.pure _)
    · unfold r5; rw [hk.delta q]; rfl
  have p6 : Fw (part6 r.kind (r5 r)) (bif hPts r.kind then pointsNs r.live r.dirty r.next.toNat else []) (noLsn r) := by
    refine Fw.cond (fun _ => ?_) (fun q => ?_)
    · have a1 := (Fw.points (ls := r.live) (ds := r.dirty) (nx := r.next.toNat) (by omega) h.ll h.dl h.li h.di).bind (g := fun (p : Nat × List LiveM × List DirtyM) => pureM { r5 r with next := (p.1 : Int), live := p.2.1, dirty := p.2.2 }) (Fw.pure _)
      rw [List.append_nil] at a1
      have e : ({ r5 r with next := ((r.next.toNat, r.live, r.dirty).1 : Int), live := (r.next.toNat, r.live, r.dirty).2.1, dirty := (r.next.toNat, r.live, r.dirty).2.2 } : RecM) = noLsn r := by
        unfold noLsn r5 r4 r3 r2 r1
        simp only
        rw [toN b9.1]
        rfl
      rw [e] at a1
      exact a1
    · obtain ⟨q1, q2, q3⟩ := hk.pts q
      unfold noLsn r5 r4 r3 r2 r1; rw [q1, q2, q3]; rfl
  rw [readM_eq]
  exact p1.bind (p2.bind (p3.bind (p4.bind (p5.bind p6))))
end Go.Proofs.Ytlibldioliicfaa
