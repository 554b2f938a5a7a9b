import Derived.Test.YtgpmghdoofcpaaaGreatG36
import Derived.Test.YtgpmghdoofcpaaaGreatG25
namespace Go.Proofs.YtgpmghdoofcpaaaGreat
open Go.RowKit Go.QK

theorem toN {n : Int} (h : 0 ≤ n) : ((n.toNat : Nat) : Int) = n := by omega
/-- A field that its kind does not have is zero. -/
theorem oneB_no {n m : Int} (h : oneB false n m = true) : n = 0 := by simpa [oneB] using h
/-- What a record that may be one has, field by field, by its kind. -/
structure Kn (r : RecM) : Prop where
  tx : hTx r.kind = false → r.tx = 0
  prev : hPrev r.kind = false → r.prev = 0
  ctr : hCtr r.kind = false → r.wp = 0 ∧ r.wi = 0 ∧ r.sp = 0 ∧ r.si = 0 ∧ r.id = 0
  first : hFirst r.kind = false → r.grp = 0 ∧ r.lo = 0 ∧ r.hi = 0 ∧ r.val = 0
  delta : hDelta r.kind = false → r.delta = 0
  pts : hPts r.kind = false → r.next = 0 ∧ r.live = [] ∧ r.dirty = []
theorem okB_kn {r : RecM} (h : okB r = true) : Kn r := by
  simp only [okB, Bool.and_eq_true] at h
  obtain ⟨⟨⟨⟨⟨⟨⟨⟨h0, h1⟩, h2⟩, h3⟩, h4⟩, h5⟩, h6⟩, h7⟩, h8⟩ := h
  refine ⟨fun q => ?_, fun q => ?_, fun q => ?_, fun q => ?_, fun q => ?_, fun q => ?_⟩
  · rw [q] at h2; exact oneB_no h2
  · rw [q] at h3; exact oneB_no h3
  · rw [q] at h4 h5
    have := oneB_no h5
    simp [slotsB] at h4
    omega
  · rw [q] at h6
    simp [firstB] at h6
    omega
  · rw [q] at h7
    simpa using h7
  · rw [q] at h8
    simp [pointsB] at h8
    exact ⟨h8.1.1, h8.1.2, h8.2⟩

def tailN (r : RecM) : List Nat :=
  (bif hTx r.kind then [r.tx.toNat] else []) ++ ((bif hPrev r.kind then [r.prev.toNat] else []) ++ ((bif hCtr r.kind then [r.wp.toNat, r.wi.toNat, r.sp.toNat, r.si.toNat, r.id.toNat] else []) ++
    ((bif hFirst r.kind then firstNs r.grp.toNat r.lo r.hi r.val else []) ++ ((bif hDelta r.kind then [sgn r.delta] else []) ++ (bif hPts r.kind then pointsNs r.live r.dirty r.next.toNat else [])))))
theorem nums_tail (r : RecM) : nums r = r.kind.toNat :: tailN r := by simp only [nums, tailN, List.append_assoc, List.cons_append, List.nil_append]
def r1 (r : RecM) : RecM := { zeroR with kind := r.kind, tx := r.tx }
def r2 (r : RecM) : RecM := { r1 r with prev := r.prev }
def r3 (r : RecM) : RecM := { r2 r with wp := r.wp, wi := r.wi, sp := r.sp, si := r.si, id := r.id }
def r4 (r : RecM) : RecM := { r3 r with grp := r.grp, lo := r.lo, hi := r.hi, val := r.val }
def r5 (r : RecM) : RecM := { r4 r with delta := r.delta }
def noLsn (r : RecM) : RecM := { r with lsn := 0 }
theorem Fw.read {r : RecM} (h : InR r) (hf : Fits r) (hk : Kn r) : Fw (readM r.kind) (tailN r) (noLsn r) := by
  obtain ⟨f1, f2, f3, f4⟩ := hf
  have b1 := h.tx; have b2 := h.prev; have b3 := h.wp; have b4 := h.wi; have b5 := h.sp; have b6 := h.si; have b7 := h.id; have b8 := h.grp; have b9 := h.next
  have p1 : Fw (part1 r.kind { zeroR with kind := r.kind }) (bif hTx r.kind then [r.tx.toNat] else []) (r1 r) := by
    refine Fw.cond (fun _ => ?_) (fun q => ?_)
    · have := (Fw.take (n := r.tx) (by omega)).bind (g := fun (n : Nat) => pureM { zeroR with kind := r.kind, tx := (n : Int) }) (Fw.pure _)
      rw [toN b1.1] at this
      exact this
    · unfold r1; rw [hk.tx q]; rfl
  have p2 : Fw (part2 r.kind (r1 r)) (bif hPrev r.kind then [r.prev.toNat] else []) (r2 r) := by
    refine Fw.cond (fun _ => ?_) (fun q => ?_)
    · have := (Fw.take (n := r.prev) (by omega)).bind (g := fun (n : Nat) => pureM { r1 r with prev := (n : Int) }) (Fw.pure _)
      rw [toN b2.1] at this
      exact this
    · unfold r2; rw [hk.prev q]; rfl
  have p3 : Fw (part3 r.kind (r2 r)) (bif hCtr r.kind then [r.wp.toNat, r.wi.toNat, r.sp.toNat, r.si.toNat, r.id.toNat] else []) (r3 r) := by
    refine Fw.cond (fun _ => ?_) (fun q => ?_)
    · have a3 := (Fw.take (n := r.id) (by omega)).bind (g := fun (n : Nat) => pureM { r2 r with wp := ((r.wp.toNat : Nat) : Int), wi := ((r.wi.toNat : Nat) : Int), sp := ((r.sp.toNat : Nat) : Int), si := ((r.si.toNat : Nat) : Int), id := (n : Int) }) (Fw.pure _)
      have a2 := (Fw.slot (a := r.sp) (b := r.si) (by omega) (by omega)).bind (g := fun (b : Nat × Nat) => bindM takeM fun (n : Nat) => pureM { r2 r with wp := ((r.wp.toNat : Nat) : Int), wi := ((r.wi.toNat : Nat) : Int), sp := (b.1 : Int), si := (b.2 : Int), id := (n : Int) }) a3
      have a1 := (Fw.slot (a := r.wp) (b := r.wi) (by omega) (by omega)).bind (g := fun (a : Nat × Nat) => bindM slotM fun (b : Nat × Nat) => bindM takeM fun (n : Nat) => pureM { r2 r with wp := (a.1 : Int), wi := (a.2 : Int), sp := (b.1 : Int), si := (b.2 : Int), id := (n : Int) }) a2
      rw [toN b3.1, toN b4.1, toN b5.1, toN b6.1, toN b7.1] at a1
      exact a1
    · obtain ⟨q1, q2, q3, q4, q5⟩ := hk.ctr q
      unfold r3; rw [q1, q2, q3, q4, q5]; rfl
  have p4 : Fw (part4 r.kind (r3 r)) (bif hFirst r.kind then firstNs r.grp.toNat r.lo r.hi r.val else []) (r4 r) := by
    refine Fw.cond (fun _ => ?_) (fun q => ?_)
    · have a4 := (Fw.sign f4).bind (g := fun v => pureM { r3 r with grp := ((r.grp.toNat : Nat) : Int), lo := r.lo, hi := r.hi, val := v }) (Fw.pure _)
      have a3 := (Fw.sign f3).bind (g := fun hi => bindM signM fun v => pureM { r3 r with grp := ((r.grp.toNat : Nat) : Int), lo := r.lo, hi := hi, val := v }) a4
      have a2 := (Fw.sign f2).bind (g := fun lo => bindM signM fun hi => bindM signM fun v => pureM { r3 r with grp := ((r.grp.toNat : Nat) : Int), lo := lo, hi := hi, val := v }) a3
      have a1 := (Fw.take (n := r.grp) (by omega)).bind (g := fun (n : Nat) => bindM signM fun lo => bindM signM fun hi => bindM signM fun v => pureM { r3 r with grp := (n : Int), lo := lo, hi := hi, val := v }) a2
      rw [toN b8.1] at a1
      exact a1
    · obtain ⟨q1, q2, q3, q4⟩ := hk.first q
      unfold r4; rw [q1, q2, q3, q4]; rfl
  have p5 : Fw (part5 r.kind (r4 r)) (bif hDelta r.kind then [sgn r.delta] else []) (r5 r) := by
    refine Fw.cond (fun _ => ?_) (fun q => ?_)
    · exact (Fw.sign f1).bind (g := fun n => pureM { r4 r with delta := n }) (Fw.pure _)
    · unfold r5; rw [hk.delta q]; rfl
  have p6 : Fw (part6 r.kind (r5 r)) (bif hPts r.kind then pointsNs r.live r.dirty r.next.toNat else []) (noLsn r) := by
    refine Fw.cond (fun _ => ?_) (fun q => ?_)
    · have a1 := (Fw.points (ls := r.live) (ds := r.dirty) (nx := r.next.toNat) (by omega) h.ll h.dl h.li h.di).bind (g := fun (p : Nat × List LiveM × List DirtyM) => pureM { r5 r with next := (p.1 : Int), live := p.2.1, dirty := p.2.2 }) (Fw.pure _)
      rw [List.append_nil] at a1
      have e : ({ r5 r with next := ((r.next.toNat, r.live, r.dirty).1 : Int), live := (r.next.toNat, r.live, r.dirty).2.1, dirty := (r.next.toNat, r.live, r.dirty).2.2 } : RecM) = noLsn r := by
        unfold noLsn r5 r4 r3 r2 r1
        simp only
        rw [toN b9.1]
        rfl
      rw [e] at a1
      exact a1
    · obtain ⟨q1, q2, q3⟩ := hk.pts q
      unfold noLsn r5 r4 r3 r2 r1; rw [q1, q2, q3]; rfl
  rw [readM_eq]
  exact p1.bind (p2.bind (p3.bind (p4.bind (p5.bind p6))))
end Go.Proofs.YtgpmghdoofcpaaaGreat

namespace Go.Proofs.YtgpmghdoofcpaaaGreat
open Go.RowKit Go.QK

theorem ahead0 (n : Int) : aheadB n 0 = true := by unfold aheadB; simp
theorem recB0 {n lsn : Int} (h : recB n lsn = true) : recB n 0 = true := by
  unfold recB at *
  simp only [Bool.and_eq_true] at h
  simp [h.1, ahead0]
theorem liveB0 {next lsn : Int} : {ls : List LiveM} → {m : Int} → liveB next lsn m ls = true → liveB next 0 m ls = true
  | [], _, _ => rfl
  | x :: ls, m, h => by
    simp only [liveB, Bool.and_eq_true] at h ⊢
    exact ⟨⟨⟨h.1.1.1, recB0 h.1.1.2⟩, h.1.2⟩, liveB0 h.2⟩
theorem dirtyB0 {lsn : Int} : {ls : List DirtyM} → {m : Int} → dirtyB lsn m ls = true → dirtyB 0 m ls = true
  | [], _, _ => rfl
  | x :: ls, m, h => by
    simp only [dirtyB, Bool.and_eq_true] at h ⊢
    exact ⟨⟨h.1.1, recB0 h.1.2⟩, dirtyB0 h.2⟩
theorem pointsB0 {has : Bool} {ls : List LiveM} {ds : List DirtyM} {next lsn : Int} (h : pointsB has ls ds next lsn = true) : pointsB has ls ds next 0 = true := by
  unfold pointsB at *
  cases has
  · exact h
  · simp only [cond_true, Bool.and_eq_true] at h ⊢
    exact ⟨⟨h.1.1, h.1.2.1, liveB0 h.1.2.2⟩, h.2.1, dirtyB0 h.2.2⟩
theorem okB0 {r : RecM} (h : okB r = true) : okB (noLsn r) = true := by
  simp only [okB, Bool.and_eq_true, noLsn] at h ⊢
  obtain ⟨⟨⟨⟨⟨⟨⟨⟨h0, h1⟩, h2⟩, h3⟩, h4⟩, h5⟩, h6⟩, h7⟩, h8⟩ := h
  exact ⟨⟨⟨⟨⟨⟨⟨⟨by unfold fromB; simp, ahead0 _⟩, h2⟩, h3⟩, h4⟩, h5⟩, h6⟩, h7⟩, pointsB0 h8⟩
theorem chkE_of {r : RecM} (h1 : 1 ≤ r.kind) (h8 : r.kind ≤ 8) (h : okB r = true) : chkE r = 0 := by
  unfold chkE
  rw [if_pos (fromB_iff.2 ⟨h1, h8⟩), if_pos h]
theorem chkE0 {r : RecM} (h : chkE r = 0) : chkE (noLsn r) = 0 := by
  obtain ⟨hk, ho⟩ := chkE_ok h
  exact chkE_of hk.1 hk.2 (okB0 ho)

/-- The bytes of a record that may be one, and what may stand behind them. -/
theorem dec_of {r : RecM} (h : chkE r = 0) (hf : Fits r) (m : List Nat) :
    decM (bytesR r ++ m) = if m = [] then (noLsn r, 0) else (zeroR, 21) := by
  obtain ⟨hk, ho⟩ := chkE_ok h
  have hfw := Fw.read (okB_in ho) hf (okB_kn ho)
  have hb : bytesR r = form r.kind.toNat ++ (tailN r).flatMap form := by unfold bytesR; rw [nums_tail, List.flatMap_cons]
  have hu := u_form (l := bytesR r ++ m) (pos := 0) (n := r.kind.toNat) (r := (tailN r).flatMap form ++ m) 18446744073709551615 (by rw [hb]; simp) (by omega) (by omega)
  have hkm : kindM (bytesR r ++ m) = ((r.kind.toNat, 0), ⟨(form r.kind.toNat).length, 0⟩) := by
    unfold kindM
    simp only
    rw [hu]
    simp only [Nat.zero_add]
    rw [if_neg (by simp), if_pos (by omega)]
  have hr := hfw (bytesR r ++ m) (form r.kind.toNat).length m (by rw [hb, List.append_assoc, List.drop_left])
  have hkk : ((r.kind.toNat : Nat) : Int) = r.kind := by omega
  unfold decM
  rw [hkm]
  simp only
  rw [if_neg (by simp)]
  unfold restM
  rw [hkk, hr]
  simp only
  have hlen : (form r.kind.toNat).length + ((tailN r).flatMap form).length = (bytesR r).length := by rw [hb, List.length_append]
  rw [hlen]
  by_cases hm : m = []
  · have he : endE (bytesR r ++ m) (bytesR r).length 0 = 0 := by unfold endE; rw [if_neg (by rw [hm]; simp)]
    rw [he, if_pos hm, if_neg (by simp), if_neg (by rw [chkE0 h]; simp)]
  · have he : endE (bytesR r ++ m) (bytesR r).length 0 = 21 := by
      unfold endE
      rw [if_pos]
      have := List.length_pos_iff.2 hm
      simp
      omega
    rw [he, if_neg hm, if_pos (by simp)]
theorem back {r : RecM} (h : chkE r = 0) (hf : Fits r) : decM (bytesR r) = (noLsn r, 0) := by
  have := dec_of h hf []
  simpa using this
theorem more {r : RecM} (h : chkE r = 0) (hf : Fits r) {m : List Nat} (hm : m ≠ []) : decM (bytesR r ++ m) = (zeroR, 21) := by
  rw [dec_of h hf m, if_neg hm]
theorem end20 (l : List Nat) (pos : Nat) : endE l pos 20 = 20 := by unfold endE; rw [if_neg (by simp)]
theorem cut_short {r : RecM} (h : chkE r = 0) (hf : Fits r) {k : Nat} (hk : k < (bytesR r).length) : decM ((bytesR r).take k) = (zeroR, 20) := by
  obtain ⟨hkd, ho⟩ := chkE_ok h
  have hfw := Fw.read (okB_in ho) hf (okB_kn ho)
  have hb : bytesR r = form r.kind.toNat ++ (tailN r).flatMap form := by unfold bytesR; rw [nums_tail, List.flatMap_cons]
  have hall : AllB (bytesR r) := allB_forms _
  have hsplit : (bytesR r).take k ++ (bytesR r).drop k = bytesR r := List.take_append_drop _ _
  have hxl : ((bytesR r).take k).length = k := by rw [List.length_take]; omega
  have hu := u_form (l := bytesR r) (pos := 0) (n := r.kind.toNat) (r := (tailN r).flatMap form) 18446744073709551615 (by rw [hb]; simp) (by omega) (by omega)
  have hr := hfw (bytesR r) (form r.kind.toNat).length [] (by rw [hb, List.drop_left]; simp)
  have hkk : ((r.kind.toNat : Nat) : Int) = r.kind := by omega
  have hlen : (form r.kind.toNat).length + ((tailN r).flatMap form).length = (bytesR r).length := by rw [hb, List.length_append]
  rw [hlen] at hr
  rw [Nat.zero_add] at hu
  have c1 := Cu.u 18446744073709551615 ((bytesR r).take k) ((bytesR r).drop k) ⟨0, 0⟩ (by rw [hsplit]; exact hall) rfl (Nat.zero_le _) (by rw [hsplit, hu])
  rw [hsplit, hu] at c1
  rcases c1 with ⟨e1, e2⟩ | e1
  · rw [e1] at e2
    simp only at e2
    have hkm : kindM ((bytesR r).take k) = ((r.kind.toNat, 0), ⟨(form r.kind.toNat).length, 0⟩) := by
      unfold kindM
      simp only
      rw [e1]
      simp only
      rw [if_neg (by simp), if_pos (by omega)]
    have c2 := Cu.read r.kind ((bytesR r).take k) ((bytesR r).drop k) ⟨(form r.kind.toNat).length, 0⟩ (by rw [hsplit]; exact hall) rfl e2 (by rw [hsplit, hr])
    rw [hsplit, hr] at c2
    unfold decM
    rw [hkm]
    simp only
    rw [if_neg (by simp)]
    unfold restM
    rw [hkk]
    rcases c2 with ⟨e3, e4⟩ | e3
    · rw [e3] at e4
      simp only at e4
      omega
    · simp only
      rw [e3, end20, if_pos (by simp)]
  · have hkm : (kindM ((bytesR r).take k)).1.2 = 20 := by
      unfold kindM
      simp only
      rw [if_pos (by rw [e1]; simp)]
      exact e1
    unfold decM
    rw [hkm, if_pos (by simp)]
theorem dec_err {l : List Nat} (h : (decM l).2 ≠ 0) : (decM l).1 = zeroR := by
  unfold decM at *
  split
  · rfl
  · rename_i q
    rw [if_neg q] at h
    unfold restM at *
    simp only at *
    split
    · rfl
    · rename_i q1
      rw [if_neg q1] at h
      split
      · rfl
      · rename_i q2
        rw [if_neg q2] at h
        exact absurd rfl h
end Go.Proofs.YtgpmghdoofcpaaaGreat

namespace Go.Proofs.YtgpmghdoofcpaaaGreat
open Go.RowKit Go.QK

def sIn (x : Int) : Prop := -9223372036854775808 ≤ x ∧ x ≤ 9223372036854775807
theorem Rdd.take : Rdd takeM (fun ns n => ns = [n]) := (Rdd.u _).mono fun _ _ q => q.1
theorem Rdd.sign : Rdd signM (fun ns x => ns = [sgn x] ∧ sIn x) := by
  refine ((Rdd.u _).bind (fun _ => Rdd.pure _) (fun _ => Abs.pure _)).mono ?_
  rintro ns x ⟨n, n1, n2, rfl, ⟨rfl, _, hn⟩, rfl, rfl⟩
  rw [sgn_uns]
  exact ⟨by simp, uns_range hn⟩
theorem Rdd.slot : Rdd slotM (fun ns p => ns = [p.1, p.2]) := by
  refine (Rdd.take.bind (fun _ => Rdd.take.bind (fun _ => Rdd.pure _) (fun _ => Abs.pure _)) (fun _ => Abs.take.bind fun _ => Abs.pure _)).mono ?_
  rintro ns x ⟨a, n1, n2, rfl, rfl, b, n3, n4, rfl, rfl, rfl, rfl⟩
  rfl
theorem Rdd.live : Rdd liveM (fun ns x => ns = liveNs x) := by
  refine (Rdd.take.bind (fun _ => Rdd.take.bind (fun _ => (Rdd.u _).bind (fun _ => Rdd.pure _) (fun _ => Abs.pure _)) (fun _ => (Abs.u _).bind fun _ => Abs.pure _)) (fun _ => Abs.take.bind fun _ => (Abs.u _).bind fun _ => Abs.pure _)).mono ?_
  rintro ns x ⟨a, n1, n2, rfl, rfl, b, n3, n4, rfl, rfl, c, n5, n6, rfl, ⟨rfl, hc, _⟩, rfl, rfl⟩
  have : stateN (liveOf a b c) = c := by
    unfold stateN liveOf
    rcases (show c = 0 ∨ c = 1 ∨ c = 2 by omega) with rfl | rfl | rfl <;> rfl
  simp [liveNs, this]
  simp [liveOf]
theorem Rdd.dirty : Rdd dirtyM (fun ns x => ns = dirtyNs x) := by
  refine (Rdd.take.bind (fun _ => Rdd.take.bind (fun _ => Rdd.pure _) (fun _ => Abs.pure _)) (fun _ => Abs.take.bind fun _ => Abs.pure _)).mono ?_
  rintro ns x ⟨a, n1, n2, rfl, rfl, b, n3, n4, rfl, rfl, rfl, rfl⟩
  simp [dirtyNs]
theorem Rdd.rep {α : Type} {f : RM α} {enc : α → List Nat} (hf : Rdd f (fun ns x => ns = enc x)) (ha : Abs f) : ∀ n, Rdd (repM f n) (fun ns xs => xs.length = n ∧ ns = xs.flatMap enc)
  | 0 => (Rdd.pure _).mono (by rintro ns xs ⟨rfl, rfl⟩; exact ⟨rfl, rfl⟩)
  | n + 1 => by
    refine ((Rdd.rep hf ha n).bind (fun _ => hf.bind (fun _ => Rdd.pure _) (fun _ => Abs.pure _)) (fun _ => ha.bind fun _ => Abs.pure _)).mono ?_
    rintro ns xs ⟨ys, n1, n2, rfl, ⟨rfl, rfl⟩, x, n3, n4, rfl, rfl, rfl, rfl⟩
    simp
theorem Rdd.points : Rdd pointsM (fun ns p => ns = pointsNs p.2.1 p.2.2 p.1) := by
  refine ((Rdd.u _).bind (fun _ => (Rdd.u _).bind (fun _ => (Rdd.rep Rdd.live Abs.live _).bind (fun _ => (Rdd.u _).bind (fun _ => (Rdd.rep Rdd.dirty Abs.dirty _).bind (fun _ => Rdd.pure _) fun _ => Abs.pure _)
    fun _ => (Abs.rep Abs.dirty _).bind fun _ => Abs.pure _) fun _ => (Abs.u _).bind fun _ => (Abs.rep Abs.dirty _).bind fun _ => Abs.pure _)
    fun _ => (Abs.rep Abs.live _).bind fun _ => (Abs.u _).bind fun _ => (Abs.rep Abs.dirty _).bind fun _ => Abs.pure _)
    fun _ => (Abs.u _).bind fun _ => (Abs.rep Abs.live _).bind fun _ => (Abs.u _).bind fun _ => (Abs.rep Abs.dirty _).bind fun _ => Abs.pure _).mono ?_
  rintro ns x ⟨nx, n1, n2, rfl, ⟨rfl, _⟩, n, n3, n4, rfl, ⟨rfl, _⟩, ls, n5, n6, rfl, ⟨rfl, rfl⟩, m, n7, n8, rfl, ⟨rfl, _⟩, ds, n9, n10, rfl, ⟨rfl, rfl⟩, rfl, rfl⟩
  simp [pointsNs]
theorem Rdd.cond {b : Bool} {f : RecM → RM RecM} {r : RecM} {P : List Nat → RecM → Prop} (h1 : b = true → Rdd (f r) P) (h2 : b = false → P [] r) : Rdd (condM b f r) P := by
  cases b
  · refine (Rdd.pure r).mono ?_
    rintro ns a ⟨rfl, rfl⟩
    exact h2 rfl
  · exact h1 rfl
theorem rp1 (k : Int) (r : RecM) : Rdd (part1 k r) (fun ns r' => ∃ n : Nat, r' = { r with tx := bif hTx k then (n : Int) else r.tx } ∧ ns = bif hTx k then [n] else []) := by
  refine Rdd.cond (fun q => ?_) (fun q => ?_)
  · refine (Rdd.take.bind (fun _ => Rdd.pure _) (fun _ => Abs.pure _)).mono ?_
    rintro ns x ⟨n, n1, n2, rfl, rfl, rfl, rfl⟩
    exact ⟨n, by rw [q]; rfl, by rw [q]; rfl⟩
  · exact ⟨0, by rw [q]; rfl, by rw [q]; rfl⟩
theorem rp2 (k : Int) (r : RecM) : Rdd (part2 k r) (fun ns r' => ∃ n : Nat, r' = { r with prev := bif hPrev k then (n : Int) else r.prev } ∧ ns = bif hPrev k then [n] else []) := by
  refine Rdd.cond (fun q => ?_) (fun q => ?_)
  · refine (Rdd.take.bind (fun _ => Rdd.pure _) (fun _ => Abs.pure _)).mono ?_
    rintro ns x ⟨n, n1, n2, rfl, rfl, rfl, rfl⟩
    exact ⟨n, by rw [q]; rfl, by rw [q]; rfl⟩
  · exact ⟨0, by rw [q]; rfl, by rw [q]; rfl⟩
theorem rp3 (k : Int) (r : RecM) : Rdd (part3 k r) (fun ns r' => ∃ a b c d n : Nat, r' = (bif hCtr k then { r with wp := a, wi := b, sp := c, si := d, id := n } else r) ∧ ns = bif hCtr k then [a, b, c, d, n] else []) := by
  refine Rdd.cond (fun q => ?_) (fun q => ?_)
  · refine (Rdd.slot.bind (fun _ => Rdd.slot.bind (fun _ => Rdd.take.bind (fun _ => Rdd.pure _) (fun _ => Abs.pure _)) (fun _ => Abs.take.bind fun _ => Abs.pure _)) (fun _ => Abs.slot.bind fun _ => Abs.take.bind fun _ => Abs.pure _)).mono ?_
    rintro ns x ⟨a, n1, n2, rfl, rfl, b, n3, n4, rfl, rfl, c, n5, n6, rfl, rfl, rfl, rfl⟩
    exact ⟨a.1, a.2, b.1, b.2, c, by rw [q]; rfl, by rw [q]; rfl⟩
  · exact ⟨0, 0, 0, 0, 0, by rw [q]; rfl, by rw [q]; rfl⟩
theorem rp4 (k : Int) (r : RecM) : Rdd (part4 k r) (fun ns r' => ∃ (n : Nat) (lo hi v : Int), (sIn lo ∧ sIn hi ∧ sIn v) ∧ r' = (bif hFirst k then { r with grp := n, lo := lo, hi := hi, val := v } else r) ∧ ns = bif hFirst k then firstNs n lo hi v else []) := by
  refine Rdd.cond (fun q => ?_) (fun q => ?_)
  · refine (Rdd.take.bind (fun _ => Rdd.sign.bind (fun _ => Rdd.sign.bind (fun _ => Rdd.sign.bind (fun _ => Rdd.pure _) (fun _ => Abs.pure _)) (fun _ => Abs.sign.bind fun _ => Abs.pure _)) (fun _ => Abs.sign.bind fun _ => Abs.sign.bind fun _ => Abs.pure _)) (fun _ => Abs.sign.bind fun _ => Abs.sign.bind fun _ => Abs.sign.bind fun _ => Abs.pure _)).mono ?_
    rintro ns x ⟨a, n1, n2, rfl, rfl, lo, n3, n4, rfl, ⟨rfl, h1⟩, hi, n5, n6, rfl, ⟨rfl, h2⟩, v, n7, n8, rfl, ⟨rfl, h3⟩, rfl, rfl⟩
    exact ⟨a, lo, hi, v, ⟨h1, h2, h3⟩, by rw [q]; rfl, by rw [q]; rfl⟩
  · exact ⟨0, 0, 0, 0, ⟨by unfold sIn; omega, by unfold sIn; omega, by unfold sIn; omega⟩, by rw [q]; rfl, by rw [q]; rfl⟩
theorem rp5 (k : Int) (r : RecM) : Rdd (part5 k r) (fun ns r' => ∃ n : Int, sIn n ∧ r' = { r with delta := bif hDelta k then n else r.delta } ∧ ns = bif hDelta k then [sgn n] else []) := by
  refine Rdd.cond (fun q => ?_) (fun q => ?_)
  · refine (Rdd.sign.bind (fun _ => Rdd.pure _) (fun _ => Abs.pure _)).mono ?_
    rintro ns x ⟨n, n1, n2, rfl, ⟨rfl, h⟩, rfl, rfl⟩
    exact ⟨n, h, by rw [q]; rfl, by rw [q]; rfl⟩
  · exact ⟨0, by unfold sIn; omega, by rw [q]; rfl, by rw [q]; rfl⟩
theorem rp6 (k : Int) (r : RecM) : Rdd (part6 k r) (fun ns r' => ∃ (nx : Nat) (ls : List LiveM) (ds : List DirtyM), r' = (bif hPts k then { r with next := nx, live := ls, dirty := ds } else r) ∧ ns = bif hPts k then pointsNs ls ds nx else []) := by
  refine Rdd.cond (fun q => ?_) (fun q => ?_)
  · refine (Rdd.points.bind (fun _ => Rdd.pure _) (fun _ => Abs.pure _)).mono ?_
    rintro ns x ⟨⟨nx, ls, ds⟩, n1, n2, rfl, rfl, rfl, rfl⟩
    exact ⟨nx, ls, ds, by rw [q]; rfl, by rw [q]; simp⟩
  · exact ⟨0, [], [], by rw [q]; rfl, by rw [q]; rfl⟩
theorem Rdd.read (k : Nat) : Rdd (readM k) (fun ns r => ns = tailN r ∧ r.kind = k ∧ r.lsn = 0 ∧ Fits r) := by
  rw [readM_eq]
  refine ((rp1 k _).bind (fun r => (rp2 k r).bind (fun r => (rp3 k r).bind (fun r => (rp4 k r).bind (fun r => (rp5 k r).bind (fun r => rp6 k r)
    fun r => abs6 k r) fun r => (abs5 k r).bind fun r => abs6 k r) fun r => (abs4 k r).bind fun r => (abs5 k r).bind fun r => abs6 k r)
    fun r => (abs3 k r).bind fun r => (abs4 k r).bind fun r => (abs5 k r).bind fun r => abs6 k r) fun r => abs_tail k r).mono ?_
  rintro ns x ⟨x1, n1, m1, hns1, ⟨a1, h1x, h1n⟩, x2, n2, m2, hns2, ⟨a2, h2x, h2n⟩, x3, n3, m3, hns3, ⟨a3, b3, c3, d3, i3, h3x, h3n⟩, x4, n4, m4, hns4, ⟨a4, lo, hi, v, hs, h4x, h4n⟩, x5, n5, m5, hns5, ⟨a5, hs5, h5x, h5n⟩, nx, ls, ds, h6x, h6n⟩
  have hns : ns = n1 ++ (n2 ++ (n3 ++ (n4 ++ (n5 ++ m5)))) := by rw [hns1, hns2, hns3, hns4, hns5]
  unfold sIn at hs hs5
  clear hns1 hns2 hns3 hns4 hns5
  have key : ∀ t1 t2 t3 t4 t5 t6 : Bool, hTx k = t1 → hPrev k = t2 → hCtr k = t3 → hFirst k = t4 → hDelta k = t5 → hPts k = t6 →
      x.kind = k ∧ x.lsn = 0 ∧ x.tx = (bif t1 then (a1 : Int) else 0) ∧ x.prev = (bif t2 then (a2 : Int) else 0) ∧ x.wp = (bif t3 then (a3 : Int) else 0) ∧ x.wi = (bif t3 then (b3 : Int) else 0) ∧ x.sp = (bif t3 then (c3 : Int) else 0) ∧ x.si = (bif t3 then (d3 : Int) else 0) ∧ x.id = (bif t3 then (i3 : Int) else 0) ∧
      x.grp = (bif t4 then (a4 : Int) else 0) ∧ x.lo = (bif t4 then lo else 0) ∧ x.hi = (bif t4 then hi else 0) ∧ x.val = (bif t4 then v else 0) ∧ x.delta = (bif t5 then a5 else 0) ∧ x.next = (bif t6 then (nx : Int) else 0) ∧ x.live = (bif t6 then ls else []) ∧ x.dirty = (bif t6 then ds else []) := by
    intro t1 t2 t3 t4 t5 t6 e1 e2 e3 e4 e5 e6
    rw [e1] at h1x
    rw [e2] at h2x
    rw [e3] at h3x
    rw [e4] at h4x
    rw [e5] at h5x
    rw [e6] at h6x
    rw [h6x, h5x, h4x, h3x, h2x, h1x]
    cases t3 <;> cases t4 <;> cases t6 <;> exact ⟨rfl, rfl, rfl, rfl, rfl, rfl, rfl, rfl, rfl, rfl, rfl, rfl, rfl, rfl, rfl, rfl, rfl⟩
  obtain ⟨f0, f1, f2, f3, f4, f5, f6, f7, f8, f9, f10, f11, f12, f13, f14, f15, f16⟩ := key _ _ _ _ _ _ rfl rfl rfl rfl rfl rfl
  refine ⟨?_, f0, f1, ?_⟩
  · rw [hns, h1n, h2n, h3n, h4n, h5n, h6n]
    unfold tailN
    rw [f0, f2, f3, f4, f5, f6, f7, f8, f9, f10, f11, f12, f13, f14, f15, f16]
    cases hTx k <;> cases hPrev k <;> cases hCtr k <;> cases hFirst k <;> cases hDelta k <;> cases hPts k <;> rfl
  · unfold Fits
    rw [f10, f11, f12, f13]
    cases hFirst k <;> cases hDelta k <;> simp only [cond_true, cond_false] <;> omega
/-- Where Decode takes bytes, they are the bytes of what it answers. -/
theorem one_form {l : List Nat} (hb : AllB l) (h : (decM l).2 = 0) : chkE (decM l).1 = 0 ∧ Fits (decM l).1 ∧ (decM l).1.lsn = 0 ∧ bytesR (decM l).1 = l := by
  unfold decM at *
  have hko := kindM_ok l
  by_cases hk : (kindM l).1.2 ≠ 0
  · rw [if_pos hk] at h
    exact absurd h hk
  · rw [if_neg hk] at h ⊢
    have hk0 : (kindM l).1.2 = 0 := by omega
    obtain ⟨k1, k8⟩ := hko hk0
    have hkm : (kindM l).2 = (uM 18446744073709551615 l ⟨0, 0⟩).2 := rfl
    have hke : (uM 18446744073709551615 l ⟨0, 0⟩).2.e = 0 ∧ (kindM l).1.1 = (uM 18446744073709551615 l ⟨0, 0⟩).1 := by
      unfold kindM at hk0 k1 ⊢
      simp only at hk0 k1 ⊢
      by_cases q : (uM 18446744073709551615 l ⟨0, 0⟩).2.e ≠ 0
      · rw [if_pos q] at hk0; exact absurd hk0 q
      · rw [if_neg q] at hk0 k1 ⊢
        by_cases q2 : 1 ≤ (uM 18446744073709551615 l ⟨0, 0⟩).1 ∧ (uM 18446744073709551615 l ⟨0, 0⟩).1 ≤ 8
        · rw [if_pos q2]; exact ⟨by omega, rfl⟩
        · rw [if_neg q2] at hk0; simp at hk0
    obtain ⟨n, u1, _, _, u4, u5, u6⟩ := u_good hb rfl (Nat.zero_le _) hke.1
    rw [hke.2, u1] at k1 k8
    rw [hke.2, u1, hkm] at h ⊢
    unfold restM at *
    simp only at *
    by_cases he : endE l (readM n l (uM 18446744073709551615 l ⟨0, 0⟩).2).2.pos (readM n l (uM 18446744073709551615 l ⟨0, 0⟩).2).2.e ≠ 0
    · rw [if_pos he] at h; exact absurd h he
    · rw [if_neg he] at h ⊢
      by_cases hc : chkE (readM n l (uM 18446744073709551615 l ⟨0, 0⟩).2).1 ≠ 0
      · rw [if_pos hc] at h; exact absurd h hc
      · rw [if_neg hc]
        simp only
        have hre : (readM n l (uM 18446744073709551615 l ⟨0, 0⟩).2).2.e = 0 ∧ l.length ≤ (readM n l (uM 18446744073709551615 l ⟨0, 0⟩).2).2.pos := by
          unfold endE at he
          split at he
          · simp at he
          · constructor <;> omega
        obtain ⟨ns, ⟨p1, p2, p3, p4⟩, q2, q3, q4⟩ := Rdd.read n l _ hb hke.1 (by rw [u4]; exact u6) hre.1
        refine ⟨by omega, p4, p3, ?_⟩
        rw [q2] at hre
        rw [u4] at q3 q4 hre
        simp only [Nat.zero_add] at *
        unfold bytesR
        rw [nums_tail, ← p1, p2, List.flatMap_cons]
        have e1 : ((n : Int)).toNat = n := by omega
        rw [e1]
        rw [List.drop_zero] at u5
        rw [u5, q3, List.drop_eq_nil_of_le (by omega), List.append_nil]
end Go.Proofs.YtgpmghdoofcpaaaGreat
