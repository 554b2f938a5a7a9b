import Derived.Test.YtgpmghdoofcpaaaTh
namespace Go.Proofs.Ytgpmghdoofcpaaa
open Go.RowKit Go.QK

theorem Abs.sign : Abs signM := (Abs.u _).bind fun _ => Abs.pure _
theorem Abs.take : Abs takeM := Abs.u _
theorem Abs.slot : Abs slotM := Abs.take.bind fun _ => Abs.take.bind fun _ => Abs.pure _
theorem Abs.live : Abs liveM := Abs.take.bind fun _ => Abs.take.bind fun _ => (Abs.u _).bind fun _ => Abs.pure _
theorem Abs.dirty : Abs dirtyM := Abs.take.bind fun _ => Abs.take.bind fun _ => Abs.pure _
theorem Abs.points : Abs pointsM := (Abs.u _).bind fun _ => (Abs.u _).bind fun _ => (Abs.rep Abs.live _).bind fun _ => (Abs.u _).bind fun _ => (Abs.rep Abs.dirty _).bind fun _ => Abs.pure _
theorem Cu.sign : Cu signM := (Cu.u _).bind (fun _ => Cu.pure _) fun _ => Abs.pure _
theorem Cu.take : Cu takeM := Cu.u _
theorem Cu.slot : Cu slotM := Cu.take.bind (fun _ => Cu.take.bind (fun _ => Cu.pure _) fun _ => Abs.pure _) fun _ => Abs.take.bind fun _ => Abs.pure _
theorem Cu.live : Cu liveM := Cu.take.bind (fun _ => Cu.take.bind (fun _ => (Cu.u _).bind (fun _ => Cu.pure _) fun _ => Abs.pure _) fun _ => (Abs.u _).bind fun _ => Abs.pure _) fun _ => Abs.take.bind fun _ => (Abs.u _).bind fun _ => Abs.pure _
theorem Cu.dirty : Cu dirtyM := Cu.take.bind (fun _ => Cu.take.bind (fun _ => Cu.pure _) fun _ => Abs.pure _) fun _ => Abs.take.bind fun _ => Abs.pure _
theorem Cu.points : Cu pointsM :=
  (Cu.u _).bind (fun _ => (Cu.u _).bind (fun _ => (Cu.rep Cu.live Abs.live _).bind (fun _ => (Cu.u _).bind (fun _ => (Cu.rep Cu.dirty Abs.dirty _).bind (fun _ => Cu.pure _) fun _ => Abs.pure _)
    fun _ => (Abs.rep Abs.dirty _).bind fun _ => Abs.pure _) fun _ => (Abs.u _).bind fun _ => (Abs.rep Abs.dirty _).bind fun _ => Abs.pure _)
    fun _ => (Abs.rep Abs.live _).bind fun _ => (Abs.u _).bind fun _ => (Abs.rep Abs.dirty _).bind fun _ => Abs.pure _)
    fun _ => (Abs.u _).bind fun _ => (Abs.rep Abs.live _).bind fun _ => (Abs.u _).bind fun _ => (Abs.rep Abs.dirty _).bind fun _ => Abs.pure _
/-! The six parts of a record. -/
def part1 (k : Int) (r : RecM) : RM RecM := condM (hTx k) (fun r => bindM takeM fun n => pureM { r with tx := n }) r
def part2 (k : Int) (r : RecM) : RM RecM := condM (hPrev k) (fun r => bindM takeM fun n => pureM { r with prev := n }) r
def part3 (k : Int) (r : RecM) : RM RecM := condM (hCtr k) (fun r => bindM slotM fun a => bindM slotM fun b => bindM takeM fun n => pureM { r with wp := a.1, wi := a.2, sp := b.1, si := b.2, id := n }) r
def part4 (k : Int) (r : RecM) : RM RecM := condM (hFirst k) (fun r => bindM takeM fun n => bindM signM fun lo => bindM signM fun hi => bindM signM fun v => pureM { r with grp := n, lo := lo, hi := hi, val := v }) r
def part5 (k : Int) (r : RecM) : RM RecM := condM (hDelta k) (fun r => bindM signM fun n => pureM { r with delta := n }) r
def part6 (k : Int) (r : RecM) : RM RecM := condM (hPts k) (fun r => bindM pointsM fun p => pureM { r with next := p.1, live := p.2.1, dirty := p.2.2 }) r
theorem readM_eq (k : Int) : readM k = bindM (part1 k { zeroR with kind := k }) fun r => bindM (part2 k r) fun r => bindM (part3 k r) fun r => bindM (part4 k r) fun r => bindM (part5 k r) fun r => part6 k r := rfl
theorem abs1 (k : Int) (r : RecM) : Abs (part1 k r) := Abs.cond fun _ => Abs.take.bind fun _ => Abs.pure _
theorem abs2 (k : Int) (r : RecM) : Abs (part2 k r) := Abs.cond fun _ => Abs.take.bind fun _ => Abs.pure _
theorem abs3 (k : Int) (r : RecM) : Abs (part3 k r) := Abs.cond fun _ => Abs.slot.bind fun _ => Abs.slot.bind fun _ => Abs.take.bind fun _ => Abs.pure _
theorem abs4 (k : Int) (r : RecM) : Abs (part4 k r) := Abs.cond fun _ => Abs.take.bind fun _ => Abs.sign.bind fun _ => Abs.sign.bind fun _ => Abs.sign.bind fun _ => Abs.pure _
theorem abs5 (k : Int) (r : RecM) : Abs (part5 k r) := Abs.cond fun _ => Abs.sign.bind fun _ => Abs.pure _
theorem abs6 (k : Int) (r : RecM) : Abs (part6 k r) := Abs.cond fun _ => Abs.points.bind fun _ => Abs.pure _
theorem cu1 (k : Int) (r : RecM) : Cu (part1 k r) := Cu.cond fun _ => Cu.take.bind (fun _ => Cu.pure _) fun _ => Abs.pure _
theorem cu2 (k : Int) (r : RecM) : Cu (part2 k r) := Cu.cond fun _ => Cu.take.bind (fun _ => Cu.pure _) fun _ => Abs.pure _
theorem cu3 (k : Int) (r : RecM) : Cu (part3 k r) := Cu.cond fun _ => Cu.slot.bind (fun _ => Cu.slot.bind (fun _ => Cu.take.bind (fun _ => Cu.pure _) fun _ => Abs.pure _) fun _ => Abs.take.bind fun _ => Abs.pure _) fun _ => Abs.slot.bind fun _ => Abs.take.bind fun _ => Abs.pure _
theorem cu4 (k : Int) (r : RecM) : Cu (part4 k r) := Cu.cond fun _ => Cu.take.bind (fun _ => Cu.sign.bind (fun _ => Cu.sign.bind (fun _ => Cu.sign.bind (fun _ => Cu.pure _) fun _ => Abs.pure _) fun _ => Abs.sign.bind fun _ => Abs.pure _) fun _ => Abs.sign.bind fun _ => Abs.sign.bind fun _ => Abs.pure _) fun _ => Abs.sign.bind fun _ => Abs.sign.bind fun _ => Abs.sign.bind fun _ => Abs.pure _
theorem cu5 (k : Int) (r : RecM) : Cu (part5 k r) := Cu.cond fun _ => Cu.sign.bind (fun _ => Cu.pure _) fun _ => Abs.pure _
theorem cu6 (k : Int) (r : RecM) : Cu (part6 k r) := Cu.cond fun _ => Cu.points.bind (fun _ => Cu.pure _) fun _ => Abs.pure _
theorem abs_tail (k : Int) (r : RecM) : Abs (bindM (part2 k r) fun r => bindM (part3 k r) fun r => bindM (part4 k r) fun r => bindM (part5 k r) fun r => part6 k r) :=
  (abs2 k r).bind fun r => (abs3 k r).bind fun r => (abs4 k r).bind fun r => (abs5 k r).bind fun r => abs6 k r
theorem Abs.read (k : Int) : Abs (readM k) := by
  rw [readM_eq]
  exact (abs1 k _).bind fun r => abs_tail k r
theorem Cu.read (k : Int) : Cu (readM k) := by
  rw [readM_eq]
  exact (cu1 k _).bind (fun r => (cu2 k r).bind (fun r => (cu3 k r).bind (fun r => (cu4 k r).bind (fun r => (cu5 k r).bind (fun r => cu6 k r)
    fun r => abs6 k r) fun r => (abs5 k r).bind fun r => abs6 k r) fun r => (abs4 k r).bind fun r => (abs5 k r).bind fun r => abs6 k r)
    fun r => (abs3 k r).bind fun r => (abs4 k r).bind fun r => (abs5 k r).bind fun r => abs6 k r) fun r => abs_tail k r

/-! There and back. -/
theorem Fw.take {n : Int} (h : 0 ≤ n ∧ n ≤ 2147483647) : Fw takeM [n.toNat] n.toNat := Fw.u (by omega) (by omega)
theorem Fw.sign {n : Int} (h : -9223372036854775808 ≤ n ∧ n ≤ 9223372036854775807) : Fw signM [sgn n] n := by
  have := (Fw.u (most := 18446744073709551615) (by have := sgn_lt h.1 h.2; omega) (sgn_lt h.1 h.2)).bind (g := fun n => pureM (uns n)) (Fw.pure _)
  rw [uns_sgn] at this
  simpa [signM] using this
theorem Fw.slot {a b : Int} (ha : 0 ≤ a ∧ a ≤ 2147483647) (hb : 0 ≤ b ∧ b ≤ 2147483647) : Fw slotM [a.toNat, b.toNat] (a.toNat, b.toNat) :=
  (Fw.take ha).bind (g := fun a => bindM takeM fun b => pureM (a, b)) ((Fw.take hb).bind (g := fun b' => pureM (a.toNat, b')) (Fw.pure _))
theorem Fw.live {l : LiveM} (h : liveIn2 l) : Fw liveM (liveNs l) l := by
  obtain ⟨tx, last, com, und⟩ := l
  unfold liveIn2 at h
  simp only at h
  have hs := stateN_le ⟨tx, last, com, und⟩
  have := (Fw.take (n := tx) (by omega)).bind (g := fun a => bindM takeM fun b => bindM (uM 2) fun c => pureM (liveOf a b c)) ((Fw.take (n := last) (by omega)).bind (g := fun b => bindM (uM 2) fun c => pureM (liveOf tx.toNat b c)) ((Fw.u (most := 2) (n := stateN ⟨tx, last, com, und⟩) hs (by omega)).bind (g := fun c => pureM (liveOf tx.toNat last.toNat c)) (Fw.pure _)))
  have e : liveOf tx.toNat last.toNat (stateN ⟨tx, last, com, und⟩) = ⟨tx, last, com, und⟩ := by
    unfold liveOf stateN
    have e1 : ((tx.toNat : Nat) : Int) = tx := by omega
    have e2 : ((last.toNat : Nat) : Int) = last := by omega
    rw [e1, e2]
    cases com <;> cases und <;> simp at h ⊢
  rw [e] at this
  exact this
theorem Fw.dirty {d : DirtyM} (h : dirtyIn2 d) : Fw dirtyM (dirtyNs d) d := by
  obtain ⟨page, since⟩ := d
  unfold dirtyIn2 at h
  simp only at h
  have := (Fw.take (n := page) (by omega)).bind (g := fun (a : Nat) => bindM takeM fun (b : Nat) => pureM (⟨(a : Int), (b : Int)⟩ : DirtyM)) ((Fw.take (n := since) (by omega)).bind (g := fun (b : Nat) => pureM (⟨((page.toNat : Nat) : Int), (b : Int)⟩ : DirtyM)) (Fw.pure _))
  have e : (⟨(page.toNat : Nat), (since.toNat : Nat)⟩ : DirtyM) = ⟨page, since⟩ := by
    have e1 : ((page.toNat : Nat) : Int) = page := by omega
    have e2 : ((since.toNat : Nat) : Int) = since := by omega
    rw [e1, e2]
  rw [e] at this
  exact this
theorem Fw.points {ls : List LiveM} {ds : List DirtyM} {nx : Nat} (h1 : nx ≤ 2147483648) (h2 : ls.length ≤ 32) (h3 : ds.length ≤ 16) (h4 : ∀ l ∈ ls, liveIn2 l) (h5 : ∀ l ∈ ds, dirtyIn2 l) : Fw pointsM (pointsNs ls ds nx) (nx, ls, ds) := by
  have a1 := Fw.u (most := 2147483648) h1 (by omega)
  have a2 := Fw.u (most := 32) h2 (by omega)
  have a3 := Fw.rep (f := liveM) (enc := liveNs) (fun l q => Fw.live (h4 l q))
  have a4 := Fw.u (most := 16) h3 (by omega)
  have a5 := Fw.rep (f := dirtyM) (enc := dirtyNs) (fun l q => Fw.dirty (h5 l q))
  have b5 := a5.bind (g := fun ds => pureM (nx, ls, ds)) (Fw.pure _)
  have b4 := a4.bind (g := fun m => bindM (repM dirtyM m) fun ds => pureM (nx, ls, ds)) b5
  have b3 := a3.bind (g := fun ls => bindM (uM 16) fun m => bindM (repM dirtyM m) fun ds => pureM (nx, ls, ds)) b4
  have b2 := a2.bind (g := fun n => bindM (repM liveM n) fun ls => bindM (uM 16) fun m => bindM (repM dirtyM m) fun ds => pureM (nx, ls, ds)) b3
  have b1 := a1.bind (g := fun nx => bindM (uM 32) fun n => bindM (repM liveM n) fun ls => bindM (uM 16) fun m => bindM (repM dirtyM m) fun ds => pureM (nx, ls, ds)) b2
  have e : [nx] ++ ([ls.length] ++ (ls.flatMap liveNs ++ ([ds.length] ++ (ds.flatMap dirtyNs ++ [])))) = pointsNs ls ds nx := by simp [pointsNs]
  rw [e] at b1
  exact b1
end Go.Proofs.Ytgpmghdoofcpaaa
