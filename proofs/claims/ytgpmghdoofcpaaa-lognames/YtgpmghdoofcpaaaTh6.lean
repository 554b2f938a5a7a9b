import Derived.Test.YtgpmghdoofcpaaaG47
namespace Go.Proofs.Ytgpmghdoofcpaaa
open Go.RowKit Go.QK

def sIn (x : Int) : Prop := -9223372036854775808 ≤ x ∧ x ≤ 9223372036854775807
theorem Rdd.take : Rdd takeM (fun ns n => ns = [n]) := (Rdd.u _).mono fun _ _ q => q.1
theorem Rdd.sign : Rdd signM (fun ns x => ns = [sgn x] ∧ sIn x) := by
  refine ((Rdd.u _).bind (fun _ => Rdd.pure _) (fun _ => Abs.pure _)).mono ?_
  rintro ns x ⟨n, n1, n2, rfl, ⟨rfl, _, hn⟩, rfl, rfl⟩
  rw [sgn_uns]
  exact ⟨by simp, uns_range hn⟩
theorem Rdd.slot : Rdd slotM (fun ns p => ns = [p.1, p.2]) := by
  refine (Rdd.take.bind (fun _ => Rdd.take.bind (fun _ => Rdd.pure _) (fun _ => Abs.pure _)) (fun _ => Abs.take.bind fun _ => Abs.pure _)).mono ?_
  rintro ns x ⟨a, n1, n2, rfl, rfl, b, n3, n4, rfl, rfl, rfl, rfl⟩
  rfl
theorem Rdd.live : Rdd liveM (fun ns x => ns = liveNs x) := by
  refine (Rdd.take.bind (fun _ => Rdd.take.bind (fun _ => (Rdd.u _).bind (fun _ => Rdd.pure _) (fun _ => Abs.pure _)) (fun _ => (Abs.u _).bind fun _ => Abs.pure _)) (fun _ => Abs.take.bind fun _ => (Abs.u _).bind fun _ => Abs.pure _)).mono ?_
  rintro ns x ⟨a, n1, n2, rfl, rfl, b, n3, n4, rfl, rfl, c, n5, n6, rfl, ⟨rfl, hc, _⟩, rfl, rfl⟩
  have : stateN (liveOf a b c) = c := by
    unfold stateN liveOf
    rcases (show c = 0 ∨ c = 1 ∨ c = 2 by omega) with rfl | rfl | rfl <;> rfl
  simp [liveNs, this]
  simp [liveOf]
theorem Rdd.dirty : Rdd dirtyM (fun ns x => ns = dirtyNs x) := by
  refine (Rdd.take.bind (fun _ => Rdd.take.bind (fun _ => Rdd.pure _) (fun _ => Abs.pure _)) (fun _ => Abs.take.bind fun _ => Abs.pure _)).mono ?_
  rintro ns x ⟨a, n1, n2, rfl, rfl, b, n3, n4, rfl, rfl, rfl, rfl⟩
  simp [dirtyNs]
theorem Rdd.rep {α : Type} {f : RM α} {enc : α → List Nat} (hf : Rdd f (fun ns x => ns = enc x)) (ha : Abs f) : ∀ n, Rdd (repM f n) (fun ns xs => xs.length = n ∧ ns = xs.flatMap enc)
  | 0 => (Rdd.pure _).mono (by rintro ns xs ⟨rfl, rfl⟩; exact ⟨rfl, rfl⟩)
  | n + 1 => by
    refine ((Rdd.rep hf ha n).bind (fun _ => hf.bind (fun _ => Rdd.pure _) (fun _ => Abs.pure _)) (fun _ => ha.bind fun _ => Abs.pure _)).mono ?_
    rintro ns xs ⟨ys, n1, n2, rfl, ⟨rfl, rfl⟩, x, n3, n4, rfl, rfl, rfl, rfl⟩
    simp
theorem Rdd.points : Rdd pointsM (fun ns p => ns = pointsNs p.2.1 p.2.2 p.1) := by
  refine ((Rdd.u _).bind (fun _ => (Rdd.u _).bind (fun _ => (Rdd.rep Rdd.live Abs.live _).bind (fun _ => (Rdd.u _).bind (fun _ => (Rdd.rep Rdd.dirty Abs.dirty _).bind (fun _ => Rdd.pure _) fun _ => Abs.pure _)
    fun _ => (Abs.rep Abs.dirty _).bind fun _ => Abs.pure _) fun _ => (Abs.u _).bind fun _ => (Abs.rep Abs.dirty _).bind fun _ => Abs.pure _)
    fun _ => (Abs.rep Abs.live _).bind fun _ => (Abs.u _).bind fun _ => (Abs.rep Abs.dirty _).bind fun _ => Abs.pure _)
    fun _ => (Abs.u _).bind fun _ => (Abs.rep Abs.live _).bind fun _ => (Abs.u _).bind fun _ => (Abs.rep Abs.dirty _).bind fun _ => Abs.pure _).mono ?_
  rintro ns x ⟨nx, n1, n2, rfl, ⟨rfl, _⟩, n, n3, n4, rfl, ⟨rfl, _⟩, ls, n5, n6, rfl, ⟨rfl, rfl⟩, m, n7, n8, rfl, ⟨rfl, _⟩, ds, n9, n10, rfl, ⟨rfl, rfl⟩, rfl, rfl⟩
  simp [pointsNs]
theorem Rdd.cond {b : Bool} {f : RecM → RM RecM} {r : RecM} {P : List Nat → RecM → Prop} (h1 : b = true → Rdd (f r) P) (h2 : b = false → P [] r) : Rdd (condM b f r) P := by
  cases b
  · refine (Rdd.pure r).mono ?_
    rintro ns a ⟨rfl, rfl⟩
    exact h2 rfl
  · exact h1 rfl
theorem rp1 (k : Int) (r : RecM) : Rdd (part1 k r) (fun ns r' => ∃ n : Nat, r' = { r with tx := bif hTx k then (n : Int) else r.tx } ∧ ns = bif hTx k then [n] else []) := by
  refine Rdd.cond (fun q => ?_) (fun q => ?_)
  · refine (Rdd.take.bind (fun _ => Rdd.pure _) (fun _ => Abs.pure _)).mono ?_
    rintro ns x ⟨n, n1, n2, rfl, rfl, rfl, rfl⟩
    exact ⟨n, by rw [q]; rfl, by rw [q]; rfl⟩
  · exact ⟨0, by rw [q]; rfl, by rw [q]; rfl⟩
theorem rp2 (k : Int) (r : RecM) : Rdd (part2 k r) (fun ns r' => ∃ n : Nat, r' = { r with prev := bif hPrev k then (n : Int) else r.prev } ∧ ns = bif hPrev k then [n] else []) := by
  refine Rdd.cond (fun q => ?_) (fun q => ?_)
  · refine (Rdd.take.bind (fun _ => Rdd.pure _) (fun _ => Abs.pure _)).mono ?_
    rintro ns x ⟨n, n1, n2, rfl, rfl, rfl, rfl⟩
    exact ⟨n, by rw [q]; rfl, by rw [q]; rfl⟩
  · exact ⟨0, by rw [q]; rfl, by rw [q]; rfl⟩
theorem rp3 (k : Int) (r : RecM) : Rdd (part3 k r) (fun ns r' => ∃ a b c d n : Nat, r' = (bif hCtr k then { r with wp := a, wi := b, sp := c, si := d, id := n } else r) ∧ ns = bif hCtr k then [a, b, c, d, n] else []) := by
  refine Rdd.cond (fun q => ?_) (fun q => ?_)
  · refine (Rdd.slot.bind (fun _ => Rdd.slot.bind (fun _ => Rdd.take.bind (fun _ => Rdd.pure _) (fun _ => Abs.pure _)) (fun _ => Abs.take.bind fun _ => Abs.pure _)) (fun _ => Abs.slot.bind fun _ => Abs.take.bind fun _ => Abs.pure _)).mono ?_
    rintro ns x ⟨a, n1, n2, rfl, rfl, b, n3, n4, rfl, rfl, c, n5, n6, rfl, rfl, rfl, rfl⟩
    exact ⟨a.1, a.2, b.1, b.2, c, by rw [q]; rfl, by rw [q]; rfl⟩
  · exact ⟨0, 0, 0, 0, 0, by rw [q]; rfl, by rw [q]; rfl⟩
theorem rp4 (k : Int) (r : RecM) : Rdd (part4 k r) (fun ns r' => ∃ (n : Nat) (lo hi v : Int), (sIn lo ∧ sIn hi ∧ sIn v) ∧ r' = (bif hFirst k then { r with grp := n, lo := lo, hi := hi, val := v } else r) ∧ ns = bif hFirst k then firstNs n lo hi v else []) := by
  refine Rdd.cond (fun q => ?_) (fun q => ?_)
  · refine (Rdd.take.bind (fun _ => Rdd.sign.bind (fun _ => Rdd.sign.bind (fun _ => Rdd.sign.bind (fun _ => Rdd.pure _) (fun _ => Abs.pure _)) (fun _ => Abs.sign.bind fun _ => Abs.pure _)) (fun _ => Abs.sign.bind fun _ => Abs.sign.bind fun _ => Abs.pure _)) (fun _ => Abs.sign.bind fun _ => Abs.sign.bind fun _ => Abs.sign.bind fun _ => Abs.pure _)).mono ?_
    rintro ns x ⟨a, n1, n2, rfl, rfl, lo, n3, n4, rfl, ⟨rfl, h1⟩, hi, n5, n6, rfl, ⟨rfl, h2⟩, v, n7, n8, rfl, ⟨rfl, h3⟩, rfl, rfl⟩
    exact ⟨a, lo, hi, v, ⟨h1, h2, h3⟩, by rw [q]; rfl, by rw [q]; rfl⟩
  · exact ⟨0, 0, 0, 0, ⟨by unfold sIn; omega, by unfold sIn; omega, by unfold sIn; omega⟩, by rw [q]; rfl, by rw [q]; rfl⟩
theorem rp5 (k : Int) (r : RecM) : Rdd (part5 k r) (fun ns r' => ∃ n : Int, sIn n ∧ r' = { r with delta := bif hDelta k then n else r.delta } ∧ ns = bif hDelta k then [sgn n] else []) := by
  refine Rdd.cond (fun q => ?_) (fun q => ?_)
  · refine (Rdd.sign.bind (fun _ => Rdd.pure _) (fun _ => Abs.pure _)).mono ?_
    rintro ns x ⟨n, n1, n2, rfl, ⟨rfl, h⟩, rfl, rfl⟩
    exact ⟨n, h, by rw [q]; rfl, by rw [q]; rfl⟩
  · exact ⟨0, by unfold sIn; omega, by rw [q]; rfl, by rw [q]; rfl⟩
theorem rp6 (k : Int) (r : RecM) : Rdd (part6 k r) (fun ns r' => ∃ (nx : Nat) (ls : List LiveM) (ds : List DirtyM), r' = (bif hPts k then { r with next := nx, live := ls, dirty := ds } else r) ∧ ns = bif hPts k then pointsNs ls ds nx else []) := by
  refine Rdd.cond (fun q => ?_) (fun q => ?_)
  · refine (Rdd.points.bind (fun _ => Rdd.pure _) (fun _ => Abs.pure _)).mono ?_
    rintro ns x ⟨⟨nx, ls, ds⟩, n1, n2, rfl, rfl, rfl, rfl⟩
    exact ⟨nx, ls, ds, by rw [q]; rfl, by rw [q]; simp⟩
  · exact ⟨0, [], [], by rw [q]; rfl, by rw [q]; rfl⟩
theorem Rdd.read (k : Nat) : Rdd (readM k) (fun ns r => ns = tailN r ∧ r.kind = k ∧ r.lsn = 0 ∧ Fits r) := by
  rw [readM_eq]
  refine ((rp1 k _).bind (fun r => (rp2 k r).bind (fun r => (rp3 k r).bind (fun r => (rp4 k r).bind (fun r => (rp5 k r).bind (fun r => rp6 k r)
    fun r => abs6 k r) fun r => (abs5 k r).bind fun r => abs6 k r) fun r => (abs4 k r).bind fun r => (abs5 k r).bind fun r => abs6 k r)
    fun r => (abs3 k r).bind fun r => (abs4 k r).bind fun r => (abs5 k r).bind fun r => abs6 k r) fun r => abs_tail k r).mono ?_
  rintro ns x ⟨x1, n1, m1, hns1, ⟨a1, h1x, h1n⟩, x2, n2, m2, hns2, ⟨a2, h2x, h2n⟩, x3, n3, m3, hns3, ⟨a3, b3, c3, d3, i3, h3x, h3n⟩, x4, n4, m4, hns4, ⟨a4, lo, hi, v, hs, h4x, h4n⟩, x5, n5, m5, hns5, ⟨a5, hs5, h5x, h5n⟩, nx, ls, ds, h6x, h6n⟩
  have hns : ns = n1 ++ (n2 ++ (n3 ++ (n4 ++ (n5 ++ m5)))) := by rw [hns1, hns2, hns3, hns4, hns5]
  unfold sIn at hs hs5
  clear hns1 hns2 hns3 hns4 hns5
  have key : ∀ t1 t2 t3 t4 t5 t6 : Bool, hTx k = t1 → hPrev k = t2 → hCtr k = t3 → hFirst k = t4 → hDelta k = t5 → hPts k = t6 →
      x.kind = k ∧ x.lsn = 0 ∧ x.tx = (bif t1 then (a1 : Int) else 0) ∧ x.prev = (bif t2 then (a2 : Int) else 0) ∧ x.wp = (bif t3 then (a3 : Int) else 0) ∧ x.wi = (bif t3 then (b3 : Int) else 0) ∧ x.sp = (bif t3 then (c3 : Int) else 0) ∧ x.si = (bif t3 then (d3 : Int) else 0) ∧ x.id = (bif t3 then (i3 : Int) else 0) ∧
      x.grp = (bif t4 then (a4 : Int) else 0) ∧ x.lo = (bif t4 then lo else 0) ∧ x.hi = (bif t4 then hi else 0) ∧ x.val = (bif t4 then v else 0) ∧ x.delta = (bif t5 then a5 else 0) ∧ x.next = (bif t6 then (nx : Int) else 0) ∧ x.live = (bif t6 then ls else []) ∧ x.dirty = (bif t6 then ds else []) := by
    intro t1 t2 t3 t4 t5 t6 e1 e2 e3 e4 e5 e6
    rw [e1] at h1x
    rw [e2] at h2x
    rw [e3] at h3x
    rw [e4] at h4x
    rw [e5] at h5x
    rw [e6] at h6x
    rw [h6x, h5x, h4x, h3x, h2x, h1x]
    cases t3 <;> cases t4 <;> cases t6 <;> exact ⟨rfl, rfl, rfl, rfl, rfl, rfl, rfl, rfl, rfl, rfl, rfl, rfl, rfl, rfl, rfl, rfl, rfl⟩
  obtain ⟨f0, f1, f2, f3, f4, f5, f6, f7, f8, f9, f10, f11, f12, f13, f14, f15, f16⟩ := key _ _ _ _ _ _ rfl rfl rfl rfl rfl rfl
  refine ⟨?_, f0, f1, ?_⟩
  · rw [hns, h1n, h2n, h3n, h4n, h5n, h6n]
    unfold tailN
    rw [f0, f2, f3, f4, f5, f6, f7, f8, f9, f10, f11, f12, f13, f14, f15, f16]
    cases hTx k <;> cases hPrev k <;> cases hCtr k <;> cases hFirst k <;> cases hDelta k <;> cases hPts k <;> rfl
  · unfold Fits
    rw [f10, f11, f12, f13]
    cases hFirst k <;> cases hDelta k <;> simp only [cond_true, cond_false] <;> omega
/-- Where Decode takes bytes, they are the bytes of what it answers. -/
theorem one_form {l : List Nat} (hb : AllB l) (h : (decM l).2 = 0) : chkE (decM l).1 = 0 ∧ Fits (decM l).1 ∧ (decM l).1.lsn = 0 ∧ bytesR (decM l).1 = l := by
  unfold decM at *
  have hko := kindM_ok l
  by_cases hk : (kindM l).1.2 ≠ 0
  · rw [if_pos hk] at h
    exact absurd h hk
  · rw [if_neg hk] at h ⊢
    have hk0 : (kindM l).1.2 = 0 := by omega
    obtain ⟨k1, k8⟩ := hko hk0
    have hkm : (kindM l).2 = (uM 18446744073709551615 l ⟨0, 0⟩).2 := rfl
    have hke : (uM 18446744073709551615 l ⟨0, 0⟩).2.e = 0 ∧ (kindM l).1.1 = (uM 18446744073709551615 l ⟨0, 0⟩).1 := by
      unfold kindM at hk0 k1 ⊢
      simp only at hk0 k1 ⊢
      by_cases q : (uM 18446744073709551615 l ⟨0, 0⟩).2.e ≠ 0
      · rw [if_pos q] at hk0; exact absurd hk0 q
      · rw [if_neg q] at hk0 k1 ⊢
        by_cases q2 : 1 ≤ (uM 18446744073709551615 l ⟨0, 0⟩).1 ∧ (uM 18446744073709551615 l ⟨0, 0⟩).1 ≤ 8
        · rw [if_pos q2]; exact ⟨by omega, rfl⟩
        · rw [if_neg q2] at hk0; simp at hk0
    obtain ⟨n, u1, _, _, u4, u5, u6⟩ := u_good hb rfl (Nat.zero_le _) hke.1
    rw [hke.2, u1] at k1 k8
    rw [hke.2, u1, hkm] at h ⊢
    unfold restM at *
    simp only at *
    by_cases he : endE l (readM n l (uM 18446744073709551615 l ⟨0, 0⟩).2).2.pos (readM n l (uM 18446744073709551615 l ⟨0, 0⟩).2).2.e ≠ 0
    · rw [if_pos he] at h; exact absurd h he
    · rw [if_neg he] at h ⊢
      by_cases hc : chkE (readM n l (uM 18446744073709551615 l ⟨0, 0⟩).2).1 ≠ 0
      · rw [if_pos hc] at h; exact absurd h hc
      · rw [if_neg hc]
        simp only
        have hre : (readM n l (uM 18446744073709551615 l ⟨0, 0⟩).2).2.e = 0 ∧ l.length ≤ (readM n l (uM 18446744073709551615 l ⟨0, 0⟩).2).2.pos := by
          unfold endE at he
          split at he
          · simp at he
          · constructor <;> omega
        obtain ⟨ns, ⟨p1, p2, p3, p4⟩, q2, q3, q4⟩ := Rdd.read n l _ hb hke.1 (by rw [u4]; exact u6) hre.1
        refine ⟨by omega, p4, p3, ?_⟩
        rw [q2] at hre
        rw [u4] at q3 q4 hre
        simp only [Nat.zero_add] at *
        unfold bytesR
        rw [nums_tail, ← p1, p2, List.flatMap_cons]
        have e1 : ((n : Int)).toNat = n := by omega
        rw [e1]
        rw [List.drop_zero] at u5
        rw [u5, q3, List.drop_eq_nil_of_le (by omega), List.append_nil]
end Go.Proofs.Ytgpmghdoofcpaaa
