import Derived.Test.YtgpmghdoofcpaaaGreatEnc4
import Derived.Test.YtgpmghdoofcpaaaGreatG25
import Derived.Test.YtgpmghdoofcpaaaGreatG08
import Derived.Test.YtgpmghdoofcpaaaGreatG07
import Derived.Deep.QuietTactic
import Derived.BigQuiet
import Derived.Deep.DeepCutAuto
namespace Go.Proofs.YtgpmghdoofcpaaaGreat
open Go.RowKit Go.QK

theorem nums_lt {r : RecM} (h : InR r) (hf : Fits r) (hk1 : 1 ≤ r.kind) (hk8 : r.kind ≤ 8) : ∀ n ∈ nums r, n < 18446744073709551616 := by
  obtain ⟨_, h1, h2, h3, h4, h5, h6, h7, h8, h9, h10, h11, h12, h13⟩ := h
  obtain ⟨f1, f2, f3, f4⟩ := hf
  have s1 := sgn_lt f1.1 f1.2
  have s2 := sgn_lt f2.1 f2.2
  have s3 := sgn_lt f3.1 f3.2
  have s4 := sgn_lt f4.1 f4.2
  have d1 := liveNs_lt (ls := r.live) (fun l q => by have := h12 l q; unfold liveIn2 at this; unfold liveIn; omega)
  have d2 := dirtyNs_lt (ds := r.dirty) (fun l q => by have := h13 l q; unfold dirtyIn2 at this; unfold dirtyIn; omega)
  intro n hn
  simp only [nums, List.mem_append] at hn
  rcases hn with (((((hn | hn) | hn) | hn) | hn) | hn) | hn
  · simp at hn; omega
  · cases q : hTx r.kind <;> rw [q] at hn <;> simp at hn; omega
  · cases q : hPrev r.kind <;> rw [q] at hn <;> simp at hn; omega
  · cases q : hCtr r.kind <;> rw [q] at hn <;> simp at hn; omega
  · cases q : hFirst r.kind <;> rw [q] at hn <;> simp [firstNs] at hn; omega
  · cases q : hDelta r.kind <;> rw [q] at hn <;> simp at hn; omega
  · cases q : hPts r.kind <;> rw [q] at hn
    · simp at hn
    · simp only [cond_true, pointsNs, List.mem_append] at hn
      rcases hn with (hn | hn) | (hn | hn)
      · simp at hn; omega
      · have := d1 n hn; omega
      · simp at hn; omega
      · have := d2 n hn; omega
theorem cond_len {b : Bool} {l : List Nat} {n : Nat} (h : l.length ≤ n) : (bif b then l else []).length ≤ n := by cases b <;> simp [h]
theorem nums_len {r : RecM} (h : InR r) : (nums r).length ≤ 150 := by
  have l1 := h.ll
  have l2 := h.dl
  have e1 : (pointsNs r.live r.dirty r.next.toNat).length ≤ 131 := by
    simp only [pointsNs, List.length_append, ns_len liveNs 3 (fun _ => rfl), ns_len dirtyNs 2 (fun _ => rfl), List.length_cons, List.length_nil]
    omega
  have a1 := cond_len (b := hTx r.kind) (l := [r.tx.toNat]) (n := 1) (by simp)
  have a2 := cond_len (b := hPrev r.kind) (l := [r.prev.toNat]) (n := 1) (by simp)
  have a3 := cond_len (b := hCtr r.kind) (l := [r.wp.toNat, r.wi.toNat, r.sp.toNat, r.si.toNat, r.id.toNat]) (n := 5) (by simp)
  have a4 := cond_len (b := hFirst r.kind) (l := firstNs r.grp.toNat r.lo r.hi r.val) (n := 4) (by simp [firstNs])
  have a5 := cond_len (b := hDelta r.kind) (l := [sgn r.delta]) (n := 1) (by simp)
  have a6 := cond_len (b := hPts r.kind) e1
  simp only [nums, List.length_append, List.length_cons, List.length_nil]
  omega
theorem allB_forms (ns : List Nat) : AllB (ns.flatMap form) := by
  intro x hx
  obtain ⟨n, _, hn⟩ := List.mem_flatMap.1 hx
  exact AllB.form n x hn
theorem bytesR_len {r : RecM} (h : InR r) (hf : Fits r) (hk1 : 1 ≤ r.kind) (hk8 : r.kind ≤ 8) : (bytesR r).length ≤ 1500 := by
  have := flatForm_len (nums r) (nums_lt h hf hk1 hk8)
  have := nums_len h
  unfold bytesR
  omega

theorem write_any (r : RecM) (la da : Option Addr) (lc dc : Nat) (B p : Nat) (v : Value) (w : World) (h : Wr w B p v []) (hk1 : 1 ≤ r.kind) (hk8 : r.kind ≤ 8) (hok : InR r) (hf : Fits r)
    (hl : ∀ w', Keep (wS p v) w w' → Lies w' la (liveCs r.live)) (hd : ∀ w', Keep (wS p v) w w' → Lies w' da (dirtyCs r.dirty)) :
    Calls Tryz.prog 67 #[.pointer (some ⟨p, 0, none⟩), .agg (recC r la lc da dc)] w fun e w' => ∃ v', e = .returned (.tuple #[]) ∧ WSt w B p v w' v' (bytesR r) := by
  obtain ⟨lsn, kind, tx, prev, wp, wi, sp, si, delta, id, grp, lo, hi, val, live, dirty, next⟩ := r
  obtain ⟨_, h1, h2, h3, h4, h5, h6, h7, h8, h9, h10, h11, h12, h13⟩ := hok
  simp only at hk1 hk8 h1 h2 h3 h4 h5 h6 h7 h8 h9 h10 h11 h12 h13 hl hd
  obtain ⟨kn, rfl⟩ := Int.eq_ofNat_of_zero_le (show 0 ≤ kind by omega)
  obtain ⟨tn, rfl⟩ := Int.eq_ofNat_of_zero_le h1.1
  obtain ⟨pn, rfl⟩ := Int.eq_ofNat_of_zero_le h2.1
  obtain ⟨wpn, rfl⟩ := Int.eq_ofNat_of_zero_le h3.1
  obtain ⟨win, rfl⟩ := Int.eq_ofNat_of_zero_le h4.1
  obtain ⟨spn, rfl⟩ := Int.eq_ofNat_of_zero_le h5.1
  obtain ⟨sin, rfl⟩ := Int.eq_ofNat_of_zero_le h6.1
  obtain ⟨idn, rfl⟩ := Int.eq_ofNat_of_zero_le h7.1
  obtain ⟨gn, rfl⟩ := Int.eq_ofNat_of_zero_le h8.1
  obtain ⟨nx, rfl⟩ := Int.eq_ofNat_of_zero_le h9.1
  have hr : tn ≤ 2147483647 ∧ pn ≤ 2147483647 ∧ wpn ≤ 63 ∧ win ≤ 30 ∧ spn ≤ 63 ∧ sin ≤ 83 ∧ idn ≤ 1048576 ∧ gn ≤ 1048576 ∧ nx ≤ 2147483648 := by omega
  rcases kinds5 hk1 hk8 with q | q | q | q | q
  · exact write_pat1 lsn kn tn pn wpn win spn sin delta idn gn lo hi val live dirty nx la da lc dc B p v w h (by omega) (by omega) (by unfold hTx; rw [q]; rfl) (by unfold hPrev; rw [q]; rfl) (by unfold hCtr; rw [q]; rfl) (by unfold hFirst; rw [q]; rfl) (by unfold hDelta; rw [q]; rfl) (by unfold hPts; rw [q]; rfl) hl hd hr hf h12 h13 h10 h11
  · exact write_pat2 lsn kn tn pn wpn win spn sin delta idn gn lo hi val live dirty nx la da lc dc B p v w h (by omega) (by omega) (by unfold hTx; rw [q]; rfl) (by unfold hPrev; rw [q]; rfl) (by unfold hCtr; rw [q]; rfl) (by unfold hFirst; rw [q]; rfl) (by unfold hDelta; rw [q]; rfl) (by unfold hPts; rw [q]; rfl) hl hd hr hf h12 h13 h10 h11
  · exact write_pat3 lsn kn tn pn wpn win spn sin delta idn gn lo hi val live dirty nx la da lc dc B p v w h (by omega) (by omega) (by unfold hTx; rcases q with q | q <;> rw [q] <;> rfl) (by unfold hPrev; rcases q with q | q <;> rw [q] <;> rfl) (by unfold hCtr; rcases q with q | q <;> rw [q] <;> rfl) (by unfold hFirst; rcases q with q | q <;> rw [q] <;> rfl) (by unfold hDelta; rcases q with q | q <;> rw [q] <;> rfl) (by unfold hPts; rcases q with q | q <;> rw [q] <;> rfl) hl hd hr hf h12 h13 h10 h11
  · exact write_pat5 lsn kn tn pn wpn win spn sin delta idn gn lo hi val live dirty nx la da lc dc B p v w h (by omega) (by omega) (by unfold hTx; rcases q with q | q | q <;> rw [q] <;> rfl) (by unfold hPrev; rcases q with q | q | q <;> rw [q] <;> rfl) (by unfold hCtr; rcases q with q | q | q <;> rw [q] <;> rfl) (by unfold hFirst; rcases q with q | q | q <;> rw [q] <;> rfl) (by unfold hDelta; rcases q with q | q | q <;> rw [q] <;> rfl) (by unfold hPts; rcases q with q | q | q <;> rw [q] <;> rfl) hl hd hr hf h12 h13 h10 h11
  · exact write_pat8 lsn kn tn pn wpn win spn sin delta idn gn lo hi val live dirty nx la da lc dc B p v w h (by omega) (by omega) (by unfold hTx; rw [q]; rfl) (by unfold hPrev; rw [q]; rfl) (by unfold hCtr; rw [q]; rfl) (by unfold hFirst; rw [q]; rfl) (by unfold hDelta; rw [q]; rfl) (by unfold hPts; rw [q]; rfl) hl hd hr hf h12 h13 h10 h11

theorem Owns.mono {k : IntKind} {e : TypeId} {w : World} {B B' : Nat} {v : Value} {xs : List Int} (h : Owns k e w B v xs) (hb : B' ≤ B) : Owns k e w B' v xs := by
  refine ⟨h.1, ?_⟩
  rcases h.2 with q | ⟨g, cap, cur, q, hbg, rest⟩
  · exact .inl q
  · exact .inr ⟨g, cap, cur, q, Nat.le_trans hb hbg, rest⟩
def encB (r : RecM) : List Nat := if chkE r = 0 then bytesR r else []
theorem chkE_ok {r : RecM} (h : chkE r = 0) : (1 ≤ r.kind ∧ r.kind ≤ 8) ∧ okB r = true := by
  unfold chkE at h
  split at h
  · rename_i q
    split at h
    · exact ⟨fromB_iff.1 q, by assumption⟩
    · simp at h
  · simp at h

set_option maxRecDepth 100000
theorem encode_any (r : RecM) (la da : Option Addr) (lc dc : Nat) (w : World) (hl : Lies w la (liveCs r.live)) (hd : Lies w da (dirtyCs r.dirty)) (hf : Fits r) :
    Calls Tryz.prog 33 #[.agg (recC r la lc da dc)] w fun e w' => ∃ v, e = .returned (.tuple #[v, .int .i64 ((chkE r : Nat) : Int)]) ∧ OwnB w' w.heap.size v (encB r) ∧ Below w.heap.size w w' := by
  have c1 := fun w a b => check_any r la da lc dc w a b
  have c2 := fun B p v w h k1 k8 o a b => write_any r la da lc dc B p v w h k1 k8 o hf a b
  have c3 := fun (h : chkE r = 0) => bytesR_len (okB_in (chkE_ok h).2) hf (chkE_ok h).1.1 (chkE_ok h).1.2
  have c4 := fun (h : chkE r = 0) => chkE_ok h
  unfold encB
  have HL := hide hl
  have HD := hide hd
  clear hl hd hf
  generalize chkE r = er at *
  generalize bytesR r = by_ at *
  have c5 := fun (h : er = 0) => okB_in (c4 h).2
  have c6 := fun (h : er = 0) => (c4 h).1
  clear c4
  obtain ⟨lsn, kind, tx, prev, wp, wi, sp, si, delta, id, grp, lo, hi, val, live, dirty, next⟩ := r
  simp only [recC] at *
  by_cases he : er = 0
  · subst he
    have c3 := c3 rfl
    have C5 := hide (c5 rfl)
    have C6 := hide (c6 rfl)
    clear c5 c6
    go_enter Tryz.func33, Tryz.ntmps33
    go_wp2_with fail
    generalize hw0 : w.alloc (.cells #[.int .i64 lsn, .int .i64 kind, .int .i64 tx, .int .i64 prev, .int .i64 wp, .int .i64 wi, .int .i64 sp, .int .i64 si, .int .i64 delta, .int .i64 id, .int .i64 grp, .int .i64 lo, .int .i64 hi, .int .i64 val, .slice la live.length lc, .slice da dirty.length dc, .int .i64 next] 44) = w0
    have b0 : Below w.heap.size w w0 := by rw [← hw0]; exact alloc_below _ _
    have C : Cells w0 w.heap.size [.int .i64 lsn, .int .i64 kind, .int .i64 tx, .int .i64 prev, .int .i64 wp, .int .i64 wi, .int .i64 sp, .int .i64 si, .int .i64 delta, .int .i64 id, .int .i64 grp, .int .i64 lo, .int .i64 hi, .int .i64 val, .slice la live.length lc, .slice da dirty.length dc, .int .i64 next] := by rw [← hw0]; exact Cells.new _ _ _
    clear hw0
    refine (c1 _ (HL.out.below b0) (HD.out.below b0)).mono ?_
    rintro e w1 ⟨rfl, b1⟩
    replace C := C.below b1
    have b2 := bnext b0 b1 (Nat.le_refl _)
    clear b0 b1 c1
    go_wp2_with fail
    refine (newWriter_any _).mono ?_
    rintro e w2 ⟨rfl, hw2⟩
    have b3 : Below w1.heap.size w1 w2 := by rw [hw2]; exact alloc_below _ _
    have hW : Wr w2 w1.heap.size w1.heap.size (.slice none 0 0) [] := by rw [hw2]; exact ⟨Cells.new _ _ _, Owns.nil _ _ _ _, nofun, Nat.le_refl _⟩
    replace C := C.below b3
    have b4 := bnext b2 b3 (Nat.le_refl _)
    clear hw2
    have k0 := (C.get 0 _ rfl).1
    have k1 := (C.get 1 _ rfl).1
    have k2 := (C.get 2 _ rfl).1
    have k3 := (C.get 3 _ rfl).1
    have k4 := (C.get 4 _ rfl).1
    have k5 := (C.get 5 _ rfl).1
    have k6 := (C.get 6 _ rfl).1
    have k7 := (C.get 7 _ rfl).1
    have k8 := (C.get 8 _ rfl).1
    have k9 := (C.get 9 _ rfl).1
    have k10 := (C.get 10 _ rfl).1
    have k11 := (C.get 11 _ rfl).1
    have k12 := (C.get 12 _ rfl).1
    have k13 := (C.get 13 _ rfl).1
    have k14 := (C.get 14 _ rfl).1
    have k15 := (C.get 15 _ rfl).1
    have k16 := (C.get 16 _ rfl).1
    go_wp2_with fail
    have HC := hide C
    clear C
    refine (c2 w1.heap.size w1.heap.size _ w2 hW C6.out.1 C6.out.2 C5.out (fun w' q => HL.out.below (b4.trans (q.below b4.size (fun k hk hs => by
      have := (hW.lt k hs).1
      have := b2.size
      omega)))) (fun w' q => HD.out.below (b4.trans (q.below b4.size (fun k hk hs => by
      have := (hW.lt k hs).1
      have := b2.size
      omega))))).mono ?_
    rintro e w3 ⟨v3, rfl, st⟩
    have b5 : Below w.heap.size w w3 := b4.trans (st.keep.below b4.size (fun k hk hs => by
      have := (hW.lt k hs).1
      have := b2.size
      omega))
    have HW3 := hide st.wr
    clear st k0 k1 k2 k3 k4 k5 k6 k7 k8 k9 k10 k11 k12 k13 k14 k15 k16 c2
    go_wp2_with fail
    refine (out_any _ _ _ _ _ HW3.out (by omega)).mono ?_
    rintro e w4 ⟨v4, rfl, o4, b6⟩
    have o5 := Owns.mono o4 b5.size
    have HO := hide o5
    have b7 := bnext b5 b6 (Nat.le_refl _)
    clear o4 o5 b6
    go_wp2_with fail
    exact bodyPost_ret (v := .tuple #[v4, .int .i64 0]) (by simp [results, Tryz.results33, go_sem]) rfl ⟨_, rfl, HO.out, b7⟩
  · have he1 : ¬ ((er : Int) = 0) := by omega
    rw [if_neg he]
    clear c2 c3 c5 c6
    go_enter Tryz.func33, Tryz.ntmps33
    go_wp2_with fail
    refine (c1 _ (HL.out.below (alloc_below _ _)) (HD.out.below (alloc_below _ _))).mono ?_
    rintro e w1 ⟨rfl, b1⟩
    have b2 := bnext (alloc_below _ _) b1 (Nat.le_refl _)
    clear b1 c1
    go_wp2_with fail
    exact bodyPost_ret (v := .tuple #[.slice none 0 0, .int .i64 (er : Int)]) (by simp [results, Tryz.results33, go_sem]) rfl ⟨_, rfl, Owns.nil _ _ _ _, b2⟩
end Go.Proofs.YtgpmghdoofcpaaaGreat

namespace Go.Proofs.YtgpmghdoofcpaaaGreat
open Go.RowKit Go.QK

set_option maxRecDepth 100000
set_option maxHeartbeats 8000000 in
theorem Same_true (r : RecM) (la da la' da' : Option Addr) (lc dc lc' dc' : Nat) (w : World) (hl : Lies w la (liveCs r.live)) (hd : Lies w da (dirtyCs r.dirty)) (hl' : Lies w la' (liveCs r.live)) (hd' : Lies w da' (dirtyCs r.dirty)) (hn1 : r.live.length ≤ 1000000) (hn2 : r.dirty.length ≤ 1000000) :
    Calls Tryz.prog 17 #[.agg (recC r la lc da dc), .agg (recC r la' lc' da' dc')] w fun e w' => e = .returned (.bool true) ∧ Below w.heap.size w w' := by
  obtain ⟨lsn, kind, tx, prev, wp, wi, sp, si, delta, id, grp, lo, hi, val, live, dirty, next⟩ := r
  simp only [recC] at *
  have B0 : Below w.heap.size w ((w.alloc (.cells #[.int .i64 lsn, .int .i64 kind, .int .i64 tx, .int .i64 prev, .int .i64 wp, .int .i64 wi, .int .i64 sp, .int .i64 si, .int .i64 delta, .int .i64 id, .int .i64 grp, .int .i64 lo, .int .i64 hi, .int .i64 val, .slice la live.length lc, .slice da dirty.length dc, .int .i64 next] 44)).alloc (.cells #[.int .i64 lsn, .int .i64 kind, .int .i64 tx, .int .i64 prev, .int .i64 wp, .int .i64 wi, .int .i64 sp, .int .i64 si, .int .i64 delta, .int .i64 id, .int .i64 grp, .int .i64 lo, .int .i64 hi, .int .i64 val, .slice la' live.length lc', .slice da' dirty.length dc', .int .i64 next] 44)) := (alloc_below _ _).alloc (by simp) _
  have C0 : Cells ((w.alloc (.cells #[.int .i64 lsn, .int .i64 kind, .int .i64 tx, .int .i64 prev, .int .i64 wp, .int .i64 wi, .int .i64 sp, .int .i64 si, .int .i64 delta, .int .i64 id, .int .i64 grp, .int .i64 lo, .int .i64 hi, .int .i64 val, .slice la live.length lc, .slice da dirty.length dc, .int .i64 next] 44)).alloc (.cells #[.int .i64 lsn, .int .i64 kind, .int .i64 tx, .int .i64 prev, .int .i64 wp, .int .i64 wi, .int .i64 sp, .int .i64 si, .int .i64 delta, .int .i64 id, .int .i64 grp, .int .i64 lo, .int .i64 hi, .int .i64 val, .slice la' live.length lc', .slice da' dirty.length dc', .int .i64 next] 44)) w.heap.size [.int .i64 lsn, .int .i64 kind, .int .i64 tx, .int .i64 prev, .int .i64 wp, .int .i64 wi, .int .i64 sp, .int .i64 si, .int .i64 delta, .int .i64 id, .int .i64 grp, .int .i64 lo, .int .i64 hi, .int .i64 val, .slice la live.length lc, .slice da dirty.length dc, .int .i64 next] := (Cells.new _ _ _).below (alloc_below _ _)
  have D0 : Cells ((w.alloc (.cells #[.int .i64 lsn, .int .i64 kind, .int .i64 tx, .int .i64 prev, .int .i64 wp, .int .i64 wi, .int .i64 sp, .int .i64 si, .int .i64 delta, .int .i64 id, .int .i64 grp, .int .i64 lo, .int .i64 hi, .int .i64 val, .slice la live.length lc, .slice da dirty.length dc, .int .i64 next] 44)).alloc (.cells #[.int .i64 lsn, .int .i64 kind, .int .i64 tx, .int .i64 prev, .int .i64 wp, .int .i64 wi, .int .i64 sp, .int .i64 si, .int .i64 delta, .int .i64 id, .int .i64 grp, .int .i64 lo, .int .i64 hi, .int .i64 val, .slice la' live.length lc', .slice da' dirty.length dc', .int .i64 next] 44)) (w.heap.size + 1) [.int .i64 lsn, .int .i64 kind, .int .i64 tx, .int .i64 prev, .int .i64 wp, .int .i64 wi, .int .i64 sp, .int .i64 si, .int .i64 delta, .int .i64 id, .int .i64 grp, .int .i64 lo, .int .i64 hi, .int .i64 val, .slice la' live.length lc', .slice da' dirty.length dc', .int .i64 next] := by
    have := Cells.new (w.alloc (.cells #[.int .i64 lsn, .int .i64 kind, .int .i64 tx, .int .i64 prev, .int .i64 wp, .int .i64 wi, .int .i64 sp, .int .i64 si, .int .i64 delta, .int .i64 id, .int .i64 grp, .int .i64 lo, .int .i64 hi, .int .i64 val, .slice la live.length lc, .slice da dirty.length dc, .int .i64 next] 44)) #[.int .i64 lsn, .int .i64 kind, .int .i64 tx, .int .i64 prev, .int .i64 wp, .int .i64 wi, .int .i64 sp, .int .i64 si, .int .i64 delta, .int .i64 id, .int .i64 grp, .int .i64 lo, .int .i64 hi, .int .i64 val, .slice la' live.length lc', .slice da' dirty.length dc', .int .i64 next] 44
    simpa using this
  generalize hw0 : (w.alloc (.cells #[.int .i64 lsn, .int .i64 kind, .int .i64 tx, .int .i64 prev, .int .i64 wp, .int .i64 wi, .int .i64 sp, .int .i64 si, .int .i64 delta, .int .i64 id, .int .i64 grp, .int .i64 lo, .int .i64 hi, .int .i64 val, .slice la live.length lc, .slice da dirty.length dc, .int .i64 next] 44)).alloc (.cells #[.int .i64 lsn, .int .i64 kind, .int .i64 tx, .int .i64 prev, .int .i64 wp, .int .i64 wi, .int .i64 sp, .int .i64 si, .int .i64 delta, .int .i64 id, .int .i64 grp, .int .i64 lo, .int .i64 hi, .int .i64 val, .slice la' live.length lc', .slice da' dirty.length dc', .int .i64 next] 44) = w0 at *
  have HW0 := hide hw0
  have HB0 := hide B0
  have L1 := hide (hl.below B0)
  have L2 := hide (hl'.below B0)
  have D1 := hide (hd.below B0)
  have D2 := hide (hd'.below B0)
  clear hw0 hl hd hl' hd' B0
  go_enter Tryz.func17, Tryz.ntmps17
  go_upto_region 1 with fail
  rw [HW0.out]
  clear HW0
  generalize Value.agg #[.int .i64 lsn, .int .i64 kind, .int .i64 tx, .int .i64 prev, .int .i64 wp, .int .i64 wi, .int .i64 sp, .int .i64 si, .int .i64 delta, .int .i64 id, .int .i64 grp, .int .i64 lo, .int .i64 hi, .int .i64 val, .slice la live.length lc, .slice da dirty.length dc, .int .i64 next] = va
  generalize Value.agg #[.int .i64 lsn, .int .i64 kind, .int .i64 tx, .int .i64 prev, .int .i64 wp, .int .i64 wi, .int .i64 sp, .int .i64 si, .int .i64 delta, .int .i64 id, .int .i64 grp, .int .i64 lo, .int .i64 hi, .int .i64 val, .slice la' live.length lc', .slice da' dirty.length dc', .int .i64 next] = vb
  generalize w.heap.size + 1 = b1 at *
  have k0 := (C0.get 0 _ rfl).1
  have m0 := (D0.get 0 _ rfl).1
  have k1 := (C0.get 1 _ rfl).1
  have m1 := (D0.get 1 _ rfl).1
  have k2 := (C0.get 2 _ rfl).1
  have m2 := (D0.get 2 _ rfl).1
  have k3 := (C0.get 3 _ rfl).1
  have m3 := (D0.get 3 _ rfl).1
  have k4 := (C0.get 4 _ rfl).1
  have m4 := (D0.get 4 _ rfl).1
  have k5 := (C0.get 5 _ rfl).1
  have m5 := (D0.get 5 _ rfl).1
  have k6 := (C0.get 6 _ rfl).1
  have m6 := (D0.get 6 _ rfl).1
  have k7 := (C0.get 7 _ rfl).1
  have m7 := (D0.get 7 _ rfl).1
  have k8 := (C0.get 8 _ rfl).1
  have m8 := (D0.get 8 _ rfl).1
  have k9 := (C0.get 9 _ rfl).1
  have m9 := (D0.get 9 _ rfl).1
  have k10 := (C0.get 10 _ rfl).1
  have m10 := (D0.get 10 _ rfl).1
  have k11 := (C0.get 11 _ rfl).1
  have m11 := (D0.get 11 _ rfl).1
  have k12 := (C0.get 12 _ rfl).1
  have m12 := (D0.get 12 _ rfl).1
  have k13 := (C0.get 13 _ rfl).1
  have m13 := (D0.get 13 _ rfl).1
  have k14 := (C0.get 14 _ rfl).1
  have m14 := (D0.get 14 _ rfl).1
  have k15 := (C0.get 15 _ rfl).1
  have m15 := (D0.get 15 _ rfl).1
  have k16 := (C0.get 16 _ rfl).1
  have m16 := (D0.get 16 _ rfl).1
  have HC := hide C0
  have HD := hide D0
  clear C0 D0
  go_upto_region 5 with fail
  clear k0 m0 k1 m1 k2 m2 k3 m3 k4 m4 k5 m5 k6 m6 k7 m7 k8 m8 k9 m9 k10 m10 k11 m11 k12 m12 k13 m13 k14 m14 k15 m15 k16 m16
  go_wp2_with fail
  go_loopw [5] (fun i wr => ∃ k : Nat, i = .int .i64 (k : Int) ∧ k ≤ live.length ∧ Below w0.heap.size w0 wr) (fun i _ => (live.length + 1 - (intOf i).toNat))
  case atStart => exact ⟨0, rfl, Nat.zero_le _, Below.refl _ _⟩
  case round =>
    obtain ⟨k, rfl, hk, hb⟩ := hrel
    have k14 := ((HC.out.below hb).get 14 _ rfl).1
    have m14 := ((HD.out.below hb).get 14 _ rfl).1
    by_cases hlt : k < live.length
    · have hg1 : decide ((k : Int) < (live.length : Int)) = true := by simp; omega
      have hbw := hide hb
      obtain ⟨b, off, ea, hbl, x0, x1, x2, x3⟩ := (L1.out.below hb).liveAt k hlt
      obtain ⟨b', off', ea', hbl', y0, y1, y2, y3⟩ := (L2.out.below hb).liveAt k hlt
      subst ea ea'
      generalize live[k].tx = v0 at *
      generalize live[k].last = v1 at *
      generalize live[k].com = v2 at *
      generalize live[k].und = v3 at *
      clear hb
      go_upto_region 8 with fail
      go_quiet (fail)
      go_wp2_with fail
      go_roundw
      case rel => exact ⟨k + 1, by go_num, hlt, below_drewN hbw.out _⟩
      case measure => simp [intOf]; omega
    · have hg1 : decide ((k : Int) < (live.length : Int)) = false := by simp; omega
      have hb1 := hide hb
      go_wp2_with fail
      go_loopw [6] (fun i wr => ∃ k : Nat, i = .int .i64 (k : Int) ∧ k ≤ dirty.length ∧ Below w0.heap.size w0 wr) (fun i _ => (dirty.length + 1 - (intOf i).toNat))
      case atStart => exact ⟨0, rfl, Nat.zero_le _, hb1.out⟩
      case round =>
        obtain ⟨k, rfl, hk, hb⟩ := hrel
        have k15 := ((HC.out.below hb).get 15 _ rfl).1
        have m15 := ((HD.out.below hb).get 15 _ rfl).1
        by_cases hlt : k < dirty.length
        · have hg1 : decide ((k : Int) < (dirty.length : Int)) = true := by simp; omega
          have hbw := hide hb
          obtain ⟨b, off, ea, hbl, x0, x1⟩ := (D1.out.below hb).dirtyAt k hlt
          obtain ⟨b', off', ea', hbl', y0, y1⟩ := (D2.out.below hb).dirtyAt k hlt
          subst ea ea'
          generalize dirty[k].page = v0 at *
          generalize dirty[k].since = v1 at *
          clear hb
          go_upto_region 13 with fail
          go_quiet (fail)
          go_wp2_with fail
          go_roundw
          case rel => exact ⟨k + 1, by go_num, hlt, below_drewN hbw.out _⟩
          case measure => simp [intOf]; omega
        · have hg1 : decide ((k : Int) < (dirty.length : Int)) = false := by simp; omega
          go_wp2_with fail
          go_ret
          exact ⟨rfl, bnext HB0.out hb (Nat.le_refl _)⟩

end Go.Proofs.YtgpmghdoofcpaaaGreat
