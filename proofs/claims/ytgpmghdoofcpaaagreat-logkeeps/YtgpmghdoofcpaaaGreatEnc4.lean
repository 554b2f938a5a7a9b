import Derived.Test.YtgpmghdoofcpaaaGreatEnc3
namespace Go.Proofs.YtgpmghdoofcpaaaGreat
open Go.RowKit Go.QK

def nums (r : RecM) : List Nat :=
  [r.kind.toNat] ++ (bif hTx r.kind then [r.tx.toNat] else []) ++ (bif hPrev r.kind then [r.prev.toNat] else []) ++ (bif hCtr r.kind then [r.wp.toNat, r.wi.toNat, r.sp.toNat, r.si.toNat, r.id.toNat] else []) ++
    (bif hFirst r.kind then firstNs r.grp.toNat r.lo r.hi r.val else []) ++ (bif hDelta r.kind then [sgn r.delta] else []) ++ (bif hPts r.kind then pointsNs r.live r.dirty r.next.toNat else [])
def bytesR (r : RecM) : List Nat := (nums r).flatMap form
/-- Its numbers with a sign are such. -/
def Fits (r : RecM) : Prop := (-9223372036854775808 ≤ r.delta ∧ r.delta ≤ 9223372036854775807) ∧ (-9223372036854775808 ≤ r.lo ∧ r.lo ≤ 9223372036854775807) ∧ (-9223372036854775808 ≤ r.hi ∧ r.hi ≤ 9223372036854775807) ∧ (-9223372036854775808 ≤ r.val ∧ r.val ≤ 9223372036854775807)
theorem fromB_iff {a n b : Int} : fromB a n b = true ↔ a ≤ n ∧ n ≤ b := by unfold fromB; simp
theorem oneB_in {has : Bool} {n m : Int} (hm : 0 ≤ m) (h : oneB has n m = true) : 0 ≤ n ∧ n ≤ m := by
  unfold oneB at h
  cases has
  · simp at h; omega
  · simp [fromB_iff] at h; omega
theorem slotsB_in {has : Bool} {a b c d : Int} (h : slotsB has a b c d = true) : (0 ≤ a ∧ a ≤ 63) ∧ (0 ≤ b ∧ b ≤ 30) ∧ (0 ≤ c ∧ c ≤ 63) ∧ (0 ≤ d ∧ d ≤ 83) := by
  unfold slotsB at h
  cases has
  · simp at h; omega
  · simp [slotB, fromB_iff] at h; omega
theorem firstB_in {has : Bool} {a b c d : Int} (h : firstB has a b c d = true) : 0 ≤ a ∧ a ≤ 1048576 := by
  unfold firstB at h
  cases has
  · simp at h; omega
  · simp [fromB_iff] at h; omega
def liveIn2 (l : LiveM) : Prop := 1 ≤ l.tx ∧ l.tx ≤ 2147483647 ∧ 1 ≤ l.last ∧ l.last ≤ 2147483647 ∧ ¬ (l.com = true ∧ l.und = true)
def dirtyIn2 (l : DirtyM) : Prop := 0 ≤ l.page ∧ l.page ≤ 63 ∧ 1 ≤ l.since ∧ l.since ≤ 2147483647
theorem liveB_in {next lsn : Int} (hn : next ≤ 2147483648) : {ls : List LiveM} → {m : Int} → 1 ≤ m → liveB next lsn m ls = true → ∀ l ∈ ls, liveIn2 l
  | [], _, _, _ => nofun
  | x :: ls, m, hm, h => by
    simp only [liveB, Bool.and_eq_true, fromB_iff, recB, Bool.not_eq_true', Bool.and_eq_false_iff] at h
    obtain ⟨⟨⟨h1, h2, _⟩, h3⟩, h4⟩ := h
    intro l hl
    rcases List.mem_cons.1 hl with rfl | hl
    · unfold liveIn2
      refine ⟨by omega, by omega, by omega, by omega, ?_⟩
      rintro ⟨a, b⟩
      rcases h3 with h3 | h3
      · rw [a] at h3; cases h3
      · rw [b] at h3; cases h3
    · exact liveB_in hn (by omega) h4 l hl
theorem dirtyB_in {lsn : Int} : {ls : List DirtyM} → {m : Int} → 0 ≤ m → dirtyB lsn m ls = true → ∀ l ∈ ls, dirtyIn2 l
  | [], _, _, _ => nofun
  | x :: ls, m, hm, h => by
    simp only [dirtyB, Bool.and_eq_true, fromB_iff, recB] at h
    obtain ⟨⟨h1, h2, _⟩, h4⟩ := h
    intro l hl
    rcases List.mem_cons.1 hl with rfl | hl
    · unfold dirtyIn2; omega
    · exact dirtyB_in (by omega) h4 l hl
theorem pointsB_in {has : Bool} {ls : List LiveM} {ds : List DirtyM} {next lsn : Int} (h : pointsB has ls ds next lsn = true) : (0 ≤ next ∧ next ≤ 2147483648) ∧ ls.length ≤ 32 ∧ ds.length ≤ 16 ∧ (∀ l ∈ ls, liveIn2 l) ∧ (∀ l ∈ ds, dirtyIn2 l) := by
  unfold pointsB at h
  cases has
  · simp at h
    obtain ⟨⟨h1, h2⟩, h3⟩ := h
    subst h1 h2 h3
    exact ⟨by omega, by simp, by simp, nofun, nofun⟩
  · simp only [cond_true, Bool.and_eq_true, fromB_iff, decide_eq_true_eq] at h
    obtain ⟨⟨h1, h2, h3⟩, h4, h5⟩ := h
    exact ⟨by omega, h2, h4, liveB_in h1.2 (by omega) h3, dirtyB_in (by omega) h5⟩
/-- What a record that may be one has for numbers. -/
structure InR (r : RecM) : Prop where
  lsn : 0 ≤ r.lsn ∧ r.lsn ≤ 2147483647
  tx : 0 ≤ r.tx ∧ r.tx ≤ 2147483647
  prev : 0 ≤ r.prev ∧ r.prev ≤ 2147483647
  wp : 0 ≤ r.wp ∧ r.wp ≤ 63
  wi : 0 ≤ r.wi ∧ r.wi ≤ 30
  sp : 0 ≤ r.sp ∧ r.sp ≤ 63
  si : 0 ≤ r.si ∧ r.si ≤ 83
  id : 0 ≤ r.id ∧ r.id ≤ 1048576
  grp : 0 ≤ r.grp ∧ r.grp ≤ 1048576
  next : 0 ≤ r.next ∧ r.next ≤ 2147483648
  ll : r.live.length ≤ 32
  dl : r.dirty.length ≤ 16
  li : ∀ l ∈ r.live, liveIn2 l
  di : ∀ l ∈ r.dirty, dirtyIn2 l
theorem okB_in {r : RecM} (h : okB r = true) : InR r := by
  simp only [okB, Bool.and_eq_true] at h
  obtain ⟨⟨⟨⟨⟨⟨⟨⟨h0, h1⟩, h2⟩, h3⟩, h4⟩, h5⟩, h6⟩, h7⟩, h8⟩ := h
  obtain ⟨s1, s2, s3, s4⟩ := slotsB_in h4
  obtain ⟨p1, p2, p3, p4, p5⟩ := pointsB_in h8
  exact ⟨fromB_iff.1 h0, oneB_in (by omega) h2, oneB_in (by omega) h3, s1, s2, s3, s4, oneB_in (by omega) h5, firstB_in h6, p1, p2, p3, p4, p5⟩
theorem len_more {L ns : List Nat} {c : Nat} (h : L.length ≤ c) (hns : ∀ n ∈ ns, n < 18446744073709551616) : (L ++ ns.flatMap form).length ≤ c + 10 * ns.length := by
  have := flatForm_len ns hns
  rw [List.length_append]
  omega
theorem kinds5 {k : Int} (h1 : 1 ≤ k) (h8 : k ≤ 8) : k = 1 ∨ k = 2 ∨ (k = 3 ∨ k = 4) ∨ (k = 5 ∨ k = 6 ∨ k = 7) ∨ k = 8 := by omega

set_option maxRecDepth 100000
set_option maxHeartbeats 2000000 in
theorem write_pat1 (lsn : Int) (kn tn pn wpn win spn sin : Nat) (delta : Int) (idn gn : Nat) (lo hi val : Int) (live : List LiveM) (dirty : List DirtyM) (nx : Nat) (la da : Option Addr) (lc dc : Nat) (B p : Nat) (v : Value) (w : World) (h : Wr w B p v [])
    (hk1 : 1 ≤ kn) (hk8 : kn ≤ 8) (e1 : hTx kn = true) (e2 : hPrev kn = false) (e3 : hCtr kn = false) (e4 : hFirst kn = false) (e5 : hDelta kn = false) (e6 : hPts kn = false)
    (hl : ∀ w', Keep (wS p v) w w' → Lies w' la (liveCs live)) (hd : ∀ w', Keep (wS p v) w w' → Lies w' da (dirtyCs dirty))
    (hr : tn ≤ 2147483647 ∧ pn ≤ 2147483647 ∧ wpn ≤ 63 ∧ win ≤ 30 ∧ spn ≤ 63 ∧ sin ≤ 83 ∧ idn ≤ 1048576 ∧ gn ≤ 1048576 ∧ nx ≤ 2147483648) (hf : Fits ⟨lsn, kn, tn, pn, wpn, win, spn, sin, delta, idn, gn, lo, hi, val, live, dirty, nx⟩)
    (hli : ∀ l ∈ live, liveIn2 l) (hdi : ∀ l ∈ dirty, dirtyIn2 l) (hll : live.length ≤ 32) (hdl : dirty.length ≤ 16) :
    Calls Tryz.prog 67 #[.pointer (some ⟨p, 0, none⟩), .agg #[.int .i64 lsn, .int .i64 kn, .int .i64 tn, .int .i64 pn, .int .i64 wpn, .int .i64 win, .int .i64 spn, .int .i64 sin, .int .i64 delta, .int .i64 idn, .int .i64 gn, .int .i64 lo, .int .i64 hi, .int .i64 val, .slice la live.length lc, .slice da dirty.length dc, .int .i64 nx]] w fun e w' => ∃ v', e = .returned (.tuple #[]) ∧ WSt w B p v w' v' (bytesR ⟨lsn, kn, tn, pn, wpn, win, spn, sin, delta, idn, gn, lo, hi, val, live, dirty, nx⟩) := by
  have _z1 := hide hll
  have _z2 := hide hdl
  obtain ⟨r1, r2, r3, r4, r5, r6, r7, r8, r9⟩ := hr
  obtain ⟨f1, f2, f3, f4⟩ := hf
  simp only at f1 f2 f3 f4
  have g0 := fun w => fieldsOf_any kn (by omega) (by omega) w
  have hfin : ∀ q, q = nums ⟨lsn, kn, tn, pn, wpn, win, spn, sin, delta, idn, gn, lo, hi, val, live, dirty, nx⟩ → q.flatMap form = bytesR ⟨lsn, kn, tn, pn, wpn, win, spn, sin, delta, idn, gn, lo, hi, val, live, dirty, nx⟩ := by
    intro q hq; rw [hq]; rfl
  have hnum : nums ⟨lsn, kn, tn, pn, wpn, win, spn, sin, delta, idn, gn, lo, hi, val, live, dirty, nx⟩ = [kn] ++ [tn] := by
    simp [nums, e1, e2, e3, e4, e5, e6]
  have HFIN := hide (show ([kn] ++ [tn]).flatMap form = bytesR ⟨lsn, kn, tn, pn, wpn, win, spn, sin, delta, idn, gn, lo, hi, val, live, dirty, nx⟩ from hfin _ hnum.symm)
  generalize bytesR ⟨lsn, kn, tn, pn, wpn, win, spn, sin, delta, idn, gn, lo, hi, val, live, dirty, nx⟩ = fin at *
  simp only [hasC, e1, e2, e3, e4, e5, e6] at g0
  clear hfin hnum e1 e2 e3 e4 e5 e6
  have HL := hide hl
  have HD := hide hd
  have HLI := hide (show ∀ l ∈ live, liveIn l from fun l q => by have := hli l q; unfold liveIn2 at this; unfold liveIn; omega)
  have HDI := hide (show ∀ l ∈ dirty, dirtyIn l from fun l q => by have := hdi l q; unfold dirtyIn2 at this; unfold dirtyIn; omega)
  have hbx := Bx.new h #[.int .i64 lsn, .int .i64 kn, .int .i64 tn, .int .i64 pn, .int .i64 wpn, .int .i64 win, .int .i64 spn, .int .i64 sin, .int .i64 delta, .int .i64 idn, .int .i64 gn, .int .i64 lo, .int .i64 hi, .int .i64 val, .slice la live.length lc, .slice da dirty.length dc, .int .i64 nx] 44
  have hst := (WSt.start h).below (alloc_below w (.cells #[.int .i64 lsn, .int .i64 kn, .int .i64 tn, .int .i64 pn, .int .i64 wpn, .int .i64 win, .int .i64 spn, .int .i64 sin, .int .i64 delta, .int .i64 idn, .int .i64 gn, .int .i64 lo, .int .i64 hi, .int .i64 val, .slice la live.length lc, .slice da dirty.length dc, .int .i64 nx] 44))
  generalize hw0 : w.alloc (.cells #[.int .i64 lsn, .int .i64 kn, .int .i64 tn, .int .i64 pn, .int .i64 wpn, .int .i64 win, .int .i64 spn, .int .i64 sin, .int .i64 delta, .int .i64 idn, .int .i64 gn, .int .i64 lo, .int .i64 hi, .int .i64 val, .slice la live.length lc, .slice da dirty.length dc, .int .i64 nx] 44) = w0 at hbx hst
  obtain ⟨k1, _⟩ := hbx.1.get 1 _ rfl
  have HB := hide hbx
  have HS := hide hst
  clear hbx hst hl hd hli hdi h
  go_enter Tryz.func67, Tryz.ntmps67
  go_wp2_with fail
  clear hw0
  refine (g0 _).mono ?_
  rintro e w1 ⟨rfl, b1⟩
  have HB1 := HB.out.below b1
  have HS1 := HS.out.below b1
  have hX := Bx.new HS1.wr #[.bool true, .bool false, .bool false, .bool false, .bool false, .bool false] 158
  have HB1 := HB1.below (alloc_below w1 (.cells #[.bool true, .bool false, .bool false, .bool false, .bool false, .bool false] 158))
  have HS1 := HS1.below (alloc_below w1 (.cells #[.bool true, .bool false, .bool false, .bool false, .bool false, .bool false] 158))
  generalize hw2 : w1.alloc (.cells #[.bool true, .bool false, .bool false, .bool false, .bool false, .bool false] 158) = W0 at hX HB1 HS1
  have HW2 := hide hw2
  clear hw2
  go_upto_region 2 with fail
  rw [HW2.out]
  clear HW2
  generalize w1.heap.size = bx at *
  have HB0 := hide HB1
  have HS0 := hide HS1
  have HX0 := hide hX
  clear HB HS HB1 HS1 hX b1 k1
  have hL0 : ([] : List Nat).length ≤ 0 := Nat.le_refl _
  have k1 := (HB0.out.1.get 1 _ rfl).1
  have m0 := (HX0.out.1.get 0 _ rfl).1
  have m1 := (HX0.out.1.get 1 _ rfl).1
  have m2 := (HX0.out.1.get 2 _ rfl).1
  have m3 := (HX0.out.1.get 3 _ rfl).1
  have m4 := (HX0.out.1.get 4 _ rfl).1
  have m5 := (HX0.out.1.get 5 _ rfl).1
  have F := hide (put_lit (m := 1) [kn] B p v ([] : List Nat) W0 (by simp; omega) HS0.out.wr (by simp only [List.length_cons, List.length_nil]; omega) rfl)
  obtain ⟨L1, hL1⟩ : ∃ L, L = ([] : List Nat) ++ ([kn]).flatMap form := ⟨_, rfl⟩
  rw [← hL1] at F
  have hLn : L1.length ≤ 10 := by rw [hL1]; exact len_more hL0 (by intro q hq; simp at hq; omega)
  have E1 := hide hL1
  clear hL1
  go_wp2_with fail
  refine F.out.mono ?_
  rintro e W1 ⟨v1, rfl, a1, b1, c1⟩
  have HS1 := hide (HS0.out.next a1 b1 c1)
  have HB1 := hide (HB0.out.next b1 c1)
  have HX1 := hide (HX0.out.next b1 c1)
  clear a1 b1 c1
  clear F k1 m0 m1 m2 m3 m4 m5 HS0 HB0 HX0 hL0
  have hL1 := hLn
  clear hLn
  have k2 := (HB1.out.1.get 2 _ rfl).1
  have m0 := (HX1.out.1.get 0 _ rfl).1
  have m1 := (HX1.out.1.get 1 _ rfl).1
  have m2 := (HX1.out.1.get 2 _ rfl).1
  have m3 := (HX1.out.1.get 3 _ rfl).1
  have m4 := (HX1.out.1.get 4 _ rfl).1
  have m5 := (HX1.out.1.get 5 _ rfl).1
  have F := hide (put_lit (m := 1) [tn] B p v1 L1 W1 (by simp; omega) HS1.out.wr (by simp only [List.length_cons, List.length_nil]; omega) rfl)
  obtain ⟨L2, hL2⟩ : ∃ L, L = L1 ++ ([tn]).flatMap form := ⟨_, rfl⟩
  rw [← hL2] at F
  have E2 := hide hL2
  clear hL2
  go_wp2_with fail
  refine F.out.mono ?_
  rintro e W2 ⟨v2, rfl, a1, b1, c1⟩
  have HS2 := hide (HS1.out.next a1 b1 c1)
  have HX2 := hide (HX1.out.next b1 c1)
  clear a1 b1 c1
  clear F k2 m0 m1 m2 m3 m4 m5 HS1 HB1 HX1 hL1
  have m0 := (HX2.out.1.get 0 _ rfl).1
  have m1 := (HX2.out.1.get 1 _ rfl).1
  have m2 := (HX2.out.1.get 2 _ rfl).1
  have m3 := (HX2.out.1.get 3 _ rfl).1
  have m4 := (HX2.out.1.get 4 _ rfl).1
  have m5 := (HX2.out.1.get 5 _ rfl).1
  go_wp2_with fail
  go_end0
  refine ⟨v2, rfl, ?_⟩
  have hfe : L2 = fin := by rw [← HFIN.out, E2.out, E1.out]; simp only [List.flatMap_append, List.nil_append]
  rw [← hfe]
  exact HS2.out

set_option maxHeartbeats 2000000 in
theorem write_pat2 (lsn : Int) (kn tn pn wpn win spn sin : Nat) (delta : Int) (idn gn : Nat) (lo hi val : Int) (live : List LiveM) (dirty : List DirtyM) (nx : Nat) (la da : Option Addr) (lc dc : Nat) (B p : Nat) (v : Value) (w : World) (h : Wr w B p v [])
    (hk1 : 1 ≤ kn) (hk8 : kn ≤ 8) (e1 : hTx kn = false) (e2 : hPrev kn = false) (e3 : hCtr kn = true) (e4 : hFirst kn = true) (e5 : hDelta kn = false) (e6 : hPts kn = false)
    (hl : ∀ w', Keep (wS p v) w w' → Lies w' la (liveCs live)) (hd : ∀ w', Keep (wS p v) w w' → Lies w' da (dirtyCs dirty))
    (hr : tn ≤ 2147483647 ∧ pn ≤ 2147483647 ∧ wpn ≤ 63 ∧ win ≤ 30 ∧ spn ≤ 63 ∧ sin ≤ 83 ∧ idn ≤ 1048576 ∧ gn ≤ 1048576 ∧ nx ≤ 2147483648) (hf : Fits ⟨lsn, kn, tn, pn, wpn, win, spn, sin, delta, idn, gn, lo, hi, val, live, dirty, nx⟩)
    (hli : ∀ l ∈ live, liveIn2 l) (hdi : ∀ l ∈ dirty, dirtyIn2 l) (hll : live.length ≤ 32) (hdl : dirty.length ≤ 16) :
    Calls Tryz.prog 67 #[.pointer (some ⟨p, 0, none⟩), .agg #[.int .i64 lsn, .int .i64 kn, .int .i64 tn, .int .i64 pn, .int .i64 wpn, .int .i64 win, .int .i64 spn, .int .i64 sin, .int .i64 delta, .int .i64 idn, .int .i64 gn, .int .i64 lo, .int .i64 hi, .int .i64 val, .slice la live.length lc, .slice da dirty.length dc, .int .i64 nx]] w fun e w' => ∃ v', e = .returned (.tuple #[]) ∧ WSt w B p v w' v' (bytesR ⟨lsn, kn, tn, pn, wpn, win, spn, sin, delta, idn, gn, lo, hi, val, live, dirty, nx⟩) := by
  have _z1 := hide hll
  have _z2 := hide hdl
  obtain ⟨r1, r2, r3, r4, r5, r6, r7, r8, r9⟩ := hr
  obtain ⟨f1, f2, f3, f4⟩ := hf
  simp only at f1 f2 f3 f4
  have g0 := fun w => fieldsOf_any kn (by omega) (by omega) w
  have hfin : ∀ q, q = nums ⟨lsn, kn, tn, pn, wpn, win, spn, sin, delta, idn, gn, lo, hi, val, live, dirty, nx⟩ → q.flatMap form = bytesR ⟨lsn, kn, tn, pn, wpn, win, spn, sin, delta, idn, gn, lo, hi, val, live, dirty, nx⟩ := by
    intro q hq; rw [hq]; rfl
  have hnum : nums ⟨lsn, kn, tn, pn, wpn, win, spn, sin, delta, idn, gn, lo, hi, val, live, dirty, nx⟩ = [kn] ++ [wpn, win, spn, sin, idn] ++ firstNs gn lo hi val := by
    simp [nums, e1, e2, e3, e4, e5, e6]
  have HFIN := hide (show ([kn] ++ [wpn, win, spn, sin, idn] ++ firstNs gn lo hi val).flatMap form = bytesR ⟨lsn, kn, tn, pn, wpn, win, spn, sin, delta, idn, gn, lo, hi, val, live, dirty, nx⟩ from hfin _ hnum.symm)
  generalize bytesR ⟨lsn, kn, tn, pn, wpn, win, spn, sin, delta, idn, gn, lo, hi, val, live, dirty, nx⟩ = fin at *
  simp only [hasC, e1, e2, e3, e4, e5, e6] at g0
  clear hfin hnum e1 e2 e3 e4 e5 e6
  have HL := hide hl
  have HD := hide hd
  have HLI := hide (show ∀ l ∈ live, liveIn l from fun l q => by have := hli l q; unfold liveIn2 at this; unfold liveIn; omega)
  have HDI := hide (show ∀ l ∈ dirty, dirtyIn l from fun l q => by have := hdi l q; unfold dirtyIn2 at this; unfold dirtyIn; omega)
  have hbx := Bx.new h #[.int .i64 lsn, .int .i64 kn, .int .i64 tn, .int .i64 pn, .int .i64 wpn, .int .i64 win, .int .i64 spn, .int .i64 sin, .int .i64 delta, .int .i64 idn, .int .i64 gn, .int .i64 lo, .int .i64 hi, .int .i64 val, .slice la live.length lc, .slice da dirty.length dc, .int .i64 nx] 44
  have hst := (WSt.start h).below (alloc_below w (.cells #[.int .i64 lsn, .int .i64 kn, .int .i64 tn, .int .i64 pn, .int .i64 wpn, .int .i64 win, .int .i64 spn, .int .i64 sin, .int .i64 delta, .int .i64 idn, .int .i64 gn, .int .i64 lo, .int .i64 hi, .int .i64 val, .slice la live.length lc, .slice da dirty.length dc, .int .i64 nx] 44))
  generalize hw0 : w.alloc (.cells #[.int .i64 lsn, .int .i64 kn, .int .i64 tn, .int .i64 pn, .int .i64 wpn, .int .i64 win, .int .i64 spn, .int .i64 sin, .int .i64 delta, .int .i64 idn, .int .i64 gn, .int .i64 lo, .int .i64 hi, .int .i64 val, .slice la live.length lc, .slice da dirty.length dc, .int .i64 nx] 44) = w0 at hbx hst
  obtain ⟨k1, _⟩ := hbx.1.get 1 _ rfl
  have HB := hide hbx
  have HS := hide hst
  clear hbx hst hl hd hli hdi h
  go_enter Tryz.func67, Tryz.ntmps67
  go_wp2_with fail
  clear hw0
  refine (g0 _).mono ?_
  rintro e w1 ⟨rfl, b1⟩
  have HB1 := HB.out.below b1
  have HS1 := HS.out.below b1
  have hX := Bx.new HS1.wr #[.bool false, .bool false, .bool true, .bool true, .bool false, .bool false] 158
  have HB1 := HB1.below (alloc_below w1 (.cells #[.bool false, .bool false, .bool true, .bool true, .bool false, .bool false] 158))
  have HS1 := HS1.below (alloc_below w1 (.cells #[.bool false, .bool false, .bool true, .bool true, .bool false, .bool false] 158))
  generalize hw2 : w1.alloc (.cells #[.bool false, .bool false, .bool true, .bool true, .bool false, .bool false] 158) = W0 at hX HB1 HS1
  have HW2 := hide hw2
  clear hw2
  go_upto_region 2 with fail
  rw [HW2.out]
  clear HW2
  generalize w1.heap.size = bx at *
  have HB0 := hide HB1
  have HS0 := hide HS1
  have HX0 := hide hX
  clear HB HS HB1 HS1 hX b1 k1
  have hL0 : ([] : List Nat).length ≤ 0 := Nat.le_refl _
  have k1 := (HB0.out.1.get 1 _ rfl).1
  have m0 := (HX0.out.1.get 0 _ rfl).1
  have m1 := (HX0.out.1.get 1 _ rfl).1
  have m2 := (HX0.out.1.get 2 _ rfl).1
  have m3 := (HX0.out.1.get 3 _ rfl).1
  have m4 := (HX0.out.1.get 4 _ rfl).1
  have m5 := (HX0.out.1.get 5 _ rfl).1
  have F := hide (put_lit (m := 1) [kn] B p v ([] : List Nat) W0 (by simp; omega) HS0.out.wr (by simp only [List.length_cons, List.length_nil]; omega) rfl)
  obtain ⟨L1, hL1⟩ : ∃ L, L = ([] : List Nat) ++ ([kn]).flatMap form := ⟨_, rfl⟩
  rw [← hL1] at F
  have hLn : L1.length ≤ 10 := by rw [hL1]; exact len_more hL0 (by intro q hq; simp at hq; omega)
  have E1 := hide hL1
  clear hL1
  go_wp2_with fail
  refine F.out.mono ?_
  rintro e W1 ⟨v1, rfl, a1, b1, c1⟩
  have HS1 := hide (HS0.out.next a1 b1 c1)
  have HB1 := hide (HB0.out.next b1 c1)
  have HX1 := hide (HX0.out.next b1 c1)
  clear a1 b1 c1
  clear F k1 m0 m1 m2 m3 m4 m5 HS0 HB0 HX0 hL0
  have hL1 := hLn
  clear hLn
  have k4 := (HB1.out.1.get 4 _ rfl).1
  have k5 := (HB1.out.1.get 5 _ rfl).1
  have k6 := (HB1.out.1.get 6 _ rfl).1
  have k7 := (HB1.out.1.get 7 _ rfl).1
  have k9 := (HB1.out.1.get 9 _ rfl).1
  have m0 := (HX1.out.1.get 0 _ rfl).1
  have m1 := (HX1.out.1.get 1 _ rfl).1
  have m2 := (HX1.out.1.get 2 _ rfl).1
  have m3 := (HX1.out.1.get 3 _ rfl).1
  have m4 := (HX1.out.1.get 4 _ rfl).1
  have m5 := (HX1.out.1.get 5 _ rfl).1
  have F := hide (put_lit (m := 5) [wpn, win, spn, sin, idn] B p v1 L1 W1 (by simp; omega) HS1.out.wr (by simp only [List.length_cons, List.length_nil]; omega) rfl)
  obtain ⟨L2, hL2⟩ : ∃ L, L = L1 ++ ([wpn, win, spn, sin, idn]).flatMap form := ⟨_, rfl⟩
  rw [← hL2] at F
  have hLn : L2.length ≤ 60 := by rw [hL2]; exact len_more hL1 (by intro q hq; simp at hq; omega)
  have E2 := hide hL2
  clear hL2
  go_wp2_with fail
  refine F.out.mono ?_
  rintro e W2 ⟨v2, rfl, a1, b1, c1⟩
  have HS2 := hide (HS1.out.next a1 b1 c1)
  have HB2 := hide (HB1.out.next b1 c1)
  have HX2 := hide (HX1.out.next b1 c1)
  clear a1 b1 c1
  clear F k4 k5 k6 k7 k9 m0 m1 m2 m3 m4 m5 HS1 HB1 HX1 hL1
  have hL2 := hLn
  clear hLn
  have k9 := (HB2.out.1.get 9 _ rfl).1
  have k10 := (HB2.out.1.get 10 _ rfl).1
  have k11 := (HB2.out.1.get 11 _ rfl).1
  have k12 := (HB2.out.1.get 12 _ rfl).1
  have k13 := (HB2.out.1.get 13 _ rfl).1
  have m0 := (HX2.out.1.get 0 _ rfl).1
  have m1 := (HX2.out.1.get 1 _ rfl).1
  have m2 := (HX2.out.1.get 2 _ rfl).1
  have m3 := (HX2.out.1.get 3 _ rfl).1
  have m4 := (HX2.out.1.get 4 _ rfl).1
  have m5 := (HX2.out.1.get 5 _ rfl).1
  have F := hide (writeFirst_any idn gn lo hi val B p v2 L2 W2 (by omega) f2 f3 f4 HS2.out.wr (by omega))
  obtain ⟨L3, hL3⟩ : ∃ L, L = L2 ++ (firstNs gn lo hi val).flatMap form := ⟨_, rfl⟩
  rw [← hL3] at F
  have E3 := hide hL3
  clear hL3
  go_wp2_with fail
  refine F.out.mono ?_
  rintro e W3 ⟨v3, rfl, st⟩
  have HS3 := hide (HS2.out.next st.wr st.keep st.mv)
  have HB3 := hide (HB2.out.next st.keep st.mv)
  have HX3 := hide (HX2.out.next st.keep st.mv)
  clear st
  clear F k9 k10 k11 k12 k13 m0 m1 m2 m3 m4 m5 HS2 HB2 HX2 hL2
  have m0 := (HX3.out.1.get 0 _ rfl).1
  have m1 := (HX3.out.1.get 1 _ rfl).1
  have m2 := (HX3.out.1.get 2 _ rfl).1
  have m3 := (HX3.out.1.get 3 _ rfl).1
  have m4 := (HX3.out.1.get 4 _ rfl).1
  have m5 := (HX3.out.1.get 5 _ rfl).1
  go_wp2_with fail
  go_end0
  refine ⟨v3, rfl, ?_⟩
  have hfe : L3 = fin := by rw [← HFIN.out, E3.out, E2.out, E1.out]; simp only [List.flatMap_append, List.nil_append, List.append_assoc]
  rw [← hfe]
  exact HS3.out

set_option maxHeartbeats 2000000 in
theorem write_pat3 (lsn : Int) (kn tn pn wpn win spn sin : Nat) (delta : Int) (idn gn : Nat) (lo hi val : Int) (live : List LiveM) (dirty : List DirtyM) (nx : Nat) (la da : Option Addr) (lc dc : Nat) (B p : Nat) (v : Value) (w : World) (h : Wr w B p v [])
    (hk1 : 1 ≤ kn) (hk8 : kn ≤ 8) (e1 : hTx kn = true) (e2 : hPrev kn = true) (e3 : hCtr kn = true) (e4 : hFirst kn = false) (e5 : hDelta kn = true) (e6 : hPts kn = false)
    (hl : ∀ w', Keep (wS p v) w w' → Lies w' la (liveCs live)) (hd : ∀ w', Keep (wS p v) w w' → Lies w' da (dirtyCs dirty))
    (hr : tn ≤ 2147483647 ∧ pn ≤ 2147483647 ∧ wpn ≤ 63 ∧ win ≤ 30 ∧ spn ≤ 63 ∧ sin ≤ 83 ∧ idn ≤ 1048576 ∧ gn ≤ 1048576 ∧ nx ≤ 2147483648) (hf : Fits ⟨lsn, kn, tn, pn, wpn, win, spn, sin, delta, idn, gn, lo, hi, val, live, dirty, nx⟩)
    (hli : ∀ l ∈ live, liveIn2 l) (hdi : ∀ l ∈ dirty, dirtyIn2 l) (hll : live.length ≤ 32) (hdl : dirty.length ≤ 16) :
    Calls Tryz.prog 67 #[.pointer (some ⟨p, 0, none⟩), .agg #[.int .i64 lsn, .int .i64 kn, .int .i64 tn, .int .i64 pn, .int .i64 wpn, .int .i64 win, .int .i64 spn, .int .i64 sin, .int .i64 delta, .int .i64 idn, .int .i64 gn, .int .i64 lo, .int .i64 hi, .int .i64 val, .slice la live.length lc, .slice da dirty.length dc, .int .i64 nx]] w fun e w' => ∃ v', e = .returned (.tuple #[]) ∧ WSt w B p v w' v' (bytesR ⟨lsn, kn, tn, pn, wpn, win, spn, sin, delta, idn, gn, lo, hi, val, live, dirty, nx⟩) := by
  have _z1 := hide hll
  have _z2 := hide hdl
  obtain ⟨r1, r2, r3, r4, r5, r6, r7, r8, r9⟩ := hr
  obtain ⟨f1, f2, f3, f4⟩ := hf
  simp only at f1 f2 f3 f4
  have g0 := fun w => fieldsOf_any kn (by omega) (by omega) w
  have hfin : ∀ q, q = nums ⟨lsn, kn, tn, pn, wpn, win, spn, sin, delta, idn, gn, lo, hi, val, live, dirty, nx⟩ → q.flatMap form = bytesR ⟨lsn, kn, tn, pn, wpn, win, spn, sin, delta, idn, gn, lo, hi, val, live, dirty, nx⟩ := by
    intro q hq; rw [hq]; rfl
  have hnum : nums ⟨lsn, kn, tn, pn, wpn, win, spn, sin, delta, idn, gn, lo, hi, val, live, dirty, nx⟩ = [kn] ++ [tn] ++ [pn] ++ [wpn, win, spn, sin, idn] ++ [sgn delta] := by
    simp [nums, e1, e2, e3, e4, e5, e6]
  have HFIN := hide (show ([kn] ++ [tn] ++ [pn] ++ [wpn, win, spn, sin, idn] ++ [sgn delta]).flatMap form = bytesR ⟨lsn, kn, tn, pn, wpn, win, spn, sin, delta, idn, gn, lo, hi, val, live, dirty, nx⟩ from hfin _ hnum.symm)
  generalize bytesR ⟨lsn, kn, tn, pn, wpn, win, spn, sin, delta, idn, gn, lo, hi, val, live, dirty, nx⟩ = fin at *
  simp only [hasC, e1, e2, e3, e4, e5, e6] at g0
  clear hfin hnum e1 e2 e3 e4 e5 e6
  have HL := hide hl
  have HD := hide hd
  have HLI := hide (show ∀ l ∈ live, liveIn l from fun l q => by have := hli l q; unfold liveIn2 at this; unfold liveIn; omega)
  have HDI := hide (show ∀ l ∈ dirty, dirtyIn l from fun l q => by have := hdi l q; unfold dirtyIn2 at this; unfold dirtyIn; omega)
  have hbx := Bx.new h #[.int .i64 lsn, .int .i64 kn, .int .i64 tn, .int .i64 pn, .int .i64 wpn, .int .i64 win, .int .i64 spn, .int .i64 sin, .int .i64 delta, .int .i64 idn, .int .i64 gn, .int .i64 lo, .int .i64 hi, .int .i64 val, .slice la live.length lc, .slice da dirty.length dc, .int .i64 nx] 44
  have hst := (WSt.start h).below (alloc_below w (.cells #[.int .i64 lsn, .int .i64 kn, .int .i64 tn, .int .i64 pn, .int .i64 wpn, .int .i64 win, .int .i64 spn, .int .i64 sin, .int .i64 delta, .int .i64 idn, .int .i64 gn, .int .i64 lo, .int .i64 hi, .int .i64 val, .slice la live.length lc, .slice da dirty.length dc, .int .i64 nx] 44))
  generalize hw0 : w.alloc (.cells #[.int .i64 lsn, .int .i64 kn, .int .i64 tn, .int .i64 pn, .int .i64 wpn, .int .i64 win, .int .i64 spn, .int .i64 sin, .int .i64 delta, .int .i64 idn, .int .i64 gn, .int .i64 lo, .int .i64 hi, .int .i64 val, .slice la live.length lc, .slice da dirty.length dc, .int .i64 nx] 44) = w0 at hbx hst
  obtain ⟨k1, _⟩ := hbx.1.get 1 _ rfl
  have HB := hide hbx
  have HS := hide hst
  clear hbx hst hl hd hli hdi h
  go_enter Tryz.func67, Tryz.ntmps67
  go_wp2_with fail
  clear hw0
  refine (g0 _).mono ?_
  rintro e w1 ⟨rfl, b1⟩
  have HB1 := HB.out.below b1
  have HS1 := HS.out.below b1
  have hX := Bx.new HS1.wr #[.bool true, .bool true, .bool true, .bool false, .bool true, .bool false] 158
  have HB1 := HB1.below (alloc_below w1 (.cells #[.bool true, .bool true, .bool true, .bool false, .bool true, .bool false] 158))
  have HS1 := HS1.below (alloc_below w1 (.cells #[.bool true, .bool true, .bool true, .bool false, .bool true, .bool false] 158))
  generalize hw2 : w1.alloc (.cells #[.bool true, .bool true, .bool true, .bool false, .bool true, .bool false] 158) = W0 at hX HB1 HS1
  have HW2 := hide hw2
  clear hw2
  go_upto_region 2 with fail
  rw [HW2.out]
  clear HW2
  generalize w1.heap.size = bx at *
  have HB0 := hide HB1
  have HS0 := hide HS1
  have HX0 := hide hX
  clear HB HS HB1 HS1 hX b1 k1
  have hL0 : ([] : List Nat).length ≤ 0 := Nat.le_refl _
  have k1 := (HB0.out.1.get 1 _ rfl).1
  have m0 := (HX0.out.1.get 0 _ rfl).1
  have m1 := (HX0.out.1.get 1 _ rfl).1
  have m2 := (HX0.out.1.get 2 _ rfl).1
  have m3 := (HX0.out.1.get 3 _ rfl).1
  have m4 := (HX0.out.1.get 4 _ rfl).1
  have m5 := (HX0.out.1.get 5 _ rfl).1
  have F := hide (put_lit (m := 1) [kn] B p v ([] : List Nat) W0 (by simp; omega) HS0.out.wr (by simp only [List.length_cons, List.length_nil]; omega) rfl)
  obtain ⟨L1, hL1⟩ : ∃ L, L = ([] : List Nat) ++ ([kn]).flatMap form := ⟨_, rfl⟩
  rw [← hL1] at F
  have hLn : L1.length ≤ 10 := by rw [hL1]; exact len_more hL0 (by intro q hq; simp at hq; omega)
  have E1 := hide hL1
  clear hL1
  go_wp2_with fail
  refine F.out.mono ?_
  rintro e W1 ⟨v1, rfl, a1, b1, c1⟩
  have HS1 := hide (HS0.out.next a1 b1 c1)
  have HB1 := hide (HB0.out.next b1 c1)
  have HX1 := hide (HX0.out.next b1 c1)
  clear a1 b1 c1
  clear F k1 m0 m1 m2 m3 m4 m5 HS0 HB0 HX0 hL0
  have hL1 := hLn
  clear hLn
  have k2 := (HB1.out.1.get 2 _ rfl).1
  have m0 := (HX1.out.1.get 0 _ rfl).1
  have m1 := (HX1.out.1.get 1 _ rfl).1
  have m2 := (HX1.out.1.get 2 _ rfl).1
  have m3 := (HX1.out.1.get 3 _ rfl).1
  have m4 := (HX1.out.1.get 4 _ rfl).1
  have m5 := (HX1.out.1.get 5 _ rfl).1
  have F := hide (put_lit (m := 1) [tn] B p v1 L1 W1 (by simp; omega) HS1.out.wr (by simp only [List.length_cons, List.length_nil]; omega) rfl)
  obtain ⟨L2, hL2⟩ : ∃ L, L = L1 ++ ([tn]).flatMap form := ⟨_, rfl⟩
  rw [← hL2] at F
  have hLn : L2.length ≤ 20 := by rw [hL2]; exact len_more hL1 (by intro q hq; simp at hq; omega)
  have E2 := hide hL2
  clear hL2
  go_wp2_with fail
  refine F.out.mono ?_
  rintro e W2 ⟨v2, rfl, a1, b1, c1⟩
  have HS2 := hide (HS1.out.next a1 b1 c1)
  have HB2 := hide (HB1.out.next b1 c1)
  have HX2 := hide (HX1.out.next b1 c1)
  clear a1 b1 c1
  clear F k2 m0 m1 m2 m3 m4 m5 HS1 HB1 HX1 hL1
  have hL2 := hLn
  clear hLn
  have k3 := (HB2.out.1.get 3 _ rfl).1
  have m0 := (HX2.out.1.get 0 _ rfl).1
  have m1 := (HX2.out.1.get 1 _ rfl).1
  have m2 := (HX2.out.1.get 2 _ rfl).1
  have m3 := (HX2.out.1.get 3 _ rfl).1
  have m4 := (HX2.out.1.get 4 _ rfl).1
  have m5 := (HX2.out.1.get 5 _ rfl).1
  have F := hide (put_lit (m := 1) [pn] B p v2 L2 W2 (by simp; omega) HS2.out.wr (by simp only [List.length_cons, List.length_nil]; omega) rfl)
  obtain ⟨L3, hL3⟩ : ∃ L, L = L2 ++ ([pn]).flatMap form := ⟨_, rfl⟩
  rw [← hL3] at F
  have hLn : L3.length ≤ 30 := by rw [hL3]; exact len_more hL2 (by intro q hq; simp at hq; omega)
  have E3 := hide hL3
  clear hL3
  go_wp2_with fail
  refine F.out.mono ?_
  rintro e W3 ⟨v3, rfl, a1, b1, c1⟩
  have HS3 := hide (HS2.out.next a1 b1 c1)
  have HB3 := hide (HB2.out.next b1 c1)
  have HX3 := hide (HX2.out.next b1 c1)
  clear a1 b1 c1
  clear F k3 m0 m1 m2 m3 m4 m5 HS2 HB2 HX2 hL2
  have hL3 := hLn
  clear hLn
  have k4 := (HB3.out.1.get 4 _ rfl).1
  have k5 := (HB3.out.1.get 5 _ rfl).1
  have k6 := (HB3.out.1.get 6 _ rfl).1
  have k7 := (HB3.out.1.get 7 _ rfl).1
  have k9 := (HB3.out.1.get 9 _ rfl).1
  have m0 := (HX3.out.1.get 0 _ rfl).1
  have m1 := (HX3.out.1.get 1 _ rfl).1
  have m2 := (HX3.out.1.get 2 _ rfl).1
  have m3 := (HX3.out.1.get 3 _ rfl).1
  have m4 := (HX3.out.1.get 4 _ rfl).1
  have m5 := (HX3.out.1.get 5 _ rfl).1
  have F := hide (put_lit (m := 5) [wpn, win, spn, sin, idn] B p v3 L3 W3 (by simp; omega) HS3.out.wr (by simp only [List.length_cons, List.length_nil]; omega) rfl)
  obtain ⟨L4, hL4⟩ : ∃ L, L = L3 ++ ([wpn, win, spn, sin, idn]).flatMap form := ⟨_, rfl⟩
  rw [← hL4] at F
  have hLn : L4.length ≤ 80 := by rw [hL4]; exact len_more hL3 (by intro q hq; simp at hq; omega)
  have E4 := hide hL4
  clear hL4
  go_wp2_with fail
  refine F.out.mono ?_
  rintro e W4 ⟨v4, rfl, a1, b1, c1⟩
  have HS4 := hide (HS3.out.next a1 b1 c1)
  have HB4 := hide (HB3.out.next b1 c1)
  have HX4 := hide (HX3.out.next b1 c1)
  clear a1 b1 c1
  clear F k4 k5 k6 k7 k9 m0 m1 m2 m3 m4 m5 HS3 HB3 HX3 hL3
  have hL4 := hLn
  clear hLn
  have k8 := (HB4.out.1.get 8 _ rfl).1
  have m0 := (HX4.out.1.get 0 _ rfl).1
  have m1 := (HX4.out.1.get 1 _ rfl).1
  have m2 := (HX4.out.1.get 2 _ rfl).1
  have m3 := (HX4.out.1.get 3 _ rfl).1
  have m4 := (HX4.out.1.get 4 _ rfl).1
  have m5 := (HX4.out.1.get 5 _ rfl).1
  have F := hide (writeS_any delta B p v4 L4 W4 f1.1 f1.2 HS4.out.wr (by omega))
  rw [show form (sgn delta) = [sgn delta].flatMap form by simp] at F
  obtain ⟨L5, hL5⟩ : ∃ L, L = L4 ++ ([sgn delta]).flatMap form := ⟨_, rfl⟩
  rw [← hL5] at F
  have E5 := hide hL5
  clear hL5
  go_wp2_with fail
  refine F.out.mono ?_
  rintro e W5 ⟨v5, rfl, a1, b1, c1⟩
  have HS5 := hide (HS4.out.next a1 b1 c1)
  have HX5 := hide (HX4.out.next b1 c1)
  clear a1 b1 c1
  clear F k8 m0 m1 m2 m3 m4 m5 HS4 HB4 HX4 hL4
  have m0 := (HX5.out.1.get 0 _ rfl).1
  have m1 := (HX5.out.1.get 1 _ rfl).1
  have m2 := (HX5.out.1.get 2 _ rfl).1
  have m3 := (HX5.out.1.get 3 _ rfl).1
  have m4 := (HX5.out.1.get 4 _ rfl).1
  have m5 := (HX5.out.1.get 5 _ rfl).1
  go_wp2_with fail
  go_end0
  refine ⟨v5, rfl, ?_⟩
  have hfe : L5 = fin := by rw [← HFIN.out, E5.out, E4.out, E3.out, E2.out, E1.out]; simp only [List.flatMap_append, List.nil_append, List.append_assoc]
  rw [← hfe]
  exact HS5.out

set_option maxHeartbeats 2000000 in
theorem write_pat5 (lsn : Int) (kn tn pn wpn win spn sin : Nat) (delta : Int) (idn gn : Nat) (lo hi val : Int) (live : List LiveM) (dirty : List DirtyM) (nx : Nat) (la da : Option Addr) (lc dc : Nat) (B p : Nat) (v : Value) (w : World) (h : Wr w B p v [])
    (hk1 : 1 ≤ kn) (hk8 : kn ≤ 8) (e1 : hTx kn = true) (e2 : hPrev kn = true) (e3 : hCtr kn = false) (e4 : hFirst kn = false) (e5 : hDelta kn = false) (e6 : hPts kn = false)
    (hl : ∀ w', Keep (wS p v) w w' → Lies w' la (liveCs live)) (hd : ∀ w', Keep (wS p v) w w' → Lies w' da (dirtyCs dirty))
    (hr : tn ≤ 2147483647 ∧ pn ≤ 2147483647 ∧ wpn ≤ 63 ∧ win ≤ 30 ∧ spn ≤ 63 ∧ sin ≤ 83 ∧ idn ≤ 1048576 ∧ gn ≤ 1048576 ∧ nx ≤ 2147483648) (hf : Fits ⟨lsn, kn, tn, pn, wpn, win, spn, sin, delta, idn, gn, lo, hi, val, live, dirty, nx⟩)
    (hli : ∀ l ∈ live, liveIn2 l) (hdi : ∀ l ∈ dirty, dirtyIn2 l) (hll : live.length ≤ 32) (hdl : dirty.length ≤ 16) :
    Calls Tryz.prog 67 #[.pointer (some ⟨p, 0, none⟩), .agg #[.int .i64 lsn, .int .i64 kn, .int .i64 tn, .int .i64 pn, .int .i64 wpn, .int .i64 win, .int .i64 spn, .int .i64 sin, .int .i64 delta, .int .i64 idn, .int .i64 gn, .int .i64 lo, .int .i64 hi, .int .i64 val, .slice la live.length lc, .slice da dirty.length dc, .int .i64 nx]] w fun e w' => ∃ v', e = .returned (.tuple #[]) ∧ WSt w B p v w' v' (bytesR ⟨lsn, kn, tn, pn, wpn, win, spn, sin, delta, idn, gn, lo, hi, val, live, dirty, nx⟩) := by
  have _z1 := hide hll
  have _z2 := hide hdl
  obtain ⟨r1, r2, r3, r4, r5, r6, r7, r8, r9⟩ := hr
  obtain ⟨f1, f2, f3, f4⟩ := hf
  simp only at f1 f2 f3 f4
  have g0 := fun w => fieldsOf_any kn (by omega) (by omega) w
  have hfin : ∀ q, q = nums ⟨lsn, kn, tn, pn, wpn, win, spn, sin, delta, idn, gn, lo, hi, val, live, dirty, nx⟩ → q.flatMap form = bytesR ⟨lsn, kn, tn, pn, wpn, win, spn, sin, delta, idn, gn, lo, hi, val, live, dirty, nx⟩ := by
    intro q hq; rw [hq]; rfl
  have hnum : nums ⟨lsn, kn, tn, pn, wpn, win, spn, sin, delta, idn, gn, lo, hi, val, live, dirty, nx⟩ = [kn] ++ [tn] ++ [pn] := by
    simp [nums, e1, e2, e3, e4, e5, e6]
  have HFIN := hide (show ([kn] ++ [tn] ++ [pn]).flatMap form = bytesR ⟨lsn, kn, tn, pn, wpn, win, spn, sin, delta, idn, gn, lo, hi, val, live, dirty, nx⟩ from hfin _ hnum.symm)
  generalize bytesR ⟨lsn, kn, tn, pn, wpn, win, spn, sin, delta, idn, gn, lo, hi, val, live, dirty, nx⟩ = fin at *
  simp only [hasC, e1, e2, e3, e4, e5, e6] at g0
  clear hfin hnum e1 e2 e3 e4 e5 e6
  have HL := hide hl
  have HD := hide hd
  have HLI := hide (show ∀ l ∈ live, liveIn l from fun l q => by have := hli l q; unfold liveIn2 at this; unfold liveIn; omega)
  have HDI := hide (show ∀ l ∈ dirty, dirtyIn l from fun l q => by have := hdi l q; unfold dirtyIn2 at this; unfold dirtyIn; omega)
  have hbx := Bx.new h #[.int .i64 lsn, .int .i64 kn, .int .i64 tn, .int .i64 pn, .int .i64 wpn, .int .i64 win, .int .i64 spn, .int .i64 sin, .int .i64 delta, .int .i64 idn, .int .i64 gn, .int .i64 lo, .int .i64 hi, .int .i64 val, .slice la live.length lc, .slice da dirty.length dc, .int .i64 nx] 44
  have hst := (WSt.start h).below (alloc_below w (.cells #[.int .i64 lsn, .int .i64 kn, .int .i64 tn, .int .i64 pn, .int .i64 wpn, .int .i64 win, .int .i64 spn, .int .i64 sin, .int .i64 delta, .int .i64 idn, .int .i64 gn, .int .i64 lo, .int .i64 hi, .int .i64 val, .slice la live.length lc, .slice da dirty.length dc, .int .i64 nx] 44))
  generalize hw0 : w.alloc (.cells #[.int .i64 lsn, .int .i64 kn, .int .i64 tn, .int .i64 pn, .int .i64 wpn, .int .i64 win, .int .i64 spn, .int .i64 sin, .int .i64 delta, .int .i64 idn, .int .i64 gn, .int .i64 lo, .int .i64 hi, .int .i64 val, .slice la live.length lc, .slice da dirty.length dc, .int .i64 nx] 44) = w0 at hbx hst
  obtain ⟨k1, _⟩ := hbx.1.get 1 _ rfl
  have HB := hide hbx
  have HS := hide hst
  clear hbx hst hl hd hli hdi h
  go_enter Tryz.func67, Tryz.ntmps67
  go_wp2_with fail
  clear hw0
  refine (g0 _).mono ?_
  rintro e w1 ⟨rfl, b1⟩
  have HB1 := HB.out.below b1
  have HS1 := HS.out.below b1
  have hX := Bx.new HS1.wr #[.bool true, .bool true, .bool false, .bool false, .bool false, .bool false] 158
  have HB1 := HB1.below (alloc_below w1 (.cells #[.bool true, .bool true, .bool false, .bool false, .bool false, .bool false] 158))
  have HS1 := HS1.below (alloc_below w1 (.cells #[.bool true, .bool true, .bool false, .bool false, .bool false, .bool false] 158))
  generalize hw2 : w1.alloc (.cells #[.bool true, .bool true, .bool false, .bool false, .bool false, .bool false] 158) = W0 at hX HB1 HS1
  have HW2 := hide hw2
  clear hw2
  go_upto_region 2 with fail
  rw [HW2.out]
  clear HW2
  generalize w1.heap.size = bx at *
  have HB0 := hide HB1
  have HS0 := hide HS1
  have HX0 := hide hX
  clear HB HS HB1 HS1 hX b1 k1
  have hL0 : ([] : List Nat).length ≤ 0 := Nat.le_refl _
  have k1 := (HB0.out.1.get 1 _ rfl).1
  have m0 := (HX0.out.1.get 0 _ rfl).1
  have m1 := (HX0.out.1.get 1 _ rfl).1
  have m2 := (HX0.out.1.get 2 _ rfl).1
  have m3 := (HX0.out.1.get 3 _ rfl).1
  have m4 := (HX0.out.1.get 4 _ rfl).1
  have m5 := (HX0.out.1.get 5 _ rfl).1
  have F := hide (put_lit (m := 1) [kn] B p v ([] : List Nat) W0 (by simp; omega) HS0.out.wr (by simp only [List.length_cons, List.length_nil]; omega) rfl)
  obtain ⟨L1, hL1⟩ : ∃ L, L = ([] : List Nat) ++ ([kn]).flatMap form := ⟨_, rfl⟩
  rw [← hL1] at F
  have hLn : L1.length ≤ 10 := by rw [hL1]; exact len_more hL0 (by intro q hq; simp at hq; omega)
  have E1 := hide hL1
  clear hL1
  go_wp2_with fail
  refine F.out.mono ?_
  rintro e W1 ⟨v1, rfl, a1, b1, c1⟩
  have HS1 := hide (HS0.out.next a1 b1 c1)
  have HB1 := hide (HB0.out.next b1 c1)
  have HX1 := hide (HX0.out.next b1 c1)
  clear a1 b1 c1
  clear F k1 m0 m1 m2 m3 m4 m5 HS0 HB0 HX0 hL0
  have hL1 := hLn
  clear hLn
  have k2 := (HB1.out.1.get 2 _ rfl).1
  have m0 := (HX1.out.1.get 0 _ rfl).1
  have m1 := (HX1.out.1.get 1 _ rfl).1
  have m2 := (HX1.out.1.get 2 _ rfl).1
  have m3 := (HX1.out.1.get 3 _ rfl).1
  have m4 := (HX1.out.1.get 4 _ rfl).1
  have m5 := (HX1.out.1.get 5 _ rfl).1
  have F := hide (put_lit (m := 1) [tn] B p v1 L1 W1 (by simp; omega) HS1.out.wr (by simp only [List.length_cons, List.length_nil]; omega) rfl)
  obtain ⟨L2, hL2⟩ : ∃ L, L = L1 ++ ([tn]).flatMap form := ⟨_, rfl⟩
  rw [← hL2] at F
  have hLn : L2.length ≤ 20 := by rw [hL2]; exact len_more hL1 (by intro q hq; simp at hq; omega)
  have E2 := hide hL2
  clear hL2
  go_wp2_with fail
  refine F.out.mono ?_
  rintro e W2 ⟨v2, rfl, a1, b1, c1⟩
  have HS2 := hide (HS1.out.next a1 b1 c1)
  have HB2 := hide (HB1.out.next b1 c1)
  have HX2 := hide (HX1.out.next b1 c1)
  clear a1 b1 c1
  clear F k2 m0 m1 m2 m3 m4 m5 HS1 HB1 HX1 hL1
  have hL2 := hLn
  clear hLn
  have k3 := (HB2.out.1.get 3 _ rfl).1
  have m0 := (HX2.out.1.get 0 _ rfl).1
  have m1 := (HX2.out.1.get 1 _ rfl).1
  have m2 := (HX2.out.1.get 2 _ rfl).1
  have m3 := (HX2.out.1.get 3 _ rfl).1
  have m4 := (HX2.out.1.get 4 _ rfl).1
  have m5 := (HX2.out.1.get 5 _ rfl).1
  have F := hide (put_lit (m := 1) [pn] B p v2 L2 W2 (by simp; omega) HS2.out.wr (by simp only [List.length_cons, List.length_nil]; omega) rfl)
  obtain ⟨L3, hL3⟩ : ∃ L, L = L2 ++ ([pn]).flatMap form := ⟨_, rfl⟩
  rw [← hL3] at F
  have E3 := hide hL3
  clear hL3
  go_wp2_with fail
  refine F.out.mono ?_
  rintro e W3 ⟨v3, rfl, a1, b1, c1⟩
  have HS3 := hide (HS2.out.next a1 b1 c1)
  have HX3 := hide (HX2.out.next b1 c1)
  clear a1 b1 c1
  clear F k3 m0 m1 m2 m3 m4 m5 HS2 HB2 HX2 hL2
  have m0 := (HX3.out.1.get 0 _ rfl).1
  have m1 := (HX3.out.1.get 1 _ rfl).1
  have m2 := (HX3.out.1.get 2 _ rfl).1
  have m3 := (HX3.out.1.get 3 _ rfl).1
  have m4 := (HX3.out.1.get 4 _ rfl).1
  have m5 := (HX3.out.1.get 5 _ rfl).1
  go_wp2_with fail
  go_end0
  refine ⟨v3, rfl, ?_⟩
  have hfe : L3 = fin := by rw [← HFIN.out, E3.out, E2.out, E1.out]; simp only [List.flatMap_append, List.nil_append, List.append_assoc]
  rw [← hfe]
  exact HS3.out

set_option maxHeartbeats 2000000 in
theorem write_pat8 (lsn : Int) (kn tn pn wpn win spn sin : Nat) (delta : Int) (idn gn : Nat) (lo hi val : Int) (live : List LiveM) (dirty : List DirtyM) (nx : Nat) (la da : Option Addr) (lc dc : Nat) (B p : Nat) (v : Value) (w : World) (h : Wr w B p v [])
    (hk1 : 1 ≤ kn) (hk8 : kn ≤ 8) (e1 : hTx kn = false) (e2 : hPrev kn = false) (e3 : hCtr kn = false) (e4 : hFirst kn = false) (e5 : hDelta kn = false) (e6 : hPts kn = true)
    (hl : ∀ w', Keep (wS p v) w w' → Lies w' la (liveCs live)) (hd : ∀ w', Keep (wS p v) w w' → Lies w' da (dirtyCs dirty))
    (hr : tn ≤ 2147483647 ∧ pn ≤ 2147483647 ∧ wpn ≤ 63 ∧ win ≤ 30 ∧ spn ≤ 63 ∧ sin ≤ 83 ∧ idn ≤ 1048576 ∧ gn ≤ 1048576 ∧ nx ≤ 2147483648) (hf : Fits ⟨lsn, kn, tn, pn, wpn, win, spn, sin, delta, idn, gn, lo, hi, val, live, dirty, nx⟩)
    (hli : ∀ l ∈ live, liveIn2 l) (hdi : ∀ l ∈ dirty, dirtyIn2 l) (hll : live.length ≤ 32) (hdl : dirty.length ≤ 16) :
    Calls Tryz.prog 67 #[.pointer (some ⟨p, 0, none⟩), .agg #[.int .i64 lsn, .int .i64 kn, .int .i64 tn, .int .i64 pn, .int .i64 wpn, .int .i64 win, .int .i64 spn, .int .i64 sin, .int .i64 delta, .int .i64 idn, .int .i64 gn, .int .i64 lo, .int .i64 hi, .int .i64 val, .slice la live.length lc, .slice da dirty.length dc, .int .i64 nx]] w fun e w' => ∃ v', e = .returned (.tuple #[]) ∧ WSt w B p v w' v' (bytesR ⟨lsn, kn, tn, pn, wpn, win, spn, sin, delta, idn, gn, lo, hi, val, live, dirty, nx⟩) := by
  have _z1 := hide hll
  have _z2 := hide hdl
  obtain ⟨r1, r2, r3, r4, r5, r6, r7, r8, r9⟩ := hr
  obtain ⟨f1, f2, f3, f4⟩ := hf
  simp only at f1 f2 f3 f4
  have g0 := fun w => fieldsOf_any kn (by omega) (by omega) w
  have hfin : ∀ q, q = nums ⟨lsn, kn, tn, pn, wpn, win, spn, sin, delta, idn, gn, lo, hi, val, live, dirty, nx⟩ → q.flatMap form = bytesR ⟨lsn, kn, tn, pn, wpn, win, spn, sin, delta, idn, gn, lo, hi, val, live, dirty, nx⟩ := by
    intro q hq; rw [hq]; rfl
  have hnum : nums ⟨lsn, kn, tn, pn, wpn, win, spn, sin, delta, idn, gn, lo, hi, val, live, dirty, nx⟩ = [kn] ++ pointsNs live dirty nx := by
    simp [nums, e1, e2, e3, e4, e5, e6]
  have HFIN := hide (show ([kn] ++ pointsNs live dirty nx).flatMap form = bytesR ⟨lsn, kn, tn, pn, wpn, win, spn, sin, delta, idn, gn, lo, hi, val, live, dirty, nx⟩ from hfin _ hnum.symm)
  generalize bytesR ⟨lsn, kn, tn, pn, wpn, win, spn, sin, delta, idn, gn, lo, hi, val, live, dirty, nx⟩ = fin at *
  simp only [hasC, e1, e2, e3, e4, e5, e6] at g0
  clear hfin hnum e1 e2 e3 e4 e5 e6
  have HL := hide hl
  have HD := hide hd
  have HLI := hide (show ∀ l ∈ live, liveIn l from fun l q => by have := hli l q; unfold liveIn2 at this; unfold liveIn; omega)
  have HDI := hide (show ∀ l ∈ dirty, dirtyIn l from fun l q => by have := hdi l q; unfold dirtyIn2 at this; unfold dirtyIn; omega)
  have hbx := Bx.new h #[.int .i64 lsn, .int .i64 kn, .int .i64 tn, .int .i64 pn, .int .i64 wpn, .int .i64 win, .int .i64 spn, .int .i64 sin, .int .i64 delta, .int .i64 idn, .int .i64 gn, .int .i64 lo, .int .i64 hi, .int .i64 val, .slice la live.length lc, .slice da dirty.length dc, .int .i64 nx] 44
  have hst := (WSt.start h).below (alloc_below w (.cells #[.int .i64 lsn, .int .i64 kn, .int .i64 tn, .int .i64 pn, .int .i64 wpn, .int .i64 win, .int .i64 spn, .int .i64 sin, .int .i64 delta, .int .i64 idn, .int .i64 gn, .int .i64 lo, .int .i64 hi, .int .i64 val, .slice la live.length lc, .slice da dirty.length dc, .int .i64 nx] 44))
  generalize hw0 : w.alloc (.cells #[.int .i64 lsn, .int .i64 kn, .int .i64 tn, .int .i64 pn, .int .i64 wpn, .int .i64 win, .int .i64 spn, .int .i64 sin, .int .i64 delta, .int .i64 idn, .int .i64 gn, .int .i64 lo, .int .i64 hi, .int .i64 val, .slice la live.length lc, .slice da dirty.length dc, .int .i64 nx] 44) = w0 at hbx hst
  obtain ⟨k1, _⟩ := hbx.1.get 1 _ rfl
  have HB := hide hbx
  have HS := hide hst
  clear hbx hst hl hd hli hdi h
  go_enter Tryz.func67, Tryz.ntmps67
  go_wp2_with fail
  clear hw0
  refine (g0 _).mono ?_
  rintro e w1 ⟨rfl, b1⟩
  have HB1 := HB.out.below b1
  have HS1 := HS.out.below b1
  have hX := Bx.new HS1.wr #[.bool false, .bool false, .bool false, .bool false, .bool false, .bool true] 158
  have HB1 := HB1.below (alloc_below w1 (.cells #[.bool false, .bool false, .bool false, .bool false, .bool false, .bool true] 158))
  have HS1 := HS1.below (alloc_below w1 (.cells #[.bool false, .bool false, .bool false, .bool false, .bool false, .bool true] 158))
  generalize hw2 : w1.alloc (.cells #[.bool false, .bool false, .bool false, .bool false, .bool false, .bool true] 158) = W0 at hX HB1 HS1
  have HW2 := hide hw2
  clear hw2
  go_upto_region 2 with fail
  rw [HW2.out]
  clear HW2
  generalize w1.heap.size = bx at *
  have HB0 := hide HB1
  have HS0 := hide HS1
  have HX0 := hide hX
  clear HB HS HB1 HS1 hX b1 k1
  have hL0 : ([] : List Nat).length ≤ 0 := Nat.le_refl _
  have k1 := (HB0.out.1.get 1 _ rfl).1
  have m0 := (HX0.out.1.get 0 _ rfl).1
  have m1 := (HX0.out.1.get 1 _ rfl).1
  have m2 := (HX0.out.1.get 2 _ rfl).1
  have m3 := (HX0.out.1.get 3 _ rfl).1
  have m4 := (HX0.out.1.get 4 _ rfl).1
  have m5 := (HX0.out.1.get 5 _ rfl).1
  have F := hide (put_lit (m := 1) [kn] B p v ([] : List Nat) W0 (by simp; omega) HS0.out.wr (by simp only [List.length_cons, List.length_nil]; omega) rfl)
  obtain ⟨L1, hL1⟩ : ∃ L, L = ([] : List Nat) ++ ([kn]).flatMap form := ⟨_, rfl⟩
  rw [← hL1] at F
  have hLn : L1.length ≤ 10 := by rw [hL1]; exact len_more hL0 (by intro q hq; simp at hq; omega)
  have E1 := hide hL1
  clear hL1
  go_wp2_with fail
  refine F.out.mono ?_
  rintro e W1 ⟨v1, rfl, a1, b1, c1⟩
  have HS1 := hide (HS0.out.next a1 b1 c1)
  have HB1 := hide (HB0.out.next b1 c1)
  have HX1 := hide (HX0.out.next b1 c1)
  clear a1 b1 c1
  clear F k1 m0 m1 m2 m3 m4 m5 HS0 HB0 HX0 hL0
  have hL1 := hLn
  clear hLn
  have k14 := (HB1.out.1.get 14 _ rfl).1
  have k15 := (HB1.out.1.get 15 _ rfl).1
  have k16 := (HB1.out.1.get 16 _ rfl).1
  have m0 := (HX1.out.1.get 0 _ rfl).1
  have m1 := (HX1.out.1.get 1 _ rfl).1
  have m2 := (HX1.out.1.get 2 _ rfl).1
  have m3 := (HX1.out.1.get 3 _ rfl).1
  have m4 := (HX1.out.1.get 4 _ rfl).1
  have m5 := (HX1.out.1.get 5 _ rfl).1
  have F := hide (writePoints_any live dirty nx la da lc dc B p v1 L1 W1 (fun w' q => HL.out w' (HS1.out.keep.trans q (wS.moved HS1.out.mv))) (fun w' q => HD.out w' (HS1.out.keep.trans q (wS.moved HS1.out.mv))) HS1.out.wr (by omega) HLI.out HDI.out (by omega) (by omega) (by omega))
  obtain ⟨L2, hL2⟩ : ∃ L, L = L1 ++ (pointsNs live dirty nx).flatMap form := ⟨_, rfl⟩
  rw [← hL2] at F
  have E2 := hide hL2
  clear hL2
  go_wp2_with fail
  refine F.out.mono ?_
  rintro e W2 ⟨v2, rfl, st⟩
  have HS2 := hide (HS1.out.next st.wr st.keep st.mv)
  have HB2 := hide (HB1.out.next st.keep st.mv)
  have HX2 := hide (HX1.out.next st.keep st.mv)
  clear st
  clear F k14 k15 k16 m0 m1 m2 m3 m4 m5 HS1 HB1 HX1 hL1
  have m0 := (HX2.out.1.get 0 _ rfl).1
  have m1 := (HX2.out.1.get 1 _ rfl).1
  have m2 := (HX2.out.1.get 2 _ rfl).1
  have m3 := (HX2.out.1.get 3 _ rfl).1
  have m4 := (HX2.out.1.get 4 _ rfl).1
  have m5 := (HX2.out.1.get 5 _ rfl).1
  go_wp2_with fail
  go_end0
  refine ⟨v2, rfl, ?_⟩
  have hfe : L2 = fin := by rw [← HFIN.out, E2.out, E1.out]; simp only [List.flatMap_append, List.nil_append]
  rw [← hfe]
  exact HS2.out

end Go.Proofs.YtgpmghdoofcpaaaGreat
