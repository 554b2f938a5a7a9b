import Derived.Test.YtllpfojkbeloeaaDoorReads3
import Derived.Test.YtllpfojkbeloeaaDoorWrites4
namespace Go.Proofs.YtllpfojkbeloeaaDoor
open Go.RowKit Go.QK
theorem Tbl.below {w w' : World} {B t m : Nat} (h : Tbl w B t m) (k : Below w.heap.size w w') : Tbl w' B t m ∧ Below B w w' := by
  obtain ⟨lab, sd, vL, vM, Ls, Ms, tb, rest⟩ := h
  exact ⟨⟨lab, sd, vL, vM, Ls, Ms, tb.below k (fun _ _ => rfl), rest⟩, k.mono tb.base⟩
/-- What is known of a call of the script. -/
structure OpOk (w : World) (B n : Nat) (i at_ : Int) (ab : Option Addr) (xb : List Nat) (cb : Nat) (ap : Option Addr) (lp m : Nat) : Prop where
  hm : m ≤ 1000
  hn : n < 18446744073709551616
  hi : I64 i
  ha : I64 at_
  hb : Bytes w ab xb
  bb : AllB xb
  hcb : xb.length ≤ cb
  hmb : cb ≤ maxLen
  hnb : ab = none → cb = 0
  low : xb ≠ [] → ∀ ad, ab = some ad → ad.block < B
  hp : InP w ap lp
  hlp : lp ≤ maxLen
  tab : Tab w

set_option maxHeartbeats 1000000 in
set_option maxRecDepth 100000 in
theorem plays_2 (wh : Bool) (n : Nat) (i at_ size : Int) (ab : Option Addr) (xb : List Nat) (cb : Nat) (ap : Option Addr) (lp cp : Nat) (w : World) (B t m : Nat) (h : Tbl w B t m) (ok : OpOk w B n i at_ ab xb cb ap lp m) :
    Calls Tryd.prog 27 #[.pointer (some ⟨t, 0, none⟩), .agg (opC 2 wh n i at_ size ab xb.length cb ap lp cp)] w fun e w' => e = .returned (.bool true) ∧ Tbl w' B t (m + 1) ∧ Below B w w' := by
  obtain ⟨hm, hn, hi, ha, hb, bb, hcb, hmb, hnb, low, hp, hlp, tab⟩ := ok
  obtain ⟨l, hl⟩ : ∃ l, l = xb.take 4000 := ⟨_, rfl⟩
  have e1 : min xb.length 4000 = l.length := by rw [hl]; simp; omega
  have b0 : Below w.heap.size w (w.alloc (.cells #[.int .i64 2, .bool wh, .int .u64 (n : Int), .int .i64 i, .int .i64 at_, .int .i64 size, .slice ab l.length cb, .slice ap lp cp] 69)) := (Below.refl _ _).alloc (Nat.le_refl _) _
  obtain ⟨T1, B1⟩ := h.below b0
  have HT := hide T1
  have s1 : Bytes w ab l := by rw [hl]; exact Bytes.take hb 4000
  have HB1 := hide (Seen.below s1 b0)
  have bl : AllB l := by rw [hl]; exact bb.take _
  have n1 : l.length ≤ 4000 := by rw [hl]; simp; omega
  have n2 : l.length ≤ cb := by omega
  have HLOW : Hid (l ≠ [] → ∀ ad, ab = some ad → ad.block < B) := fun hne => low (fun e => hne (by rw [hl, e]; rfl))
  have HP1 := hide (hp.below b0)
  have HTB := hide (Tab.below tab b0)
  clear hl hb s1 hp tab T1 h low b0
  go_enter Tryd.func27, Tryd.ntmps27
  go_wp2_with fail
  refine (cutB_any ab xb.length cb _ hcb hmb hnb).mono ?_
  rintro e w' ⟨rfl, hw'⟩
  subst hw'
  rw [e1]
  clear e1
  go_wp2_with fail
  refine (writes_2 wh n i at_ size ab l.length cb ap lp cp _ B t m HT.out hn hm).mono ?_
  rintro e w2 ⟨rfl, T2, B2⟩
  have HT2 := hide T2
  have BL := B1.trans B2
  clear T2 B2 HT HB1 HP1 HTB
  go_wp2_with fail
  go_ret
  exact ⟨rfl, HT2.out, BL⟩

set_option maxHeartbeats 1000000 in
set_option maxRecDepth 100000 in
theorem plays_3 (wh : Bool) (n : Nat) (i at_ size : Int) (ab : Option Addr) (xb : List Nat) (cb : Nat) (ap : Option Addr) (lp cp : Nat) (w : World) (B t m : Nat) (h : Tbl w B t m) (ok : OpOk w B n i at_ ab xb cb ap lp m) :
    Calls Tryd.prog 27 #[.pointer (some ⟨t, 0, none⟩), .agg (opC 3 wh n i at_ size ab xb.length cb ap lp cp)] w fun e w' => e = .returned (.bool true) ∧ Tbl w' B t (m + 1) ∧ Below B w w' := by
  obtain ⟨hm, hn, hi, ha, hb, bb, hcb, hmb, hnb, low, hp, hlp, tab⟩ := ok
  obtain ⟨l, hl⟩ : ∃ l, l = xb.take 4000 := ⟨_, rfl⟩
  have e1 : min xb.length 4000 = l.length := by rw [hl]; simp; omega
  have b0 : Below w.heap.size w (w.alloc (.cells #[.int .i64 3, .bool wh, .int .u64 (n : Int), .int .i64 i, .int .i64 at_, .int .i64 size, .slice ab l.length cb, .slice ap lp cp] 69)) := (Below.refl _ _).alloc (Nat.le_refl _) _
  obtain ⟨T1, B1⟩ := h.below b0
  have HT := hide T1
  have s1 : Bytes w ab l := by rw [hl]; exact Bytes.take hb 4000
  have HB1 := hide (Seen.below s1 b0)
  have bl : AllB l := by rw [hl]; exact bb.take _
  have n1 : l.length ≤ 4000 := by rw [hl]; simp; omega
  have n2 : l.length ≤ cb := by omega
  have HLOW : Hid (l ≠ [] → ∀ ad, ab = some ad → ad.block < B) := fun hne => low (fun e => hne (by rw [hl, e]; rfl))
  have HP1 := hide (hp.below b0)
  have HTB := hide (Tab.below tab b0)
  clear hl hb s1 hp tab T1 h low b0
  go_enter Tryd.func27, Tryd.ntmps27
  go_wp2_with fail
  refine (cutB_any ab xb.length cb _ hcb hmb hnb).mono ?_
  rintro e w' ⟨rfl, hw'⟩
  subst hw'
  rw [e1]
  clear e1
  go_wp2_with fail
  refine (writes_3 wh n i at_ size ab l.length cb ap lp cp _ B t m HT.out hi hm).mono ?_
  rintro e w2 ⟨rfl, T2, B2⟩
  have HT2 := hide T2
  have BL := B1.trans B2
  clear T2 B2 HT HB1 HP1 HTB
  go_wp2_with fail
  go_ret
  exact ⟨rfl, HT2.out, BL⟩

set_option maxHeartbeats 1000000 in
set_option maxRecDepth 100000 in
theorem plays_4 (wh : Bool) (n : Nat) (i at_ size : Int) (ab : Option Addr) (xb : List Nat) (cb : Nat) (ap : Option Addr) (lp cp : Nat) (w : World) (B t m : Nat) (h : Tbl w B t m) (ok : OpOk w B n i at_ ab xb cb ap lp m) :
    Calls Tryd.prog 27 #[.pointer (some ⟨t, 0, none⟩), .agg (opC 4 wh n i at_ size ab xb.length cb ap lp cp)] w fun e w' => e = .returned (.bool true) ∧ Tbl w' B t (m + 1) ∧ Below B w w' := by
  obtain ⟨hm, hn, hi, ha, hb, bb, hcb, hmb, hnb, low, hp, hlp, tab⟩ := ok
  obtain ⟨l, hl⟩ : ∃ l, l = xb.take 4000 := ⟨_, rfl⟩
  have e1 : min xb.length 4000 = l.length := by rw [hl]; simp; omega
  have b0 : Below w.heap.size w (w.alloc (.cells #[.int .i64 4, .bool wh, .int .u64 (n : Int), .int .i64 i, .int .i64 at_, .int .i64 size, .slice ab l.length cb, .slice ap lp cp] 69)) := (Below.refl _ _).alloc (Nat.le_refl _) _
  obtain ⟨T1, B1⟩ := h.below b0
  have HT := hide T1
  have s1 : Bytes w ab l := by rw [hl]; exact Bytes.take hb 4000
  have HB1 := hide (Seen.below s1 b0)
  have bl : AllB l := by rw [hl]; exact bb.take _
  have n1 : l.length ≤ 4000 := by rw [hl]; simp; omega
  have n2 : l.length ≤ cb := by omega
  have HLOW : Hid (l ≠ [] → ∀ ad, ab = some ad → ad.block < B) := fun hne => low (fun e => hne (by rw [hl, e]; rfl))
  have HP1 := hide (hp.below b0)
  have HTB := hide (Tab.below tab b0)
  clear hl hb s1 hp tab T1 h low b0
  go_enter Tryd.func27, Tryd.ntmps27
  go_wp2_with fail
  refine (cutB_any ab xb.length cb _ hcb hmb hnb).mono ?_
  rintro e w' ⟨rfl, hw'⟩
  subst hw'
  rw [e1]
  clear e1
  go_wp2_with fail
  refine (writes_4 wh n i at_ size ab l.length cb ap lp cp _ B t m HT.out hm).mono ?_
  rintro e w2 ⟨rfl, T2, B2⟩
  have HT2 := hide T2
  have BL := B1.trans B2
  clear T2 B2 HT HB1 HP1 HTB
  go_wp2_with fail
  go_ret
  exact ⟨rfl, HT2.out, BL⟩

set_option maxHeartbeats 1000000 in
set_option maxRecDepth 100000 in
theorem plays_5 (wh : Bool) (n : Nat) (i at_ size : Int) (ab : Option Addr) (xb : List Nat) (cb : Nat) (ap : Option Addr) (lp cp : Nat) (w : World) (B t m : Nat) (h : Tbl w B t m) (ok : OpOk w B n i at_ ab xb cb ap lp m) :
    Calls Tryd.prog 27 #[.pointer (some ⟨t, 0, none⟩), .agg (opC 5 wh n i at_ size ab xb.length cb ap lp cp)] w fun e w' => e = .returned (.bool true) ∧ Tbl w' B t (m + 1) ∧ Below B w w' := by
  obtain ⟨hm, hn, hi, ha, hb, bb, hcb, hmb, hnb, low, hp, hlp, tab⟩ := ok
  obtain ⟨l, hl⟩ : ∃ l, l = xb.take 4000 := ⟨_, rfl⟩
  have e1 : min xb.length 4000 = l.length := by rw [hl]; simp; omega
  have b0 : Below w.heap.size w (w.alloc (.cells #[.int .i64 5, .bool wh, .int .u64 (n : Int), .int .i64 i, .int .i64 at_, .int .i64 size, .slice ab l.length cb, .slice ap lp cp] 69)) := (Below.refl _ _).alloc (Nat.le_refl _) _
  obtain ⟨T1, B1⟩ := h.below b0
  have HT := hide T1
  have s1 : Bytes w ab l := by rw [hl]; exact Bytes.take hb 4000
  have HB1 := hide (Seen.below s1 b0)
  have bl : AllB l := by rw [hl]; exact bb.take _
  have n1 : l.length ≤ 4000 := by rw [hl]; simp; omega
  have n2 : l.length ≤ cb := by omega
  have HLOW : Hid (l ≠ [] → ∀ ad, ab = some ad → ad.block < B) := fun hne => low (fun e => hne (by rw [hl, e]; rfl))
  have HP1 := hide (hp.below b0)
  have HTB := hide (Tab.below tab b0)
  clear hl hb s1 hp tab T1 h low b0
  go_enter Tryd.func27, Tryd.ntmps27
  go_wp2_with fail
  refine (cutB_any ab xb.length cb _ hcb hmb hnb).mono ?_
  rintro e w' ⟨rfl, hw'⟩
  subst hw'
  rw [e1]
  clear e1
  go_wp2_with fail
  refine (writes_5 wh n i at_ size ab l.length cb ap lp cp _ B t m HT.out).mono ?_
  rintro e w2 ⟨rfl, T2, B2⟩
  have HT2 := hide T2
  have BL := B1.trans B2
  clear T2 B2 HT HB1 HP1 HTB
  go_wp2_with fail
  go_ret
  exact ⟨rfl, HT2.out, BL⟩

set_option maxHeartbeats 1000000 in
set_option maxRecDepth 100000 in
theorem plays_6 (wh : Bool) (n : Nat) (i at_ size : Int) (ab : Option Addr) (xb : List Nat) (cb : Nat) (ap : Option Addr) (lp cp : Nat) (w : World) (B t m : Nat) (h : Tbl w B t m) (ok : OpOk w B n i at_ ab xb cb ap lp m) :
    Calls Tryd.prog 27 #[.pointer (some ⟨t, 0, none⟩), .agg (opC 6 wh n i at_ size ab xb.length cb ap lp cp)] w fun e w' => e = .returned (.bool true) ∧ Tbl w' B t (m + 1) ∧ Below B w w' := by
  obtain ⟨hm, hn, hi, ha, hb, bb, hcb, hmb, hnb, low, hp, hlp, tab⟩ := ok
  obtain ⟨l, hl⟩ : ∃ l, l = xb.take 4000 := ⟨_, rfl⟩
  have e1 : min xb.length 4000 = l.length := by rw [hl]; simp; omega
  have b0 : Below w.heap.size w (w.alloc (.cells #[.int .i64 6, .bool wh, .int .u64 (n : Int), .int .i64 i, .int .i64 at_, .int .i64 size, .slice ab l.length cb, .slice ap lp cp] 69)) := (Below.refl _ _).alloc (Nat.le_refl _) _
  obtain ⟨T1, B1⟩ := h.below b0
  have HT := hide T1
  have s1 : Bytes w ab l := by rw [hl]; exact Bytes.take hb 4000
  have HB1 := hide (Seen.below s1 b0)
  have bl : AllB l := by rw [hl]; exact bb.take _
  have n1 : l.length ≤ 4000 := by rw [hl]; simp; omega
  have n2 : l.length ≤ cb := by omega
  have HLOW : Hid (l ≠ [] → ∀ ad, ab = some ad → ad.block < B) := fun hne => low (fun e => hne (by rw [hl, e]; rfl))
  have HP1 := hide (hp.below b0)
  have HTB := hide (Tab.below tab b0)
  clear hl hb s1 hp tab T1 h low b0
  go_enter Tryd.func27, Tryd.ntmps27
  go_wp2_with fail
  refine (cutB_any ab xb.length cb _ hcb hmb hnb).mono ?_
  rintro e w' ⟨rfl, hw'⟩
  subst hw'
  rw [e1]
  clear e1
  go_wp2_with fail
  refine (reads_6 wh n i at_ size ab cb ap lp cp _ B t m HT.out l HB1.out bl n1 hnb n2 HLOW.out).mono ?_
  rintro e w2 ⟨rfl, T2, B2⟩
  have HT2 := hide T2
  have BL := B1.trans B2
  clear T2 B2 HT HB1 HP1 HTB
  go_wp2_with fail
  go_ret
  exact ⟨rfl, HT2.out, BL⟩

set_option maxHeartbeats 1000000 in
set_option maxRecDepth 100000 in
theorem plays_7 (wh : Bool) (n : Nat) (i at_ size : Int) (ab : Option Addr) (xb : List Nat) (cb : Nat) (ap : Option Addr) (lp cp : Nat) (w : World) (B t m : Nat) (h : Tbl w B t m) (ok : OpOk w B n i at_ ab xb cb ap lp m) :
    Calls Tryd.prog 27 #[.pointer (some ⟨t, 0, none⟩), .agg (opC 7 wh n i at_ size ab xb.length cb ap lp cp)] w fun e w' => e = .returned (.bool true) ∧ Tbl w' B t (m + 1) ∧ Below B w w' := by
  obtain ⟨hm, hn, hi, ha, hb, bb, hcb, hmb, hnb, low, hp, hlp, tab⟩ := ok
  obtain ⟨l, hl⟩ : ∃ l, l = xb.take 4000 := ⟨_, rfl⟩
  have e1 : min xb.length 4000 = l.length := by rw [hl]; simp; omega
  have b0 : Below w.heap.size w (w.alloc (.cells #[.int .i64 7, .bool wh, .int .u64 (n : Int), .int .i64 i, .int .i64 at_, .int .i64 size, .slice ab l.length cb, .slice ap lp cp] 69)) := (Below.refl _ _).alloc (Nat.le_refl _) _
  obtain ⟨T1, B1⟩ := h.below b0
  have HT := hide T1
  have s1 : Bytes w ab l := by rw [hl]; exact Bytes.take hb 4000
  have HB1 := hide (Seen.below s1 b0)
  have bl : AllB l := by rw [hl]; exact bb.take _
  have n1 : l.length ≤ 4000 := by rw [hl]; simp; omega
  have n2 : l.length ≤ cb := by omega
  have HLOW : Hid (l ≠ [] → ∀ ad, ab = some ad → ad.block < B) := fun hne => low (fun e => hne (by rw [hl, e]; rfl))
  have HP1 := hide (hp.below b0)
  have HTB := hide (Tab.below tab b0)
  clear hl hb s1 hp tab T1 h low b0
  go_enter Tryd.func27, Tryd.ntmps27
  go_wp2_with fail
  refine (cutB_any ab xb.length cb _ hcb hmb hnb).mono ?_
  rintro e w' ⟨rfl, hw'⟩
  subst hw'
  rw [e1]
  clear e1
  go_wp2_with fail
  refine (reads_7 wh n i at_ size ab l.length cb ap lp cp _ B t m HT.out hn).mono ?_
  rintro e w2 ⟨rfl, T2, B2⟩
  have HT2 := hide T2
  have BL := B1.trans B2
  clear T2 B2 HT HB1 HP1 HTB
  go_wp2_with fail
  go_ret
  exact ⟨rfl, HT2.out, BL⟩

set_option maxHeartbeats 1000000 in
set_option maxRecDepth 100000 in
theorem plays_8 (wh : Bool) (n : Nat) (i at_ size : Int) (ab : Option Addr) (xb : List Nat) (cb : Nat) (ap : Option Addr) (lp cp : Nat) (w : World) (B t m : Nat) (h : Tbl w B t m) (ok : OpOk w B n i at_ ab xb cb ap lp m) :
    Calls Tryd.prog 27 #[.pointer (some ⟨t, 0, none⟩), .agg (opC 8 wh n i at_ size ab xb.length cb ap lp cp)] w fun e w' => e = .returned (.bool true) ∧ Tbl w' B t (m + 1) ∧ Below B w w' := by
  obtain ⟨hm, hn, hi, ha, hb, bb, hcb, hmb, hnb, low, hp, hlp, tab⟩ := ok
  obtain ⟨l, hl⟩ : ∃ l, l = xb.take 4000 := ⟨_, rfl⟩
  have e1 : min xb.length 4000 = l.length := by rw [hl]; simp; omega
  have b0 : Below w.heap.size w (w.alloc (.cells #[.int .i64 8, .bool wh, .int .u64 (n : Int), .int .i64 i, .int .i64 at_, .int .i64 size, .slice ab l.length cb, .slice ap lp cp] 69)) := (Below.refl _ _).alloc (Nat.le_refl _) _
  obtain ⟨T1, B1⟩ := h.below b0
  have HT := hide T1
  have s1 : Bytes w ab l := by rw [hl]; exact Bytes.take hb 4000
  have HB1 := hide (Seen.below s1 b0)
  have bl : AllB l := by rw [hl]; exact bb.take _
  have n1 : l.length ≤ 4000 := by rw [hl]; simp; omega
  have n2 : l.length ≤ cb := by omega
  have HLOW : Hid (l ≠ [] → ∀ ad, ab = some ad → ad.block < B) := fun hne => low (fun e => hne (by rw [hl, e]; rfl))
  have HP1 := hide (hp.below b0)
  have HTB := hide (Tab.below tab b0)
  clear hl hb s1 hp tab T1 h low b0
  go_enter Tryd.func27, Tryd.ntmps27
  go_wp2_with fail
  refine (cutB_any ab xb.length cb _ hcb hmb hnb).mono ?_
  rintro e w' ⟨rfl, hw'⟩
  subst hw'
  rw [e1]
  clear e1
  go_wp2_with fail
  refine (reads_8 wh n i at_ size ab l.length cb ap lp cp _ B t m HT.out).mono ?_
  rintro e w2 ⟨rfl, T2, B2⟩
  have HT2 := hide T2
  have BL := B1.trans B2
  clear T2 B2 HT HB1 HP1 HTB
  go_wp2_with fail
  go_ret
  exact ⟨rfl, HT2.out, BL⟩

set_option maxHeartbeats 1000000 in
set_option maxRecDepth 100000 in
theorem plays_9 (wh : Bool) (n : Nat) (i at_ size : Int) (ab : Option Addr) (xb : List Nat) (cb : Nat) (ap : Option Addr) (lp cp : Nat) (w : World) (B t m : Nat) (h : Tbl w B t m) (ok : OpOk w B n i at_ ab xb cb ap lp m) :
    Calls Tryd.prog 27 #[.pointer (some ⟨t, 0, none⟩), .agg (opC 9 wh n i at_ size ab xb.length cb ap lp cp)] w fun e w' => e = .returned (.bool true) ∧ Tbl w' B t (m + 1) ∧ Below B w w' := by
  obtain ⟨hm, hn, hi, ha, hb, bb, hcb, hmb, hnb, low, hp, hlp, tab⟩ := ok
  obtain ⟨l, hl⟩ : ∃ l, l = xb.take 4000 := ⟨_, rfl⟩
  have e1 : min xb.length 4000 = l.length := by rw [hl]; simp; omega
  have b0 : Below w.heap.size w (w.alloc (.cells #[.int .i64 9, .bool wh, .int .u64 (n : Int), .int .i64 i, .int .i64 at_, .int .i64 size, .slice ab l.length cb, .slice ap lp cp] 69)) := (Below.refl _ _).alloc (Nat.le_refl _) _
  obtain ⟨T1, B1⟩ := h.below b0
  have HT := hide T1
  have s1 : Bytes w ab l := by rw [hl]; exact Bytes.take hb 4000
  have HB1 := hide (Seen.below s1 b0)
  have bl : AllB l := by rw [hl]; exact bb.take _
  have n1 : l.length ≤ 4000 := by rw [hl]; simp; omega
  have n2 : l.length ≤ cb := by omega
  have HLOW : Hid (l ≠ [] → ∀ ad, ab = some ad → ad.block < B) := fun hne => low (fun e => hne (by rw [hl, e]; rfl))
  have HP1 := hide (hp.below b0)
  have HTB := hide (Tab.below tab b0)
  clear hl hb s1 hp tab T1 h low b0
  go_enter Tryd.func27, Tryd.ntmps27
  go_wp2_with fail
  refine (cutB_any ab xb.length cb _ hcb hmb hnb).mono ?_
  rintro e w' ⟨rfl, hw'⟩
  subst hw'
  rw [e1]
  clear e1
  go_wp2_with fail
  refine (reads_9 wh n i at_ size ab l.length cb ap lp cp _ B t m HT.out).mono ?_
  rintro e w2 ⟨rfl, T2, B2⟩
  have HT2 := hide T2
  have BL := B1.trans B2
  clear T2 B2 HT HB1 HP1 HTB
  go_wp2_with fail
  go_ret
  exact ⟨rfl, HT2.out, BL⟩

set_option maxHeartbeats 1000000 in
set_option maxRecDepth 100000 in
theorem plays_10 (wh : Bool) (n : Nat) (i at_ size : Int) (ab : Option Addr) (xb : List Nat) (cb : Nat) (ap : Option Addr) (lp cp : Nat) (w : World) (B t m : Nat) (h : Tbl w B t m) (ok : OpOk w B n i at_ ab xb cb ap lp m) :
    Calls Tryd.prog 27 #[.pointer (some ⟨t, 0, none⟩), .agg (opC 10 wh n i at_ size ab xb.length cb ap lp cp)] w fun e w' => e = .returned (.bool true) ∧ Tbl w' B t (m + 1) ∧ Below B w w' := by
  obtain ⟨hm, hn, hi, ha, hb, bb, hcb, hmb, hnb, low, hp, hlp, tab⟩ := ok
  obtain ⟨l, hl⟩ : ∃ l, l = xb.take 4000 := ⟨_, rfl⟩
  have e1 : min xb.length 4000 = l.length := by rw [hl]; simp; omega
  have b0 : Below w.heap.size w (w.alloc (.cells #[.int .i64 10, .bool wh, .int .u64 (n : Int), .int .i64 i, .int .i64 at_, .int .i64 size, .slice ab l.length cb, .slice ap lp cp] 69)) := (Below.refl _ _).alloc (Nat.le_refl _) _
  obtain ⟨T1, B1⟩ := h.below b0
  have HT := hide T1
  have s1 : Bytes w ab l := by rw [hl]; exact Bytes.take hb 4000
  have HB1 := hide (Seen.below s1 b0)
  have bl : AllB l := by rw [hl]; exact bb.take _
  have n1 : l.length ≤ 4000 := by rw [hl]; simp; omega
  have n2 : l.length ≤ cb := by omega
  have HLOW : Hid (l ≠ [] → ∀ ad, ab = some ad → ad.block < B) := fun hne => low (fun e => hne (by rw [hl, e]; rfl))
  have HP1 := hide (hp.below b0)
  have HTB := hide (Tab.below tab b0)
  clear hl hb s1 hp tab T1 h low b0
  go_enter Tryd.func27, Tryd.ntmps27
  go_wp2_with fail
  refine (cutB_any ab xb.length cb _ hcb hmb hnb).mono ?_
  rintro e w' ⟨rfl, hw'⟩
  subst hw'
  rw [e1]
  clear e1
  go_wp2_with fail
  refine (reads_10 wh n i at_ size ab l.length cb ap lp cp _ B t m HT.out).mono ?_
  rintro e w2 ⟨rfl, T2, B2⟩
  have HT2 := hide T2
  have BL := B1.trans B2
  clear T2 B2 HT HB1 HP1 HTB
  go_wp2_with fail
  go_ret
  exact ⟨rfl, HT2.out, BL⟩

set_option maxHeartbeats 1000000 in
set_option maxRecDepth 100000 in
theorem plays_1 (wh : Bool) (n : Nat) (i at_ size : Int) (ab : Option Addr) (xb : List Nat) (cb : Nat) (ap : Option Addr) (lp cp : Nat) (w : World) (B t m : Nat) (h : Tbl w B t m) (ok : OpOk w B n i at_ ab xb cb ap lp m) :
    Calls Tryd.prog 27 #[.pointer (some ⟨t, 0, none⟩), .agg (opC 1 wh n i at_ size ab xb.length cb ap lp cp)] w fun e w' => e = .returned (.bool true) ∧ Tbl w' B t (m + 1) ∧ Below B w w' := by
  obtain ⟨hm, hn, hi, ha, hb, bb, hcb, hmb, hnb, low, hp, hlp, tab⟩ := ok
  obtain ⟨l, hl⟩ : ∃ l, l = xb.take 4000 := ⟨_, rfl⟩
  have e1 : min xb.length 4000 = l.length := by rw [hl]; simp; omega
  have b0 : Below w.heap.size w (w.alloc (.cells #[.int .i64 1, .bool wh, .int .u64 (n : Int), .int .i64 i, .int .i64 at_, .int .i64 size, .slice ab l.length cb, .slice ap lp cp] 69)) := (Below.refl _ _).alloc (Nat.le_refl _) _
  obtain ⟨T1, B1⟩ := h.below b0
  have HT := hide T1
  have s1 : Bytes w ab l := by rw [hl]; exact Bytes.take hb 4000
  have HB1 := hide (Seen.below s1 b0)
  have bl : AllB l := by rw [hl]; exact bb.take _
  have n1 : l.length ≤ 4000 := by rw [hl]; simp; omega
  have n2 : l.length ≤ cb := by omega
  have HLOW : Hid (l ≠ [] → ∀ ad, ab = some ad → ad.block < B) := fun hne => low (fun e => hne (by rw [hl, e]; rfl))
  have HP1 := hide (hp.below b0)
  have HTB := hide (Tab.below tab b0)
  clear hl hb s1 hp tab T1 h low b0
  go_enter Tryd.func27, Tryd.ntmps27
  go_wp2_with fail
  refine (cutB_any ab xb.length cb _ hcb hmb hnb).mono ?_
  rintro e w' ⟨rfl, hw'⟩
  subst hw'
  rw [e1]
  clear e1
  go_wp2_with fail
  refine (sums_any ap lp cp _ HTB.out HP1.out hlp).mono ?_
  rintro e w2 ⟨rfl, b2⟩
  obtain ⟨T2, B2⟩ := HT.out.below b2
  have HT2 := hide (Tbl.grow T2)
  have BL := B1.trans B2
  clear T2 B2 HT HB1 HP1 HTB b2
  go_wp2_with fail
  go_ret
  exact ⟨rfl, HT2.out, BL⟩

set_option maxHeartbeats 1000000 in
set_option maxRecDepth 100000 in
theorem plays_11 (wh : Bool) (n : Nat) (i at_ size : Int) (ab : Option Addr) (xb : List Nat) (cb : Nat) (ap : Option Addr) (lp cp : Nat) (w : World) (B t m : Nat) (h : Tbl w B t m) (ok : OpOk w B n i at_ ab xb cb ap lp m) :
    Calls Tryd.prog 27 #[.pointer (some ⟨t, 0, none⟩), .agg (opC 11 wh n i at_ size ab xb.length cb ap lp cp)] w fun e w' => e = .returned (.bool true) ∧ Tbl w' B t (m + 1) ∧ Below B w w' := by
  obtain ⟨hm, hn, hi, ha, hb, bb, hcb, hmb, hnb, low, hp, hlp, tab⟩ := ok
  obtain ⟨l, hl⟩ : ∃ l, l = xb.take 4000 := ⟨_, rfl⟩
  have e1 : min xb.length 4000 = l.length := by rw [hl]; simp; omega
  have b0 : Below w.heap.size w (w.alloc (.cells #[.int .i64 11, .bool wh, .int .u64 (n : Int), .int .i64 i, .int .i64 at_, .int .i64 size, .slice ab l.length cb, .slice ap lp cp] 69)) := (Below.refl _ _).alloc (Nat.le_refl _) _
  obtain ⟨T1, B1⟩ := h.below b0
  have HT := hide T1
  have s1 : Bytes w ab l := by rw [hl]; exact Bytes.take hb 4000
  have HB1 := hide (Seen.below s1 b0)
  have bl : AllB l := by rw [hl]; exact bb.take _
  have n1 : l.length ≤ 4000 := by rw [hl]; simp; omega
  have n2 : l.length ≤ cb := by omega
  have HLOW : Hid (l ≠ [] → ∀ ad, ab = some ad → ad.block < B) := fun hne => low (fun e => hne (by rw [hl, e]; rfl))
  have HP1 := hide (hp.below b0)
  have HTB := hide (Tab.below tab b0)
  clear hl hb s1 hp tab T1 h low b0
  go_enter Tryd.func27, Tryd.ntmps27
  go_wp2_with fail
  refine (cutB_any ab xb.length cb _ hcb hmb hnb).mono ?_
  rintro e w' ⟨rfl, hw'⟩
  subst hw'
  rw [e1]
  clear e1
  go_wp2_with fail
  refine (puts_any 11 wh n i at_ size ab l cb ap lp cp _ HB1.out bl n1 hnb ha hn).mono ?_
  rintro e w2 ⟨rfl, b2⟩
  obtain ⟨T2, B2⟩ := HT.out.below b2
  have HT2 := hide (Tbl.grow T2)
  have BL := B1.trans B2
  clear T2 B2 HT HB1 HP1 HTB b2
  go_wp2_with fail
  go_ret
  exact ⟨rfl, HT2.out, BL⟩

set_option maxHeartbeats 1000000 in
set_option maxRecDepth 100000 in
theorem plays_12 (wh : Bool) (n : Nat) (i at_ size : Int) (ab : Option Addr) (xb : List Nat) (cb : Nat) (ap : Option Addr) (lp cp : Nat) (w : World) (B t m : Nat) (h : Tbl w B t m) (ok : OpOk w B n i at_ ab xb cb ap lp m) :
    Calls Tryd.prog 27 #[.pointer (some ⟨t, 0, none⟩), .agg (opC 12 wh n i at_ size ab xb.length cb ap lp cp)] w fun e w' => e = .returned (.bool true) ∧ Tbl w' B t (m + 1) ∧ Below B w w' := by
  obtain ⟨hm, hn, hi, ha, hb, bb, hcb, hmb, hnb, low, hp, hlp, tab⟩ := ok
  obtain ⟨l, hl⟩ : ∃ l, l = xb.take 4000 := ⟨_, rfl⟩
  have e1 : min xb.length 4000 = l.length := by rw [hl]; simp; omega
  have b0 : Below w.heap.size w (w.alloc (.cells #[.int .i64 12, .bool wh, .int .u64 (n : Int), .int .i64 i, .int .i64 at_, .int .i64 size, .slice ab l.length cb, .slice ap lp cp] 69)) := (Below.refl _ _).alloc (Nat.le_refl _) _
  obtain ⟨T1, B1⟩ := h.below b0
  have HT := hide T1
  have s1 : Bytes w ab l := by rw [hl]; exact Bytes.take hb 4000
  have HB1 := hide (Seen.below s1 b0)
  have bl : AllB l := by rw [hl]; exact bb.take _
  have n1 : l.length ≤ 4000 := by rw [hl]; simp; omega
  have n2 : l.length ≤ cb := by omega
  have HLOW : Hid (l ≠ [] → ∀ ad, ab = some ad → ad.block < B) := fun hne => low (fun e => hne (by rw [hl, e]; rfl))
  have HP1 := hide (hp.below b0)
  have HTB := hide (Tab.below tab b0)
  clear hl hb s1 hp tab T1 h low b0
  go_enter Tryd.func27, Tryd.ntmps27
  go_wp2_with fail
  refine (cutB_any ab xb.length cb _ hcb hmb hnb).mono ?_
  rintro e w' ⟨rfl, hw'⟩
  subst hw'
  rw [e1]
  clear e1
  go_wp2_with fail
  refine (puts_any 12 wh n i at_ size ab l cb ap lp cp _ HB1.out bl n1 hnb ha hn).mono ?_
  rintro e w2 ⟨rfl, b2⟩
  obtain ⟨T2, B2⟩ := HT.out.below b2
  have HT2 := hide (Tbl.grow T2)
  have BL := B1.trans B2
  clear T2 B2 HT HB1 HP1 HTB b2
  go_wp2_with fail
  go_ret
  exact ⟨rfl, HT2.out, BL⟩

set_option maxHeartbeats 1000000 in
set_option maxRecDepth 100000 in
theorem plays_0 (k : Int) (hk : k < 1 ∨ 12 < k) (wh : Bool) (n : Nat) (i at_ size : Int) (ab : Option Addr) (xb : List Nat) (cb : Nat) (ap : Option Addr) (lp cp : Nat) (w : World) (B t m : Nat) (h : Tbl w B t m) (ok : OpOk w B n i at_ ab xb cb ap lp m) :
    Calls Tryd.prog 27 #[.pointer (some ⟨t, 0, none⟩), .agg (opC k wh n i at_ size ab xb.length cb ap lp cp)] w fun e w' => e = .returned (.bool true) ∧ Tbl w' B t (m + 1) ∧ Below B w w' := by
  obtain ⟨hm, hn, hi, ha, hb, bb, hcb, hmb, hnb, low, hp, hlp, tab⟩ := ok
  obtain ⟨l, hl⟩ : ∃ l, l = xb.take 4000 := ⟨_, rfl⟩
  have e1 : min xb.length 4000 = l.length := by rw [hl]; simp; omega
  have b0 : Below w.heap.size w (w.alloc (.cells #[.int .i64 k, .bool wh, .int .u64 (n : Int), .int .i64 i, .int .i64 at_, .int .i64 size, .slice ab l.length cb, .slice ap lp cp] 69)) := (Below.refl _ _).alloc (Nat.le_refl _) _
  obtain ⟨T1, B1⟩ := h.below b0
  have HT := hide T1
  have s1 : Bytes w ab l := by rw [hl]; exact Bytes.take hb 4000
  have HB1 := hide (Seen.below s1 b0)
  have bl : AllB l := by rw [hl]; exact bb.take _
  have n1 : l.length ≤ 4000 := by rw [hl]; simp; omega
  have n2 : l.length ≤ cb := by omega
  have HLOW : Hid (l ≠ [] → ∀ ad, ab = some ad → ad.block < B) := fun hne => low (fun e => hne (by rw [hl, e]; rfl))
  have HP1 := hide (hp.below b0)
  have HTB := hide (Tab.below tab b0)
  clear hl hb s1 hp tab T1 h low b0
  go_enter Tryd.func27, Tryd.ntmps27
  go_wp2_with fail
  refine (cutB_any ab xb.length cb _ hcb hmb hnb).mono ?_
  rintro e w' ⟨rfl, hw'⟩
  subst hw'
  rw [e1]
  clear e1
  have z1 : (k == 1) = false := by simp; omega
  have z2 : (k == 2) = false := by simp; omega
  have z3 : (k == 3) = false := by simp; omega
  have z4 : (k == 4) = false := by simp; omega
  have z5 : (k == 5) = false := by simp; omega
  have z6 : (k == 6) = false := by simp; omega
  have z7 : (k == 7) = false := by simp; omega
  have z8 : (k == 8) = false := by simp; omega
  have z9 : (k == 9) = false := by simp; omega
  have z10 : (k == 10) = false := by simp; omega
  have z11 : (k == 11) = false := by simp; omega
  have z12 : (k == 12) = false := by simp; omega
  go_wp2_with fail
  go_ret
  exact ⟨rfl, Tbl.grow HT.out, B1⟩

theorem plays_any (k : Int) (wh : Bool) (n : Nat) (i at_ size : Int) (ab : Option Addr) (xb : List Nat) (cb : Nat) (ap : Option Addr) (lp cp : Nat) (w : World) (B t m : Nat) (h : Tbl w B t m) (ok : OpOk w B n i at_ ab xb cb ap lp m) :
    Calls Tryd.prog 27 #[.pointer (some ⟨t, 0, none⟩), .agg (opC k wh n i at_ size ab xb.length cb ap lp cp)] w fun e w' => e = .returned (.bool true) ∧ Tbl w' B t (m + 1) ∧ Below B w w' := by
  by_cases h0 : k < 1 ∨ 12 < k
  · exact plays_0 k h0 wh n i at_ size ab xb cb ap lp cp w B t m h ok
  · have : k = 1 ∨ k = 2 ∨ k = 3 ∨ k = 4 ∨ k = 5 ∨ k = 6 ∨ k = 7 ∨ k = 8 ∨ k = 9 ∨ k = 10 ∨ k = 11 ∨ k = 12 := by omega
    rcases this with rfl | rfl | rfl | rfl | rfl | rfl | rfl | rfl | rfl | rfl | rfl | rfl
    · exact plays_1 wh n i at_ size ab xb cb ap lp cp w B t m h ok
    · exact plays_2 wh n i at_ size ab xb cb ap lp cp w B t m h ok
    · exact plays_3 wh n i at_ size ab xb cb ap lp cp w B t m h ok
    · exact plays_4 wh n i at_ size ab xb cb ap lp cp w B t m h ok
    · exact plays_5 wh n i at_ size ab xb cb ap lp cp w B t m h ok
    · exact plays_6 wh n i at_ size ab xb cb ap lp cp w B t m h ok
    · exact plays_7 wh n i at_ size ab xb cb ap lp cp w B t m h ok
    · exact plays_8 wh n i at_ size ab xb cb ap lp cp w B t m h ok
    · exact plays_9 wh n i at_ size ab xb cb ap lp cp w B t m h ok
    · exact plays_10 wh n i at_ size ab xb cb ap lp cp w B t m h ok
    · exact plays_11 wh n i at_ size ab xb cb ap lp cp w B t m h ok
    · exact plays_12 wh n i at_ size ab xb cb ap lp cp w B t m h ok
end Go.Proofs.YtllpfojkbeloeaaDoor
