import Derived.Test.YtlibldioliicfaaBig
import Derived.Test.YtlibldioliicfaaMk
namespace Go.Proofs.Ytlibldioliicfaa
open Go.RowKit Go.QK
set_option maxRecDepth 100000
theorem slice31 (a : Option Addr) (n c k : Nat) (ki : Int) (w : World) (hk : ki = (k : Int)) (h2 : k ≤ c) : (Instr.slice 31 (.slice a n c) none (some (.int .i64 ki)) none).run Try.prog w = .ok (.slice a k c) w := by
  subst hk
  go_simp
theorem slice32 (a : Option Addr) (n c k : Nat) (ki : Int) (w : World) (hk : ki = (k : Int)) (h2 : k ≤ c) : (Instr.slice 32 (.slice a n c) none (some (.int .i64 ki)) none).run Try.prog w = .ok (.slice a k c) w := by
  subst hk
  go_simp
set_option maxHeartbeats 2000000 in
theorem cut_00 (lsn kind tx prev wp wi sp si delta id grp lo hi val next : Int) (n m : Nat) (la da : Option Addr) (lc dc : Nat) (w : World) (hn : n ≤ 100) (hm : m ≤ 100) (hlc : n ≤ lc) (hdc : m ≤ dc) :
    Calls Try.prog 15 #[.agg #[.int .i64 lsn, .int .i64 kind, .int .i64 tx, .int .i64 prev, .int .i64 wp, .int .i64 wi, .int .i64 sp, .int .i64 si, .int .i64 delta, .int .i64 id, .int .i64 grp, .int .i64 lo, .int .i64 hi, .int .i64 val, .slice la n lc, .slice da m dc, .int .i64 next]] w fun e w' => e = .returned (.agg #[.int .i64 lsn, .int .i64 kind, .int .i64 tx, .int .i64 prev, .int .i64 wp, .int .i64 wi, .int .i64 sp, .int .i64 si, .int .i64 delta, .int .i64 id, .int .i64 grp, .int .i64 lo, .int .i64 hi, .int .i64 val, .slice la n lc, .slice da m dc, .int .i64 next]) ∧ Below w.heap.size w w' := by
  have _y1 := hide hlc
  have _y2 := hide hdc
  have sz : (w.alloc (.cells #[.int .i64 lsn, .int .i64 kind, .int .i64 tx, .int .i64 prev, .int .i64 wp, .int .i64 wi, .int .i64 sp, .int .i64 si, .int .i64 delta, .int .i64 id, .int .i64 grp, .int .i64 lo, .int .i64 hi, .int .i64 val, .slice la n lc, .slice da m dc, .int .i64 next] 36)).heap.size = w.heap.size + 1 := by simp
  have R0 := (RBox.new w #[.int .i64 lsn, .int .i64 kind, .int .i64 tx, .int .i64 prev, .int .i64 wp, .int .i64 wi, .int .i64 sp, .int .i64 si, .int .i64 delta, .int .i64 id, .int .i64 grp, .int .i64 lo, .int .i64 hi, .int .i64 val, .slice la n lc, .slice da m dc, .int .i64 next] 36).below (alloc_below (w.alloc (.cells #[.int .i64 lsn, .int .i64 kind, .int .i64 tx, .int .i64 prev, .int .i64 wp, .int .i64 wi, .int .i64 sp, .int .i64 si, .int .i64 delta, .int .i64 id, .int .i64 grp, .int .i64 lo, .int .i64 hi, .int .i64 val, .slice la n lc, .slice da m dc, .int .i64 next] 36)) (.cells #[.int .i64 0, .int .i64 0, .int .i64 0, .int .i64 0, .int .i64 0, .int .i64 0, .int .i64 0, .int .i64 0, .int .i64 0, .int .i64 0, .int .i64 0, .int .i64 0, .int .i64 0, .int .i64 0, .slice none 0 0, .slice none 0 0, .int .i64 0] 36))
  have Z0 := RBox.new (w.alloc (.cells #[.int .i64 lsn, .int .i64 kind, .int .i64 tx, .int .i64 prev, .int .i64 wp, .int .i64 wi, .int .i64 sp, .int .i64 si, .int .i64 delta, .int .i64 id, .int .i64 grp, .int .i64 lo, .int .i64 hi, .int .i64 val, .slice la n lc, .slice da m dc, .int .i64 next] 36)) #[.int .i64 0, .int .i64 0, .int .i64 0, .int .i64 0, .int .i64 0, .int .i64 0, .int .i64 0, .int .i64 0, .int .i64 0, .int .i64 0, .int .i64 0, .int .i64 0, .int .i64 0, .int .i64 0, .slice none 0 0, .slice none 0 0, .int .i64 0] 36
  rw [sz] at Z0
  have B0 := bnext (alloc_below w (.cells #[.int .i64 lsn, .int .i64 kind, .int .i64 tx, .int .i64 prev, .int .i64 wp, .int .i64 wi, .int .i64 sp, .int .i64 si, .int .i64 delta, .int .i64 id, .int .i64 grp, .int .i64 lo, .int .i64 hi, .int .i64 val, .slice la n lc, .slice da m dc, .int .i64 next] 36)) (alloc_below (w.alloc (.cells #[.int .i64 lsn, .int .i64 kind, .int .i64 tx, .int .i64 prev, .int .i64 wp, .int .i64 wi, .int .i64 sp, .int .i64 si, .int .i64 delta, .int .i64 id, .int .i64 grp, .int .i64 lo, .int .i64 hi, .int .i64 val, .slice la n lc, .slice da m dc, .int .i64 next] 36)) (.cells #[.int .i64 0, .int .i64 0, .int .i64 0, .int .i64 0, .int .i64 0, .int .i64 0, .int .i64 0, .int .i64 0, .int .i64 0, .int .i64 0, .int .i64 0, .int .i64 0, .int .i64 0, .int .i64 0, .slice none 0 0, .slice none 0 0, .int .i64 0] 36)) (Nat.le_refl _)
  generalize hw0 : (w.alloc (.cells #[.int .i64 lsn, .int .i64 kind, .int .i64 tx, .int .i64 prev, .int .i64 wp, .int .i64 wi, .int .i64 sp, .int .i64 si, .int .i64 delta, .int .i64 id, .int .i64 grp, .int .i64 lo, .int .i64 hi, .int .i64 val, .slice la n lc, .slice da m dc, .int .i64 next] 36)).alloc (.cells #[.int .i64 0, .int .i64 0, .int .i64 0, .int .i64 0, .int .i64 0, .int .i64 0, .int .i64 0, .int .i64 0, .int .i64 0, .int .i64 0, .int .i64 0, .int .i64 0, .int .i64 0, .int .i64 0, .slice none 0 0, .slice none 0 0, .int .i64 0] 36) = w0 at *
  have hg1 : decide ((100 : Int) < (n : Int)) = false := by simp; omega
  have hg2 : decide ((100 : Int) < (m : Int)) = false := by simp; omega
  have s1 := fun w => slice31 la n lc 100 100 w rfl
  have s2 := fun w => slice32 da m dc 100 100 w rfl
  have hl1 : True := by trivial
  have hd1 : True := by trivial
  clear s1
  clear s2
  have HW0 := hide hw0
  have R0 := hide R0
  have Z0 := hide Z0
  have B0 := hide B0
  clear hw0 sz
  go_enter Try.func15, Try.ntmps15
  go_upto_region 1 with fail
  rw [HW0.out]
  clear HW0
  generalize Value.agg #[.int .i64 lsn, .int .i64 kind, .int .i64 tx, .int .i64 prev, .int .i64 wp, .int .i64 wi, .int .i64 sp, .int .i64 si, .int .i64 delta, .int .i64 id, .int .i64 grp, .int .i64 lo, .int .i64 hi, .int .i64 val, .slice la n lc, .slice da m dc, .int .i64 next] = va
  have k14 := (R0.out.cells.get 14 _ rfl).1
  have z14 := (R0.out.cells.get 14 _ rfl).2
  have k15 := (R0.out.cells.get 15 _ rfl).1
  have z15 := (R0.out.cells.get 15 _ rfl).2
  go_upto_region 3 with fail
  have R1 := hide R0.out
  have Z1 := hide Z0.out
  have B1 := hide B0.out
  obtain ⟨w1, hw1⟩ : ∃ w1, w1 = w0 := ⟨_, rfl⟩
  rw [← hw1] at R1 Z1 B1 k15 z15 ⊢
  clear hw1 R0 Z0 B0 k14 z14
  go_upto_region 5 with fail
  have R2 := hide R1.out
  have Z2 := hide Z1.out
  have B2 := hide B1.out
  go_wp2_with (first | refine wpList_load36 R2.out rfl rfl ?_ | (refine wpList_store36 Z2.out rfl rfl rfl rfl rfl ?_; intro wf hbf hkf))
  exact bodyPost_ret (results_box rfl _ _ rfl hbf rfl) rfl ⟨rfl, B2.out.trans (hkf.below B2.out.size (fun k hk q => by omega))⟩
set_option maxHeartbeats 2000000 in
theorem cut_01 (lsn kind tx prev wp wi sp si delta id grp lo hi val next : Int) (n m : Nat) (la da : Option Addr) (lc dc : Nat) (w : World) (hn : n ≤ 100) (hm : 100 < m) (hlc : n ≤ lc) (hdc : m ≤ dc) :
    Calls Try.prog 15 #[.agg #[.int .i64 lsn, .int .i64 kind, .int .i64 tx, .int .i64 prev, .int .i64 wp, .int .i64 wi, .int .i64 sp, .int .i64 si, .int .i64 delta, .int .i64 id, .int .i64 grp, .int .i64 lo, .int .i64 hi, .int .i64 val, .slice la n lc, .slice da m dc, .int .i64 next]] w fun e w' => e = .returned (.agg #[.int .i64 lsn, .int .i64 kind, .int .i64 tx, .int .i64 prev, .int .i64 wp, .int .i64 wi, .int .i64 sp, .int .i64 si, .int .i64 delta, .int .i64 id, .int .i64 grp, .int .i64 lo, .int .i64 hi, .int .i64 val, .slice la n lc, .slice da 100 dc, .int .i64 next]) ∧ Below w.heap.size w w' := by
  have _y1 := hide hlc
  have _y2 := hide hdc
  have sz : (w.alloc (.cells #[.int .i64 lsn, .int .i64 kind, .int .i64 tx, .int .i64 prev, .int .i64 wp, .int .i64 wi, .int .i64 sp, .int .i64 si, .int .i64 delta, .int .i64 id, .int .i64 grp, .int .i64 lo, .int .i64 hi, .int .i64 val, .slice la n lc, .slice da m dc, .int .i64 next] 36)).heap.size = w.heap.size + 1 := by simp
  have R0 := (RBox.new w #[.int .i64 lsn, .int .i64 kind, .int .i64 tx, .int .i64 prev, .int .i64 wp, .int .i64 wi, .int .i64 sp, .int .i64 si, .int .i64 delta, .int .i64 id, .int .i64 grp, .int .i64 lo, .int .i64 hi, .int .i64 val, .slice la n lc, .slice da m dc, .int .i64 next] 36).below (alloc_below (w.alloc (.cells #[.int .i64 lsn, .int .i64 kind, .int .i64 tx, .int .i64 prev, .int .i64 wp, .int .i64 wi, .int .i64 sp, .int .i64 si, .int .i64 delta, .int .i64 id, .int .i64 grp, .int .i64 lo, .int .i64 hi, .int .i64 val, .slice la n lc, .slice da m dc, .int .i64 next] 36)) (.cells #[.int .i64 0, .int .i64 0, .int .i64 0, .int .i64 0, .int .i64 0, .int .i64 0, .int .i64 0, .int .i64 0, .int .i64 0, .int .i64 0, .int .i64 0, .int .i64 0, .int .i64 0, .int .i64 0, .slice none 0 0, .slice none 0 0, .int .i64 0] 36))
  have Z0 := RBox.new (w.alloc (.cells #[.int .i64 lsn, .int .i64 kind, .int .i64 tx, .int .i64 prev, .int .i64 wp, .int .i64 wi, .int .i64 sp, .int .i64 si, .int .i64 delta, .int .i64 id, .int .i64 grp, .int .i64 lo, .int .i64 hi, .int .i64 val, .slice la n lc, .slice da m dc, .int .i64 next] 36)) #[.int .i64 0, .int .i64 0, .int .i64 0, .int .i64 0, .int .i64 0, .int .i64 0, .int .i64 0, .int .i64 0, .int .i64 0, .int .i64 0, .int .i64 0, .int .i64 0, .int .i64 0, .int .i64 0, .slice none 0 0, .slice none 0 0, .int .i64 0] 36
  rw [sz] at Z0
  have B0 := bnext (alloc_below w (.cells #[.int .i64 lsn, .int .i64 kind, .int .i64 tx, .int .i64 prev, .int .i64 wp, .int .i64 wi, .int .i64 sp, .int .i64 si, .int .i64 delta, .int .i64 id, .int .i64 grp, .int .i64 lo, .int .i64 hi, .int .i64 val, .slice la n lc, .slice da m dc, .int .i64 next] 36)) (alloc_below (w.alloc (.cells #[.int .i64 lsn, .int .i64 kind, .int .i64 tx, .int .i64 prev, .int .i64 wp, .int .i64 wi, .int .i64 sp, .int .i64 si, .int .i64 delta, .int .i64 id, .int .i64 grp, .int .i64 lo, .int .i64 hi, .int .i64 val, .slice la n lc, .slice da m dc, .int .i64 next] 36)) (.cells #[.int .i64 0, .int .i64 0, .int .i64 0, .int .i64 0, .int .i64 0, .int .i64 0, .int .i64 0, .int .i64 0, .int .i64 0, .int .i64 0, .int .i64 0, .int .i64 0, .int .i64 0, .int .i64 0, .slice none 0 0, .slice none 0 0, .int .i64 0] 36)) (Nat.le_refl _)
  generalize hw0 : (w.alloc (.cells #[.int .i64 lsn, .int .i64 kind, .int .i64 tx, .int .i64 prev, .int .i64 wp, .int .i64 wi, .int .i64 sp, .int .i64 si, .int .i64 delta, .int .i64 id, .int .i64 grp, .int .i64 lo, .int .i64 hi, .int .i64 val, .slice la n lc, .slice da m dc, .int .i64 next] 36)).alloc (.cells #[.int .i64 0, .int .i64 0, .int .i64 0, .int .i64 0, .int .i64 0, .int .i64 0, .int .i64 0, .int .i64 0, .int .i64 0, .int .i64 0, .int .i64 0, .int .i64 0, .int .i64 0, .int .i64 0, .slice none 0 0, .slice none 0 0, .int .i64 0] 36) = w0 at *
  have hg1 : decide ((100 : Int) < (n : Int)) = false := by simp; omega
  have hg2 : decide ((100 : Int) < (m : Int)) = true := by simp; omega
  have s1 := fun w => slice31 la n lc 100 100 w rfl
  have s2 := fun w => slice32 da m dc 100 100 w rfl
  have hl1 : True := by trivial
  have hd1 : (100 : Nat) ≤ dc := by omega
  clear s1
  replace s2 := fun w => s2 w hd1
  have HW0 := hide hw0
  have R0 := hide R0
  have Z0 := hide Z0
  have B0 := hide B0
  clear hw0 sz
  go_enter Try.func15, Try.ntmps15
  go_upto_region 1 with fail
  rw [HW0.out]
  clear HW0
  generalize Value.agg #[.int .i64 lsn, .int .i64 kind, .int .i64 tx, .int .i64 prev, .int .i64 wp, .int .i64 wi, .int .i64 sp, .int .i64 si, .int .i64 delta, .int .i64 id, .int .i64 grp, .int .i64 lo, .int .i64 hi, .int .i64 val, .slice la n lc, .slice da m dc, .int .i64 next] = va
  have k14 := (R0.out.cells.get 14 _ rfl).1
  have z14 := (R0.out.cells.get 14 _ rfl).2
  have k15 := (R0.out.cells.get 15 _ rfl).1
  have z15 := (R0.out.cells.get 15 _ rfl).2
  go_upto_region 3 with fail
  have R1 := hide R0.out
  have Z1 := hide Z0.out
  have B1 := hide B0.out
  obtain ⟨w1, hw1⟩ : ∃ w1, w1 = w0 := ⟨_, rfl⟩
  rw [← hw1] at R1 Z1 B1 k15 z15 ⊢
  clear hw1 R0 Z0 B0 k14 z14
  go_upto_region 5 with fail
  have R2 := R1.out.setCell 15 (.slice da 100 dc)
  simp only [List.setIfInBounds_toArray, List.set_cons_zero, List.set_cons_succ] at R2
  have kk2 : Keep (fun k => k = w.heap.size) w1 (w1.setCell ⟨w.heap.size, 15, none⟩ (.slice da 100 dc)) := (Keep.refl (fun k => k = w.heap.size) w1).setCell (fun _ => rfl) _
  have Z2 := hide (Z1.out.keep kk2 (by omega))
  have B2 := hide (B1.out.trans (kk2.below B1.out.size (fun k hk q => by omega)))
  generalize w1.setCell ⟨w.heap.size, 15, none⟩ (.slice da 100 dc) = w2 at *
  have R2 := hide R2
  go_wp2_with (first | refine wpList_load36 R2.out rfl rfl ?_ | (refine wpList_store36 Z2.out rfl rfl rfl rfl rfl ?_; intro wf hbf hkf))
  exact bodyPost_ret (results_box rfl _ _ rfl hbf rfl) rfl ⟨rfl, B2.out.trans (hkf.below B2.out.size (fun k hk q => by omega))⟩
set_option maxHeartbeats 2000000 in
theorem cut_10 (lsn kind tx prev wp wi sp si delta id grp lo hi val next : Int) (n m : Nat) (la da : Option Addr) (lc dc : Nat) (w : World) (hn : 100 < n) (hm : m ≤ 100) (hlc : n ≤ lc) (hdc : m ≤ dc) :
    Calls Try.prog 15 #[.agg #[.int .i64 lsn, .int .i64 kind, .int .i64 tx, .int .i64 prev, .int .i64 wp, .int .i64 wi, .int .i64 sp, .int .i64 si, .int .i64 delta, .int .i64 id, .int .i64 grp, .int .i64 lo, .int .i64 hi, .int .i64 val, .slice la n lc, .slice da m dc, .int .i64 next]] w fun e w' => e = .returned (.agg #[.int .i64 lsn, .int .i64 kind, .int .i64 tx, .int .i64 prev, .int .i64 wp, .int .i64 wi, .int .i64 sp, .int .i64 si, .int .i64 delta, .int .i64 id, .int .i64 grp, .int .i64 lo, .int .i64 hi, .int .i64 val, .slice la 100 lc, .slice da m dc, .int .i64 next]) ∧ Below w.heap.size w w' := by
  have _y1 := hide hlc
  have _y2 := hide hdc
  have sz : (w.alloc (.cells #[.int .i64 lsn, .int .i64 kind, .int .i64 tx, .int .i64 prev, .int .i64 wp, .int .i64 wi, .int .i64 sp, .int .i64 si, .int .i64 delta, .int .i64 id, .int .i64 grp, .int .i64 lo, .int .i64 hi, .int .i64 val, .slice la n lc, .slice da m dc, .int .i64 next] 36)).heap.size = w.heap.size + 1 := by simp
  have R0 := (RBox.new w #[.int .i64 lsn, .int .i64 kind, .int .i64 tx, .int .i64 prev, .int .i64 wp, .int .i64 wi, .int .i64 sp, .int .i64 si, .int .i64 delta, .int .i64 id, .int .i64 grp, .int .i64 lo, .int .i64 hi, .int .i64 val, .slice la n lc, .slice da m dc, .int .i64 next] 36).below (alloc_below (w.alloc (.cells #[.int .i64 lsn, .int .i64 kind, .int .i64 tx, .int .i64 prev, .int .i64 wp, .int .i64 wi, .int .i64 sp, .int .i64 si, .int .i64 delta, .int .i64 id, .int .i64 grp, .int .i64 lo, .int .i64 hi, .int .i64 val, .slice la n lc, .slice da m dc, .int .i64 next] 36)) (.cells #[.int .i64 0, .int .i64 0, .int .i64 0, .int .i64 0, .int .i64 0, .int .i64 0, .int .i64 0, .int .i64 0, .int .i64 0, .int .i64 0, .int .i64 0, .int .i64 0, .int .i64 0, .int .i64 0, .slice none 0 0, .slice none 0 0, .int .i64 0] 36))
  have Z0 := RBox.new (w.alloc (.cells #[.int .i64 lsn, .int .i64 kind, .int .i64 tx, .int .i64 prev, .int .i64 wp, .int .i64 wi, .int .i64 sp, .int .i64 si, .int .i64 delta, .int .i64 id, .int .i64 grp, .int .i64 lo, .int .i64 hi, .int .i64 val, .slice la n lc, .slice da m dc, .int .i64 next] 36)) #[.int .i64 0, .int .i64 0, .int .i64 0, .int .i64 0, .int .i64 0, .int .i64 0, .int .i64 0, .int .i64 0, .int .i64 0, .int .i64 0, .int .i64 0, .int .i64 0, .int .i64 0, .int .i64 0, .slice none 0 0, .slice none 0 0, .int .i64 0] 36
  rw [sz] at Z0
  have B0 := bnext (alloc_below w (.cells #[.int .i64 lsn, .int .i64 kind, .int .i64 tx, .int .i64 prev, .int .i64 wp, .int .i64 wi, .int .i64 sp, .int .i64 si, .int .i64 delta, .int .i64 id, .int .i64 grp, .int .i64 lo, .int .i64 hi, .int .i64 val, .slice la n lc, .slice da m dc, .int .i64 next] 36)) (alloc_below (w.alloc (.cells #[.int .i64 lsn, .int .i64 kind, .int .i64 tx, .int .i64 prev, .int .i64 wp, .int .i64 wi, .int .i64 sp, .int .i64 si, .int .i64 delta, .int .i64 id, .int .i64 grp, .int .i64 lo, .int .i64 hi, .int .i64 val, .slice la n lc, .slice da m dc, .int .i64 next] 36)) (.cells #[.int .i64 0, .int .i64 0, .int .i64 0, .int .i64 0, .int .i64 0, .int .i64 0, .int .i64 0, .int .i64 0, .int .i64 0, .int .i64 0, .int .i64 0, .int .i64 0, .int .i64 0, .int .i64 0, .slice none 0 0, .slice none 0 0, .int .i64 0] 36)) (Nat.le_refl _)
  generalize hw0 : (w.alloc (.cells #[.int .i64 lsn, .int .i64 kind, .int .i64 tx, .int .i64 prev, .int .i64 wp, .int .i64 wi, .int .i64 sp, .int .i64 si, .int .i64 delta, .int .i64 id, .int .i64 grp, .int .i64 lo, .int .i64 hi, .int .i64 val, .slice la n lc, .slice da m dc, .int .i64 next] 36)).alloc (.cells #[.int .i64 0, .int .i64 0, .int .i64 0, .int .i64 0, .int .i64 0, .int .i64 0, .int .i64 0, .int .i64 0, .int .i64 0, .int .i64 0, .int .i64 0, .int .i64 0, .int .i64 0, .int .i64 0, .slice none 0 0, .slice none 0 0, .int .i64 0] 36) = w0 at *
  have hg1 : decide ((100 : Int) < (n : Int)) = true := by simp; omega
  have hg2 : decide ((100 : Int) < (m : Int)) = false := by simp; omega
  have s1 := fun w => slice31 la n lc 100 100 w rfl
  have s2 := fun w => slice32 da m dc 100 100 w rfl
  have hl1 : (100 : Nat) ≤ lc := by omega
  have hd1 : True := by trivial
  replace s1 := fun w => s1 w hl1
  clear s2
  have HW0 := hide hw0
  have R0 := hide R0
  have Z0 := hide Z0
  have B0 := hide B0
  clear hw0 sz
  go_enter Try.func15, Try.ntmps15
  go_upto_region 1 with fail
  rw [HW0.out]
  clear HW0
  generalize Value.agg #[.int .i64 lsn, .int .i64 kind, .int .i64 tx, .int .i64 prev, .int .i64 wp, .int .i64 wi, .int .i64 sp, .int .i64 si, .int .i64 delta, .int .i64 id, .int .i64 grp, .int .i64 lo, .int .i64 hi, .int .i64 val, .slice la n lc, .slice da m dc, .int .i64 next] = va
  have k14 := (R0.out.cells.get 14 _ rfl).1
  have z14 := (R0.out.cells.get 14 _ rfl).2
  have k15 := (R0.out.cells.get 15 _ rfl).1
  have z15 := (R0.out.cells.get 15 _ rfl).2
  go_upto_region 3 with fail
  have R1 := R0.out.setCell 14 (.slice la 100 lc)
  simp only [List.setIfInBounds_toArray, List.set_cons_zero, List.set_cons_succ] at R1
  have kk1 : Keep (fun k => k = w.heap.size) w0 (w0.setCell ⟨w.heap.size, 14, none⟩ (.slice la 100 lc)) := (Keep.refl (fun k => k = w.heap.size) w0).setCell (fun _ => rfl) _
  have Z1 := Z0.out.keep kk1 (by omega)
  have B1 := B0.out.trans (kk1.below B0.out.size (fun k hk q => by omega))
  generalize w0.setCell ⟨w.heap.size, 14, none⟩ (.slice la 100 lc) = w1 at *
  have R1 := hide R1
  have Z1 := hide Z1
  have B1 := hide B1
  clear k14 z14 k15 z15 kk1 R0 Z0 B0
  have k15 := (R1.out.cells.get 15 _ rfl).1
  have z15 := (R1.out.cells.get 15 _ rfl).2
  go_upto_region 5 with fail
  have R2 := hide R1.out
  have Z2 := hide Z1.out
  have B2 := hide B1.out
  go_wp2_with (first | refine wpList_load36 R2.out rfl rfl ?_ | (refine wpList_store36 Z2.out rfl rfl rfl rfl rfl ?_; intro wf hbf hkf))
  exact bodyPost_ret (results_box rfl _ _ rfl hbf rfl) rfl ⟨rfl, B2.out.trans (hkf.below B2.out.size (fun k hk q => by omega))⟩
set_option maxHeartbeats 2000000 in
theorem cut_11 (lsn kind tx prev wp wi sp si delta id grp lo hi val next : Int) (n m : Nat) (la da : Option Addr) (lc dc : Nat) (w : World) (hn : 100 < n) (hm : 100 < m) (hlc : n ≤ lc) (hdc : m ≤ dc) :
    Calls Try.prog 15 #[.agg #[.int .i64 lsn, .int .i64 kind, .int .i64 tx, .int .i64 prev, .int .i64 wp, .int .i64 wi, .int .i64 sp, .int .i64 si, .int .i64 delta, .int .i64 id, .int .i64 grp, .int .i64 lo, .int .i64 hi, .int .i64 val, .slice la n lc, .slice da m dc, .int .i64 next]] w fun e w' => e = .returned (.agg #[.int .i64 lsn, .int .i64 kind, .int .i64 tx, .int .i64 prev, .int .i64 wp, .int .i64 wi, .int .i64 sp, .int .i64 si, .int .i64 delta, .int .i64 id, .int .i64 grp, .int .i64 lo, .int .i64 hi, .int .i64 val, .slice la 100 lc, .slice da 100 dc, .int .i64 next]) ∧ Below w.heap.size w w' := by
  have _y1 := hide hlc
  have _y2 := hide hdc
  have sz : (w.alloc (.cells #[.int .i64 lsn, .int .i64 kind, .int .i64 tx, .int .i64 prev, .int .i64 wp, .int .i64 wi, .int .i64 sp, .int .i64 si, .int .i64 delta, .int .i64 id, .int .i64 grp, .int .i64 lo, .int .i64 hi, .int .i64 val, .slice la n lc, .slice da m dc, .int .i64 next] 36)).heap.size = w.heap.size + 1 := by simp
  have R0 := (RBox.new w #[.int .i64 lsn, .int .i64 kind, .int .i64 tx, .int .i64 prev, .int .i64 wp, .int .i64 wi, .int .i64 sp, .int .i64 si, .int .i64 delta, .int .i64 id, .int .i64 grp, .int .i64 lo, .int .i64 hi, .int .i64 val, .slice la n lc, .slice da m dc, .int .i64 next] 36).below (alloc_below (w.alloc (.cells #[.int .i64 lsn, .int .i64 kind, .int .i64 tx, .int .i64 prev, .int .i64 wp, .int .i64 wi, .int .i64 sp, .int .i64 si, .int .i64 delta, .int .i64 id, .int .i64 grp, .int .i64 lo, .int .i64 hi, .int .i64 val, .slice la n lc, .slice da m dc, .int .i64 next] 36)) (.cells #[.int .i64 0, .int .i64 0, .int .i64 0, .int .i64 0, .int .i64 0, .int .i64 0, .int .i64 0, .int .i64 0, .int .i64 0, .int .i64 0, .int .i64 0, .int .i64 0, .int .i64 0, .int .i64 0, .slice none 0 0, .slice none 0 0, .int .i64 0] 36))
  have Z0 := RBox.new (w.alloc (.cells #[.int .i64 lsn, .int .i64 kind, .int .i64 tx, .int .i64 prev, .int .i64 wp, .int .i64 wi, .int .i64 sp, .int .i64 si, .int .i64 delta, .int .i64 id, .int .i64 grp, .int .i64 lo, .int .i64 hi, .int .i64 val, .slice la n lc, .slice da m dc, .int .i64 next] 36)) #[.int .i64 0, .int .i64 0, .int .i64 0, .int .i64 0, .int .i64 0, .int .i64 0, .int .i64 0, .int .i64 0, .int .i64 0, .int .i64 0, .int .i64 0, .int .i64 0, .int .i64 0, .int .i64 0, .slice none 0 0, .slice none 0 0, .int .i64 0] 36
  rw [sz] at Z0
  have B0 := bnext (alloc_below w (.cells #[.int .i64 lsn, .int .i64 kind, .int .i64 tx, .int .i64 prev, .int .i64 wp, .int .i64 wi, .int .i64 sp, .int .i64 si, .int .i64 delta, .int .i64 id, .int .i64 grp, .int .i64 lo, .int .i64 hi, .int .i64 val, .slice la n lc, .slice da m dc, .int .i64 next] 36)) (alloc_below (w.alloc (.cells #[.int .i64 lsn, .int .i64 kind, .int .i64 tx, .int .i64 prev, .int .i64 wp, .int .i64 wi, .int .i64 sp, .int .i64 si, .int .i64 delta, .int .i64 id, .int .i64 grp, .int .i64 lo, .int .i64 hi, .int .i64 val, .slice la n lc, .slice da m dc, .int .i64 next] 36)) (.cells #[.int .i64 0, .int .i64 0, .int .i64 0, .int .i64 0, .int .i64 0, .int .i64 0, .int .i64 0, .int .i64 0, .int .i64 0, .int .i64 0, .int .i64 0, .int .i64 0, .int .i64 0, .int .i64 0, .slice none 0 0, .slice none 0 0, .int .i64 0] 36)) (Nat.le_refl _)
  generalize hw0 : (w.alloc (.cells #[.int .i64 lsn, .int .i64 kind, .int .i64 tx, .int .i64 prev, .int .i64 wp, .int .i64 wi, .int .i64 sp, .int .i64 si, .int .i64 delta, .int .i64 id, .int .i64 grp, .int .i64 lo, .int .i64 hi, .int .i64 val, .slice la n lc, .slice da m dc, .int .i64 next] 36)).alloc (.cells #[.int .i64 0, .int .i64 0, .int .i64 0, .int .i64 0, .int .i64 0, .int .i64 0, .int .i64 0, .int .i64 0, .int .i64 0, .int .i64 0, .int .i64 0, .int .i64 0, .int .i64 0, .int .i64 0, .slice none 0 0, .slice none 0 0, .int .i64 0] 36) = w0 at *
  have hg1 : decide ((100 : Int) < (n : Int)) = true := by simp; omega
  have hg2 : decide ((100 : Int) < (m : Int)) = true := by simp; omega
  have s1 := fun w => slice31 la n lc 100 100 w rfl
  have s2 := fun w => slice32 da m dc 100 100 w rfl
  have hl1 : (100 : Nat) ≤ lc := by omega
  have hd1 : (100 : Nat) ≤ dc := by omega
  replace s1 := fun w => s1 w hl1
  replace s2 := fun w => s2 w hd1
  have HW0 := hide hw0
  have R0 := hide R0
  have Z0 := hide Z0
  have B0 := hide B0
  clear hw0 sz
  go_enter Try.func15, Try.ntmps15
  go_upto_region 1 with fail
  rw [HW0.out]
  clear HW0
  generalize Value.agg #[.int .i64 lsn, .int .i64 kind, .int .i64 tx, .int .i64 prev, .int .i64 wp, .int .i64 wi, .int .i64 sp, .int .i64 si, .int .i64 delta, .int .i64 id, .int .i64 grp, .int .i64 lo, .int .i64 hi, .int .i64 val, .slice la n lc, .slice da m dc, .int .i64 next] = va
  have k14 := (R0.out.cells.get 14 _ rfl).1
  have z14 := (R0.out.cells.get 14 _ rfl).2
  have k15 := (R0.out.cells.get 15 _ rfl).1
  have z15 := (R0.out.cells.get 15 _ rfl).2
  go_upto_region 3 with fail
  have R1 := R0.out.setCell 14 (.slice la 100 lc)
  simp only [List.setIfInBounds_toArray, List.set_cons_zero, List.set_cons_succ] at R1
  have kk1 : Keep (fun k => k = w.heap.size) w0 (w0.setCell ⟨w.heap.size, 14, none⟩ (.slice la 100 lc)) := (Keep.refl (fun k => k = w.heap.size) w0).setCell (fun _ => rfl) _
  have Z1 := Z0.out.keep kk1 (by omega)
  have B1 := B0.out.trans (kk1.below B0.out.size (fun k hk q => by omega))
  generalize w0.setCell ⟨w.heap.size, 14, none⟩ (.slice la 100 lc) = w1 at *
  have R1 := hide R1
  have Z1 := hide Z1
  have B1 := hide B1
  clear k14 z14 k15 z15 kk1 R0 Z0 B0
  have k15 := (R1.out.cells.get 15 _ rfl).1
  have z15 := (R1.out.cells.get 15 _ rfl).2
  go_upto_region 5 with fail
  have R2 := R1.out.setCell 15 (.slice da 100 dc)
  simp only [List.setIfInBounds_toArray, List.set_cons_zero, List.set_cons_succ] at R2
  have kk2 : Keep (fun k => k = w.heap.size) w1 (w1.setCell ⟨w.heap.size, 15, none⟩ (.slice da 100 dc)) := (Keep.refl (fun k => k = w.heap.size) w1).setCell (fun _ => rfl) _
  have Z2 := hide (Z1.out.keep kk2 (by omega))
  have B2 := hide (B1.out.trans (kk2.below B1.out.size (fun k hk q => by omega)))
  generalize w1.setCell ⟨w.heap.size, 15, none⟩ (.slice da 100 dc) = w2 at *
  have R2 := hide R2
  go_wp2_with (first | refine wpList_load36 R2.out rfl rfl ?_ | (refine wpList_store36 Z2.out rfl rfl rfl rfl rfl ?_; intro wf hbf hkf))
  exact bodyPost_ret (results_box rfl _ _ rfl hbf rfl) rfl ⟨rfl, B2.out.trans (hkf.below B2.out.size (fun k hk q => by omega))⟩

def cutR (r : RecM) : RecM := { r with live := r.live.take 100, dirty := r.dirty.take 100 }
theorem Lies.front {w : World} {a : Option Addr} {cs ds : List Value} (h : Lies w a (cs ++ ds)) : Lies w a cs := by
  rcases h with h | ⟨b, off, e, hb, hc⟩
  · exact .inl (List.append_eq_nil_iff.1 h).1
  · exact .inr ⟨b, off, e, hb, fun i hi => by rw [hc i (by rw [List.length_append]; omega), List.getElem_append_left hi]⟩
theorem Lies.takeL {w : World} {a : Option Addr} {ls : List LiveM} (h : Lies w a (liveCs ls)) (n : Nat) : Lies w a (liveCs (ls.take n)) := by
  rw [← List.take_append_drop n ls] at h
  unfold liveCs at h
  rw [List.flatMap_append] at h
  exact Lies.front h
theorem Lies.takeD {w : World} {a : Option Addr} {ls : List DirtyM} (h : Lies w a (dirtyCs ls)) (n : Nat) : Lies w a (dirtyCs (ls.take n)) := by
  rw [← List.take_append_drop n ls] at h
  unfold dirtyCs at h
  rw [List.flatMap_append] at h
  exact Lies.front h
theorem cut_any (r : RecM) (la da : Option Addr) (lc dc : Nat) (w : World) (hlc : r.live.length ≤ lc) (hdc : r.dirty.length ≤ dc) :
    Calls Try.prog 15 #[.agg (recC r la lc da dc)] w fun e w' => e = .returned (.agg (recC (cutR r) la lc da dc)) ∧ Below w.heap.size w w' := by
  obtain ⟨lsn, kind, tx, prev, wp, wi, sp, si, delta, id, grp, lo, hi, val, live, dirty, next⟩ := r
  simp only [recC, cutR, List.length_take] at *
  by_cases h1 : live.length ≤ 100
  · rw [Nat.min_eq_right h1]
    by_cases h2 : dirty.length ≤ 100
    · rw [Nat.min_eq_right h2]
      exact cut_00 lsn kind tx prev wp wi sp si delta id grp lo hi val next live.length dirty.length la da lc dc w h1 h2 hlc hdc
    · rw [Nat.min_eq_left (by omega)]
      exact cut_01 lsn kind tx prev wp wi sp si delta id grp lo hi val next live.length dirty.length la da lc dc w h1 (by omega) hlc hdc
  · rw [Nat.min_eq_left (a := 100) (b := live.length) (by omega)]
    by_cases h2 : dirty.length ≤ 100
    · rw [Nat.min_eq_right h2]
      exact cut_10 lsn kind tx prev wp wi sp si delta id grp lo hi val next live.length dirty.length la da lc dc w (by omega) h2 hlc hdc
    · rw [Nat.min_eq_left (by omega)]
      exact cut_11 lsn kind tx prev wp wi sp si delta id grp lo hi val next live.length dirty.length la da lc dc w (by omega) (by omega) hlc hdc
end Go.Proofs.Ytlibldioliicfaa
