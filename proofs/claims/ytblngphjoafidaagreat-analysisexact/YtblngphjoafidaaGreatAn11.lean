import Derived.Test.YtblngphjoafidaaGreatAn8
namespace Go.Proofs.YtblngphjoafidaaGreat
open Go.RowKit Go.QK Go.Maps Go.QM Go.QT
set_option maxRecDepth 100000
/-! What the statements compare. -/
def LP (F : FoundM) (la da : Option Addr) (w : World) : Prop := Lies w la (rowsC lvC F.live) ∧ Lies w da (dirtyCs F.dirty)
set_option maxHeartbeats 4000000 in
theorem same_true (F : FoundM) (la da lb db : Option Addr) (n m c1 c2 c3 c4 : Nat) (w : World) (h1 : Lies w la (rowsC lvC F.live)) (h2 : Lies w lb (rowsC lvC F.live)) (h3 : Lies w da (dirtyCs F.dirty)) (h4 : Lies w db (dirtyCs F.dirty)) (hn : n = F.live.length) (hm : m = F.dirty.length) (hn6 : n ≤ 1000000) (hm6 : m ≤ 1000000) :
    Calls Tryz.prog 10 #[.agg (fdA (.slice la n c1) (.slice da m c2) F), .agg (fdA (.slice lb n c3) (.slice db m c4) F)] w fun e w' => e = .returned (.bool true) ∧ Below w.heap.size w w' := by
  have HN := hide hn
  have HM := hide hm
  have H1 := hide h1
  have H2 := hide h2
  have H3 := hide h3
  have H4 := hide h4
  clear hn hm h1 h2 h3 h4
  go_enter Tryz.func10, Tryz.ntmps10
  go_upto_region 1 with fail
  refine named (P := Code.wp _ _ _ _) ?_
  intro w1 hw1
  obtain ⟨ab, hab⟩ : ∃ b, b = w.heap.size := ⟨_, rfl⟩
  obtain ⟨bb, hbb⟩ : ∃ b, b = w.heap.size + 1 := ⟨_, rfl⟩
  have A1 := hide (show Cells w1 ab [.slice la n c1, .slice da m c2, .int .i64 F.fr, .int .i64 F.next] by rw [hw1, hab]; exact (Cells.new w #[.slice la n c1, .slice da m c2, .int .i64 F.fr, .int .i64 F.next] 34).below (alloc_below _ _))
  have C1 := hide (show Cells w1 bb [.slice lb n c3, .slice db m c4, .int .i64 F.fr, .int .i64 F.next] by
    have q := Cells.new (w.alloc (.cells #[.slice la n c1, .slice da m c2, .int .i64 F.fr, .int .i64 F.next] 34)) #[.slice lb n c3, .slice db m c4, .int .i64 F.fr, .int .i64 F.next] 38
    rw [World.size_alloc] at q
    rw [hw1, hbb]
    exact q)
  have B1 := hide (show Below w.heap.size w w1 by rw [hw1]; exact bnext (alloc_below _ _) (alloc_below _ _) (Nat.le_refl _))
  rw [← hbb, ← hab]
  clear hw1 hab hbb
  obtain ⟨a0, -⟩ := A1.out.get 0 _ rfl
  obtain ⟨a1, -⟩ := A1.out.get 1 _ rfl
  obtain ⟨a2, -⟩ := A1.out.get 2 _ rfl
  obtain ⟨a3, -⟩ := A1.out.get 3 _ rfl
  obtain ⟨b0, -⟩ := C1.out.get 0 _ rfl
  obtain ⟨b1, -⟩ := C1.out.get 1 _ rfl
  obtain ⟨b2, -⟩ := C1.out.get 2 _ rfl
  obtain ⟨b3, -⟩ := C1.out.get 3 _ rfl
  go_wp2_with fail
  clear a0 a1 a2 a3 b0 b1 b2 b3
  go_loopw [5] (fun v wr => ∃ k : Nat, v = .int .i64 (k : Int) ∧ k ≤ n ∧ Below w1.heap.size w1 wr) (fun v _ => n - (intOf v).toNat)
  case atStart => exact ⟨0, rfl, Nat.zero_le _, Below.refl _ _⟩
  case round =>
    obtain ⟨k, rfl, hk, hb⟩ := hrel
    have HB := hide hb
    obtain ⟨a0, -⟩ := (A1.out.below hb).get 0 _ rfl
    obtain ⟨b0, -⟩ := (C1.out.below hb).get 0 _ rfl
    by_cases hlt : k < n
    · have hkl : k < F.live.length := by rw [← HN.out]; exact hlt
      have bw := B1.out.trans (hb.mono B1.out.size)
      obtain ⟨d1, o1, rfl, hd1, p0, p1, p2, p3⟩ := row_at H1.out bw hkl
      obtain ⟨d2, o2, rfl, hd2, r0, r1, r2, r3⟩ := row_at H2.out bw hkl
      generalize F.live[k] = x at *
      obtain ⟨z1, z2, z3, z4⟩ := x
      simp only at p0 p1 p2 p3 r0 r1 r2 r3
      clear hb bw
      go_upto_region 6 with fail
      go_quiet (fail)
      go_wp2_with fail
      go_roundw
      case rel => exact ⟨k + 1, by go_num, by omega, below_drewN HB.out _⟩
      case measure => simp [intOf]; omega
    · clear hb
      go_wp2_with fail
      clear a0 b0
      go_loopw [6] (fun v wr => ∃ k : Nat, v = .int .i64 (k : Int) ∧ k ≤ m ∧ Below w1.heap.size w1 wr) (fun v _ => m - (intOf v).toNat)
      case atStart => exact ⟨0, rfl, Nat.zero_le _, HB.out⟩
      case round =>
        clear HB
        obtain ⟨k2, rfl, hk2, hb⟩ := hrel
        have HB := hide hb
        obtain ⟨a1, -⟩ := (A1.out.below hb).get 1 _ rfl
        obtain ⟨b1, -⟩ := (C1.out.below hb).get 1 _ rfl
        by_cases hlt2 : k2 < m
        · have hkl : k2 < F.dirty.length := by rw [← HM.out]; exact hlt2
          have bw := B1.out.trans (hb.mono B1.out.size)
          obtain ⟨d1, o1, rfl, hd1, p0, p1⟩ := (H3.out.below bw).dirtyAt k2 hkl
          obtain ⟨d2, o2, rfl, hd2, r0, r1⟩ := (H4.out.below bw).dirtyAt k2 hkl
          generalize F.dirty[k2] = x at *
          obtain ⟨z1, z2⟩ := x
          simp only at p0 p1 r0 r1
          clear hb bw
          go_upto_region 11 with fail
          go_quiet (fail)
          go_wp2_with fail
          go_roundw
          case rel => exact ⟨k2 + 1, by go_num, by omega, below_drewN HB.out _⟩
          case measure => simp [intOf]; omega
        · clear hb
          go_wp2_with fail
          go_ret
          exact ⟨rfl, B1.out.trans (HB.out.mono B1.out.size)⟩
def sinceL : List DirtyM → Int → Int
  | [], _ => 0
  | d :: ds, p => if d.page = p then d.since else sinceL ds p
theorem since_drop {D : List DirtyM} {k : Nat} (hk : k < D.length) (p : Int) : sinceL (D.drop k) p = if D[k].page = p then D[k].since else sinceL (D.drop (k + 1)) p := by
  rw [List.drop_eq_getElem_cons hk]
  rfl
def bare (lsn kind tx prev : Int) : RecM := ⟨lsn, kind, tx, prev, 0, 0, 0, 0, 0, 0, 0, 0, 0, 0, [], [], 0⟩
def ax1 : RX := ⟨bare 1 1 1 0, none, 0, none, 0⟩
def ax2 : RX := ⟨{ bare 2 2 0 0 with sp := 3, id := 7, grp := 2 }, none, 0, none, 0⟩
def ax3 : RX := ⟨{ bare 3 3 1 1 with sp := 3, id := 7, delta := 3 }, none, 0, none, 0⟩
def awF : FoundM := ⟨[⟨1, 3, false, false⟩], [⟨0, 2⟩, ⟨3, 2⟩], 2, 2⟩
theorem aw_1 : runE (rsOf [ax1, ax2, ax3]) 0 = 0 := by decide +kernel
theorem aw_2 : runE (rsOf [ax1, ax2, ax3]) 3 = 4 := by decide +kernel
theorem aw_3 : runE (rsOf [ax2, ax3]) 0 = 60 := by decide +kernel
theorem aw_4 : runF (rsOf [ax1, ax2, ax3]) 0 = awF := by kernel_rfl
theorem aw_in (w : World) (x : RX) (h : x = ax1 ∨ x = ax2 ∨ x = ax3) : RXIn w x := by
  rcases h with rfl | rfl | rfl <;> exact ⟨.inl rfl, .inl rfl, by unfold I64; decide⟩
def awC : Array Value := ((rowsC rxC [ax1, ax2, ax3])).toArray
theorem fillAw : Instr.fill (fun i => some (i * 17, 17)) ((Array.range (3 * 17)).map ((Value.agg rec0).cells[· % (Value.agg rec0).cells.size]!)) [(0, .agg (rxA ax1)), (1, .agg (rxA ax2)), (2, .agg (rxA ax3))] = some awC := by kernel_rfl
end Go.Proofs.YtblngphjoafidaaGreat
