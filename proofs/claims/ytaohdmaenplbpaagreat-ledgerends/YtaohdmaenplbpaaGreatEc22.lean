import Derived.Test.YtaohdmaenplbpaaGreatEc21
set_option linter.all false
namespace Go.Proofs.YtaohdmaenplbpaaGreat
open Go.RowKit Go.QK Quota Go.Maps
set_option maxRecDepth 100000

def wdC (z : Int) : List Value := [.int .i64 (wh z), .int .i64 (wl z)]
def B1 (z : Int) : Prop := -36893488147419103232 ≤ z ∧ z ≤ 36893488147419103232
theorem lows_B1 (zs : List Int) (h : ∀ z ∈ zs, B1 z) : -(36893488147419103232 * (zs.length : Int)) ≤ lows zs ∧ lows zs ≤ 0 ∧ 0 ≤ highs zs ∧ highs zs ≤ 36893488147419103232 * (zs.length : Int) := by
  induction zs with
  | nil => simp [lows, highs]
  | cons x r ih =>
    have hx := h x (by simp)
    have hr := ih (fun y hy => h y (by simp [hy]))
    unfold B1 at hx
    simp only [lows, highs, List.length_cons]
    split <;> omega
def B7 (z : Int) : Prop := -1180591620717411303424 ≤ z ∧ z ≤ 1180591620717411303424
theorem worst_Bd {base : Int} (hb : B7 base) (zs : List Int) (h : ∀ z ∈ zs, B1 z) (hl : zs.length ≤ 2000) : Bd (base + lows zs) ∧ Bd (base + highs zs) := by
  have := lows_B1 zs h
  unfold B7 at hb
  unfold Bd
  omega

set_option maxHeartbeats 8000000 in
theorem rWorst_any (base : Int) (zs : List Int) (a : Option Addr) (c : Nat) (w : World) (hs : Lies w a (rowsC wdC zs)) (hb : B7 base) (hz : ∀ z ∈ zs, B1 z) (hl : zs.length ≤ 1500) :
    Calls Tryz.prog 56 #[wd base, .slice a zs.length c] w fun r w' => r = .returned (.tuple #[wd (base + lows zs), wd (base + highs zs)]) ∧ Below w.heap.size w w' := by
  have HS := hide hs
  have HZ := hide hz
  have HB0 := hide hb
  clear hs hz hb
  go_enter Tryz.func56, Tryz.ntmps56
  go_wp2_with fail
  obtain ⟨n, hn⟩ : ∃ n, n = w.heap.size := ⟨_, rfl⟩
  go_loopw [8] (fun i wr => ∃ k : Nat, k ≤ zs.length ∧ i = .int .i64 k ∧ Box wr (w.heap.size + 1) (.int .i64 0) (.int .i64 0) ∧ Box wr (w.heap.size + 2) (.int .i64 0) (.int .i64 0) ∧ Box wr (w.heap.size + 3) (.int .i64 (wh (base + lows (zs.take k)))) (.int .i64 (wl (base + lows (zs.take k)))) ∧ Box wr (w.heap.size + 4) (.int .i64 (wh (base + highs (zs.take k)))) (.int .i64 (wl (base + highs (zs.take k)))) ∧ Below w.heap.size w wr) (fun i _ => zs.length - (intOf i).toNat)
  case atStart =>
    have e1 : base + lows (zs.take 0) = base := by simp [lows]
    have e2 : base + highs (zs.take 0) = base := by simp [highs]
    refine ⟨0, by omega, rfl, ?_, ?_, ?_, ?_, ?_⟩
    · have x1 := ((Box.new (w.alloc (.cells #[.int .i64 (wh base), .int .i64 (wl base)] 59)) (.int .i64 0) (.int .i64 0) 59).alloc (.cells #[.int .i64 0, .int .i64 0] 59)).alloc (.cells #[.int .i64 (wh base), .int .i64 (wl base)] 59)
      have x2 := x1.alloc (.cells #[.int .i64 (wh base), .int .i64 (wl base)] 59)
      simpa using x2
    · have x1 := ((Box.new ((w.alloc (.cells #[.int .i64 (wh base), .int .i64 (wl base)] 59)).alloc (.cells #[.int .i64 0, .int .i64 0] 59)) (.int .i64 0) (.int .i64 0) 59).alloc (.cells #[.int .i64 (wh base), .int .i64 (wl base)] 59)).alloc (.cells #[.int .i64 (wh base), .int .i64 (wl base)] 59)
      simpa using x1
    · rw [e1]
      have x1 := (Box.new (((w.alloc (.cells #[.int .i64 (wh base), .int .i64 (wl base)] 59)).alloc (.cells #[.int .i64 0, .int .i64 0] 59)).alloc (.cells #[.int .i64 0, .int .i64 0] 59)) (.int .i64 (wh base)) (.int .i64 (wl base)) 59).alloc (.cells #[.int .i64 (wh base), .int .i64 (wl base)] 59)
      simpa using x1
    · rw [e2]
      have x1 := Box.new ((((w.alloc (.cells #[.int .i64 (wh base), .int .i64 (wl base)] 59)).alloc (.cells #[.int .i64 0, .int .i64 0] 59)).alloc (.cells #[.int .i64 0, .int .i64 0] 59)).alloc (.cells #[.int .i64 (wh base), .int .i64 (wl base)] 59)) (.int .i64 (wh base)) (.int .i64 (wl base)) 59
      simpa using x1
    · exact ((((alloc_below _ _).alloc (by simp) _).alloc (by simp; omega) _).alloc (by simp; omega) _).alloc (by simp; omega) _
  case round =>
    obtain ⟨k, hk, rfl, X1, X2, X3, X4, hbl⟩ := hrel
    by_cases q : k < zs.length
    · obtain ⟨bl, off, rfl, hlt, hcell⟩ := Lies.rowAt wdC 2 (fun _ => rfl) (HS.out.below hbl) k q (by omega)
      have y0 := hcell 0 _ rfl
      have y1 := hcell 1 _ rfl
      rw [Nat.add_zero] at y0
      have hzk := HZ.out _ (List.getElem_mem q)
      have hwb := worst_Bd HB0.out (zs.take k) (fun z hz => HZ.out z (List.mem_of_mem_take hz)) (by simp; omega)
      have hzb : Bd zs[k] := by unfold B1 at hzk; unfold Bd; omega
      have o1 := alloc_below wr (.cells #[.int .i64 (wh zs[k]), .int .i64 (wl zs[k])] 59)
      have Y1 := hide (X1.below o1)
      have Y2 := hide (X2.below o1)
      have Y3 := hide (X3.below o1)
      have Y4 := hide (X4.below o1)
      have Y9 := hide (Box.new wr (.int .i64 (wh zs[k])) (.int .i64 (wl zs[k])) 59)
      have BB := hide (hbl.trans (o1.mono hbl.size))
      have hw4 := X4.1
      have hneg : zs[k] < 0 ↔ wh zs[k] < 0 := by unfold wh; omega
      clear X1 X2 X3 X4 hbl hcell hzk o1
      by_cases ng : zs[k] < 0
      · have HL := hide (lows_neg zs k q ng)
        have ng2 := hneg.1 ng
        generalize hZ : base + lows (zs.take k) = Z at *
        generalize hO : base + highs (zs.take k) = O at *
        generalize zs[k] = z at *
        have e1 : base + lows (zs.take (k + 1)) = Z + z := by rw [HL.out.1]; omega
        have e2 : base + highs (zs.take (k + 1)) = O := by rw [HL.out.2]; omega
        have HE := hide (And.intro e1 e2)
        have KS := fun w' => sum_w Z z w' hwb.1 hzb
        clear hZ hO e1 e2 hneg ng HL
        obtain ⟨w5, hw5⟩ : ∃ w5, w5 = wr.alloc (.cells #[.int .i64 (wh z), .int .i64 (wl z)] 59) := ⟨_, rfl⟩
        go_upto_region 8 with fail
        rw [← hw5] at Y1 Y2 Y3 Y4 Y9 BB ⊢
        clear y0 y1 hw5
        obtain ⟨t0, t1, t2, t3, t4⟩ := Y3.out
        obtain ⟨u0, u1, u2, u3, u4⟩ := Y9.out
        go_wp2_with fail
        refine (KS _).mono ?_
        rintro r w6 ⟨rfl, h6⟩
        have Y1 := hide (Y1.out.below h6)
        have Y2 := hide (Y2.out.below h6)
        have Y3 := hide (Y3.out.below h6)
        have Y4 := hide (Y4.out.below h6)
        have BB := hide (BB.out.trans (h6.mono BB.out.size))
        clear h6 t0 t1 t2 t3 t4 u0 u1 u2 u3 u4 KS Y9
        obtain ⟨t0, t1, t2, t3, t4⟩ := Y3.out
        go_wp2_with fail
        go_roundw
        case rel =>
          refine ⟨k + 1, by omega, by go_num, (Y1.out.other (by omega)).other (by omega), (Y2.out.other (by omega)).other (by omega), ?_, ?_, (BB.out.setCell (by show w.heap.size ≤ w.heap.size + 3; omega) _).setCell (by show w.heap.size ≤ w.heap.size + 3; omega) _⟩
          · rw [HE.out.1]; exact Box.set Y3.out _ _
          · rw [HE.out.2]; exact (Y4.out.other (by omega)).other (by omega)
        case measure => simp [intOf]; omega
      · have HL := hide (lows_pos zs k q ng)
        have ng2 : ¬ wh zs[k] < 0 := fun r => ng (hneg.2 r)
        generalize hZ : base + highs (zs.take k) = Z at *
        generalize hO : base + lows (zs.take k) = O at *
        generalize zs[k] = z at *
        have e1 : base + highs (zs.take (k + 1)) = Z + z := by rw [HL.out.2]; omega
        have e2 : base + lows (zs.take (k + 1)) = O := by rw [HL.out.1]; omega
        have HE := hide (And.intro e1 e2)
        have KS := fun w' => sum_w Z z w' hwb.2 hzb
        clear hZ hO e1 e2 hneg ng HL
        obtain ⟨w5, hw5⟩ : ∃ w5, w5 = wr.alloc (.cells #[.int .i64 (wh z), .int .i64 (wl z)] 59) := ⟨_, rfl⟩
        go_upto_region 9 with fail
        rw [← hw5] at Y1 Y2 Y3 Y4 Y9 BB ⊢
        clear y0 y1 hw5
        obtain ⟨t0, t1, t2, t3, t4⟩ := Y4.out
        obtain ⟨u0, u1, u2, u3, u4⟩ := Y9.out
        go_wp2_with fail
        refine (KS _).mono ?_
        rintro r w6 ⟨rfl, h6⟩
        have Y1 := hide (Y1.out.below h6)
        have Y2 := hide (Y2.out.below h6)
        have Y3 := hide (Y3.out.below h6)
        have Y4 := hide (Y4.out.below h6)
        have BB := hide (BB.out.trans (h6.mono BB.out.size))
        clear h6 t0 t1 t2 t3 t4 u0 u1 u2 u3 u4 KS Y9
        obtain ⟨t0, t1, t2, t3, t4⟩ := Y4.out
        go_wp2_with fail
        go_roundw
        case rel =>
          refine ⟨k + 1, by omega, by go_num, (Y1.out.other (by omega)).other (by omega), (Y2.out.other (by omega)).other (by omega), ?_, ?_, (BB.out.setCell (by show w.heap.size ≤ w.heap.size + 4; omega) _).setCell (by show w.heap.size ≤ w.heap.size + 4; omega) _⟩
          · rw [HE.out.2]; exact (Y3.out.other (by omega)).other (by omega)
          · rw [HE.out.1]; exact Box.set Y4.out _ _
        case measure => simp [intOf]; omega
    · have q3 : k = zs.length := by omega
      subst q3
      rw [List.take_length] at X3 X4
      generalize hA : base + lows zs = A at *
      generalize hB : base + highs zs = B at *
      have HAB := hide (And.intro hA hB)
      have HX := hide (And.intro X1 (And.intro X2 hbl))
      clear hA hB
      obtain ⟨p0, p1, p2, p3, p4⟩ := X1
      obtain ⟨s0, s1, s2, s3, s4⟩ := X2
      obtain ⟨l0, l1, l2, l3, l4⟩ := X3
      obtain ⟨m0, m1, m2, m3, m4⟩ := X4
      clear hbl
      go_wp2_with fail
      go_region
      all_goals
        go_wp2_with fail
        refine bodyPost_ret (v := .tuple #[wd A, wd B]) (by simp [results, Tryz.results56, go_sem, p1, p2, s1, s2]) rfl ⟨by rw [HAB.out.1, HAB.out.2], ?_⟩
        have g1 : w.heap.size ≤ w.heap.size + 1 := by omega
        have g2 : w.heap.size ≤ w.heap.size + 2 := by omega
        first
          | exact ((((HX.out.2.2.drew.setCell g1 _).setCell g1 _).setCell g2 _).setCell g2 _)
          | exact ((((HX.out.2.2.drew.setCell g2 _).setCell g2 _).setCell g1 _).setCell g1 _)
end Go.Proofs.YtaohdmaenplbpaaGreat
