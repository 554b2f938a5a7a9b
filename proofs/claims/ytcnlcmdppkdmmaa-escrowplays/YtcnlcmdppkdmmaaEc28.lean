import Derived.Test.YtcnlcmdppkdmmaaEc27
namespace Go.Proofs.Ytcnlcmdppkdmmaa
open Go.RowKit Go.QK Quota Go.Maps
set_option maxRecDepth 100000

/-- The nets, if one were greater by so much. -/
def wz (tx d : Int) (p : Int × Int) : Int := if p.1 = tx then p.2 + d else p.2
abbrev wzs (L : Nets) (tx d : Int) : List Int := L.map (wz tx d)
theorem wzs_take (L : Nets) (tx d : Int) {k : Nat} (h : k < L.length) : wzs (L.take (k + 1)) tx d = wzs (L.take k) tx d ++ [wz tx d L[k]] := by
  show (L.take (k + 1)).map (wz tx d) = (L.take k).map (wz tx d) ++ [wz tx d L[k]]
  rw [List.take_succ_eq_append_getElem h, List.map_append]
  rfl
def withZ (L : Nets) (tx d : Int) : List Int := if holdB L tx then wzs L tx d else wzs L tx d ++ [d]
theorem wzs_none {L : Nets} {tx : Int} (d : Int) (h : ∀ p ∈ L, p.1 ≠ tx) : wzs L tx d = valsN L := by
  apply List.map_congr_left
  intro p hp
  unfold wz
  rw [if_neg (h p hp)]
theorem lows_cons (x : Int) (r : List Int) : lows (x :: r) = neg0 x + lows r ∧ highs (x :: r) = pos0 x + highs r := by
  simp only [lows, highs, neg0, pos0]
  split <;> omega
theorem withZ_sum {L : Nets} (hr : Rise L) (tx d : Int) : lows (withZ L tx d) = lowS L - neg0 (netV L tx) + neg0 (netV L tx + d) ∧ highs (withZ L tx d) = highS L - pos0 (netV L tx) + pos0 (netV L tx + d) := by
  unfold withZ
  cases hh : holdB L tx
  · have hn := holdB_false hh
    rw [netV_none hn, wzs_none d hn]
    simp only [Bool.false_eq_true, if_false]
    rw [lows_append, highs_append, (lows_vals L).1, (lows_vals L).2]
    have := lows_cons d []
    simp only [lows, highs, neg0, pos0] at *
    split at this <;> omega
  · simp only [if_true]
    have hm := netV_mem hh
    clear hh
    induction L with
    | nil => cases hm
    | cons p r ih =>
      show lows (wz tx d p :: wzs r tx d) = _ ∧ highs (wz tx d p :: wzs r tx d) = _
      rw [(lows_cons _ _).1, (lows_cons _ _).2, netV_cons]
      by_cases e : p.1 = tx
      · have hn : ∀ q ∈ r, q.1 ≠ tx := fun q hq => by have := hr.head q hq; omega
        rw [if_pos e, wzs_none d hn, (lows_vals r).1, (lows_vals r).2]
        unfold wz
        rw [if_pos e]
        simp only [lowS, highS, sumF]
        omega
      · rw [netV_cons, if_neg e] at hm
        have hm' : (tx, netV r tx) ∈ r := by
          rcases List.mem_cons.1 hm with q | q
          · rw [← q] at e; exact absurd rfl e
          · exact q
        have := ih hr.tail hm'
        rw [if_neg e, this.1, this.2]
        unfold wz
        rw [if_neg e]
        simp only [lowS, highS, sumF]
        omega

set_option maxHeartbeats 8000000 in
theorem with_r (b : Nat) (e : Esc) (a : Option Addr) (c : Nat) (tx d : Int) (w : World) (h : RE w b e a c) (hl : e.nets.length ≤ 1400) (hd : I64 d) :
    Calls Try.prog 61 #[ptr b, .int .i64 tx, .int .i64 d] w fun r w' => ∃ a' c', r = .returned (.tuple #[.slice a' (withZ e.nets tx d).length c', .bool (fitB (netV e.nets tx + d))]) ∧ Lies w' a' (rowsC wdC (withZ e.nets tx d)) ∧ Below w.heap.size w w' := by
  have HR := hide h
  have HA := hide h.ok.all
  have HRS := hide h.ok.rise
  have HD := hide hd
  clear h hd
  go_enter Try.func61, Try.ntmps61
  go_wp2_with fail
  go_loopw [11, 8, 9, 10] (fun i o f sn wr => ∃ (k : Nat) (ao : Option Addr) (co : Nat), k ≤ e.nets.length ∧ i = .int .i64 k ∧ o = .slice ao k co ∧ f = .bool (if holdB (e.nets.take k) tx then fitB (netV e.nets tx + d) else true) ∧ sn = .bool (holdB (e.nets.take k) tx) ∧ GRow wr w.heap.size 50 2 (.slice ao k co) k (rowsC wdC (wzs (e.nets.take k) tx d)) ∧ Below w.heap.size w wr) (fun i _ _ _ _ => e.nets.length - (intOf i).toNat)
  case atStart => exact ⟨0, none, 0, by omega, rfl, rfl, rfl, rfl, World.ownsRow_nil _ _ _ _, Below.refl _ _⟩
  case round =>
    obtain ⟨k, ao, co, hk, rfl, rfl, rfl, rfl, hrow, hb⟩ := hrel
    have hre := HR.out.below hb
    have k3 := hre.c3
    by_cases q : k < e.nets.length
    · obtain ⟨bl, off, rfl, hlt, hcell⟩ := Lies.rowAt netC 2 (fun _ => rfl) hre.row k q (by omega)
      have y0 := hcell 0 _ rfl
      have y1 := hcell 1 _ rfl
      rw [Nat.add_zero] at y0
      have HK := hide (wzs_take e.nets tx d q)
      have x1 := HA.out e.nets[k] (List.getElem_mem q)
      have hfn := front_not HRS.out q
      have hhn : holdB (e.nets.take (k + 1)) tx = (holdB (e.nets.take k) tx || decide (e.nets[k].1 = tx)) := by
        rw [List.take_succ_eq_append_getElem q, holdB_append, holdB_cons]
        simp [holdB]
      have HHN := hide hhn
      have HB := hide hb
      have HROW := hide hrow
      have NM := hide (netV_of_mem HRS.out (List.getElem_mem q)).1
      by_cases ht : e.nets[k].1 = tx
      · have ht2 : (e.nets[k].1 == tx) = true := by simpa using ht
        rw [ht] at hfn NM
        have hwz : wz tx d e.nets[k] = e.nets[k].2 + d := by unfold wz; rw [if_pos ht]
        rw [hwz] at HK
        rw [show decide (e.nets[k].1 = tx) = true from by simpa using ht] at HHN
        clear ht hcell hb hrow hre hhn hwz
        rw [hfn]
        generalize e.nets[k].1 = px at *
        generalize e.nets[k].2 = pn at *
        have KO := fun w' => of_any pn w'
        have KP := fun w' => plus_w pn d w' (I64.bd x1) HD.out
        have KF := fun w' => fits_w (pn + d) w'
        generalize hsm : pn + d = sm at *
        have HSM := hide hsm
        have HLW := hide (fun g hg => (World.ownsRow.lt HROW.out g hg).2)
        clear hsm
        go_wp2_with fail
        refine (KO _).mono ?_
        rintro r w2 ⟨rfl, h2⟩
        have o2 := h2.alloc h2.size (.cells #[.int .i64 (wh pn), .int .i64 (wl pn)] 50)
        have X2 := hide (Box.new w2 (.int .i64 (wh pn)) (.int .i64 (wl pn)) 50)
        have B2 := hide (HB.out.trans (o2.mono HB.out.size))
        have R2 := hide (GRow.below HROW.out o2)
        have k32 := (HR.out.below B2.out).c3
        have y02 := (o2.cell (p := ⟨bl, off + k * 2, none⟩) hlt).trans y0
        have z2 := Nat.le_trans HB.out.size h2.size
        have z3 := h2.size
        obtain ⟨x2, hx2⟩ : ∃ x2, x2 = w2.alloc (.cells #[.int .i64 (wh pn), .int .i64 (wl pn)] 50) := ⟨_, rfl⟩
        go_upto_region 8 with fail
        rw [← hx2] at X2 B2 R2 k32 y02 ⊢
        clear h2 o2 hx2 KO y0 y1 k3 HROW HB
        obtain ⟨t0, t1, t2, t3, t4⟩ := X2.out
        go_wp2_with fail
        refine (KP _).mono ?_
        rintro r w3 ⟨rfl, h3⟩
        have X3 := hide (X2.out.below h3)
        have B3 := hide (B2.out.trans (h3.mono B2.out.size))
        have R3 := hide (GRow.below R2.out h3)
        clear h3 X2 B2 R2 t0 t1 t2 t3 t4 k32 y02 KP
        obtain ⟨t0, t1, t2, t3, t4⟩ := X3.out
        have X4 := hide (Box.set X3.out (.int .i64 (wh sm)) (.int .i64 (wl sm)))
        have K4 := ((Keep.refl (fun x => x = w2.heap.size) w3).setCell (g := w2.heap.size) (j := 0) (fun _ => rfl) (.int .i64 (wh sm))).setCell (g := w2.heap.size) (j := 1) (fun _ => rfl) (.int .i64 (wl sm))
        have R4 := hide (GRow.keep R3.out K4 (fun g hg q9 => by have := HLW.out g hg; omega))
        have B4 := hide (B3.out.trans (K4.below B3.out.size (fun x hx q9 => by omega)))
        obtain ⟨x4, hx4⟩ : ∃ x4, x4 = (w3.setCell ⟨w2.heap.size, 0, none⟩ (.int .i64 (wh sm))).setCell ⟨w2.heap.size, 1, none⟩ (.int .i64 (wl sm)) := ⟨_, rfl⟩
        go_upto_region 10 with fail
        rw [← hx4] at X4 R4 B4 ⊢
        clear hx4 K4 X3 B3 R3 t0 t1 t2 t3 t4
        obtain ⟨t0, t1, t2, t3, t4⟩ := X4.out
        go_wp2_with fail
        refine (KF _).mono ?_
        rintro r x9 ⟨rfl, h9⟩
        have X9 := hide (X4.out.below h9)
        have B9 := hide (B4.out.trans (h9.mono B4.out.size))
        have R9 := hide ((GRow.below R4.out h9).below (alloc_below x9 (.cells #[.int .i64 (wh sm), .int .i64 (wl sm)] 50)))
        have LI := hide (lit_lies x9 #[.int .i64 (wh sm), .int .i64 (wl sm)] 50)
        have s9 := B9.out.size
        clear h9 X4 B4 R4 t0 t1 t2 t3 t4 KF
        obtain ⟨t0, t1, t2, t3, t4⟩ := X9.out
        go_wp2_with (at_builtin; refine wpList_appR Try.underlying98 info50 rfl (by decide) (by decide) rfl (.tmp _) (.tmp _) rfl w.heap.size _ k _ rfl R9.out (some ⟨x9.heap.size, 0, none⟩) 1 1 (wdC sm) rfl rfl LI.out (wdC_one _) (by nofun) (by omega) (by simp; omega) ?_; intro v' w9 q1 q2 q3; obtain ⟨av, cv, rfl, -, -, -, -, -⟩ := GRow.lies q1)
        go_roundw
        case rel =>
          refine ⟨k + 1, av, cv, by omega, by go_num, rfl, ?_, ?_, ?_, ?_⟩
          · rw [HHN.out, NM.out, HSM.out]; simp
          · rw [HHN.out]; simp
          · rw [HK.out, rowsC_snoc]; exact q1
          · exact (B9.out.alloc s9 _).grown q2 (by simp; omega) (fun j hj => (World.ownsRow.lt R9.out j hj).1)
        case measure => simp [intOf]; omega
      · have ht2 : (e.nets[k].1 == tx) = false := by simpa using ht
        have hwz : wz tx d e.nets[k] = e.nets[k].2 := by unfold wz; rw [if_neg ht]
        rw [hwz] at HK
        rw [show decide (e.nets[k].1 = tx) = false from by simpa using ht, Bool.or_false] at HHN
        clear ht hcell hb hrow hre hhn hwz hfn NM
        generalize e.nets[k].1 = px at *
        generalize e.nets[k].2 = pn at *
        generalize holdB (e.nets.take k) tx = hv at *
        obtain ⟨fv, hfv⟩ : ∃ fv : Bool, fv = (if hv = true then fitB (netV e.nets tx + d) else true) := ⟨_, rfl⟩
        rw [← hfv]
        have HFV := hide hfv
        clear hfv
        have KO := fun w' => of_any pn w'
        go_wp2_with fail
        refine (KO _).mono ?_
        rintro r w2 ⟨rfl, h2⟩
        have o2 := h2.alloc h2.size (.cells #[.int .i64 (wh pn), .int .i64 (wl pn)] 50)
        have X2 := hide (Box.new w2 (.int .i64 (wh pn)) (.int .i64 (wl pn)) 50)
        have B2 := hide (HB.out.trans (o2.mono HB.out.size))
        have R2 := hide (GRow.below HROW.out o2)
        have k32 := (HR.out.below B2.out).c3
        have y02 := (o2.cell (p := ⟨bl, off + k * 2, none⟩) hlt).trans y0
        obtain ⟨x9, hx9⟩ : ∃ x9, x9 = w2.alloc (.cells #[.int .i64 (wh pn), .int .i64 (wl pn)] 50) := ⟨_, rfl⟩
        go_upto_region 8 with fail
        rw [← hx9] at X2 B2 R2 k32 y02 ⊢
        clear h2 o2 hx9 KO y0 y1 k3 HROW HB
        obtain ⟨t0, t1, t2, t3, t4⟩ := X2.out
        have R9 := hide (GRow.below R2.out (alloc_below x9 (.cells #[.int .i64 (wh pn), .int .i64 (wl pn)] 50)))
        have LI := hide (lit_lies x9 #[.int .i64 (wh pn), .int .i64 (wl pn)] 50)
        have s9 := B2.out.size
        go_wp2_with (at_builtin; refine wpList_appR Try.underlying98 info50 rfl (by decide) (by decide) rfl (.tmp _) (.tmp _) rfl w.heap.size _ k _ rfl R9.out (some ⟨x9.heap.size, 0, none⟩) 1 1 (wdC pn) rfl rfl LI.out (wdC_one _) (by nofun) (by omega) (by simp; omega) ?_; intro v' w9 q1 q2 q3; obtain ⟨av, cv, rfl, -, -, -, -, -⟩ := GRow.lies q1)
        go_roundw
        case rel =>
          refine ⟨k + 1, av, cv, by omega, by go_num, rfl, ?_, ?_, ?_, ?_⟩
          · rw [HHN.out, HFV.out]
          · rw [HHN.out]
          · rw [HK.out, rowsC_snoc]; exact q1
          · exact (B2.out.alloc s9 _).grown q2 (by simp; omega) (fun j hj => (World.ownsRow.lt R9.out j hj).1)
        case measure => simp [intOf]; omega
    · obtain rfl : k = e.nets.length := by omega
      rw [List.take_length] at hrow ⊢
      have HROW := hide hrow
      have HB := hide hb
      clear hrow hb hre
      cases hh : holdB e.nets tx
      · have HZ := hide (show withZ e.nets tx d = wzs e.nets tx d ++ [d] from by unfold withZ; rw [hh]; rfl)
        have HFT := hide (show fitB (netV e.nets tx + d) = true from by rw [netV_none (holdB_false hh), Int.zero_add]; exact fitB_true.2 HD.out)
        clear hh
        go_wp2_with fail
        refine (of_any d _).mono ?_
        rintro r x9 ⟨rfl, h9⟩
        have B9 := hide (HB.out.trans (h9.mono HB.out.size))
        have R9 := hide ((GRow.below HROW.out h9).below (alloc_below x9 (.cells #[.int .i64 (wh d), .int .i64 (wl d)] 50)))
        have LI := hide (lit_lies x9 #[.int .i64 (wh d), .int .i64 (wl d)] 50)
        have s9 := B9.out.size
        clear h9 HROW HB
        go_wp2_with (at_builtin; refine wpList_appR Try.underlying98 info50 rfl (by decide) (by decide) rfl (.tmp _) (.tmp _) rfl w.heap.size _ e.nets.length _ rfl R9.out (some ⟨x9.heap.size, 0, none⟩) 1 1 (wdC d) rfl rfl LI.out (wdC_one _) (by nofun) (by omega) (by simp; omega) ?_; intro v' w9 q1 q2 q3; obtain ⟨av, cv, rfl, -, -, -, -, -⟩ := GRow.lies q1)
        go_ret2
        refine ⟨av, cv, ?_, ?_, (B9.out.alloc s9 _).grown q2 (by simp; omega) (fun j hj => (World.ownsRow.lt R9.out j hj).1)⟩
        · rw [HFT.out, HZ.out]; simp
        · rw [HZ.out, rowsC_snoc]
          obtain ⟨a', c', q9, hli, _⟩ := GRow.lies q1
          cases q9
          exact hli
      · have HZ := hide (show withZ e.nets tx d = wzs e.nets tx d from by unfold withZ; rw [hh]; rfl)
        clear hh
        go_wp2_with fail
        go_ret2
        refine ⟨ao, co, ?_, ?_, HB.out⟩
        · rw [HZ.out]; simp
        · rw [HZ.out]
          obtain ⟨a', c', q9, hli, _⟩ := GRow.lies HROW.out
          cases q9
          exact hli
end Go.Proofs.Ytcnlcmdppkdmmaa
