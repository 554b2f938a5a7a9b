import Derived.Test.YtcnlcmdppkdmmaaEc29
namespace Go.Proofs.Ytcnlcmdppkdmmaa
open Go.RowKit Go.QK Quota Go.Maps
set_option maxRecDepth 100000

/-! The nets in which one more is laid, as the document lays it: element by element. -/
theorem putN_front {A : Nets} {tx : Int} (v : Int) (B : Nets) (h : ∀ p ∈ A, p.1 < tx) : putN tx v (A ++ B) = A ++ putN tx v B := by
  induction A with
  | nil => rfl
  | cons p r ih =>
    have h1 := h p List.mem_cons_self
    have h2 := ih (fun q hq => h q (List.mem_cons_of_mem _ hq))
    simp only [List.cons_append, putN]
    rw [if_neg (by omega), if_neg (by omega), h2]
theorem putN_behind {A : Nets} {tx : Int} (v : Int) (q : Int × Int) (h : ∃ p ∈ A, tx ≤ p.1) : putN tx v (A ++ [q]) = putN tx v A ++ [q] := by
  induction A with
  | nil => obtain ⟨p, hp, _⟩ := h; cases hp
  | cons p r ih =>
    simp only [List.cons_append, putN]
    by_cases h1 : tx < p.1
    · rw [if_pos h1, if_pos h1]; rfl
    · rw [if_neg h1, if_neg h1]
      by_cases h2 : p.1 = tx
      · rw [if_pos h2, if_pos h2]; rfl
      · rw [if_neg h2, if_neg h2, ih ?_]
        · rfl
        · obtain ⟨x, hx, hxt⟩ := h
          rcases List.mem_cons.1 hx with rfl | hx
          · omega
          · exact ⟨x, hx, hxt⟩
def dnB (L : Nets) (tx : Int) (k : Nat) : Bool := (L.take k).any (fun p => decide (tx ≤ p.1))
def insN (L : Nets) (tx v : Int) (k : Nat) : Nets := if dnB L tx k then putN tx v (L.take k) else L.take k
theorem dnB_false {L : Nets} {tx : Int} {k : Nat} (h : dnB L tx k = false) : ∀ p ∈ L.take k, p.1 < tx := by
  intro p hp
  unfold dnB at h
  have := List.any_eq_false.1 h p hp
  simp at this
  omega
theorem dnB_true {L : Nets} {tx : Int} {k : Nat} (h : dnB L tx k = true) : ∃ p ∈ L.take k, tx ≤ p.1 := by
  unfold dnB at h
  obtain ⟨p, hp, h2⟩ := List.any_eq_true.1 h
  exact ⟨p, hp, by simpa using h2⟩
theorem dnB_succ {L : Nets} (tx : Int) {k : Nat} (h : k < L.length) : dnB L tx (k + 1) = (dnB L tx k || decide (tx ≤ L[k].1)) := by
  unfold dnB
  rw [List.take_succ_eq_append_getElem h, List.any_append]
  simp
theorem dnB_rise {L : Nets} (hr : Rise L) {tx : Int} {k : Nat} (hk : k < L.length) (h : dnB L tx k = true) : tx < L[k].1 := by
  obtain ⟨p, hp, hx⟩ := dnB_true h
  obtain ⟨i, hi, rfl⟩ := List.getElem_of_mem hp
  simp at hi
  rw [List.getElem_take] at hx
  have := List.pairwise_iff_getElem.1 hr i k (by omega) hk (by omega)
  omega
theorem ins_more {L : Nets} (_hr : Rise L) {tx : Int} (v : Int) {k : Nat} (hk : k < L.length) (h : dnB L tx k = true) : dnB L tx (k + 1) = true ∧ insN L tx v (k + 1) = insN L tx v k ++ [L[k]] := by
  have h1 : dnB L tx (k + 1) = true := by rw [dnB_succ tx hk, h]; rfl
  refine ⟨h1, ?_⟩
  unfold insN
  rw [h1, h]
  simp only [if_true]
  rw [List.take_succ_eq_append_getElem hk, putN_behind v _ (dnB_true h)]
theorem ins_less {L : Nets} {tx : Int} (v : Int) {k : Nat} (hk : k < L.length) (h : dnB L tx k = false) (hx : L[k].1 < tx) : dnB L tx (k + 1) = false ∧ insN L tx v (k + 1) = insN L tx v k ++ [L[k]] := by
  have h1 : dnB L tx (k + 1) = false := by rw [dnB_succ tx hk, h]; simp; omega
  refine ⟨h1, ?_⟩
  unfold insN
  rw [h1, h]
  simp only [Bool.false_eq_true, if_false]
  rw [List.take_succ_eq_append_getElem hk]
theorem ins_here {L : Nets} {tx : Int} (v : Int) {k : Nat} (hk : k < L.length) (h : dnB L tx k = false) (hx : L[k].1 = tx) : dnB L tx (k + 1) = true ∧ insN L tx v (k + 1) = insN L tx v k ++ [(tx, v)] := by
  have h1 : dnB L tx (k + 1) = true := by rw [dnB_succ tx hk, h]; simp; omega
  refine ⟨h1, ?_⟩
  unfold insN
  rw [h1, h]
  simp only [Bool.false_eq_true, if_false, if_true]
  rw [List.take_succ_eq_append_getElem hk, putN_front v _ (dnB_false h)]
  simp only [putN]
  rw [if_neg (by omega), if_pos hx]
theorem ins_over {L : Nets} {tx : Int} (v : Int) {k : Nat} (hk : k < L.length) (h : dnB L tx k = false) (hx : tx < L[k].1) : dnB L tx (k + 1) = true ∧ insN L tx v (k + 1) = insN L tx v k ++ [(tx, v)] ++ [L[k]] := by
  have h1 : dnB L tx (k + 1) = true := by rw [dnB_succ tx hk, h]; simp; omega
  refine ⟨h1, ?_⟩
  unfold insN
  rw [h1, h]
  simp only [Bool.false_eq_true, if_false, if_true]
  rw [List.take_succ_eq_append_getElem hk, putN_front v _ (dnB_false h)]
  simp only [putN]
  rw [if_pos hx, List.append_assoc]
  rfl
theorem hold_over {L : Nets} (hr : Rise L) {tx : Int} {k : Nat} (hk : k < L.length) (h : dnB L tx k = false) (hx : tx < L[k].1) : netV L tx = 0 := by
  apply netV_none
  intro p hp
  obtain ⟨i, hi, rfl⟩ := List.getElem_of_mem hp
  rcases Nat.lt_trichotomy i k with q | q | q
  · have := dnB_false h L[i] (List.mem_take_iff_getElem.2 ⟨i, by omega, rfl⟩)
    omega
  · subst q; omega
  · have := List.pairwise_iff_getElem.1 hr k i hk hi q
    omega
theorem ins_end {L : Nets} {tx : Int} (v : Int) : (dnB L tx L.length = true → insN L tx v L.length = putN tx v L) ∧ (dnB L tx L.length = false → putN tx v L = insN L tx v L.length ++ [(tx, v)] ∧ netV L tx = 0) := by
  constructor
  · intro h
    unfold insN
    rw [h, List.take_length]
    rfl
  · intro h
    have hf := dnB_false h
    rw [List.take_length] at hf
    have := putN_front v [] hf
    rw [List.append_nil] at this
    refine ⟨?_, netV_none (fun p hp => by have := hf p hp; omega)⟩
    unfold insN
    rw [h, List.take_length]
    exact this

theorem Box.keep {S : Nat → Prop} {w w' : World} {b : Nat} {x y : Value} (h : Box w b x y) (k : Keep S w w') (hn : ¬ S b) : Box w' b x y :=
  ⟨Nat.lt_of_lt_of_le h.1 k.size, (k.cell (p := ⟨b, 0, none⟩) h.1 hn).trans h.2.1, (k.cell (p := ⟨b, 1, none⟩) h.1 hn).trans h.2.2.1, (k.frozen (p := ⟨b, 0, none⟩) h.1 hn).trans h.2.2.2.1, (k.frozen (p := ⟨b, 1, none⟩) h.1 hn).trans h.2.2.2.2⟩
theorem insN_len (L : Nets) (tx v : Int) (k : Nat) : (insN L tx v k).length ≤ L.length + 1 := by
  unfold insN
  split
  · have := length_putN tx v (L.take k)
    have h2 : (L.take k).length ≤ L.length := by rw [List.length_take]; omega
    omega
  · rw [List.length_take]; omega
set_option maxHeartbeats 2000000 in
theorem rAdd_no (b : Nat) (e : Esc) (a : Option Addr) (c : Nat) (tx d : Int) (w : World) (h : RE w b e a c) (hl : e.nets.length ≤ 1400) (hd : I64 d) (hz : mayE e tx d ≠ 0) :
    Calls Try.prog 48 #[ptr b, .int .i64 tx, .int .i64 d] w fun r w' => r = .returned (.int .i64 (mayE e tx d)) ∧ Below w.heap.size w w' := by
  have KM := fun w' (h : RE w' b e a c) => rMay_any b e a c tx d w' h hl hd
  have HR := hide h
  have hz2 : (mayE e tx d != 0) = true := by simpa using hz
  generalize mayE e tx d = M at *
  clear h hz hl hd
  go_enter Try.func48, Try.ntmps48
  go_wp2_with fail
  refine (KM _ HR.out).mono ?_
  rintro r w1 ⟨rfl, h1⟩
  go_wp2_with fail
  go_ret
  exact ⟨rfl, h1⟩
set_option maxHeartbeats 8000000 in
theorem rAdd_yes (b : Nat) (e : Esc) (a : Option Addr) (c : Nat) (tx d : Int) (w : World) (h : RE w b e a c) (hl : e.nets.length ≤ 1400) (hd : I64 d) (hz : mayE e tx d = 0) :
    Calls Try.prog 48 #[ptr b, .int .i64 tx, .int .i64 d] w fun r w' => ∃ a' c', r = .returned (.int .i64 0) ∧ RE w' b (addN e tx d) a' c' ∧ (∀ ad, a' = some ad → w.heap.size ≤ ad.block) ∧ Keep (fun x => x = b) w w' := by
  have KM := fun w' (h : RE w' b e a c) => rMay_any b e a c tx d w' h hl hd
  rw [hz] at KM
  have OK := hide (addN_ok h.ok tx d)
  have HZ := hide (addN_yes hz)
  have HV := hide (mayE_zero hz).2.2.2.2
  have HR := hide h
  have HRS := hide h.ok.rise
  obtain ⟨V, hV⟩ : ∃ V, V = netV e.nets tx + d := ⟨_, rfl⟩
  rw [← hV] at HZ HV
  have HVV := hide hV
  clear h hd hz hV
  go_enter Try.func48, Try.ntmps48
  go_wp2_with fail
  refine (KM _ HR.out).mono ?_
  rintro r w1 ⟨rfl, h1⟩
  have R1 := hide (HR.out.below h1)
  have B1 := hide h1
  have hbl := HR.out.cells.1
  clear h1 HR KM
  go_wp2_with fail
  go_loopw [10, 8, 9] (fun i o dn wr => ∃ (k : Nat) (ao : Option Addr) (co : Nat), k ≤ e.nets.length ∧ i = .int .i64 k ∧ o = .slice ao (insN e.nets tx V k).length co ∧ dn = .bool (dnB e.nets tx k) ∧ GRow wr w1.heap.size 44 2 (.slice ao (insN e.nets tx V k).length co) (insN e.nets tx V k).length (rowsC netC (insN e.nets tx V k)) ∧ Below w1.heap.size w1 wr) (fun i _ _ _ => e.nets.length - (intOf i).toNat)
  case atStart => exact ⟨0, none, 0, by omega, rfl, rfl, rfl, World.ownsRow_nil _ _ _ _, Below.refl _ _⟩
  case round =>
    obtain ⟨k, ao, co, hk, rfl, rfl, rfl, hrow, hb⟩ := hrel
    have hre := R1.out.below hb
    have k3 := hre.c3
    have hul := insN_len e.nets tx V k
    by_cases q : k < e.nets.length
    · obtain ⟨bl, off, rfl, hlt, hcell⟩ := Lies.rowAt netC 2 (fun _ => rfl) hre.row k q (by omega)
      have y0 := hcell 0 _ rfl
      have y1 := hcell 1 _ rfl
      rw [Nat.add_zero] at y0
      have HB := hide hb
      have HROW := hide hrow
      have hpe : e.nets[k] = (e.nets[k].1, e.nets[k].2) := rfl
      by_cases hdn : dnB e.nets tx k = true
      · have HH := hide (ins_more HRS.out V q hdn)
        have gt := dnB_rise HRS.out q hdn
        have ne : (e.nets[k].1 == tx) = false := by simp; omega
        rw [hpe] at HH
        rw [hdn]
        clear hcell hb hrow hre hpe hdn
        generalize e.nets[k].1 = px at *
        generalize e.nets[k].2 = pn at *
        generalize insN e.nets tx V k = U at *
        go_upto_region 10 with fail
        obtain ⟨x2, hx2⟩ : ∃ x2, x2 = wr.alloc (.cells #[.int .i64 px, .int .i64 pn] 44) := ⟨_, rfl⟩
        have X2 := hide (Box.new wr (.int .i64 px) (.int .i64 pn) 44)
        have o2 := alloc_below wr (.cells #[.int .i64 px, .int .i64 pn] 44)
        have B2 := hide (HB.out.trans (o2.mono HB.out.size))
        have R2 := hide (GRow.below HROW.out o2)
        have HLW := hide (fun g hg => (World.ownsRow.lt HROW.out g hg).2)
        have szr := HB.out.size
        rw [← hx2] at X2 B2 R2 o2 ⊢
        have sz2 := B2.out.size
        clear hx2 HROW HB o2
        obtain ⟨t0, t1, t2, t3, t4⟩ := X2.out
        have R3 := hide (GRow.below R2.out (alloc_below x2 (.cells #[.int .i64 px, .int .i64 pn] 44)))
        have LI := hide (lit_lies x2 #[.int .i64 px, .int .i64 pn] 44)
        go_wp2_with (at_builtin; refine wpList_appR Try.underlying41 info44 rfl (by decide) (by decide) rfl (.tmp _) (.tmp _) rfl w1.heap.size _ U.length (rowsC netC U) rfl R3.out (some ⟨x2.heap.size, 0, none⟩) 1 1 (netC (px, pn)) rfl rfl LI.out (netC_one _) (by nofun) (by omega) (by simp; omega) ?_; intro v' w5 q1 q2 q3; obtain ⟨av, cv, rfl, -, -, -, -, -⟩ := GRow.lies q1)
        go_roundw
        case rel =>
          refine ⟨k + 1, av, cv, by omega, by go_num, ?_, ?_, ?_, ?_⟩
          · rw [HH.out.2]; simp
          · rw [HH.out.1]
          · rw [HH.out.2, rowsC_snoc, List.length_append]; exact q1
          · exact (B2.out.alloc sz2 _).grown q2 (by simp; omega) (fun j hj => (World.ownsRow.lt R3.out j hj).1)
        case measure => simp [intOf]; omega
      · have hdf : dnB e.nets tx k = false := by simpa using hdn
        rcases Int.lt_trichotomy e.nets[k].1 tx with lt | eq | gt
        · have HH := hide (ins_less V q hdf lt)
          have ne : (e.nets[k].1 == tx) = false := by simp; omega
          have ng : ¬ tx < e.nets[k].1 := by omega
          rw [hpe] at HH
          rw [hdf]
          clear hcell hb hrow hre hpe hdn hdf
          generalize e.nets[k].1 = px at *
          generalize e.nets[k].2 = pn at *
          generalize insN e.nets tx V k = U at *
          go_upto_region 10 with fail
          obtain ⟨x2, hx2⟩ : ∃ x2, x2 = wr.alloc (.cells #[.int .i64 px, .int .i64 pn] 44) := ⟨_, rfl⟩
          have X2 := hide (Box.new wr (.int .i64 px) (.int .i64 pn) 44)
          have o2 := alloc_below wr (.cells #[.int .i64 px, .int .i64 pn] 44)
          have B2 := hide (HB.out.trans (o2.mono HB.out.size))
          have R2 := hide (GRow.below HROW.out o2)
          have HLW := hide (fun g hg => (World.ownsRow.lt HROW.out g hg).2)
          have szr := HB.out.size
          rw [← hx2] at X2 B2 R2 o2 ⊢
          have sz2 := B2.out.size
          clear hx2 HROW HB o2
          obtain ⟨t0, t1, t2, t3, t4⟩ := X2.out
          have R3 := hide (GRow.below R2.out (alloc_below x2 (.cells #[.int .i64 px, .int .i64 pn] 44)))
          have LI := hide (lit_lies x2 #[.int .i64 px, .int .i64 pn] 44)
          go_wp2_with (at_builtin; refine wpList_appR Try.underlying41 info44 rfl (by decide) (by decide) rfl (.tmp _) (.tmp _) rfl w1.heap.size _ U.length (rowsC netC U) rfl R3.out (some ⟨x2.heap.size, 0, none⟩) 1 1 (netC (px, pn)) rfl rfl LI.out (netC_one _) (by nofun) (by omega) (by simp; omega) ?_; intro v' w5 q1 q2 q3; obtain ⟨av, cv, rfl, -, -, -, -, -⟩ := GRow.lies q1)
          go_roundw
          case rel =>
            refine ⟨k + 1, av, cv, by omega, by go_num, ?_, ?_, ?_, ?_⟩
            · rw [HH.out.2]; simp
            · rw [HH.out.1]
            · rw [HH.out.2, rowsC_snoc, List.length_append]; exact q1
            · exact (B2.out.alloc sz2 _).grown q2 (by simp; omega) (fun j hj => (World.ownsRow.lt R3.out j hj).1)
          case measure => simp [intOf]; omega
        · have HH := hide (ins_here V q hdf eq)
          have hv := (netV_of_mem HRS.out (List.getElem_mem q)).1
          rw [eq] at hv
          have HW := hide (show wrap64 (e.nets[k].2 + d) = V from by rw [HVV.out, hv] ; exact wrapI (by have := HV.out; rw [HVV.out, hv] at this; exact this))
          have ne : (e.nets[k].1 == tx) = true := by simp; omega
          have ng : ¬ tx < e.nets[k].1 := by omega
          rw [hdf]
          have EQ := hide eq
          clear hcell hb hrow hre hpe hdn hdf hv eq
          generalize e.nets[k].1 = px at *
          generalize e.nets[k].2 = pn at *
          generalize insN e.nets tx V k = U at *
          go_upto_region 10 with fail
          obtain ⟨x2, hx2⟩ : ∃ x2, x2 = wr.alloc (.cells #[.int .i64 px, .int .i64 pn] 44) := ⟨_, rfl⟩
          have X2 := hide (Box.new wr (.int .i64 px) (.int .i64 pn) 44)
          have o2 := alloc_below wr (.cells #[.int .i64 px, .int .i64 pn] 44)
          have B2 := hide (HB.out.trans (o2.mono HB.out.size))
          have R2 := hide (GRow.below HROW.out o2)
          have HLW := hide (fun g hg => (World.ownsRow.lt HROW.out g hg).2)
          have szr := HB.out.size
          rw [← hx2] at X2 B2 R2 o2 ⊢
          have sz2 := B2.out.size
          clear hx2 HROW HB o2
          obtain ⟨t0, t1, t2, t3, t4⟩ := X2.out
          go_upto_region 16 with fail
          rw [HW.out]
          have K4 := (Keep.refl (fun x => x = wr.heap.size) x2).setCell (g := wr.heap.size) (j := 1) (fun _ => rfl) (.int .i64 V)
          have R4 := hide (GRow.keep R2.out K4 (fun g hg q9 => by have := HLW.out g hg; omega))
          have B4 := hide (B2.out.trans (K4.below B2.out.size (fun x hx q9 => by omega)))
          have c4 : (x2.setCell ⟨wr.heap.size, 1, none⟩ (.int .i64 V)).cell? ⟨wr.heap.size, 0, none⟩ = some (.int .i64 px) := by simp [go_sem, t1]
          have d4 : (x2.setCell ⟨wr.heap.size, 1, none⟩ (.int .i64 V)).cell? ⟨wr.heap.size, 1, none⟩ = some (.int .i64 V) := by simp [go_sem, t2]
          obtain ⟨x4, hx4⟩ : ∃ x4, x4 = x2.setCell ⟨wr.heap.size, 1, none⟩ (.int .i64 V) := ⟨_, rfl⟩
          rw [← hx4] at R4 B4 c4 d4 ⊢
          clear hx4 K4 R2 B2 X2 t0 t1 t2 t3 t4
          have R9 := hide (GRow.below R4.out (alloc_below x4 (.cells #[.int .i64 px, .int .i64 V] 44)))
          have LI := hide (lit_lies x4 #[.int .i64 px, .int .i64 V] 44)
          have s9 := B4.out.size
          go_wp2_with (at_builtin; refine wpList_appR Try.underlying41 info44 rfl (by decide) (by decide) rfl (.tmp _) (.tmp _) rfl w1.heap.size _ U.length (rowsC netC U) rfl R9.out (some ⟨x4.heap.size, 0, none⟩) 1 1 (netC (px, V)) rfl rfl LI.out (netC_one _) (by nofun) (by omega) (by simp; omega) ?_; intro v' w5 q1 q2 q3; obtain ⟨av, cv, rfl, -, -, -, -, -⟩ := GRow.lies q1)
          go_roundw
          case rel =>
            refine ⟨k + 1, av, cv, by omega, by go_num, ?_, ?_, ?_, ?_⟩
            · rw [HH.out.2]; simp
            · rw [HH.out.1]
            · rw [HH.out.2, rowsC_snoc, List.length_append, ← EQ.out]; exact q1
            · exact (B4.out.alloc s9 _).grown q2 (by simp; omega) (fun j hj => (World.ownsRow.lt R9.out j hj).1)
          case measure => simp [intOf]; omega
        · have HH := hide (ins_over V q hdf gt)
          have ne : (e.nets[k].1 == tx) = false := by simp; omega
          have hv := hold_over HRS.out q hdf gt
          have HW := hide (show V = d from by rw [HVV.out, hv, Int.zero_add])
          rw [hpe] at HH
          rw [hdf]
          clear hcell hb hrow hre hpe hdn hdf hv
          generalize e.nets[k].1 = px at *
          generalize e.nets[k].2 = pn at *
          generalize insN e.nets tx V k = U at *
          go_upto_region 10 with fail
          obtain ⟨x2, hx2⟩ : ∃ x2, x2 = wr.alloc (.cells #[.int .i64 px, .int .i64 pn] 44) := ⟨_, rfl⟩
          have X2 := hide (Box.new wr (.int .i64 px) (.int .i64 pn) 44)
          have o2 := alloc_below wr (.cells #[.int .i64 px, .int .i64 pn] 44)
          have B2 := hide (HB.out.trans (o2.mono HB.out.size))
          have R2 := hide (GRow.below HROW.out o2)
          have HLW := hide (fun g hg => (World.ownsRow.lt HROW.out g hg).2)
          have szr := HB.out.size
          rw [← hx2] at X2 B2 R2 o2 ⊢
          have sz2 := B2.out.size
          clear hx2 HROW HB o2
          obtain ⟨t0, t1, t2, t3, t4⟩ := X2.out
          have R3 := hide (GRow.below R2.out (alloc_below x2 (.cells #[.int .i64 tx, .int .i64 d] 44)))
          have LI := hide (lit_lies x2 #[.int .i64 tx, .int .i64 d] 44)
          go_upto_region 12 with (at_builtin; refine wpList_appR Try.underlying41 info44 rfl (by decide) (by decide) rfl (.tmp _) (.tmp _) rfl w1.heap.size _ U.length (rowsC netC U) rfl R3.out (some ⟨x2.heap.size, 0, none⟩) 1 1 (netC (tx, d)) rfl rfl LI.out (netC_one _) (by nofun) (by omega) (by simp; omega) ?_; intro v' w5 q1 q2 q3; have K5 := hide (((Keep.refl (fun x => some x = (Value.slice ao U.length co).ownBlock) x2).alloc (.cells #[.int .i64 tx, .int .i64 d] 44)).grown q2 (fun g hg _ => hg.symm)); have X5 := hide (Box.keep X2.out K5.out (fun q9 => by have := HLW.out _ q9.symm; omega)); have B5 := hide ((B2.out.alloc sz2 _).grown q2 (by simp; omega) (fun j hj => (World.ownsRow.lt R3.out j hj).1)); obtain ⟨u0, u1, u2, u3, u4⟩ := X5.out; have s5 := B5.out.size; have R6 := hide (GRow.below q1 (alloc_below w5 (.cells #[.int .i64 px, .int .i64 pn] 44))); have L6 := hide (lit_lies w5 #[.int .i64 px, .int .i64 pn] 44); clear X2 t0 t1 t2 t3 t4 K5 X5; obtain ⟨av, cv, rfl, -, -, -, -, -⟩ := GRow.lies q1)
          go_wp2_with (at_builtin; refine wpList_appR Try.underlying41 info44 rfl (by decide) (by decide) rfl (.tmp _) (.tmp _) rfl w1.heap.size _ (U.length + 1) _ rfl R6.out (some ⟨w5.heap.size, 0, none⟩) 1 1 (netC (px, pn)) rfl rfl L6.out (netC_one _) (by nofun) (by omega) (by simp; omega) ?_; intro v' w6 p1 p2 p3; obtain ⟨aw, cw, rfl, -, -, -, -, -⟩ := GRow.lies p1)
          go_roundw
          case rel =>
            refine ⟨k + 1, aw, cw, by omega, by go_num, ?_, ?_, ?_, ?_⟩
            · rw [HH.out.2]; simp
            · rw [HH.out.1]
            · rw [HH.out.2, rowsC_snoc, rowsC_snoc, List.length_append, List.length_append, HW.out]; exact p1
            · exact (B5.out.alloc s5 _).grown p2 (by simp; omega) (fun j hj => (World.ownsRow.lt R6.out j hj).1)
          case measure => simp [intOf]; omega
    · obtain rfl : k = e.nets.length := by omega
      have HE := hide (ins_end (L := e.nets) (tx := tx) V)
      have HROW := hide hrow
      have HB := hide hb
      obtain ⟨x3, f3⟩ := hre.cells.get 3 _ rfl
      have HRE := hide hre
      have sz := hb.size
      clear hrow hb hre
      by_cases hdn : dnB e.nets tx e.nets.length = true
      · have HP := hide (HE.out.1 hdn)
        rw [HP.out] at HROW hul ⊢
        rw [hdn]
        clear HE hdn
        go_wp2_with fail
        go_ret
        refine ⟨ao, co, rfl, ?_, ?_, ?_⟩
        · have := RX.set (f := { e with nets := putN tx V e.nets }) HRE.out.rx HROW.out (Nat.lt_of_lt_of_le hbl B1.out.size) rfl rfl rfl (by have := OK.out; rw [HZ.out] at this; exact this)
          rw [HZ.out]
          exact this
        · intro ad hd
          subst hd
          have := (World.ownsRow.lt HROW.out ad.block rfl).1
          have := B1.out.size
          omega
        · exact (Keep.of_below (S := fun x => x = b) (B1.out.trans (HB.out.mono B1.out.size))).setCell (fun _ => rfl) _
      · have hdf : dnB e.nets tx e.nets.length = false := by simpa using hdn
        have HP := hide (HE.out.2 hdf)
        have HW := hide (show V = d from by rw [HVV.out, HP.out.2, Int.zero_add])
        rw [hdf]
        clear HE hdn hdf
        generalize insN e.nets tx V e.nets.length = U at *
        have R6 := hide (GRow.below HROW.out (alloc_below wr (.cells #[.int .i64 tx, .int .i64 d] 44)))
        have L6 := hide (lit_lies wr #[.int .i64 tx, .int .i64 d] 44)
        go_wp2_with (at_builtin; refine wpList_appR Try.underlying41 info44 rfl (by decide) (by decide) rfl (.tmp _) (.tmp _) rfl w1.heap.size _ U.length (rowsC netC U) rfl R6.out (some ⟨wr.heap.size, 0, none⟩) 1 1 (netC (tx, d)) rfl rfl L6.out (netC_one _) (by nofun) (by omega) (by simp; omega) ?_; intro v' w6 p1 p2 p3; obtain ⟨aw, cw, rfl, -, -, -, -, -⟩ := GRow.lies p1; have B6 := hide ((HB.out.alloc sz _).grown p2 (by simp; omega) (fun j hj => (World.ownsRow.lt R6.out j hj).1)); have R7 := hide (R1.out.below B6.out); have P1 := hide p1; obtain ⟨x7, f7⟩ := R7.out.cells.get 3 _ rfl; clear p1 p2 p3 x3 f3 k3 HRE)
        go_ret
        have hu2 : putN tx V e.nets = U ++ [(tx, d)] := by rw [← HW.out]; exact HP.out.1
        have F1 : RE (w6.setCell ⟨b, 3, none⟩ (.slice aw (U.length + 1) cw)) b (addN e tx d) aw cw := by
          have := RX.set (f := { e with nets := putN tx V e.nets }) (a' := aw) (c' := cw) R7.out.rx (by
            show GRow w6 w1.heap.size 44 2 (.slice aw (putN tx V e.nets).length cw) (putN tx V e.nets).length (rowsC netC (putN tx V e.nets))
            rw [hu2, rowsC_snoc, List.length_append]
            exact P1.out) (Nat.lt_of_lt_of_le hbl B1.out.size) rfl rfl rfl (by have := OK.out; rw [HZ.out] at this; exact this)
          rw [HZ.out]
          have e9 : (putN tx V e.nets).length = U.length + 1 := by rw [hu2]; simp
          rw [show ({ e with nets := putN tx V e.nets } : Esc).nets.length = U.length + 1 from e9] at this
          exact this
        have F2 : ∀ ad, aw = some ad → w.heap.size ≤ ad.block := by
          intro ad hd
          subst hd
          have := (World.ownsRow.lt P1.out ad.block rfl).1
          have := B1.out.size
          omega
        have F3 : Keep (fun x => x = b) w (w6.setCell ⟨b, 3, none⟩ (.slice aw (U.length + 1) cw)) := (Keep.of_below (S := fun x => x = b) (B1.out.trans (B6.out.mono B1.out.size))).setCell (fun _ => rfl) _
        exact ⟨rfl, aw, ⟨cw, F1⟩, F2, F3⟩

theorem rAdd_any (b : Nat) (e : Esc) (a : Option Addr) (c : Nat) (tx d : Int) (w : World) (h : RE w b e a c) (hl : e.nets.length ≤ 1400) (hd : I64 d) :
    Calls Try.prog 48 #[ptr b, .int .i64 tx, .int .i64 d] w fun r w' => ∃ a' c', r = .returned (.int .i64 (mayE e tx d)) ∧ RE w' b (addN e tx d) a' c' ∧ (∀ ad, a' = some ad → a = some ad ∨ w.heap.size ≤ ad.block) ∧ Keep (fun x => x = b) w w' := by
  by_cases hz : mayE e tx d = 0
  · refine (rAdd_yes b e a c tx d w h hl hd hz).mono ?_
    rintro r w' ⟨a', c', rfl, h1, h2, h3⟩
    exact ⟨a', c', by rw [hz], h1, fun ad hd => .inr (h2 ad hd), h3⟩
  · refine (rAdd_no b e a c tx d w h hl hd hz).mono ?_
    rintro r w' ⟨rfl, h1⟩
    exact ⟨a, c, rfl, by rw [addN_no hz]; exact h.below h1, fun ad hd => .inl hd, Keep.of_below h1⟩
end Go.Proofs.Ytcnlcmdppkdmmaa
