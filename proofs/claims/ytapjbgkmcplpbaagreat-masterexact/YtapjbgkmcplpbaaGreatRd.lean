import Derived.Test.YtapjbgkmcplpbaaGreatG18
import Derived.Deep.MidRow
namespace Go.Proofs.YtapjbgkmcplpbaaGreat
open Go.RowKit Go.QK

theorem wp_load_seen {op : Oper} {a : Act} {w : World} {K : Act → World → Prop} {Q : Exit → Act → World → Prop} (x : Operand) (ho : op.op = .load 108 x)
    (g : Nat) (hx : a.eval x = .pointer (some ⟨g, 0, none⟩)) (L : List Nat) (h : Bytes w (some ⟨g, 0, none⟩) L) (hl : L.length = 512) (k : K (a.put op.dst (.agg (bytesV L))) w) : op.wp Tryz.prog a w K Q := by
  refine wp_load_mid 108 x ho g 0 hx ((ints L).map (Value.int .u8)) _ ?_ Tryz.underlying108 rfl (by rw [List.length_map, ints_length, hl]; exact info91) k
  intro j v hv
  have hj : j < L.length := by simpa using (List.getElem?_eq_some_iff.1 hv).1
  obtain ⟨b, off, he, _, hc⟩ := h.at hj
  cases he
  rw [hc]
  simp [ints, hj] at hv
  rw [← hv]
  simp [hj]
theorem wp_toArr {op : Oper} {a : Act} {w : World} {K : Act → World → Prop} {Q : Exit → Act → World → Prop} (x : Operand) (ho : op.op = .sliceToArrayPointer 108 x)
    (ad : Addr) (c : Nat) (hx : a.eval x = .slice (some ad) 512 c) (k : K (a.put op.dst (.pointer (some ad))) w) : op.wp Tryz.prog a w K Q := by
  have e : (Instr.arrayAt 108 (.slice (some ad) 512 c)).run Tryz.prog w = .ok (.pointer (some ad)) w := by
    unfold Instr.arrayAt
    rw [Sem.run_bind, run_underlying Tryz.underlying108 w]
    rfl
  unfold Oper.wp execOp
  simp only [ho, hx, Sem.run_bind, e, Result.andThen]
  exact k
theorem exec_load_arr {ev : Operand → Value} {op : Oper} {w : World} (x : Operand) (ho : op.op = .load 108 x) {g : Nat} (hx : ev x = .pointer (some ⟨g, 0, none⟩)) {L : List Nat} (h : Arr w 108 g L) (hl : L.length = 512) :
    (execOp ev op).run Tryz.prog w = .ok (.value (.agg (bytesV L))) w := by
  unfold execOp
  simp only [ho, hx, Sem.run_bind, load_arr h hl, Result.andThen]
  rfl

def zero5 : Array Value := #[.int .u64 0, .int .i64 0, .int .i64 0, .int .i64 0, .int .i64 0]
theorem slotC_none : slotC Slot.none = zero5 := rfl
/-- A slot is laid over block b. -/
def put5 (w : World) (b : Nat) (s : Slot) : World := ((((w.setCell ⟨b, 0, none⟩ (.int .u64 (s.stamp : Int))).setCell ⟨b, 1, none⟩ (.int .i64 (s.pages : Int))).setCell ⟨b, 2, none⟩ (.int .i64 (s.log : Int))).setCell ⟨b, 3, none⟩ (.int .i64 (s.frames : Int))).setCell ⟨b, 4, none⟩ (.int .i64 (s.point : Int))
def put0 (w : World) (b : Nat) : World := ((((w.setCell ⟨b, 0, none⟩ (.int .u64 0)).setCell ⟨b, 1, none⟩ (.int .i64 0)).setCell ⟨b, 2, none⟩ (.int .i64 0)).setCell ⟨b, 3, none⟩ (.int .i64 0)).setCell ⟨b, 4, none⟩ (.int .i64 0)
theorem put0_eq (w : World) (b : Nat) : put5 w b Slot.none = put0 w b := rfl
theorem put5_keep (w : World) (b : Nat) (s : Slot) : Keep (fun k => k = b) w (put5 w b s) := (((((Keep.refl (fun k => k = b) w).setCell (fun _ => rfl) _).setCell (fun _ => rfl) _).setCell (fun _ => rfl) _).setCell (fun _ => rfl) _).setCell (fun _ => rfl) _
theorem SlotAt.put5 {w : World} {b : Nat} {t : Slot} (h : SlotAt w b t) (s : Slot) : SlotAt (put5 w b s) b s := by
  have e := ((((Cells.stored h (j := 0) (by simp [slotC]) (.int .u64 (s.stamp : Int))).stored (j := 1) (by simp [slotC]) (.int .i64 (s.pages : Int))).stored (j := 2) (by simp [slotC]) (.int .i64 (s.log : Int))).stored (j := 3) (by simp [slotC]) (.int .i64 (s.frames : Int))).stored (j := 4) (by simp [slotC]) (.int .i64 (s.point : Int))
  exact e

/-- What the walk through 'read' holds on to. -/
def RdH (b8 : Nat) (s : Slot) (b7 : Nat) (L : List Nat) (wq : World) : Prop := Five b8 s wq ∧ Arr wq 108 b7 L

set_option maxHeartbeats 8000000 in
set_option maxRecDepth 100000 in
theorem slot_any {w : World} {S : Nat → Prop} {d : Nat} {g : Dev} (h : PDev w S d g) (hd : g.down = false) (i : Nat) (hpl : g.pend.length ≤ 1000000) :
    Calls Tryz.prog 73 #[.pointer (some ⟨d, 0, none⟩), .int .i64 (i : Int)] w fun e w' => e = .returned (.agg (slotC (g.slot i))) ∧ Below w.heap.size w w' := by
  obtain ⟨w1, hw1⟩ : ∃ w1, w1 = w.alloc (.cells #[.int .u64 0, .int .i64 0, .int .i64 0, .int .i64 0, .int .i64 0] 82) := ⟨_, rfl⟩
  have R1 : SlotAt w1 w.heap.size Slot.none := by rw [hw1]; exact SlotAt.new w Slot.none
  have b1 : Below w.heap.size w w1 := by rw [hw1]; exact alloc_below _ _
  have z1 : w1.heap.size = w.heap.size + 1 := by rw [hw1]; simp
  have P1 := h.below b1
  have K := read_any P1 (i : Int) hpl
  have ok := h.ok
  have HW := hide hw1
  have Z := zero_run
  have sn : g.n * 512 = g.img.length := by obtain ⟨n, _, _, e⟩ := ok.size; unfold Dev.n; omega
  clear hw1
  unfold Dev.slot
  by_cases hi : i < g.n
  · rw [if_pos hi]
    have hr : g.reach (i : Int) = 0 := by unfold Dev.reach; rw [hd, if_neg (by decide), if_neg (by omega)]
    have hrb : g.readB (i : Int) = g.content i := by unfold Dev.readB; rw [if_pos hr]; rfl
    rw [hr, hrb] at K
    clear hr
    have hl := content_len ok i (by omega)
    have hb := content_allB ok i
    generalize g.content i = L at *
    obtain ⟨s, hs⟩ : ∃ s, s = apartB L := ⟨_, rfl⟩
    have fit : s.Fit := by rw [hs]; exact apartB_fit hb
    have KA := fun w' => hide (apart_any L w' hl hb)
    rw [← hs] at KA
    have RB : readB L i g.n = if s.stands i g.n ∧ slotB s = L then s else Slot.none := by rw [hs]; rfl
    rw [RB]
    obtain ⟨r, hr⟩ : ∃ r, r = (if s.stands i g.n ∧ slotB s = L then s else Slot.none) := ⟨_, rfl⟩
    rw [← hr]
    have HR := hide hr
    have K := hide K
    have P1 := hide P1
    have R1 := hide R1
    have B1 := hide b1
    have hL := hide hl
    have FIT := hide fit
    clear RB hr hs hrb sn hi b1 ok h hl hb fit
    unfold slotC at KA
    go_enter Tryz.func73, Tryz.ntmps73
    go_wp2_with fail
    rw [← HW.out]
    clear HW
    refine K.out.mono ?_
    rintro e w2 ⟨v2, rfl, o2, b2⟩
    obtain ⟨gb, cap, rfl, hcap, _, hgb⟩ := o2.form (by rw [ints_length, hL.out]; omega)
    have sn2 := hide o2.seen_at
    rw [ints_length, hL.out] at hcap ⊢
    have R2 := hide (R1.out.below b2)
    have P2 := hide (P1.out.below b2)
    have B2 := hide (bnext B1.out b2 (Nat.le_refl _))
    have z2 : w.heap.size < w2.heap.size := by have := b2.size; omega
    obtain ⟨w3, X3, a3, k3⟩ := cells_arr (M := L) (Arr.new w2 108 zerosB) (by kernel_rfl) hL.out
    have kk : Below w2.heap.size w2 w3 := (alloc_below w2 _).trans (k3.below (by simp) (fun k hk => by omega))
    have R3 := hide (R2.out.below kk)
    have P3 := hide (P2.out.below kk)
    have B3 := hide (bnext B2.out kk (Nat.le_refl _))
    have z3 : w2.heap.size < w3.heap.size := by have := k3.size; simp at this; omega
    have A3 := hide a3
    clear K P1 R1 B1 o2 b2 R2 P2 B2 a3 k3 kk hgb z1
    go_wp2_with fail
    refine wp_toArr (.tmp 18) (by rfl) ⟨gb, 0, none⟩ cap (by rfl) ?_
    go_wp2_with fail
    refine wp_load_seen (.tmp 19) (by rfl) gb (by rfl) L sn2.out hL.out ?_
    clear sn2
    go_wp2_with fail
    refine wp_load_arr (.tmp 7) (by rfl) w2.heap.size (by rfl) L A3.out hL.out ?_
    clear X3
    go_wp2_with fail
    refine (KA w3).out.mono ?_
    rintro e w4 ⟨rfl, b4⟩
    obtain ⟨w5, hw5⟩ : ∃ w5, w5 = w4.alloc (.cells (slotC s) 82) := ⟨_, rfl⟩
    have S5 : SlotAt w5 w4.heap.size s := by rw [hw5]; exact SlotAt.new w4 s
    have b5 : Below w4.heap.size w4 w5 := by rw [hw5]; exact alloc_below _ _
    have z5 : w4.heap.size < w5.heap.size := by rw [hw5]; simp
    have kk : Below w3.heap.size w3 w5 := bnext b4 b5 (Nat.le_refl _)
    have R5 := hide (R3.out.below kk)
    have P5 := hide (P3.out.below kk)
    have B5 := hide (bnext B3.out kk (Nat.le_refl _))
    have A5 := hide (A3.out.below kk)
    have S5 := hide S5
    have z4 := b4.size
    have HW5 := hide hw5
    clear KA b4 b5 kk hw5 R3 P3 B3 A3
    go_upto_region 6 with fail
    unfold slotC at HW5
    rw [← HW5.out]
    clear HW5
    have KS := hide (sectors_any (P5.out.below ((Below.refl w5.heap.size w5).drew)))
    have KM := hide (mayStand_any s i g.n w5.drew FIT.out)
    unfold slotC at KM
    have D5 : Below w5.heap.size w5 w5.drew := (Below.refl _ _).drew
    generalize g.n = gn at *
    refine wp_region_held_drew (S := RdH w4.heap.size s w2.heap.size L) (by kernel_rfl) ⟨S5.out.five, A5.out⟩ (fun hS => ?_)
    by_cases hst : s.stands i gn
    · rw [decide_eq_true hst] at KM
      by_cases heq : slotB s = L
      · have NE := fun w => neq_arr (slotB s) L (slotB_length s) hL.out w
        rw [decide_eq_true heq] at NE
        obtain rfl : s = r := by rw [HR.out, if_pos ⟨hst, heq⟩]
        clear hst heq HR
        refine take_at 0 (some 23) (v := ?_) rfl rfl (by kernel_rfl) (by kernel_rfl) (by kernel_rfl) (fun _ _ _ h => h) ⟨by rfl, ?_⟩ hS ?_
        rotate_left
        · intro wq hSw; obtain ⟨⟨x0, x1, x2, x3, x4⟩, _⟩ := hSw; go_simp; try rfl
        simp only [Act.put, List.setIfInBounds_toArray, List.set_cons_zero, List.set_cons_succ]
        refine take_at 1 (some 24) (v := ?_) rfl rfl (by kernel_rfl) (by kernel_rfl) (by kernel_rfl) (fun _ _ _ h => h) ⟨by rfl, ?_⟩ hS ?_
        rotate_left
        · intro wq hSw; go_simp; try rfl
        simp only [Act.put, List.setIfInBounds_toArray, List.set_cons_zero, List.set_cons_succ]
        refine take_at 2 (some 25) (v := ?_) rfl rfl (by kernel_rfl) (by kernel_rfl) (by kernel_rfl) (fun _ _ _ h => h) ⟨by rfl, ?_⟩ hS ?_
        rotate_left
        · intro wq hSw; go_simp; try rfl
        simp only [Act.put, List.setIfInBounds_toArray, List.set_cons_zero, List.set_cons_succ]
        refine wpAnyH_ready (rs := [3]) (by kernel_rfl) (by simp) ?_
        refine AllReadyH.cons rfl (fun K hK => ?_) AllReadyH.nil
        go_simp
        go_wp2_with fail
        refine KS.out.mono ?_
        rintro e w' ⟨rfl, hw⟩
        obtain rfl : w5.drew = w' := hw.symm
        go_wp2_with fail
        refine hK.out _ _ hS (fun hS => ?_)
        clear hK K
        clear KS
        (try simp only [Act.put, List.setIfInBounds_toArray, List.set_cons_zero, List.set_cons_succ])
        refine wpAnyH_ready (rs := [4]) (by kernel_rfl) (by simp) ?_
        refine AllReadyH.cons rfl (fun K hK => ?_) AllReadyH.nil
        go_simp
        go_wp2_with fail
        refine KM.out.mono ?_
        rintro e w6 ⟨rfl, b6⟩
        have S6 := hide (S5.out.drew.below b6)
        have A6 := hide ((A5.out.below D5).below b6)
        have R6 := hide ((R5.out.below D5).below b6)
        have B6 := hide (bnext B5.out (below_undrew b6) (Nat.le_refl _))
        have z6 : w5.heap.size ≤ w6.heap.size := b6.size
        clear b6 S5 A5 R5 B5 D5 KM P5
        go_wp2_with fail
        refine hK.out _ _ ⟨S6.out.five, A6.out⟩ (fun hS => ?_)
        clear hK K
        (try simp only [Act.put, List.setIfInBounds_toArray, List.set_cons_zero, List.set_cons_succ])
        refine take_at 5 (some 28) (v := ?_) rfl rfl (by kernel_rfl) (by kernel_rfl) (by kernel_rfl) (fun _ _ _ h => h) ⟨by rfl, ?_⟩ hS ?_
        rotate_left
        · intro wq hSw; go_simp; try rfl
        simp only [Act.put, List.setIfInBounds_toArray, List.set_cons_zero, List.set_cons_succ]
        refine take_at 6 (some 29) (v := ?_) rfl rfl (by kernel_rfl) (by kernel_rfl) (by kernel_rfl) (fun _ _ _ h => h) ⟨by rfl, ?_⟩ hS ?_
        rotate_left
        · intro wq hSw; go_simp; try rfl
        simp only [Act.put, List.setIfInBounds_toArray, List.set_cons_zero, List.set_cons_succ]
        refine take_at 7 (some 30) (v := ?_) rfl rfl (by kernel_rfl) (by kernel_rfl) (by kernel_rfl) (fun _ _ _ h => h) ⟨by rfl, ?_⟩ hS ?_
        rotate_left
        · intro wq hSw; obtain ⟨⟨x0, x1, x2, x3, x4⟩, _⟩ := hSw; go_simp; try rfl
        simp only [Act.put, List.setIfInBounds_toArray, List.set_cons_zero, List.set_cons_succ]
        refine take_at 9 (some 32) (v := .agg (bytesV L)) rfl rfl (by kernel_rfl) (by kernel_rfl) (by kernel_rfl) (fun _ _ _ h => h) ⟨by rfl, ?_⟩ hS ?_
        · intro wq hSw; exact exec_load_arr (.tmp 7) (by rfl) (by rfl) hSw.2 hL.out
        simp only [Act.put, List.setIfInBounds_toArray, List.set_cons_zero, List.set_cons_succ]
        refine wpAnyH_ready (rs := [8]) (by kernel_rfl) (by simp) ?_
        refine AllReadyH.cons rfl (fun K hK => ?_) AllReadyH.nil
        go_simp
        go_wp2_with fail
        refine (sector_any s w6 FIT.out).mono ?_
        rintro e w7 ⟨rfl, b7⟩
        have S7 := hide (S6.out.below b7)
        have A7 := hide (A6.out.below b7)
        have R7 := hide (R6.out.below b7)
        have B7 := hide (bnext B6.out b7 (Nat.le_refl _))
        have z7 : w5.heap.size ≤ w7.heap.size := Nat.le_trans z6 b7.size
        clear b7 S6 A6 R6 B6 z6
        go_wp2_with fail
        refine hK.out _ _ ⟨S7.out.five, A7.out⟩ (fun hS => ?_)
        clear hK K
        (try simp only [Act.put, List.setIfInBounds_toArray, List.set_cons_zero, List.set_cons_succ])
        refine take_at 10 (some 33) (v := ?_) rfl rfl (by kernel_rfl) (by kernel_rfl) (by kernel_rfl) (fun _ _ _ h => h) ⟨by rfl, ?_⟩ hS ?_
        rotate_left
        · intro wq hSw; go_simp; try rfl
        simp only [Act.put, List.setIfInBounds_toArray, List.set_cons_zero, List.set_cons_succ]
        refine take_at 11 (some 34) (v := ?_) rfl rfl (by kernel_rfl) (by kernel_rfl) (by kernel_rfl) (fun _ _ _ h => h) ⟨by rfl, ?_⟩ hS ?_
        rotate_left
        · intro wq hSw; go_simp; try rfl
        simp only [Act.put, List.setIfInBounds_toArray, List.set_cons_zero, List.set_cons_succ]
        refine wpAnyH_done (by kernel_rfl) ?_ _
        have t0 := S7.out.at0
        have t1 := S7.out.at1
        have t2 := S7.out.at2
        have t3 := S7.out.at3
        have t4 := S7.out.at4
        have q0 := R7.out.at0
        have q1 := R7.out.at1
        have q2 := R7.out.at2
        have q3 := R7.out.at3
        have q4 := R7.out.at4
        have f0 := R7.out.fr 0 (by omega)
        have f1 := R7.out.fr 1 (by omega)
        have f2 := R7.out.fr 2 (by omega)
        have f3 := R7.out.fr 3 (by omega)
        have f4 := R7.out.fr 4 (by omega)
        obtain ⟨w8, hw8⟩ : ∃ w8, w8 = put5 w7 w.heap.size s := ⟨_, rfl⟩
        have E8 : SlotAt w8 w.heap.size s := by rw [hw8]; exact R7.out.put5 s
        have B8 : Below w.heap.size w w8 := by rw [hw8]; exact B7.out.trans ((put5_keep w7 w.heap.size s).below (by omega) (fun k hk => by omega))
        have HW8 := hide hw8
        clear hw8 R7 S7 A7 B7 hS
        skip
        unfold put5 at HW8
        go_wp2_with fail
        skip
        have y0 := E8.at0
        have y1 := E8.at1
        have y2 := E8.at2
        have y3 := E8.at3
        have y4 := E8.at4
        have EE := hide E8
        rw [← HW8.out]
        exact bodyPost_ret (v := .agg (slotC s)) (by simp [results, Tryz.results73, go_sem, y0, y1, y2, y3, y4, slotC]) rfl ⟨rfl, B8⟩
      · have NE := fun w => neq_arr (slotB s) L (slotB_length s) hL.out w
        rw [decide_eq_false heq] at NE
        obtain rfl : Slot.none = r := by rw [HR.out, if_neg (fun q => heq q.2)]
        clear hst heq HR
        refine take_at 0 (some 23) (v := ?_) rfl rfl (by kernel_rfl) (by kernel_rfl) (by kernel_rfl) (fun _ _ _ h => h) ⟨by rfl, ?_⟩ hS ?_
        rotate_left
        · intro wq hSw; obtain ⟨⟨x0, x1, x2, x3, x4⟩, _⟩ := hSw; go_simp; try rfl
        simp only [Act.put, List.setIfInBounds_toArray, List.set_cons_zero, List.set_cons_succ]
        refine take_at 1 (some 24) (v := ?_) rfl rfl (by kernel_rfl) (by kernel_rfl) (by kernel_rfl) (fun _ _ _ h => h) ⟨by rfl, ?_⟩ hS ?_
        rotate_left
        · intro wq hSw; go_simp; try rfl
        simp only [Act.put, List.setIfInBounds_toArray, List.set_cons_zero, List.set_cons_succ]
        refine take_at 2 (some 25) (v := ?_) rfl rfl (by kernel_rfl) (by kernel_rfl) (by kernel_rfl) (fun _ _ _ h => h) ⟨by rfl, ?_⟩ hS ?_
        rotate_left
        · intro wq hSw; go_simp; try rfl
        simp only [Act.put, List.setIfInBounds_toArray, List.set_cons_zero, List.set_cons_succ]
        refine wpAnyH_ready (rs := [3]) (by kernel_rfl) (by simp) ?_
        refine AllReadyH.cons rfl (fun K hK => ?_) AllReadyH.nil
        go_simp
        go_wp2_with fail
        refine KS.out.mono ?_
        rintro e w' ⟨rfl, hw⟩
        obtain rfl : w5.drew = w' := hw.symm
        go_wp2_with fail
        refine hK.out _ _ hS (fun hS => ?_)
        clear hK K
        clear KS
        (try simp only [Act.put, List.setIfInBounds_toArray, List.set_cons_zero, List.set_cons_succ])
        refine wpAnyH_ready (rs := [4]) (by kernel_rfl) (by simp) ?_
        refine AllReadyH.cons rfl (fun K hK => ?_) AllReadyH.nil
        go_simp
        go_wp2_with fail
        refine KM.out.mono ?_
        rintro e w6 ⟨rfl, b6⟩
        have S6 := hide (S5.out.drew.below b6)
        have A6 := hide ((A5.out.below D5).below b6)
        have R6 := hide ((R5.out.below D5).below b6)
        have B6 := hide (bnext B5.out (below_undrew b6) (Nat.le_refl _))
        have z6 : w5.heap.size ≤ w6.heap.size := b6.size
        clear b6 S5 A5 R5 B5 D5 KM P5
        go_wp2_with fail
        refine hK.out _ _ ⟨S6.out.five, A6.out⟩ (fun hS => ?_)
        clear hK K
        (try simp only [Act.put, List.setIfInBounds_toArray, List.set_cons_zero, List.set_cons_succ])
        refine take_at 5 (some 28) (v := ?_) rfl rfl (by kernel_rfl) (by kernel_rfl) (by kernel_rfl) (fun _ _ _ h => h) ⟨by rfl, ?_⟩ hS ?_
        rotate_left
        · intro wq hSw; go_simp; try rfl
        simp only [Act.put, List.setIfInBounds_toArray, List.set_cons_zero, List.set_cons_succ]
        refine take_at 6 (some 29) (v := ?_) rfl rfl (by kernel_rfl) (by kernel_rfl) (by kernel_rfl) (fun _ _ _ h => h) ⟨by rfl, ?_⟩ hS ?_
        rotate_left
        · intro wq hSw; go_simp; try rfl
        simp only [Act.put, List.setIfInBounds_toArray, List.set_cons_zero, List.set_cons_succ]
        refine take_at 7 (some 30) (v := ?_) rfl rfl (by kernel_rfl) (by kernel_rfl) (by kernel_rfl) (fun _ _ _ h => h) ⟨by rfl, ?_⟩ hS ?_
        rotate_left
        · intro wq hSw; obtain ⟨⟨x0, x1, x2, x3, x4⟩, _⟩ := hSw; go_simp; try rfl
        simp only [Act.put, List.setIfInBounds_toArray, List.set_cons_zero, List.set_cons_succ]
        refine take_at 9 (some 32) (v := .agg (bytesV L)) rfl rfl (by kernel_rfl) (by kernel_rfl) (by kernel_rfl) (fun _ _ _ h => h) ⟨by rfl, ?_⟩ hS ?_
        · intro wq hSw; exact exec_load_arr (.tmp 7) (by rfl) (by rfl) hSw.2 hL.out
        simp only [Act.put, List.setIfInBounds_toArray, List.set_cons_zero, List.set_cons_succ]
        refine wpAnyH_ready (rs := [8]) (by kernel_rfl) (by simp) ?_
        refine AllReadyH.cons rfl (fun K hK => ?_) AllReadyH.nil
        go_simp
        go_wp2_with fail
        refine (sector_any s w6 FIT.out).mono ?_
        rintro e w7 ⟨rfl, b7⟩
        have S7 := hide (S6.out.below b7)
        have A7 := hide (A6.out.below b7)
        have R7 := hide (R6.out.below b7)
        have B7 := hide (bnext B6.out b7 (Nat.le_refl _))
        have z7 : w5.heap.size ≤ w7.heap.size := Nat.le_trans z6 b7.size
        clear b7 S6 A6 R6 B6 z6
        go_wp2_with fail
        refine hK.out _ _ ⟨S7.out.five, A7.out⟩ (fun hS => ?_)
        clear hK K
        (try simp only [Act.put, List.setIfInBounds_toArray, List.set_cons_zero, List.set_cons_succ])
        refine take_at 10 (some 33) (v := ?_) rfl rfl (by kernel_rfl) (by kernel_rfl) (by kernel_rfl) (fun _ _ _ h => h) ⟨by rfl, ?_⟩ hS ?_
        rotate_left
        · intro wq hSw; go_simp; try rfl
        simp only [Act.put, List.setIfInBounds_toArray, List.set_cons_zero, List.set_cons_succ]
        refine take_at 11 (some 34) (v := ?_) rfl rfl (by kernel_rfl) (by kernel_rfl) (by kernel_rfl) (fun _ _ _ h => h) ⟨by rfl, ?_⟩ hS ?_
        rotate_left
        · intro wq hSw; go_simp; try rfl
        simp only [Act.put, List.setIfInBounds_toArray, List.set_cons_zero, List.set_cons_succ]
        refine wpAnyH_done (by kernel_rfl) ?_ _
        have q0 := R7.out.at0
        have q1 := R7.out.at1
        have q2 := R7.out.at2
        have q3 := R7.out.at3
        have q4 := R7.out.at4
        have f0 := R7.out.fr 0 (by omega)
        have f1 := R7.out.fr 1 (by omega)
        have f2 := R7.out.fr 2 (by omega)
        have f3 := R7.out.fr 3 (by omega)
        have f4 := R7.out.fr 4 (by omega)
        obtain ⟨w8, hw8⟩ : ∃ w8, w8 = put5 w7 w.heap.size Slot.none := ⟨_, rfl⟩
        have E8 : SlotAt w8 w.heap.size Slot.none := by rw [hw8]; exact R7.out.put5 Slot.none
        have B8 : Below w.heap.size w w8 := by rw [hw8]; exact B7.out.trans ((put5_keep w7 w.heap.size Slot.none).below (by omega) (fun k hk => by omega))
        have HW8 := hide hw8
        clear hw8 R7 S7 A7 B7 hS
        rw [put0_eq] at HW8
        unfold put0 at HW8
        go_wp2_with fail
        skip
        have y0 := E8.at0
        have y1 := E8.at1
        have y2 := E8.at2
        have y3 := E8.at3
        have y4 := E8.at4
        have EE := hide E8
        rw [← HW8.out]
        exact bodyPost_ret (v := .agg (slotC Slot.none)) (by simp [results, Tryz.results73, go_sem, y0, y1, y2, y3, y4, slotC]) rfl ⟨rfl, B8⟩
    · rw [decide_eq_false hst] at KM
      obtain rfl : Slot.none = r := by rw [HR.out, if_neg (fun q => hst q.1)]
      clear hst HR
      refine take_at 0 (some 23) (v := ?_) rfl rfl (by kernel_rfl) (by kernel_rfl) (by kernel_rfl) (fun _ _ _ h => h) ⟨by rfl, ?_⟩ hS ?_
      rotate_left
      · intro wq hSw; obtain ⟨⟨x0, x1, x2, x3, x4⟩, _⟩ := hSw; go_simp; try rfl
      simp only [Act.put, List.setIfInBounds_toArray, List.set_cons_zero, List.set_cons_succ]
      refine take_at 1 (some 24) (v := ?_) rfl rfl (by kernel_rfl) (by kernel_rfl) (by kernel_rfl) (fun _ _ _ h => h) ⟨by rfl, ?_⟩ hS ?_
      rotate_left
      · intro wq hSw; go_simp; try rfl
      simp only [Act.put, List.setIfInBounds_toArray, List.set_cons_zero, List.set_cons_succ]
      refine take_at 2 (some 25) (v := ?_) rfl rfl (by kernel_rfl) (by kernel_rfl) (by kernel_rfl) (fun _ _ _ h => h) ⟨by rfl, ?_⟩ hS ?_
      rotate_left
      · intro wq hSw; go_simp; try rfl
      simp only [Act.put, List.setIfInBounds_toArray, List.set_cons_zero, List.set_cons_succ]
      refine wpAnyH_ready (rs := [3]) (by kernel_rfl) (by simp) ?_
      refine AllReadyH.cons rfl (fun K hK => ?_) AllReadyH.nil
      go_simp
      go_wp2_with fail
      refine KS.out.mono ?_
      rintro e w' ⟨rfl, hw⟩
      obtain rfl : w5.drew = w' := hw.symm
      go_wp2_with fail
      refine hK.out _ _ hS (fun hS => ?_)
      clear hK K
      clear KS
      (try simp only [Act.put, List.setIfInBounds_toArray, List.set_cons_zero, List.set_cons_succ])
      refine wpAnyH_ready (rs := [4]) (by kernel_rfl) (by simp) ?_
      refine AllReadyH.cons rfl (fun K hK => ?_) AllReadyH.nil
      go_simp
      go_wp2_with fail
      refine KM.out.mono ?_
      rintro e w6 ⟨rfl, b6⟩
      have S6 := hide (S5.out.drew.below b6)
      have A6 := hide ((A5.out.below D5).below b6)
      have R6 := hide ((R5.out.below D5).below b6)
      have B6 := hide (bnext B5.out (below_undrew b6) (Nat.le_refl _))
      have z6 : w5.heap.size ≤ w6.heap.size := b6.size
      clear b6 S5 A5 R5 B5 D5 KM P5
      go_wp2_with fail
      refine hK.out _ _ ⟨S6.out.five, A6.out⟩ (fun hS => ?_)
      clear hK K
      (try simp only [Act.put, List.setIfInBounds_toArray, List.set_cons_zero, List.set_cons_succ])
      refine take_at 5 (some 28) (v := ?_) rfl rfl (by kernel_rfl) (by kernel_rfl) (by kernel_rfl) (fun _ _ _ h => h) ⟨by rfl, ?_⟩ hS ?_
      rotate_left
      · intro wq hSw; go_simp; try rfl
      simp only [Act.put, List.setIfInBounds_toArray, List.set_cons_zero, List.set_cons_succ]
      refine take_at 6 (some 29) (v := ?_) rfl rfl (by kernel_rfl) (by kernel_rfl) (by kernel_rfl) (fun _ _ _ h => h) ⟨by rfl, ?_⟩ hS ?_
      rotate_left
      · intro wq hSw; go_simp; try rfl
      simp only [Act.put, List.setIfInBounds_toArray, List.set_cons_zero, List.set_cons_succ]
      refine pass_at 7 (some 30) rfl rfl (by kernel_rfl) (by kernel_rfl) (by kernel_rfl) (fun _ _ _ h => h) (by rfl) hS ?_
      simp only [Act.put, List.setIfInBounds_toArray, List.set_cons_zero, List.set_cons_succ]
      refine pass_at 8 (some 31) rfl rfl (by kernel_rfl) (by kernel_rfl) (by kernel_rfl) (fun _ _ _ h => h) (by rfl) hS ?_
      simp only [Act.put, List.setIfInBounds_toArray, List.set_cons_zero, List.set_cons_succ]
      refine pass_at 9 (some 32) rfl rfl (by kernel_rfl) (by kernel_rfl) (by kernel_rfl) (fun _ _ _ h => h) (by rfl) hS ?_
      simp only [Act.put, List.setIfInBounds_toArray, List.set_cons_zero, List.set_cons_succ]
      refine pass_at 10 (some 33) rfl rfl (by kernel_rfl) (by kernel_rfl) (by kernel_rfl) (fun _ _ _ h => h) (by rfl) hS ?_
      simp only [Act.put, List.setIfInBounds_toArray, List.set_cons_zero, List.set_cons_succ]
      refine take_at 11 (some 34) (v := ?_) rfl rfl (by kernel_rfl) (by kernel_rfl) (by kernel_rfl) (fun _ _ _ h => h) ⟨by rfl, ?_⟩ hS ?_
      rotate_left
      · intro wq hSw; go_simp; try rfl
      simp only [Act.put, List.setIfInBounds_toArray, List.set_cons_zero, List.set_cons_succ]
      refine wpAnyH_done (by kernel_rfl) ?_ _
      have q0 := R6.out.at0
      have q1 := R6.out.at1
      have q2 := R6.out.at2
      have q3 := R6.out.at3
      have q4 := R6.out.at4
      have f0 := R6.out.fr 0 (by omega)
      have f1 := R6.out.fr 1 (by omega)
      have f2 := R6.out.fr 2 (by omega)
      have f3 := R6.out.fr 3 (by omega)
      have f4 := R6.out.fr 4 (by omega)
      obtain ⟨w8, hw8⟩ : ∃ w8, w8 = put5 w6 w.heap.size Slot.none := ⟨_, rfl⟩
      have E8 : SlotAt w8 w.heap.size Slot.none := by rw [hw8]; exact R6.out.put5 Slot.none
      have B8 : Below w.heap.size w w8 := by rw [hw8]; exact B6.out.trans ((put5_keep w6 w.heap.size Slot.none).below (by omega) (fun k hk => by omega))
      have HW8 := hide hw8
      clear hw8 R6 S6 A6 B6 hS
      rw [put0_eq] at HW8
      unfold put0 at HW8
      go_wp2_with fail
      skip
      have y0 := E8.at0
      have y1 := E8.at1
      have y2 := E8.at2
      have y3 := E8.at3
      have y4 := E8.at4
      have EE := hide E8
      rw [← HW8.out]
      exact bodyPost_ret (v := .agg (slotC Slot.none)) (by simp [results, Tryz.results73, go_sem, y0, y1, y2, y3, y4, slotC]) rfl ⟨rfl, B8⟩
  · rw [if_neg hi]
    have hr : g.reach (i : Int) = 41 := by unfold Dev.reach; rw [hd, if_neg (by decide), if_pos (by omega)]
    rw [hr] at K
    have K := hide K
    have R1 := hide R1
    have B1 := hide b1
    clear hr sn hi b1 ok h P1
    go_enter Tryz.func73, Tryz.ntmps73
    go_wp2_with fail
    rw [← HW.out]
    clear HW
    refine K.out.mono ?_
    rintro e w2 ⟨v2, rfl, o2, b2⟩
    have R2 := hide (R1.out.below b2)
    have B2 := hide (bnext B1.out b2 (Nat.le_refl _))
    have z2 : w.heap.size < w2.heap.size := by have := b2.size; omega
    clear K R1 B1 o2 b2
    have q0 := R2.out.at0
    have q1 := R2.out.at1
    have q2 := R2.out.at2
    have q3 := R2.out.at3
    have q4 := R2.out.at4
    have f0 := R2.out.fr 0 (by omega)
    have f1 := R2.out.fr 1 (by omega)
    have f2 := R2.out.fr 2 (by omega)
    have f3 := R2.out.fr 3 (by omega)
    have f4 := R2.out.fr 4 (by omega)
    obtain ⟨w8, hw8⟩ : ∃ w8, w8 = put5 w2 w.heap.size Slot.none := ⟨_, rfl⟩
    have E8 : SlotAt w8 w.heap.size Slot.none := by rw [hw8]; exact R2.out.put5 Slot.none
    have B8 : Below w.heap.size w w8 := by rw [hw8]; exact B2.out.trans ((put5_keep w2 w.heap.size Slot.none).below (by omega) (fun k hk => by omega))
    have HW8 := hide hw8
    clear hw8 R2 B2
    rw [put0_eq] at HW8
    unfold put0 at HW8
    go_wp2_with fail
    have y0 := E8.at0
    have y1 := E8.at1
    have y2 := E8.at2
    have y3 := E8.at3
    have y4 := E8.at4
    rw [← HW8.out]
    exact bodyPost_ret (v := .agg (slotC Slot.none)) (by simp [results, Tryz.results73, go_sem, y0, y1, y2, y3, y4, slotC]) rfl ⟨rfl, B8⟩
end Go.Proofs.YtapjbgkmcplpbaaGreat
