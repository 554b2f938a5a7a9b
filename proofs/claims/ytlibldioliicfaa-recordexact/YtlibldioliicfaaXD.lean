import Derived.Test.YtlibldioliicfaaRef3
import Derived.Test.YtlibldioliicfaaDec2
import Derived.Test.YtlibldioliicfaaTh2
import Derived.Test.YtlibldioliicfaaXB
import Derived.Test.YtlibldioliicfaaDec8
namespace Go.Proofs.Ytlibldioliicfaa
open Go.RowKit Go.QK
set_option maxRecDepth 100000
theorem rU_r (most : Nat) (p : Nat) (a : Option Addr) (c : Nat) (l : List Nat) (s : RS) (w : World) (h : Rds w p a c l s) :
    Calls Try.prog 61 #[.pointer (some ⟨p, 0, none⟩), .int .u64 (most : Int)] w fun x w' => x = .returned (.int .u64 (((uM most l s).1 : Nat) : Int)) ∧ RSt w p a c l w' (uM most l s).2 :=
  (rU_any most p a c l s.pos s.e w h).mono (fun _ _ q => ⟨q.1, RSt.of h (s' := (uM most l s).2) q.2.1 q.2.2⟩)
theorem rS_r (p : Nat) (a : Option Addr) (c : Nat) (l : List Nat) (s : RS) (w : World) (h : Rds w p a c l s) :
    Calls Try.prog 65 #[.pointer (some ⟨p, 0, none⟩)] w fun x w' => x = .returned (.int .i64 (signM l s).1) ∧ RSt w p a c l w' (signM l s).2 :=
  (rS_any p a c l s.pos s.e w h).mono (fun _ _ q => ⟨q.1, RSt.of h (s' := (signM l s).2) q.2.1 q.2.2⟩)
theorem rEnd_r (p : Nat) (a : Option Addr) (c : Nat) (l : List Nat) (s : RS) (w : World) (h : Rds w p a c l s) :
    Calls Try.prog 67 #[.pointer (some ⟨p, 0, none⟩)] w fun x w' => x = .returned (.tuple #[]) ∧ RSt w p a c l w' ⟨s.pos, endE l s.pos s.e⟩ :=
  (rEnd_any p a c l s.pos s.e w h).mono (fun _ _ q => ⟨q.1, RSt.of h (s' := ⟨s.pos, endE l s.pos s.e⟩) q.2.1 q.2.2⟩)
theorem rBad_any (p : Nat) (a : Option Addr) (c : Nat) (l : List Nat) (s : RS) (w : World) (h : Rds w p a c l s) :
    Calls Try.prog 62 #[.pointer (some ⟨p, 0, none⟩)] w fun x w' => x = .returned (.bool (decide (s.e ≠ 0))) ∧ w' = w := by
  obtain ⟨pos, e⟩ := s
  have c2 := (h.1.get 2 _ rfl).1
  have E1 : ((e : Int) != 0) = decide (e ≠ 0) := by by_cases q : e = 0 <;> simp [q]
  clear h
  simp only
  rw [← E1]
  clear E1
  go_enter Try.func62, Try.ntmps62
  go_wp2_with fail
  go_ret
  exact ⟨rfl, rfl⟩
theorem rNum_r (p : Nat) (a : Option Addr) (c : Nat) (l : List Nat) (s : RS) (w : World) (h : Rds w p a c l s) :
    Calls Try.prog 63 #[.pointer (some ⟨p, 0, none⟩)] w fun x w' => x = .returned (.int .i64 (((takeM l s).1 : Nat) : Int)) ∧ RSt w p a c l w' (takeM l s).2 := by
  have f := rU_r 2147483647 p a c l s w h
  have hle := uM_le 2147483647 l s
  unfold takeM
  generalize uM 2147483647 l s = q at *
  obtain ⟨n, s'⟩ := q
  simp only at *
  have e1 : IntKind.i64.wrap (n : Int) = (n : Int) := by rw [IntKind.wrap_i64]; omega
  have F := hide f
  clear f h
  go_enter Try.func63, Try.ntmps63
  go_wp2_with fail
  refine F.out.mono ?_
  rintro e w1 ⟨rfl, h1⟩
  have H := hide h1
  clear h1
  go_wp2_with fail
  go_ret
  exact ⟨rfl, H.out⟩
theorem rSlot_r (p : Nat) (a : Option Addr) (c : Nat) (l : List Nat) (s : RS) (w : World) (h : Rds w p a c l s) :
    Calls Try.prog 64 #[.pointer (some ⟨p, 0, none⟩)] w fun x w' => x = .returned (.agg #[.int .i64 (((slotM l s).1.1 : Nat) : Int), .int .i64 (((slotM l s).1.2 : Nat) : Int)]) ∧ RSt w p a c l w' (slotM l s).2 := by
  have st0 := (RSt.start h).below (alloc_below w (.cells #[.int .i64 0, .int .i64 0] 26))
  have C0 := Cells.new w #[.int .i64 0, .int .i64 0] 26
  generalize hw0 : w.alloc (.cells #[.int .i64 0, .int .i64 0] 26) = w0 at *
  have f1 := rNum_r p a c l s w0 st0.rd
  have f2 := fun w' h => rNum_r p a c l (takeM l s).2 w' h
  simp only [slotM, bindM, pureM]
  generalize takeM l s = q1 at *
  obtain ⟨n1, s1⟩ := q1
  simp only at *
  generalize takeM l s1 = q2 at *
  obtain ⟨n2, s2⟩ := q2
  simp only at *
  have F1 := hide f1
  have F2 := hide f2
  have ST0 := hide st0
  clear f1 f2 h st0
  go_enter Try.func64, Try.ntmps64
  go_wp2_with fail
  refine F1.out.mono ?_
  rintro e w1 ⟨rfl, r1⟩
  have C1 := C0.keep r1.keep (ST0.out.ne (Nat.le_refl _))
  have ST1 := hide (ST0.out.next r1)
  clear C0 r1 hw0 F1 ST0
  go_wp2_with fail
  refine (F2.out _ ST1.out.rd).mono ?_
  rintro e w2 ⟨rfl, r2⟩
  have C2 := C1.keep r2.keep (ST1.out.ne (Nat.le_refl _))
  have ST2 := hide (ST1.out.next r2)
  obtain ⟨c0, g0⟩ := C2.get 0 _ rfl
  obtain ⟨c1, g1⟩ := C2.get 1 _ rfl
  have ST3 := hide ((ST2.out.store (b := w.heap.size) (j := 0) (Nat.le_refl _) (.int .i64 n1)).store (b := w.heap.size) (j := 1) (Nat.le_refl _) (.int .i64 n2))
  have C3 := (C2.stored (j := 0) (by simp) (.int .i64 n1)).stored (j := 1) (by simp) (.int .i64 n2)
  obtain ⟨y0, _⟩ := C3.get 0 _ rfl
  obtain ⟨y1, _⟩ := C3.get 1 _ rfl
  clear C1 C2 C3 r2 F2 ST1 ST2
  go_wp2_with fail
  exact bodyPost_ret (v := .agg #[.int .i64 n1, .int .i64 n2]) (by simp [results, Try.results64, go_sem, y0, y1]) rfl ⟨rfl, ST3.out⟩
/-- A fault ends a row of reads. -/
theorem repM_stop {α : Type} {f : RM α} (hf : Abs f) (l : List Nat) (s : RS) : ∀ n k, k ≤ n → (repM f k l s).2.e ≠ 0 → (repM f n l s).2 = (repM f k l s).2
  | 0, k, hk, _ => by
    obtain rfl : k = 0 := by omega
    rfl
  | n + 1, k, hk, he => by
    by_cases h : k = n + 1
    · rw [h]
    · have ih := repM_stop hf l s n k (by omega) he
      have e1 : (repM f (n + 1) l s).2 = (f l (repM f n l s).2).2 := rfl
      rw [e1, ih]
      exact hf l _ he
end Go.Proofs.Ytlibldioliicfaa
namespace Go.Proofs.Ytlibldioliicfaa
open Go.RowKit Go.QK
set_option maxRecDepth 100000
section
variable {w wi w' : World} {p : Nat} {a : Option Addr} {c : Nat} {l : List Nat} {s s' : RS} {b2 b3 nx : Nat} {vL vD : Value} {ls : List LiveM} {ds : List DirtyM}
theorem PB.setN (h : PB w p a c l wi s b2 b3 nx vL ls vD ds) (n : Nat) : PB w p a c l (wi.setCell ⟨b3, 2, none⟩ (.int .i64 (n : Int))) s b2 b3 n vL ls vD ds := by
  have k3 : Keep (fun k => k = b3) wi (wi.setCell ⟨b3, 2, none⟩ (.int .i64 (n : Int))) := (Keep.refl (fun k => k = b3) wi).setCell (fun _ => rfl) _
  exact { h with
    st := h.st.store h.s3 _
    c2 := h.c2.keep k3 h.ne
    c3 := h.c3.stored (j := 2) (by simp) _
    rl := GRow.keep h.rl k3 (fun g q e => h.l3 (by rw [q, e]))
    rd := GRow.keep h.rd k3 (fun g q e => h.d3 (by rw [q, e])) }
theorem PB.notRows (h : PB w p a c l wi s b2 b3 nx vL ls vD ds) : vL.ownBlock ≠ some wi.heap.size ∧ vD.ownBlock ≠ some wi.heap.size :=
  ⟨fun q => by have := (World.ownsRow.lt h.rl _ q).2; omega, fun q => by have := (World.ownsRow.lt h.rd _ q).2; omega⟩
theorem PB.put7 {b : Nat} (h : PB w p a c l wi s b2 b3 nx vL ls vD ds) (hb : w.heap.size ≤ b) (h3 : ¬ b = b3) (h2 : ¬ b = b2) (hn : vL.ownBlock ≠ some b ∧ vD.ownBlock ≠ some b) (j : Nat) (v : Value) : PB w p a c l (wi.setCell ⟨b, j, none⟩ v) s b2 b3 nx vL ls vD ds := by
  have k3 : Keep (fun k => k = b) wi (wi.setCell ⟨b, j, none⟩ v) := (Keep.refl (fun k => k = b) wi).setCell (fun _ => rfl) _
  exact { h with
    st := h.st.store hb _
    c2 := h.c2.keep k3 (fun e => h2 e.symm)
    c3 := h.c3.keep k3 (fun e => h3 e.symm)
    rl := GRow.keep h.rl k3 (fun g q e => hn.1 (by rw [q, e]))
    rd := GRow.keep h.rd k3 (fun g q e => hn.2 (by rw [q, e])) }
/-- The points are laid into the result. -/
theorem PB.res (h : PB w p a c l wi s b2 b3 nx vL ls vD ds) :
    (((wi.setCell ⟨b2, 0, none⟩ vL).setCell ⟨b2, 1, none⟩ vD).setCell ⟨b2, 2, none⟩ (.int .i64 (nx : Int))).cell? ⟨b2, 0, none⟩ = some vL ∧ (((wi.setCell ⟨b2, 0, none⟩ vL).setCell ⟨b2, 1, none⟩ vD).setCell ⟨b2, 2, none⟩ (.int .i64 (nx : Int))).cell? ⟨b2, 1, none⟩ = some vD ∧ (((wi.setCell ⟨b2, 0, none⟩ vL).setCell ⟨b2, 1, none⟩ vD).setCell ⟨b2, 2, none⟩ (.int .i64 (nx : Int))).cell? ⟨b2, 2, none⟩ = some (.int .i64 (nx : Int)) := by
  have C := ((h.c2.stored (j := 0) (by simp) vL).stored (j := 1) (by simp) vD).stored (j := 2) (by simp) (.int .i64 (nx : Int))
  exact ⟨(C.get 0 _ rfl).1, (C.get 1 _ rfl).1, (C.get 2 _ rfl).1⟩
theorem PB.out2 (h : PB w p a c l wi s b2 b3 nx vL ls vD ds) :
    RSt w p a c l (((wi.setCell ⟨b2, 0, none⟩ vL).setCell ⟨b2, 1, none⟩ vD).setCell ⟨b2, 2, none⟩ (.int .i64 (nx : Int))) s ∧ LRow (((wi.setCell ⟨b2, 0, none⟩ vL).setCell ⟨b2, 1, none⟩ vD).setCell ⟨b2, 2, none⟩ (.int .i64 (nx : Int))) w.heap.size vL ls ∧ DRow (((wi.setCell ⟨b2, 0, none⟩ vL).setCell ⟨b2, 1, none⟩ vD).setCell ⟨b2, 2, none⟩ (.int .i64 (nx : Int))) w.heap.size vD ds ∧ (∀ g, vL.ownBlock = some g → vD.ownBlock ≠ some g) := by
  have k3 : Keep (fun k => k = b2) wi (((wi.setCell ⟨b2, 0, none⟩ vL).setCell ⟨b2, 1, none⟩ vD).setCell ⟨b2, 2, none⟩ (.int .i64 (nx : Int))) := (((Keep.refl (fun k => k = b2) wi).setCell (fun _ => rfl) _).setCell (fun _ => rfl) _).setCell (fun _ => rfl) _
  exact ⟨((h.st.store h.s2 _).store h.s2 _).store h.s2 _, GRow.keep h.rl k3 (fun g q e => h.l2 (by rw [q, e])), GRow.keep h.rd k3 (fun g q e => h.d2 (by rw [q, e])), h.ld⟩
end
set_option maxHeartbeats 0 in
theorem rCheckpoint_r (p : Nat) (a : Option Addr) (c : Nat) (l : List Nat) (s : RS) (w : World) (h : Rds w p a c l s) :
    Calls Try.prog 66 #[.pointer (some ⟨p, 0, none⟩)] w fun x w' => ∃ (vL vD : Value) (nx : Nat) (ls : List LiveM) (ds : List DirtyM), x = .returned (.agg #[vL, vD, .int .i64 (nx : Int)]) ∧ RSt w p a c l w' (pointsM l s).2 ∧ LRow w' w.heap.size vL ls ∧ DRow w' w.heap.size vD ds ∧ (∀ g, vL.ownBlock = some g → vD.ownBlock ≠ some g) ∧ ((pointsM l s).2.e = 0 → (nx, ls, ds) = (pointsM l s).1) ∧ ls.length ≤ 32 ∧ ds.length ≤ 16 := by
  have st0 := (RSt.start h).below (alloc_below w (.cells #[.slice none 0 0, .slice none 0 0, .int .i64 0] 34))
  have C0 := Cells.new w #[.slice none 0 0, .slice none 0 0, .int .i64 0] 34
  generalize hw0 : w.alloc (.cells #[.slice none 0 0, .slice none 0 0, .int .i64 0] 34) = w0 at *
  have lt0 := C0.1
  have sz0 := st0.size
  have PB0 : PB w p a c l (w0.alloc (.cells #[.slice none 0 0, .slice none 0 0, .int .i64 0] 34)) s w.heap.size w0.heap.size 0 (.slice none 0 0) [] (.slice none 0 0) [] :=
    ⟨st0.below (alloc_below _ _), C0.below (alloc_below _ _), Cells.new _ _ _, World.ownsRow_nil _ _ _ _, World.ownsRow_nil _ _ _ _, Nat.le_refl _, sz0, by omega, nofun, nofun, nofun, nofun, nofun⟩
  have ne23 : w.heap.size ≠ w0.heap.size := by omega
  generalize hwa : w0.alloc (.cells #[.slice none 0 0, .slice none 0 0, .int .i64 0] 34) = wa at *
  have hsz : w0.heap.size = w.heap.size + 1 := by rw [← hw0]; simp
  have f1 := rU_r 2147483648 p a c l s wa PB0.st.rd
  have hnx := uM_le 2147483648 l s
  have f2 := fun w' h => rU_r 32 p a c l (uM 2147483648 l s).2 w' h
  simp only [pointsM, bindM, pureM]
  generalize uM 2147483648 l s = q1 at *
  obtain ⟨nx, s1⟩ := q1
  simp only at *
  have hn := uM_le 32 l s1
  generalize uM 32 l s1 = q2 at *
  obtain ⟨n, s2⟩ := q2
  simp only at *
  have hstep : ∀ k, repM liveM (k + 1) l s2 = ((repM liveM k l s2).1 ++ [(liveM l (repM liveM k l s2).2).1], (liveM l (repM liveM k l s2).2).2) := fun k => rfl
  have hlenk := repM_length liveM l s2
  have hstop := repM_stop Abs.live l s2 n
  have f4 := fun w' h => rU_r 16 p a c l (repM liveM n l s2).2 w' h
  have hab := fun (h : (repM liveM n l s2).2.e ≠ 0) => ((Abs.u 16).bind (fun m => (Abs.rep Abs.dirty m).bind (fun ds => Abs.pure (nx, (repM liveM n l s2).1, ds)))) l (repM liveM n l s2).2 h
  simp only [bindM, pureM] at hab
  obtain ⟨rn, hrn⟩ : ∃ rn, rn = repM liveM n l s2 := ⟨_, rfl⟩
  rw [← hrn] at f4 hab hstop ⊢
  obtain ⟨ls, s3⟩ := rn
  have HRN := hide hrn
  clear hrn
  simp only at f4 hab hstop ⊢
  have hm := uM_le 16 l s3
  generalize uM 16 l s3 = q4 at *
  obtain ⟨m, s4⟩ := q4
  simp only at f4 hm hab ⊢
  have hstepD : ∀ k, repM dirtyM (k + 1) l s4 = ((repM dirtyM k l s4).1 ++ [(dirtyM l (repM dirtyM k l s4).2).1], (dirtyM l (repM dirtyM k l s4).2).2) := fun k => rfl
  have hlenD := repM_length dirtyM l s4
  have hstopD := repM_stop Abs.dirty l s4 m
  obtain ⟨rm, hrm⟩ : ∃ rm, rm = repM dirtyM m l s4 := ⟨_, rfl⟩
  rw [← hrm] at hab hstopD ⊢
  obtain ⟨ds, s5⟩ := rm
  have HRM := hide hrm
  clear hrm
  simp only at hab hstopD ⊢
  have HA : Hid (s5.e = 0 → s3.e = 0) := hide (fun h5 => Classical.byContradiction (fun h3 => h3 (by rw [← hab h3]; exact h5)))
  have e1 : IntKind.i64.wrap (nx : Int) = (nx : Int) := by rw [IntKind.wrap_i64]; omega
  have e2 : IntKind.i64.wrap (n : Int) = (n : Int) := by rw [IntKind.wrap_i64]; omega
  have e4 : IntKind.i64.wrap (m : Int) = (m : Int) := by rw [IntKind.wrap_i64]; omega
  have F1 := hide f1
  have F2 := hide f2
  have F4 := hide f4
  have HST := hide hstep
  have HSTD := hide hstepD
  have HLK := hide hlenk
  have HLD := hide hlenD
  have HSP := hide hstop
  have HSPD := hide hstopD
  replace PB0 := hide PB0
  have HWA := hide hwa
  have HW0 := hide hw0
  have HSZ := hide hsz
  clear f1 f2 f4 h st0 hstep hstepD hlenk hlenD hstop hstopD hab hwa hw0 C0 hsz
  go_enter Try.func66, Try.ntmps66
  go_upto_region 2 with fail
  rw [HW0.out, HWA.out]
  rw [← HSZ.out]
  generalize w0.heap.size = b3 at *
  clear HWA HW0 HSZ
  have z0 := (PB0.out.c3.get 2 _ rfl)
  go_wp2_with fail
  refine F1.out.mono ?_
  rintro e w1 ⟨rfl, r1⟩
  have PB1 := PB0.out.next r1
  clear z0
  obtain ⟨z0, z1⟩ := PB1.c3.get 2 _ rfl
  have PBa := hide (PB1.setN nx)
  clear PB0 PB1 r1 F1
  go_upto_region 3 with fail
  generalize w1.setCell ⟨b3, 2, none⟩ (.int .i64 (nx : Int)) = w2 at *
  clear z0 z1
  go_wp2_with fail
  refine (F2.out _ PBa.out.st.rd).mono ?_
  rintro e w3 ⟨rfl, r3⟩
  have PB1 := hide (PBa.out.next r3)
  clear PBa r3 F2
  go_wp2_with fail
  go_loopw [5] (fun i wr => ∃ (k : Nat) (vL : Value), i = .int .i64 (k : Int) ∧ k ≤ n ∧ PB w p a c l wr (repM liveM k l s2).2 w.heap.size b3 nx vL (repM liveM k l s2).1 (.slice none 0 0) []) (fun i _ => (n + 1 - (intOf i).toNat))
  case atStart => exact ⟨0, .slice none 0 0, rfl, Nat.zero_le _, PB1.out⟩
  case round =>
    clear PB1
    obtain ⟨k, vL, rfl, hk, hpb⟩ := hrel
    have PB1 := hide hpb
    clear hpb
    by_cases hlt : k < n
    · have hg1 : decide ((k : Int) < (n : Int)) = true := by simp; omega
      have f6 := rBad_any p a c l (repM liveM k l s2).2 wr PB1.out.st.rd
      by_cases hbd : (repM liveM k l s2).2.e = 0
      · have hbt : decide ((repM liveM k l s2).2.e ≠ 0) = false := by simp [hbd]
        rw [hbt] at f6
        have F6 := hide f6
        clear f6 hbt hbd
        have ek := HST.out k
        have lk := HLK.out k
        have PB1 := PB1.out
        generalize repM liveM k l s2 = rk at ek lk F6 PB1
        obtain ⟨lsk, sk⟩ := rk
        simp only at ek lk F6 PB1
        have ed : liveM l sk = (liveOf (takeM l sk).1 (takeM l (takeM l sk).2).1 (uM 2 l (takeM l (takeM l sk).2).2).1, (uM 2 l (takeM l (takeM l sk).2).2).2) := rfl
        rw [ed] at ek
        clear ed
        have g5 := fun w' h => rNum_r p a c l sk w' h
        have g6 := fun w' h => rNum_r p a c l (takeM l sk).2 w' h
        have g7 := fun w' h => rU_r 2 p a c l (takeM l (takeM l sk).2).2 w' h
        generalize takeM l sk = q5 at *
        obtain ⟨x0, sk1⟩ := q5
        simp only at *
        generalize takeM l sk1 = q6 at *
        obtain ⟨x1, sk2⟩ := q6
        simp only at *
        generalize uM 2 l sk2 = q7 at *
        obtain ⟨x2, sk3⟩ := q7
        simp only at *
        have E1 : ((x2 : Int) == 1) = decide (x2 = 1) := by by_cases q : x2 = 1 <;> simp [q]; omega
        have E2 : ((x2 : Int) == 2) = decide (x2 = 2) := by by_cases q : x2 = 2 <;> simp [q]; omega
        unfold liveOf at ek
        rw [← E1, ← E2] at ek
        clear E1 E2
        obtain ⟨t1, ht1⟩ : ∃ t, ((x2 : Int) == 1) = t := ⟨_, rfl⟩
        obtain ⟨t2, ht2⟩ : ∃ t, ((x2 : Int) == 2) = t := ⟨_, rfl⟩
        rw [ht1, ht2] at ek
        have G5 := hide g5
        have G6 := hide g6
        have G7 := hide g7
        have EK := hide ek
        have PB2 := hide PB1
        clear g5 g6 g7 ek PB1
        go_wp2_with fail
        refine F6.out.mono ?_
        rintro e wq ⟨rfl, hq⟩
        obtain rfl : wr = wq := hq.symm
        go_wp2_with fail
        refine (G5.out _ PB2.out.st.rd).mono ?_
        rintro e w6 ⟨rfl, r6⟩
        have PB3 := hide (PB2.out.next r6)
        clear r6 G5 PB2 F6
        go_wp2_with fail
        refine (G6.out _ PB3.out.st.rd).mono ?_
        rintro e w7 ⟨rfl, r7⟩
        have PB4 := hide (PB3.out.next r7)
        clear r7 G6 PB3
        go_upto_region 8 with fail
        have PB5 := hide (PB4.out.below (alloc_below w7 (.cells #[.int .i64 (x0 : Int), .int .i64 (x1 : Int), .bool false, .bool false] 63)))
        have XC := Cells.new w7 #[.int .i64 (x0 : Int), .int .i64 (x1 : Int), .bool false, .bool false] 63
        have s7 := PB4.out.st.size
        have ne7 : ¬ w7.heap.size = b3 := by have := PB4.out.c3.1; omega
        have ne72 : ¬ w7.heap.size = w.heap.size := by have := PB4.out.c2.1; omega
        generalize hw8 : w7.alloc (.cells #[.int .i64 (x0 : Int), .int .i64 (x1 : Int), .bool false, .bool false] 63) = w8 at *
        have XN := hide (PB4.out.notRows)
        generalize w7.heap.size = b7 at *
        clear hw8 PB4
        go_wp2_with fail
        refine (G7.out _ PB5.out.st.rd).mono ?_
        rintro e w9 ⟨rfl, r9⟩
        have PB6 := PB5.out.next r9
        have XC9 := XC.keep r9.keep (PB5.out.st.ne s7)
        obtain ⟨x2c, x2f⟩ := XC9.get 2 _ rfl
        obtain ⟨x3c, x3f⟩ := XC9.get 3 _ rfl
        have PBs := hide ((PB6.put7 s7 ne7 ne72 XN.out 2 (.bool t1)).put7 s7 ne7 ne72 XN.out 3 (.bool t2))
        have XCs := (XC9.stored (j := 2) (by simp) (.bool t1)).stored (j := 3) (by simp) (.bool t2)
        clear PB5 PB6 r9 G7 XC XC9
        go_upto_region 11 with fail
        generalize (w9.setCell ⟨b7, 2, none⟩ (.bool t1)).setCell ⟨b7, 3, none⟩ (.bool t2) = w10 at *
        clear x2c x2f x3c x3f
        have cl := (PBs.out.c3.get 0 _ rfl).1
        have xa := (XCs.get 0 _ rfl).1
        have xb := (XCs.get 1 _ rfl).1
        have xc := (XCs.get 2 _ rfl).1
        have xd := (XCs.get 3 _ rfl).1
        have LI := hide (lies_lit w10 #[.int .i64 (x0 : Int), .int .i64 (x1 : Int), .bool t1, .bool t2] 63)
        have PB6 := hide (PBs.out.below (alloc_below w10 (.cells #[.int .i64 (x0 : Int), .int .i64 (x1 : Int), .bool t1, .bool t2] 63)))
        have HB6 : w.heap.size ≤ (w10.alloc (.cells #[.int .i64 (x0 : Int), .int .i64 (x1 : Int), .bool t1, .bool t2] 63)).heap.size := PB6.out.st.size
        obtain ⟨v7, w11, hrun, hr7, hg7, hv7⟩ := run_pushL 31 (w10.alloc (.cells #[.int .i64 (x0 : Int), .int .i64 (x1 : Int), .bool t1, .bool t2] 63)) w.heap.size vL lsk PB6.out.rl ⟨w10.heap.size, 0, none⟩ ⟨(x0 : Int), (x1 : Int), t1, t2⟩ LI.out (by omega) HB6
        have PB7 := hide (PB6.out.putL hr7 hg7 hv7)
        obtain ⟨a7, c7, ev7, _⟩ := GRow.lies hr7
        have hle : (lsk ++ [(⟨(x0 : Int), (x1 : Int), t1, t2⟩ : LiveM)]).length = k + 1 := by simp [lk]
        rw [hle] at ev7
        clear hle
        subst ev7
        have hc7 := (((PB6.out.c3).keep (grown_keep hg7) PB6.out.l3).get 0 _ rfl)
        obtain ⟨c70, f70⟩ := hc7
        have HRUN := hide hrun
        clear hrun hr7 hg7 hv7 PB6 LI PBs XCs HB6 XN ht1 ht2
        go_wp2_with (at_builtin; refine wpList_run rfl (.tmp 41) (.tmp 43) rfl rfl rfl HRUN.out ?_)
        go_roundw
        case rel => exact ⟨k + 1, _, by go_num, hlt, by rw [EK.out]; exact PB7.out⟩
        case measure => simp [intOf]; omega
      · have hbt : decide ((repM liveM k l s2).2.e ≠ 0) = true := by simp [hbd]
        rw [hbt] at f6
        have F6 := hide f6
        have hst := HSP.out k hk hbd
        have PBk := PB1.out
        have HLX : Hid ((repM liveM k l s2).1.length ≤ 32) := hide (by rw [HLK.out k]; omega)
        rw [← hst] at PBk
        have HX : Hid (s3.e = 0 → (repM liveM k l s2).1 = ls) := hide (fun h5 => absurd (by rw [hst] at h5; exact h5) hbd)
        generalize (repM liveM k l s2).1 = lsx at *
        replace PBk := hide PBk
        clear f6 hbt hst hbd PB1
        go_wp2_with fail
        refine F6.out.mono ?_
        rintro e wq ⟨rfl, hq⟩
        obtain rfl : wr = wq := hq.symm
        clear F6
        go_wp2_with fail
        refine (F4.out _ PBk.out.st.rd).mono ?_
        rintro e w5 ⟨rfl, r5⟩
        have PB3 := hide (PBk.out.next r5)
        clear PBk r5 F4
        go_wp2_with fail
        go_loopw [8] (fun i wr => ∃ (j : Nat) (vD : Value), i = .int .i64 (j : Int) ∧ j ≤ m ∧ PB w p a c l wr (repM dirtyM j l s4).2 w.heap.size b3 nx vL lsx vD (repM dirtyM j l s4).1) (fun i _ => (m + 1 - (intOf i).toNat))
        case atStart => exact ⟨0, .slice none 0 0, rfl, Nat.zero_le _, PB3.out⟩
        case round =>
          clear PB3
          obtain ⟨j, vD, rfl, hj, hpb⟩ := hrel
          have PB1 := hide hpb
          clear hpb
          by_cases hltj : j < m
          · have hg2 : decide ((j : Int) < (m : Int)) = true := by simp; omega
            have f6 := rBad_any p a c l (repM dirtyM j l s4).2 wr PB1.out.st.rd
            by_cases hbd : (repM dirtyM j l s4).2.e = 0
            · have hbt : decide ((repM dirtyM j l s4).2.e ≠ 0) = false := by simp [hbd]
              rw [hbt] at f6
              have F6 := hide f6
              clear f6 hbt hbd
              have ek := HSTD.out j
              have lk := HLD.out j
              have PB1 := PB1.out
              generalize repM dirtyM j l s4 = rk at ek lk F6 PB1
              obtain ⟨dsk, sk⟩ := rk
              simp only at ek lk F6 PB1
              have ed : dirtyM l sk = (⟨((takeM l sk).1 : Int), ((takeM l (takeM l sk).2).1 : Int)⟩, (takeM l (takeM l sk).2).2) := rfl
              rw [ed] at ek
              clear ed
              have g5 := fun w' h => rNum_r p a c l sk w' h
              have g6 := fun w' h => rNum_r p a c l (takeM l sk).2 w' h
              generalize takeM l sk = q5 at *
              obtain ⟨x0, sk1⟩ := q5
              simp only at *
              generalize takeM l sk1 = q6 at *
              obtain ⟨x1, sk2⟩ := q6
              simp only at *
              have G5 := hide g5
              have G6 := hide g6
              have EK := hide ek
              have PB2 := hide PB1
              clear g5 g6 ek PB1
              go_wp2_with fail
              refine F6.out.mono ?_
              rintro e wq ⟨rfl, hq⟩
              obtain rfl : wr = wq := hq.symm
              go_wp2_with fail
              refine (G5.out _ PB2.out.st.rd).mono ?_
              rintro e w6 ⟨rfl, r6⟩
              have PB3 := hide (PB2.out.next r6)
              clear r6 G5 PB2 F6
              go_wp2_with fail
              refine (G6.out _ PB3.out.st.rd).mono ?_
              rintro e w7 ⟨rfl, r7⟩
              have PB4 := hide (PB3.out.next r7)
              clear r7 G6 PB3
              go_upto_region 17 with fail
              have PB5 := hide (PB4.out.below (alloc_below w7 (.cells #[.int .i64 (x0 : Int), .int .i64 (x1 : Int)] 65)))
              have XC := Cells.new w7 #[.int .i64 (x0 : Int), .int .i64 (x1 : Int)] 65
              generalize hw8 : w7.alloc (.cells #[.int .i64 (x0 : Int), .int .i64 (x1 : Int)] 65) = w8 at *
              clear hw8 PB4
              have cl := (PB5.out.c3.get 1 _ rfl).1
              have xa := (XC.get 0 _ rfl).1
              have xb := (XC.get 1 _ rfl).1
              have LI := hide (lies_lit w8 #[.int .i64 (x0 : Int), .int .i64 (x1 : Int)] 65)
              have PB6 := hide (PB5.out.below (alloc_below w8 (.cells #[.int .i64 (x0 : Int), .int .i64 (x1 : Int)] 65)))
              have HB6 : w.heap.size ≤ (w8.alloc (.cells #[.int .i64 (x0 : Int), .int .i64 (x1 : Int)] 65)).heap.size := PB6.out.st.size
              obtain ⟨v7, w9, hrun, hr7, hg7, hv7⟩ := run_pushD 32 (w8.alloc (.cells #[.int .i64 (x0 : Int), .int .i64 (x1 : Int)] 65)) w.heap.size vD dsk PB6.out.rd ⟨w8.heap.size, 0, none⟩ ⟨(x0 : Int), (x1 : Int)⟩ LI.out (by omega) HB6
              have PB7 := hide (PB6.out.putD hr7 hg7 hv7)
              obtain ⟨a7, c7, ev7, _⟩ := GRow.lies hr7
              have hle : (dsk ++ [(⟨(x0 : Int), (x1 : Int)⟩ : DirtyM)]).length = j + 1 := by simp [lk]
              rw [hle] at ev7
              clear hle
              subst ev7
              have hc7 := (((PB6.out.c3).keep (grown_keep hg7) PB6.out.d3).get 1 _ rfl)
              obtain ⟨c70, f70⟩ := hc7
              have HRUN := hide hrun
              clear hrun hr7 hg7 hv7 PB6 LI PB5 XC HB6
              go_wp2_with (at_builtin; refine wpList_run rfl (.tmp 65) (.tmp 67) rfl rfl rfl HRUN.out ?_)
              go_roundw
              case rel => exact ⟨j + 1, _, by go_num, hltj, by rw [EK.out]; exact PB7.out⟩
              case measure => simp [intOf]; omega
            · have hbt : decide ((repM dirtyM j l s4).2.e ≠ 0) = true := by simp [hbd]
              rw [hbt] at f6
              have F6 := hide f6
              have hst := HSPD.out j hj hbd
              have PBz := PB1.out
              have HLY : Hid ((repM dirtyM j l s4).1.length ≤ 16) := hide (by rw [HLD.out j]; omega)
              rw [← hst] at PBz
              have HY : Hid (s5.e = 0 → (repM dirtyM j l s4).1 = ds) := hide (fun h5 => absurd (by rw [hst] at h5; exact h5) hbd)
              generalize (repM dirtyM j l s4).1 = dsx at *
              replace PBz := hide PBz
              clear f6 hbt hst hbd PB1
              go_wp2_with fail
              refine F6.out.mono ?_
              rintro e wq ⟨rfl, hq⟩
              obtain rfl : wr = wq := hq.symm
              clear F6
              have PBe := PBz.out
              obtain ⟨aL, cL, eL, _⟩ := GRow.lies PBe.rl
              obtain ⟨aD, cD, eD, _⟩ := GRow.lies PBe.rd
              subst eL eD
              have hne := PBe.ne
              have t0 := PBe.c3.get 0 _ rfl
              have t1 := PBe.c3.get 1 _ rfl
              have t2 := PBe.c3.get 2 _ rfl
              have u0 := PBe.c2.get 0 _ rfl
              have u1 := PBe.c2.get 1 _ rfl
              have u2 := PBe.c2.get 2 _ rfl
              obtain ⟨t0, _⟩ := t0
              obtain ⟨t1, _⟩ := t1
              obtain ⟨t2, _⟩ := t2
              obtain ⟨u0, g0⟩ := u0
              obtain ⟨u1, g1⟩ := u1
              obtain ⟨u2, g2⟩ := u2
              have PBf := hide (PBe.out2)
              obtain ⟨y0, y1, y2⟩ := PBe.res
              clear PBe PBz
              go_wp2_with fail
              exact bodyPost_ret (v := .agg #[.slice aL lsx.length cL, .slice aD dsx.length cD, .int .i64 (nx : Int)]) (by simp only [results, Try.results66]; simp [go_sem, y0, y1, y2]) rfl ⟨_, _, nx, lsx, dsx, rfl, PBf.out.1, PBf.out.2.1, PBf.out.2.2.1, PBf.out.2.2.2, fun h5 => by rw [HX.out (HA.out h5), HY.out h5], HLX.out, HLY.out⟩
          · have hg2 : decide ((j : Int) < (m : Int)) = false := by simp; omega
            have hjm : j = m := by omega
            have PBz := PB1.out
            have HLY : Hid ((repM dirtyM j l s4).1.length ≤ 16) := hide (by rw [HLD.out j]; omega)
            rw [hjm] at PBz HLY
            rw [← HRM.out] at PBz HLY
            clear hjm PB1
            simp only at PBz HLY
            replace PBz := hide PBz
            obtain ⟨dsx, hdx⟩ : ∃ dsx, dsx = ds := ⟨_, rfl⟩
            rw [← hdx] at PBz HLY
            have HY : Hid (s5.e = 0 → dsx = ds) := hide (fun _ => hdx)
            clear hdx
            have PBe := PBz.out
            obtain ⟨aL, cL, eL, _⟩ := GRow.lies PBe.rl
            obtain ⟨aD, cD, eD, _⟩ := GRow.lies PBe.rd
            subst eL eD
            have hne := PBe.ne
            have t0 := PBe.c3.get 0 _ rfl
            have t1 := PBe.c3.get 1 _ rfl
            have t2 := PBe.c3.get 2 _ rfl
            have u0 := PBe.c2.get 0 _ rfl
            have u1 := PBe.c2.get 1 _ rfl
            have u2 := PBe.c2.get 2 _ rfl
            obtain ⟨t0, _⟩ := t0
            obtain ⟨t1, _⟩ := t1
            obtain ⟨t2, _⟩ := t2
            obtain ⟨u0, g0⟩ := u0
            obtain ⟨u1, g1⟩ := u1
            obtain ⟨u2, g2⟩ := u2
            have PBf := hide (PBe.out2)
            obtain ⟨y0, y1, y2⟩ := PBe.res
            clear PBe PBz
            go_wp2_with fail
            exact bodyPost_ret (v := .agg #[.slice aL lsx.length cL, .slice aD dsx.length cD, .int .i64 (nx : Int)]) (by simp only [results, Try.results66]; simp [go_sem, y0, y1, y2]) rfl ⟨_, _, nx, lsx, dsx, rfl, PBf.out.1, PBf.out.2.1, PBf.out.2.2.1, PBf.out.2.2.2, fun h5 => by rw [HX.out (HA.out h5), HY.out h5], HLX.out, HLY.out⟩
    · have hg1 : decide ((k : Int) < (n : Int)) = false := by simp; omega
      have hjm : k = n := by omega
      have PBk := PB1.out
      have HLX : Hid ((repM liveM k l s2).1.length ≤ 32) := hide (by rw [HLK.out k]; omega)
      rw [hjm] at PBk HLX
      rw [← HRN.out] at PBk HLX
      clear hjm PB1
      simp only at PBk HLX
      replace PBk := hide PBk
      obtain ⟨lsx, hdx⟩ : ∃ lsx, lsx = ls := ⟨_, rfl⟩
      rw [← hdx] at PBk HLX
      have HX : Hid (s3.e = 0 → lsx = ls) := hide (fun _ => hdx)
      clear hdx
      go_wp2_with fail
      refine (F4.out _ PBk.out.st.rd).mono ?_
      rintro e w5 ⟨rfl, r5⟩
      have PB3 := hide (PBk.out.next r5)
      clear PBk r5 F4
      go_wp2_with fail
      go_loopw [8] (fun i wr => ∃ (j : Nat) (vD : Value), i = .int .i64 (j : Int) ∧ j ≤ m ∧ PB w p a c l wr (repM dirtyM j l s4).2 w.heap.size b3 nx vL lsx vD (repM dirtyM j l s4).1) (fun i _ => (m + 1 - (intOf i).toNat))
      case atStart => exact ⟨0, .slice none 0 0, rfl, Nat.zero_le _, PB3.out⟩
      case round =>
        clear PB3
        obtain ⟨j, vD, rfl, hj, hpb⟩ := hrel
        have PB1 := hide hpb
        clear hpb
        by_cases hltj : j < m
        · have hg2 : decide ((j : Int) < (m : Int)) = true := by simp; omega
          have f6 := rBad_any p a c l (repM dirtyM j l s4).2 wr PB1.out.st.rd
          by_cases hbd : (repM dirtyM j l s4).2.e = 0
          · have hbt : decide ((repM dirtyM j l s4).2.e ≠ 0) = false := by simp [hbd]
            rw [hbt] at f6
            have F6 := hide f6
            clear f6 hbt hbd
            have ek := HSTD.out j
            have lk := HLD.out j
            have PB1 := PB1.out
            generalize repM dirtyM j l s4 = rk at ek lk F6 PB1
            obtain ⟨dsk, sk⟩ := rk
            simp only at ek lk F6 PB1
            have ed : dirtyM l sk = (⟨((takeM l sk).1 : Int), ((takeM l (takeM l sk).2).1 : Int)⟩, (takeM l (takeM l sk).2).2) := rfl
            rw [ed] at ek
            clear ed
            have g5 := fun w' h => rNum_r p a c l sk w' h
            have g6 := fun w' h => rNum_r p a c l (takeM l sk).2 w' h
            generalize takeM l sk = q5 at *
            obtain ⟨x0, sk1⟩ := q5
            simp only at *
            generalize takeM l sk1 = q6 at *
            obtain ⟨x1, sk2⟩ := q6
            simp only at *
            have G5 := hide g5
            have G6 := hide g6
            have EK := hide ek
            have PB2 := hide PB1
            clear g5 g6 ek PB1
            go_wp2_with fail
            refine F6.out.mono ?_
            rintro e wq ⟨rfl, hq⟩
            obtain rfl : wr = wq := hq.symm
            go_wp2_with fail
            refine (G5.out _ PB2.out.st.rd).mono ?_
            rintro e w6 ⟨rfl, r6⟩
            have PB3 := hide (PB2.out.next r6)
            clear r6 G5 PB2 F6
            go_wp2_with fail
            refine (G6.out _ PB3.out.st.rd).mono ?_
            rintro e w7 ⟨rfl, r7⟩
            have PB4 := hide (PB3.out.next r7)
            clear r7 G6 PB3
            go_upto_region 17 with fail
            have PB5 := hide (PB4.out.below (alloc_below w7 (.cells #[.int .i64 (x0 : Int), .int .i64 (x1 : Int)] 65)))
            have XC := Cells.new w7 #[.int .i64 (x0 : Int), .int .i64 (x1 : Int)] 65
            generalize hw8 : w7.alloc (.cells #[.int .i64 (x0 : Int), .int .i64 (x1 : Int)] 65) = w8 at *
            clear hw8 PB4
            have cl := (PB5.out.c3.get 1 _ rfl).1
            have xa := (XC.get 0 _ rfl).1
            have xb := (XC.get 1 _ rfl).1
            have LI := hide (lies_lit w8 #[.int .i64 (x0 : Int), .int .i64 (x1 : Int)] 65)
            have PB6 := hide (PB5.out.below (alloc_below w8 (.cells #[.int .i64 (x0 : Int), .int .i64 (x1 : Int)] 65)))
            have HB6 : w.heap.size ≤ (w8.alloc (.cells #[.int .i64 (x0 : Int), .int .i64 (x1 : Int)] 65)).heap.size := PB6.out.st.size
            obtain ⟨v7, w9, hrun, hr7, hg7, hv7⟩ := run_pushD 32 (w8.alloc (.cells #[.int .i64 (x0 : Int), .int .i64 (x1 : Int)] 65)) w.heap.size vD dsk PB6.out.rd ⟨w8.heap.size, 0, none⟩ ⟨(x0 : Int), (x1 : Int)⟩ LI.out (by omega) HB6
            have PB7 := hide (PB6.out.putD hr7 hg7 hv7)
            obtain ⟨a7, c7, ev7, _⟩ := GRow.lies hr7
            have hle : (dsk ++ [(⟨(x0 : Int), (x1 : Int)⟩ : DirtyM)]).length = j + 1 := by simp [lk]
            rw [hle] at ev7
            clear hle
            subst ev7
            have hc7 := (((PB6.out.c3).keep (grown_keep hg7) PB6.out.d3).get 1 _ rfl)
            obtain ⟨c70, f70⟩ := hc7
            have HRUN := hide hrun
            clear hrun hr7 hg7 hv7 PB6 LI PB5 XC HB6
            go_wp2_with (at_builtin; refine wpList_run rfl (.tmp 65) (.tmp 67) rfl rfl rfl HRUN.out ?_)
            go_roundw
            case rel => exact ⟨j + 1, _, by go_num, hltj, by rw [EK.out]; exact PB7.out⟩
            case measure => simp [intOf]; omega
          · have hbt : decide ((repM dirtyM j l s4).2.e ≠ 0) = true := by simp [hbd]
            rw [hbt] at f6
            have F6 := hide f6
            have hst := HSPD.out j hj hbd
            have PBz := PB1.out
            have HLY : Hid ((repM dirtyM j l s4).1.length ≤ 16) := hide (by rw [HLD.out j]; omega)
            rw [← hst] at PBz
            have HY : Hid (s5.e = 0 → (repM dirtyM j l s4).1 = ds) := hide (fun h5 => absurd (by rw [hst] at h5; exact h5) hbd)
            generalize (repM dirtyM j l s4).1 = dsx at *
            replace PBz := hide PBz
            clear f6 hbt hst hbd PB1
            go_wp2_with fail
            refine F6.out.mono ?_
            rintro e wq ⟨rfl, hq⟩
            obtain rfl : wr = wq := hq.symm
            clear F6
            have PBe := PBz.out
            obtain ⟨aL, cL, eL, _⟩ := GRow.lies PBe.rl
            obtain ⟨aD, cD, eD, _⟩ := GRow.lies PBe.rd
            subst eL eD
            have hne := PBe.ne
            have t0 := PBe.c3.get 0 _ rfl
            have t1 := PBe.c3.get 1 _ rfl
            have t2 := PBe.c3.get 2 _ rfl
            have u0 := PBe.c2.get 0 _ rfl
            have u1 := PBe.c2.get 1 _ rfl
            have u2 := PBe.c2.get 2 _ rfl
            obtain ⟨t0, _⟩ := t0
            obtain ⟨t1, _⟩ := t1
            obtain ⟨t2, _⟩ := t2
            obtain ⟨u0, g0⟩ := u0
            obtain ⟨u1, g1⟩ := u1
            obtain ⟨u2, g2⟩ := u2
            have PBf := hide (PBe.out2)
            obtain ⟨y0, y1, y2⟩ := PBe.res
            clear PBe PBz
            go_wp2_with fail
            exact bodyPost_ret (v := .agg #[.slice aL lsx.length cL, .slice aD dsx.length cD, .int .i64 (nx : Int)]) (by simp only [results, Try.results66]; simp [go_sem, y0, y1, y2]) rfl ⟨_, _, nx, lsx, dsx, rfl, PBf.out.1, PBf.out.2.1, PBf.out.2.2.1, PBf.out.2.2.2, fun h5 => by rw [HX.out (HA.out h5), HY.out h5], HLX.out, HLY.out⟩
        · have hg2 : decide ((j : Int) < (m : Int)) = false := by simp; omega
          have hjm : j = m := by omega
          have PBz := PB1.out
          have HLY : Hid ((repM dirtyM j l s4).1.length ≤ 16) := hide (by rw [HLD.out j]; omega)
          rw [hjm] at PBz HLY
          rw [← HRM.out] at PBz HLY
          clear hjm PB1
          simp only at PBz HLY
          replace PBz := hide PBz
          obtain ⟨dsx, hdx⟩ : ∃ dsx, dsx = ds := ⟨_, rfl⟩
          rw [← hdx] at PBz HLY
          have HY : Hid (s5.e = 0 → dsx = ds) := hide (fun _ => hdx)
          clear hdx
          have PBe := PBz.out
          obtain ⟨aL, cL, eL, _⟩ := GRow.lies PBe.rl
          obtain ⟨aD, cD, eD, _⟩ := GRow.lies PBe.rd
          subst eL eD
          have hne := PBe.ne
          have t0 := PBe.c3.get 0 _ rfl
          have t1 := PBe.c3.get 1 _ rfl
          have t2 := PBe.c3.get 2 _ rfl
          have u0 := PBe.c2.get 0 _ rfl
          have u1 := PBe.c2.get 1 _ rfl
          have u2 := PBe.c2.get 2 _ rfl
          obtain ⟨t0, _⟩ := t0
          obtain ⟨t1, _⟩ := t1
          obtain ⟨t2, _⟩ := t2
          obtain ⟨u0, g0⟩ := u0
          obtain ⟨u1, g1⟩ := u1
          obtain ⟨u2, g2⟩ := u2
          have PBf := hide (PBe.out2)
          obtain ⟨y0, y1, y2⟩ := PBe.res
          clear PBe PBz
          go_wp2_with fail
          exact bodyPost_ret (v := .agg #[.slice aL lsx.length cL, .slice aD dsx.length cD, .int .i64 (nx : Int)]) (by simp only [results, Try.results66]; simp [go_sem, y0, y1, y2]) rfl ⟨_, _, nx, lsx, dsx, rfl, PBf.out.1, PBf.out.2.1, PBf.out.2.2.1, PBf.out.2.2.2, fun h5 => by rw [HX.out (HA.out h5), HY.out h5], HLX.out, HLY.out⟩
end Go.Proofs.Ytlibldioliicfaa
namespace Go.Proofs.Ytlibldioliicfaa
open Go.RowKit Go.QK
set_option maxRecDepth 100000
/-- A whole variable is stored, in a region that draws its order. -/
theorem wp_st36 {o : Oper} {a : Act} {w : World} {K : Act → World → Prop} {Q : Exit → Act → World → Prop} {cond : Bool} {x y : Operand} {b : Nat} {cs cs' : Array Value} (hc : cond = true) (hd : o.dst = none) (ho : o.op = .store 36 x y)
    (hb : RBox w b 36 cs) (hs : cs.size = 17) (hs' : cs'.size = 17) (h1 : cs'.toList.all (·.oneCell') = true) (hx : a.eval x = .pointer (some ⟨b, 0, none⟩)) (hy : a.eval y = .agg cs')
    (h : ∀ w', RBox w' b 36 cs' → Keep (fun k => k = b) w w' → K (a.put none undef) w') : if cond = true then Oper.wp Try.prog o a w K Q else K (a.put o.dst undef) w := by
  rw [if_pos hc]
  have hrun := run_storeVar_row (P := Try.prog) w b 36 36 cs cs' hb (size36' hs') (by rw [hs, hs']) (by rw [← Array.all_toList]; exact h1)
  unfold Oper.wp execOp
  simp only [ho, hx, hy, Instr.storeAt, Instr.sureAddr, Sem.run_bind, Sem.run_pure, Result.andThen_ok, hrun]
  have := h _ (RBox.setRow hb cs') (keep_setRow _ _ _)
  rw [← hd] at this
  exact this
/-- The record that is being read. -/
structure XSt (w : World) (p : Nat) (a : Option Addr) (c : Nat) (l : List Nat) (wi : World) (s : RS) (b : Nat) (cs : Array Value) : Prop where
  d : DSt w p a c l wi s
  x : RBox wi b 36 cs
  gt : w.heap.size < b
  nr : ¬ rS p a l b
section
variable {w wi w' : World} {p : Nat} {a : Option Addr} {c : Nat} {l : List Nat} {s s' : RS} {b : Nat} {cs : Array Value}
theorem XSt.next (h : XSt w p a c l wi s b cs) (r : RSt wi p a c l w' s') : XSt w p a c l w' s' b cs :=
  ⟨h.d.next r, h.x.keep r.keep (fun q => h.nr (.inl q)), h.gt, h.nr⟩
theorem XSt.below (h : XSt w p a c l wi s b cs) (r : Below wi.heap.size wi w') : XSt w p a c l w' s b cs := ⟨h.d.below r, h.x.below r, h.gt, h.nr⟩
theorem XSt.set (h : XSt w p a c l wi s b cs) (j : Nat) (v : Value) : XSt w p a c l (wi.setCell ⟨b, j, none⟩ v) s b (cs.setIfInBounds j v) := by
  have k3 : Keep (fun k => k = b) wi (wi.setCell ⟨b, j, none⟩ v) := (Keep.refl (fun k => k = b) wi).setCell (fun _ => rfl) _
  exact ⟨h.d.touch k3 (fun k q => ⟨by have := h.gt; have e : k = b := q; omega, fun r => h.nr (by have e : k = b := q; rw [← e]; exact r)⟩), h.x.setCell j v, h.gt, h.nr⟩
theorem XSt.cell (h : XSt w p a c l wi s b cs) (j : Nat) (v : Value) (hv : cs.toList[j]? = some v) : wi.cell? ⟨b, j, none⟩ = some v ∧ wi.frozen? ⟨b, j, none⟩ = false := h.x.cells.get j v hv
end
end Go.Proofs.Ytlibldioliicfaa
namespace Go.Proofs.Ytlibldioliicfaa
open Go.RowKit Go.QK
set_option maxRecDepth 100000
set_option maxHeartbeats 0 in
theorem rDec_fault (a0 : Option Addr) (l : List Nat) (cap : Nat) (w : World) (hs : Bytes w a0 l) (ha : a0 = none → cap = 0) (hl : l.length ≤ 1000000) (hb : AllB l) (n : Nat) (s1 : RS) (hu : uM 18446744073709551615 l ⟨0, 0⟩ = (n, s1)) (he : s1.e ≠ 0) :
    Calls Try.prog 37 #[.slice a0 l.length cap] w fun e w' => ∃ v, e = .returned (.tuple #[v, .int .i64 ((s1.e : Nat) : Int)]) ∧ RecOut w.heap.size w' v zeroR ∧ Below w.heap.size w w' := by
  have B0 := alloc_below w (.cells #[.int .i64 0, .int .i64 0, .int .i64 0, .int .i64 0, .int .i64 0, .int .i64 0, .int .i64 0, .int .i64 0, .int .i64 0, .int .i64 0, .int .i64 0, .int .i64 0, .int .i64 0, .int .i64 0, .slice none 0 0, .slice none 0 0, .int .i64 0] 36)
  have X0 := RBox.new w #[.int .i64 0, .int .i64 0, .int .i64 0, .int .i64 0, .int .i64 0, .int .i64 0, .int .i64 0, .int .i64 0, .int .i64 0, .int .i64 0, .int .i64 0, .int .i64 0, .int .i64 0, .int .i64 0, .slice none 0 0, .slice none 0 0, .int .i64 0] 36
  have hs0 := Seen.below hs B0
  generalize hw0 : w.alloc (.cells #[.int .i64 0, .int .i64 0, .int .i64 0, .int .i64 0, .int .i64 0, .int .i64 0, .int .i64 0, .int .i64 0, .int .i64 0, .int .i64 0, .int .i64 0, .int .i64 0, .int .i64 0, .int .i64 0, .slice none 0 0, .slice none 0 0, .int .i64 0] 36) = w0 at *
  have F1 := hide (rNew_any a0 l cap w0 hs0 ha hl hb)
  have F2 := hide (fun p a c w' h => rU_r 18446744073709551615 p a c l ⟨0, 0⟩ w' h)
  rw [hu] at F2
  simp only at F2
  have lt0 := X0.lt
  have HX0 := hide X0
  have HB0 := hide B0
  clear hs hs0 ha hl hb X0 B0
  go_enter Try.func37, Try.ntmps37
  go_wp2_with fail
  clear hw0
  refine F1.out.mono ?_
  rintro e w1 ⟨p, a, c, rfl, hp, hpa, hrd, b1⟩
  have D1 := hide (show DSt w p a c l w1 ⟨0, 0⟩ from ⟨bnext HB0.out b1 (Nat.le_refl _), hrd, HX0.out.below b1, by omega, by
    rintro k (rfl | ⟨hl, ad, q, rfl⟩)
    · omega
    · have := hpa ad q; omega⟩)
  clear hp hpa hrd b1 F1 HX0 HB0 lt0
  go_wp2_with fail
  refine (F2.out p a c _ D1.out.rd).mono ?_
  rintro e w2 ⟨rfl, r2⟩
  have D2 := hide (D1.out.next r2)
  clear r2 D1 F2
  have F3 := hide (rBad_any p a c l s1 w2 D2.out.rd)
  have hbt : decide (s1.e ≠ 0) = true := by simp [he]
  rw [hbt] at F3
  clear hbt
  obtain ⟨pos, e⟩ := s1
  simp only at he D2 F3 ⊢
  have he1 : ¬ ((e : Int) = 0) := by omega
  go_wp2_with fail
  refine F3.out.mono ?_
  rintro e' wq ⟨rfl, hq⟩
  obtain rfl : w2 = wq := hq.symm
  clear F3
  go_upto_region 4 with fail
  have FX := hide (show w2.cell? ⟨p, 2, none⟩ = some (.int .i64 (e : Int)) from (D2.out.rd.1.get 2 _ rfl).1)
  have D2e := hide (D2.out.below (Below.refl _ _).drew)
  refine wp_region_held_drew (S := fun wq => wq.cell? ⟨p, 2, none⟩ = some (.int .i64 (e : Int))) (by kernel_rfl) FX.out (fun hS => ?_)
  generalize w2.drew = we at *
  clear FX
  refine take_at 0 (some 14) (v := ?_) rfl rfl (by kernel_rfl) (by kernel_rfl) (by kernel_rfl) (fun _ _ _ h => h) ⟨by rfl, ?_⟩ hS ?_
  rotate_left
  · intro wq hSw; go_simp; try rfl
  simp only [Act.put, List.setIfInBounds_toArray, List.set_cons_zero, List.set_cons_succ]
  refine take_at 1 (some 15) (v := ?_) rfl rfl (by kernel_rfl) (by kernel_rfl) (by kernel_rfl) (fun _ _ _ h => h) ⟨by rfl, ?_⟩ hS ?_
  rotate_left
  · intro wq hSw; go_simp; try rfl
  simp only [Act.put, List.setIfInBounds_toArray, List.set_cons_zero, List.set_cons_succ]
  refine take_at 2 (some 16) (v := ?_) rfl rfl (by kernel_rfl) (by kernel_rfl) (by kernel_rfl) (fun _ _ _ h => h) ⟨by rfl, ?_⟩ hS ?_
  rotate_left
  · intro wq hSw; go_simp; try rfl
  simp only [Act.put, List.setIfInBounds_toArray, List.set_cons_zero, List.set_cons_succ]
  refine take_at 3 (some 17) (v := ?_) rfl rfl (by kernel_rfl) (by kernel_rfl) (by kernel_rfl) (fun _ _ _ h => h) ⟨by rfl, ?_⟩ hS ?_
  rotate_left
  · intro wq hSw; go_simp; try rfl
  simp only [Act.put, List.setIfInBounds_toArray, List.set_cons_zero, List.set_cons_succ]
  refine take_at 4 (some 18) (v := ?_) rfl rfl (by kernel_rfl) (by kernel_rfl) (by kernel_rfl) (fun _ _ _ h => h) ⟨by rfl, ?_⟩ hS ?_
  rotate_left
  · intro wq hSw; go_simp; try rfl
  simp only [Act.put, List.setIfInBounds_toArray, List.set_cons_zero, List.set_cons_succ]
  refine wpAnyH_ready (rs := [5]) (by kernel_rfl) (by simp) ?_
  refine AllReadyH.cons rfl (fun K hK => ?_) AllReadyH.nil
  refine wp_st36 rfl rfl rfl D2e.out.bx rfl rfl rfl rfl rfl ?_
  intro wf hbf hkf
  have hSf : wf.cell? ⟨p, 2, none⟩ = some (.int .i64 (e : Int)) := (hkf.cell D2e.out.rd.1.1 (by intro q; have := D2e.out.ps; have e : p = w.heap.size := q; omega)).trans (D2e.out.rd.1.get 2 _ rfl).1
  refine hK.out _ _ hSf (fun hS => ?_)
  clear hK K hSf
  (try simp only [Act.put])
  refine take_at 6 (some 3) (v := ?_) rfl rfl (by kernel_rfl) (by kernel_rfl) (by kernel_rfl) (fun _ _ _ h => h) ⟨by rfl, ?_⟩ hS ?_
  rotate_left
  · intro wq hSw; go_simp; try rfl
  simp only [Act.put, List.setIfInBounds_toArray, List.set_cons_zero, List.set_cons_succ]
  refine wpAnyH_done (by kernel_rfl) ?_ _
  clear hS
  go_wp2_with fail
  exact bodyPost_ret (results_box2 rfl _ _ rfl hbf rfl) rfl ⟨_, rfl, RecOut.zero _ _, D2e.out.bel.trans (hkf.below D2e.out.bel.size (fun k hk q => by omega))⟩
set_option maxHeartbeats 0 in
theorem rDec_kind (a0 : Option Addr) (l : List Nat) (cap : Nat) (w : World) (hs : Bytes w a0 l) (ha : a0 = none → cap = 0) (hl : l.length ≤ 1000000) (hb : AllB l) (n : Nat) (s1 : RS) (hu : uM 18446744073709551615 l ⟨0, 0⟩ = (n, s1)) (he : s1.e = 0) (hn : ¬ (1 ≤ n ∧ n ≤ 8)) :
    Calls Try.prog 37 #[.slice a0 l.length cap] w fun e w' => ∃ v, e = .returned (.tuple #[v, .int .i64 ((70 : Nat) : Int)]) ∧ RecOut w.heap.size w' v zeroR ∧ Below w.heap.size w w' := by
  have B0 := alloc_below w (.cells #[.int .i64 0, .int .i64 0, .int .i64 0, .int .i64 0, .int .i64 0, .int .i64 0, .int .i64 0, .int .i64 0, .int .i64 0, .int .i64 0, .int .i64 0, .int .i64 0, .int .i64 0, .int .i64 0, .slice none 0 0, .slice none 0 0, .int .i64 0] 36)
  have X0 := RBox.new w #[.int .i64 0, .int .i64 0, .int .i64 0, .int .i64 0, .int .i64 0, .int .i64 0, .int .i64 0, .int .i64 0, .int .i64 0, .int .i64 0, .int .i64 0, .int .i64 0, .int .i64 0, .int .i64 0, .slice none 0 0, .slice none 0 0, .int .i64 0] 36
  have hs0 := Seen.below hs B0
  generalize hw0 : w.alloc (.cells #[.int .i64 0, .int .i64 0, .int .i64 0, .int .i64 0, .int .i64 0, .int .i64 0, .int .i64 0, .int .i64 0, .int .i64 0, .int .i64 0, .int .i64 0, .int .i64 0, .int .i64 0, .int .i64 0, .slice none 0 0, .slice none 0 0, .int .i64 0] 36) = w0 at *
  have F1 := hide (rNew_any a0 l cap w0 hs0 ha hl hb)
  have F2 := hide (fun p a c w' h => rU_r 18446744073709551615 p a c l ⟨0, 0⟩ w' h)
  rw [hu] at F2
  simp only at F2
  have lt0 := X0.lt
  have HX0 := hide X0
  have HB0 := hide B0
  clear hs hs0 ha hl hb X0 B0
  go_enter Try.func37, Try.ntmps37
  go_wp2_with fail
  clear hw0
  refine F1.out.mono ?_
  rintro e w1 ⟨p, a, c, rfl, hp, hpa, hrd, b1⟩
  have D1 := hide (show DSt w p a c l w1 ⟨0, 0⟩ from ⟨bnext HB0.out b1 (Nat.le_refl _), hrd, HX0.out.below b1, by omega, by
    rintro k (rfl | ⟨hl, ad, q, rfl⟩)
    · omega
    · have := hpa ad q; omega⟩)
  clear hp hpa hrd b1 F1 HX0 HB0 lt0
  go_wp2_with fail
  refine (F2.out p a c _ D1.out.rd).mono ?_
  rintro e w2 ⟨rfl, r2⟩
  have D2 := hide (D1.out.next r2)
  clear r2 D1 F2
  have F3 := hide (rBad_any p a c l s1 w2 D2.out.rd)
  have hbt : decide (s1.e ≠ 0) = false := by simp [he]
  rw [hbt] at F3
  clear hbt
  by_cases h1 : 1 ≤ n
  · have g1 : decide ((n : Int) < 1) = false := by rw [decide_eq_false_iff_not]; omega
    have g2 : decide ((8 : Int) < (n : Int)) = true := by rw [decide_eq_true_iff]; omega
    go_wp2_with fail
    refine F3.out.mono ?_
    rintro e' wq ⟨rfl, hq⟩
    obtain rfl : w2 = wq := hq.symm
    clear F3
    go_wp2_with (refine wpList_store36 D2.out.bx rfl rfl rfl rfl rfl ?_; intro wf hbf hkf)
    exact bodyPost_ret (results_box2 rfl _ _ rfl hbf rfl) rfl ⟨_, rfl, RecOut.zero _ _, D2.out.bel.trans (hkf.below D2.out.bel.size (fun k hk q => by omega))⟩
  · have g1 : decide ((n : Int) < 1) = true := by rw [decide_eq_true_iff]; omega
    go_wp2_with fail
    refine F3.out.mono ?_
    rintro e' wq ⟨rfl, hq⟩
    obtain rfl : w2 = wq := hq.symm
    clear F3
    go_wp2_with (refine wpList_store36 D2.out.bx rfl rfl rfl rfl rfl ?_; intro wf hbf hkf)
    exact bodyPost_ret (results_box2 rfl _ _ rfl hbf rfl) rfl ⟨_, rfl, RecOut.zero _ _, D2.out.bel.trans (hkf.below D2.out.bel.size (fun k hk q => by omega))⟩
end Go.Proofs.Ytlibldioliicfaa
namespace Go.Proofs.Ytlibldioliicfaa
open Go.RowKit Go.QK
set_option maxRecDepth 100000
set_option maxHeartbeats 0 in
theorem rDec_1 (a0 : Option Addr) (l : List Nat) (cap : Nat) (w : World) (hs : Bytes w a0 l) (ha : a0 = none → cap = 0) (hl : l.length ≤ 1000000) (hb : AllB l) (s1 : RS) (hu : uM 18446744073709551615 l ⟨0, 0⟩ = (1, s1)) (he : s1.e = 0) :
    Calls Try.prog 37 #[.slice a0 l.length cap] w fun e w' => ∃ v, e = .returned (.tuple #[v, .int .i64 (((restM l 1 s1).2 : Nat) : Int)]) ∧ RecOut w.heap.size w' v (restM l 1 s1).1 ∧ Below w.heap.size w w' := by
  obtain ⟨dm, hdm⟩ : ∃ q, q = restM l 1 s1 := ⟨_, rfl⟩
  rw [← hdm]
  unfold restM at hdm
  obtain ⟨kk, hkk⟩ : ∃ kk : Nat, kk = 1 := ⟨_, rfl⟩
  have e1 : hTx (kk : Int) = true := by rw [hkk]; rfl
  have e2 : hPrev (kk : Int) = false := by rw [hkk]; rfl
  have e3 : hCtr (kk : Int) = false := by rw [hkk]; rfl
  have e4 : hFirst (kk : Int) = false := by rw [hkk]; rfl
  have e5 : hDelta (kk : Int) = false := by rw [hkk]; rfl
  have e6 : hPts (kk : Int) = false := by rw [hkk]; rfl
  obtain ⟨RR, hRR⟩ : ∃ q, q = readM (kk : Int) l s1 := ⟨_, rfl⟩
  have hRR' : RR = readM ((1 : Nat) : Int) l s1 := by rw [hRR, hkk]
  rw [← hRR'] at hdm
  simp only [readM, condM, e1, e2, e3, e4, e5, e6, bindM, pureM, cond_true, cond_false, zeroR] at hRR
  rw [hkk] at hRR
  clear e1 e2 e3 e4 e5 e6 hkk hRR' kk
  have HRR := hide hRR
  have HDM := hide hdm
  clear hRR hdm
  have B0 := alloc_below w (.cells #[.int .i64 0, .int .i64 0, .int .i64 0, .int .i64 0, .int .i64 0, .int .i64 0, .int .i64 0, .int .i64 0, .int .i64 0, .int .i64 0, .int .i64 0, .int .i64 0, .int .i64 0, .int .i64 0, .slice none 0 0, .slice none 0 0, .int .i64 0] 36)
  have X0 := RBox.new w #[.int .i64 0, .int .i64 0, .int .i64 0, .int .i64 0, .int .i64 0, .int .i64 0, .int .i64 0, .int .i64 0, .int .i64 0, .int .i64 0, .int .i64 0, .int .i64 0, .int .i64 0, .int .i64 0, .slice none 0 0, .slice none 0 0, .int .i64 0] 36
  have hs0 := Seen.below hs B0
  generalize hw0 : w.alloc (.cells #[.int .i64 0, .int .i64 0, .int .i64 0, .int .i64 0, .int .i64 0, .int .i64 0, .int .i64 0, .int .i64 0, .int .i64 0, .int .i64 0, .int .i64 0, .int .i64 0, .int .i64 0, .int .i64 0, .slice none 0 0, .slice none 0 0, .int .i64 0] 36) = w0 at *
  have F1 := hide (rNew_any a0 l cap w0 hs0 ha hl hb)
  have F2 := hide (fun p a c w' h => rU_r 18446744073709551615 p a c l ⟨0, 0⟩ w' h)
  rw [hu] at F2
  simp only at F2
  have lt0 := X0.lt
  have HX0 := hide X0
  have HB0 := hide B0
  clear hs hs0 ha hl hb X0 B0
  go_enter Try.func37, Try.ntmps37
  go_wp2_with fail
  clear hw0
  refine F1.out.mono ?_
  rintro e w1 ⟨p, a, c, rfl, hp, hpa, hrd, b1⟩
  have D1 := hide (show DSt w p a c l w1 ⟨0, 0⟩ from ⟨bnext HB0.out b1 (Nat.le_refl _), hrd, HX0.out.below b1, by omega, by
    rintro k (rfl | ⟨hl, ad, q, rfl⟩)
    · omega
    · have := hpa ad q; omega⟩)
  clear hp hpa hrd b1 F1 HX0 HB0 lt0
  go_wp2_with fail
  refine (F2.out p a c _ D1.out.rd).mono ?_
  rintro e w2 ⟨rfl, r2⟩
  have D2 := hide (D1.out.next r2)
  clear r2 D1 F2
  have F3 := hide (rBad_any p a c l s1 w2 D2.out.rd)
  have hbt : decide (s1.e ≠ 0) = false := by simp [he]
  rw [hbt] at F3
  clear hbt he
  go_wp2_with fail
  refine F3.out.mono ?_
  rintro e' wq ⟨rfl, hq⟩
  obtain rfl : w2 = wq := hq.symm
  clear F3
  have lt2 := D2.out.bx.lt
  have rlt := fun k q => Rd.old D2.out.rd k q
  have D2' := D2.out.below (alloc_below w2 (.cells #[.int .i64 0, .int .i64 0, .int .i64 0, .int .i64 0, .int .i64 0, .int .i64 0, .int .i64 0, .int .i64 0, .int .i64 0, .int .i64 0, .int .i64 0, .int .i64 0, .int .i64 0, .int .i64 0, .slice none 0 0, .slice none 0 0, .int .i64 0] 36))
  go_upto_region 8 with (refine wpList_store36 (RBox.new _ _ _) rfl rfl rfl rfl rfl ?_; intro w3 R3 hk3)
  have nr3 : ¬ rS p a l w2.heap.size := fun r => by have := rlt _ r; omega
  have X := hide (XSt.mk (D2'.touch hk3 (fun k q => ⟨by have e : k = w2.heap.size := q; omega, fun r => by have e : k = w2.heap.size := q; rw [e] at r; exact nr3 r⟩)) R3 lt2 nr3)
  generalize w2.heap.size = b6 at *
  clear D2' R3 hk3 rlt D2
  have F := fun w' h => rNum_r p a c l s1 w' h
  generalize hq1 : takeM l s1 = q1 at F
  obtain ⟨n1, t1⟩ := q1
  simp only at F
  have F := hide F
  have HQ1 := hide hq1
  clear hq1
  have c1 := (X.out.cell 1 _ rfl).1
  go_wp2_with fail
  refine (F.out _ X.out.d.rd).mono ?_
  rintro e v1 ⟨rfl, r⟩
  replace X := hide (X.out.next r)
  clear r F c1
  obtain ⟨x2, y2⟩ := X.out.cell 2 _ rfl
  have c1 := (X.out.cell 1 _ rfl).1
  go_upto_region 34 with fail
  have X2 := (X.out.set 2 (.int .i64 (n1 : Int)))
  simp only [List.setIfInBounds_toArray, List.set_cons_zero, List.set_cons_succ] at X2
  replace X := hide X2
  generalize (v1.setCell ⟨b6, 2, none⟩ (.int .i64 (n1 : Int))) = z1 at *
  clear X2 c1 x2 y2
  have hR := HRR.out
  simp only [HQ1.out] at hR
  have hd := HDM.out
  rw [hR] at hd
  simp only at hd
  replace HDM := hide hd
  have C1 := fun w' a b => rCheck_any (RecM.mk 0 1 ((n1 : Int)) 0 0 0 0 0 0 0 0 0 0 0 [] [] 0) none none 0 0 w' a b
  simp only [recC, List.length_nil] at C1
  clear hR hd HRR HQ1
  have HL : Hid (∀ w', Lies w' none (liveCs [])) := hide (fun _ => .inl rfl)
  have HDL : Hid (∀ w', Lies w' none (dirtyCs [])) := hide (fun _ => .inl rfl)
  have c1 := (X.out.cell 1 _ rfl).1
  have hzz : Hid (t1.e ≠ 0 → endE l t1.pos t1.e ≠ 0) := hide (fun h => by unfold endE; simp [h])
  go_wp2_with fail
  refine (rEnd_r p a c l t1 _ X.out.d.rd).mono ?_
  rintro e w5 ⟨rfl, r5⟩
  replace X := hide (X.out.next r5)
  clear r5 c1
  have F6 := rBad_any p a c l ⟨t1.pos, endE l t1.pos t1.e⟩ w5 X.out.d.rd
  simp only at F6
  generalize endE l t1.pos t1.e = ee at *
  by_cases hee : ee = 0
  · subst hee
    have hbt : decide ((0 : Nat) ≠ 0) = false := rfl
    rw [hbt] at F6
    replace F6 := hide F6
    clear hbt
    have C1 := hide (C1 w5 (HL.out _) (HDL.out _))
    generalize chkE (RecM.mk 0 1 ((n1 : Int)) 0 0 0 0 0 0 0 0 0 0 0 [] [] 0) = ce at *
    clear hzz
    go_wp2_with fail
    refine F6.out.mono ?_
    rintro e' wq ⟨rfl, hq⟩
    obtain rfl : w5 = wq := hq.symm
    clear F6
    go_wp2_with (refine wpList_load36 X.out.x rfl rfl ?_)
    refine C1.out.mono ?_
    rintro e w7 ⟨rfl, b7⟩
    replace X := hide (X.out.below b7)
    clear b7 C1
    by_cases hce : ce = 0
    · subst hce
      have hd := HDM.out
      simp only [ne_eq, not_true_eq_false, if_false] at hd
      subst hd
      go_wp2_with (first | refine wpList_load36 X.out.x rfl rfl ?_ | (refine wpList_store36 X.out.d.bx rfl rfl rfl rfl rfl ?_; intro wf hbf hkf))
      exact bodyPost_ret (results_box2 rfl _ _ rfl hbf rfl) rfl ⟨_, rfl, ⟨none, none, 0, 0, rfl, World.ownsRow_nil _ _ _ _, World.ownsRow_nil _ _ _ _, nofun⟩, X.out.d.bel.trans (hkf.below X.out.d.bel.size (fun k hk q => by omega))⟩
    · have hd := HDM.out
      simp only [ne_eq, not_true_eq_false, if_false, hce, not_false_eq_true, if_true] at hd
      subst hd
      have hce1 : ¬ ((ce : Int) = 0) := by omega
      go_wp2_with (refine wpList_store36 X.out.d.bx rfl rfl rfl rfl rfl ?_; intro wf hbf hkf)
      exact bodyPost_ret (results_box2 rfl _ _ rfl hbf rfl) rfl ⟨_, rfl, RecOut.zero _ _, X.out.d.bel.trans (hkf.below X.out.d.bel.size (fun k hk q => by omega))⟩
  · have hd := HDM.out
    simp only [ne_eq, hee, not_false_eq_true, if_true] at hd
    subst hd
    have hbt : decide (ee ≠ 0) = true := by simp [hee]
    rw [hbt] at F6
    replace F6 := hide F6
    clear hbt C1
    have D5 := hide X.out.d
    clear X
    go_wp2_with fail
    refine F6.out.mono ?_
    rintro e' wq ⟨rfl, hq⟩
    obtain rfl : w5 = wq := hq.symm
    clear F6
    go_upto_region 36 with fail
    have FX := hide (show w5.cell? ⟨p, 2, none⟩ = some (.int .i64 (ee : Int)) from (D5.out.rd.1.get 2 _ rfl).1)
    have D5e := hide (D5.out.below (Below.refl _ _).drew)
    refine wp_region_held_drew (S := fun wq => wq.cell? ⟨p, 2, none⟩ = some (.int .i64 (ee : Int))) (by kernel_rfl) FX.out (fun hS => ?_)
    generalize w5.drew = we at *
    clear FX
    refine take_at 0 (some 107) (v := ?_) rfl rfl (by kernel_rfl) (by kernel_rfl) (by kernel_rfl) (fun _ _ _ h => h) ⟨by rfl, ?_⟩ hS ?_
    rotate_left
    · intro wq hSw; go_simp; try rfl
    simp only [Act.put, List.setIfInBounds_toArray, List.set_cons_zero, List.set_cons_succ]
    refine take_at 1 (some 108) (v := ?_) rfl rfl (by kernel_rfl) (by kernel_rfl) (by kernel_rfl) (fun _ _ _ h => h) ⟨by rfl, ?_⟩ hS ?_
    rotate_left
    · intro wq hSw; go_simp; try rfl
    simp only [Act.put, List.setIfInBounds_toArray, List.set_cons_zero, List.set_cons_succ]
    refine take_at 2 (some 109) (v := ?_) rfl rfl (by kernel_rfl) (by kernel_rfl) (by kernel_rfl) (fun _ _ _ h => h) ⟨by rfl, ?_⟩ hS ?_
    rotate_left
    · intro wq hSw; go_simp; try rfl
    simp only [Act.put, List.setIfInBounds_toArray, List.set_cons_zero, List.set_cons_succ]
    refine take_at 3 (some 110) (v := ?_) rfl rfl (by kernel_rfl) (by kernel_rfl) (by kernel_rfl) (fun _ _ _ h => h) ⟨by rfl, ?_⟩ hS ?_
    rotate_left
    · intro wq hSw; go_simp; try rfl
    simp only [Act.put, List.setIfInBounds_toArray, List.set_cons_zero, List.set_cons_succ]
    refine take_at 4 (some 111) (v := ?_) rfl rfl (by kernel_rfl) (by kernel_rfl) (by kernel_rfl) (fun _ _ _ h => h) ⟨by rfl, ?_⟩ hS ?_
    rotate_left
    · intro wq hSw; go_simp; try rfl
    simp only [Act.put, List.setIfInBounds_toArray, List.set_cons_zero, List.set_cons_succ]
    refine wpAnyH_ready (rs := [5]) (by kernel_rfl) (by simp) ?_
    refine AllReadyH.cons rfl (fun K hK => ?_) AllReadyH.nil
    refine wp_st36 rfl rfl rfl D5e.out.bx rfl rfl rfl rfl rfl ?_
    intro wf hbf hkf
    have hSf : wf.cell? ⟨p, 2, none⟩ = some (.int .i64 (ee : Int)) := (hkf.cell D5e.out.rd.1.1 (by intro q; have := D5e.out.ps; have e : p = w.heap.size := q; omega)).trans (D5e.out.rd.1.get 2 _ rfl).1
    refine hK.out _ _ hSf (fun hS => ?_)
    clear hK K hSf
    (try simp only [Act.put])
    refine take_at 6 (some 3) (v := ?_) rfl rfl (by kernel_rfl) (by kernel_rfl) (by kernel_rfl) (fun _ _ _ h => h) ⟨by rfl, ?_⟩ hS ?_
    rotate_left
    · intro wq hSw; go_simp; try rfl
    simp only [Act.put, List.setIfInBounds_toArray, List.set_cons_zero, List.set_cons_succ]
    refine wpAnyH_done (by kernel_rfl) ?_ _
    clear hS
    go_wp2_with fail
    exact bodyPost_ret (results_box2 rfl _ _ rfl hbf rfl) rfl ⟨_, rfl, RecOut.zero _ _, D5e.out.bel.trans (hkf.below D5e.out.bel.size (fun k hk q => by omega))⟩
set_option maxHeartbeats 0 in
theorem rDec_2 (a0 : Option Addr) (l : List Nat) (cap : Nat) (w : World) (hs : Bytes w a0 l) (ha : a0 = none → cap = 0) (hl : l.length ≤ 1000000) (hb : AllB l) (s1 : RS) (hu : uM 18446744073709551615 l ⟨0, 0⟩ = (2, s1)) (he : s1.e = 0) :
    Calls Try.prog 37 #[.slice a0 l.length cap] w fun e w' => ∃ v, e = .returned (.tuple #[v, .int .i64 (((restM l 2 s1).2 : Nat) : Int)]) ∧ RecOut w.heap.size w' v (restM l 2 s1).1 ∧ Below w.heap.size w w' := by
  obtain ⟨dm, hdm⟩ : ∃ q, q = restM l 2 s1 := ⟨_, rfl⟩
  rw [← hdm]
  unfold restM at hdm
  obtain ⟨kk, hkk⟩ : ∃ kk : Nat, kk = 2 := ⟨_, rfl⟩
  have e1 : hTx (kk : Int) = false := by rw [hkk]; rfl
  have e2 : hPrev (kk : Int) = false := by rw [hkk]; rfl
  have e3 : hCtr (kk : Int) = true := by rw [hkk]; rfl
  have e4 : hFirst (kk : Int) = true := by rw [hkk]; rfl
  have e5 : hDelta (kk : Int) = false := by rw [hkk]; rfl
  have e6 : hPts (kk : Int) = false := by rw [hkk]; rfl
  obtain ⟨RR, hRR⟩ : ∃ q, q = readM (kk : Int) l s1 := ⟨_, rfl⟩
  have hRR' : RR = readM ((2 : Nat) : Int) l s1 := by rw [hRR, hkk]
  rw [← hRR'] at hdm
  simp only [readM, condM, e1, e2, e3, e4, e5, e6, bindM, pureM, cond_true, cond_false, zeroR] at hRR
  rw [hkk] at hRR
  clear e1 e2 e3 e4 e5 e6 hkk hRR' kk
  have HRR := hide hRR
  have HDM := hide hdm
  clear hRR hdm
  have B0 := alloc_below w (.cells #[.int .i64 0, .int .i64 0, .int .i64 0, .int .i64 0, .int .i64 0, .int .i64 0, .int .i64 0, .int .i64 0, .int .i64 0, .int .i64 0, .int .i64 0, .int .i64 0, .int .i64 0, .int .i64 0, .slice none 0 0, .slice none 0 0, .int .i64 0] 36)
  have X0 := RBox.new w #[.int .i64 0, .int .i64 0, .int .i64 0, .int .i64 0, .int .i64 0, .int .i64 0, .int .i64 0, .int .i64 0, .int .i64 0, .int .i64 0, .int .i64 0, .int .i64 0, .int .i64 0, .int .i64 0, .slice none 0 0, .slice none 0 0, .int .i64 0] 36
  have hs0 := Seen.below hs B0
  generalize hw0 : w.alloc (.cells #[.int .i64 0, .int .i64 0, .int .i64 0, .int .i64 0, .int .i64 0, .int .i64 0, .int .i64 0, .int .i64 0, .int .i64 0, .int .i64 0, .int .i64 0, .int .i64 0, .int .i64 0, .int .i64 0, .slice none 0 0, .slice none 0 0, .int .i64 0] 36) = w0 at *
  have F1 := hide (rNew_any a0 l cap w0 hs0 ha hl hb)
  have F2 := hide (fun p a c w' h => rU_r 18446744073709551615 p a c l ⟨0, 0⟩ w' h)
  rw [hu] at F2
  simp only at F2
  have lt0 := X0.lt
  have HX0 := hide X0
  have HB0 := hide B0
  clear hs hs0 ha hl hb X0 B0
  go_enter Try.func37, Try.ntmps37
  go_wp2_with fail
  clear hw0
  refine F1.out.mono ?_
  rintro e w1 ⟨p, a, c, rfl, hp, hpa, hrd, b1⟩
  have D1 := hide (show DSt w p a c l w1 ⟨0, 0⟩ from ⟨bnext HB0.out b1 (Nat.le_refl _), hrd, HX0.out.below b1, by omega, by
    rintro k (rfl | ⟨hl, ad, q, rfl⟩)
    · omega
    · have := hpa ad q; omega⟩)
  clear hp hpa hrd b1 F1 HX0 HB0 lt0
  go_wp2_with fail
  refine (F2.out p a c _ D1.out.rd).mono ?_
  rintro e w2 ⟨rfl, r2⟩
  have D2 := hide (D1.out.next r2)
  clear r2 D1 F2
  have F3 := hide (rBad_any p a c l s1 w2 D2.out.rd)
  have hbt : decide (s1.e ≠ 0) = false := by simp [he]
  rw [hbt] at F3
  clear hbt he
  go_wp2_with fail
  refine F3.out.mono ?_
  rintro e' wq ⟨rfl, hq⟩
  obtain rfl : w2 = wq := hq.symm
  clear F3
  have lt2 := D2.out.bx.lt
  have rlt := fun k q => Rd.old D2.out.rd k q
  have D2' := D2.out.below (alloc_below w2 (.cells #[.int .i64 0, .int .i64 0, .int .i64 0, .int .i64 0, .int .i64 0, .int .i64 0, .int .i64 0, .int .i64 0, .int .i64 0, .int .i64 0, .int .i64 0, .int .i64 0, .int .i64 0, .int .i64 0, .slice none 0 0, .slice none 0 0, .int .i64 0] 36))
  go_upto_region 8 with (refine wpList_store36 (RBox.new _ _ _) rfl rfl rfl rfl rfl ?_; intro w3 R3 hk3)
  have nr3 : ¬ rS p a l w2.heap.size := fun r => by have := rlt _ r; omega
  have X := hide (XSt.mk (D2'.touch hk3 (fun k q => ⟨by have e : k = w2.heap.size := q; omega, fun r => by have e : k = w2.heap.size := q; rw [e] at r; exact nr3 r⟩)) R3 lt2 nr3)
  generalize w2.heap.size = b6 at *
  clear D2' R3 hk3 rlt D2
  have F := fun w' h => rSlot_r p a c l s1 w' h
  generalize hq1 : slotM l s1 = q1 at F
  obtain ⟨n1, t1⟩ := q1
  obtain ⟨n1a, n1b⟩ := n1
  simp only at F
  have F := hide F
  have HQ1 := hide hq1
  clear hq1
  have c1 := (X.out.cell 1 _ rfl).1
  go_wp2_with fail
  refine (F.out _ X.out.d.rd).mono ?_
  rintro e v1 ⟨rfl, r⟩
  replace X := hide (X.out.next r)
  clear r F c1
  obtain ⟨x4, y4⟩ := X.out.cell 4 _ rfl
  obtain ⟨x5, y5⟩ := X.out.cell 5 _ rfl
  have c1 := (X.out.cell 1 _ rfl).1
  go_upto_region 13 with fail
  have X2 := ((X.out.set 4 (.int .i64 (n1a : Int))).set 5 (.int .i64 (n1b : Int)))
  simp only [List.setIfInBounds_toArray, List.set_cons_zero, List.set_cons_succ] at X2
  replace X := hide X2
  generalize ((v1.setCell ⟨b6, 4, none⟩ (.int .i64 (n1a : Int))).setCell ⟨b6, 5, none⟩ (.int .i64 (n1b : Int))) = z1 at *
  clear X2 c1 x4 y4 x5 y5
  have F := fun w' h => rSlot_r p a c l t1 w' h
  generalize hq2 : slotM l t1 = q2 at F
  obtain ⟨n2, t2⟩ := q2
  obtain ⟨n2a, n2b⟩ := n2
  simp only at F
  have F := hide F
  have HQ2 := hide hq2
  clear hq2
  have c1 := (X.out.cell 1 _ rfl).1
  go_wp2_with fail
  refine (F.out _ X.out.d.rd).mono ?_
  rintro e v2 ⟨rfl, r⟩
  replace X := hide (X.out.next r)
  clear r F c1
  obtain ⟨x6, y6⟩ := X.out.cell 6 _ rfl
  obtain ⟨x7, y7⟩ := X.out.cell 7 _ rfl
  have c1 := (X.out.cell 1 _ rfl).1
  go_upto_region 14 with fail
  have X2 := ((X.out.set 6 (.int .i64 (n2a : Int))).set 7 (.int .i64 (n2b : Int)))
  simp only [List.setIfInBounds_toArray, List.set_cons_zero, List.set_cons_succ] at X2
  replace X := hide X2
  generalize ((v2.setCell ⟨b6, 6, none⟩ (.int .i64 (n2a : Int))).setCell ⟨b6, 7, none⟩ (.int .i64 (n2b : Int))) = z2 at *
  clear X2 c1 x6 y6 x7 y7
  have F := fun w' h => rNum_r p a c l t2 w' h
  generalize hq3 : takeM l t2 = q3 at F
  obtain ⟨n3, t3⟩ := q3
  simp only at F
  have F := hide F
  have HQ3 := hide hq3
  clear hq3
  have c1 := (X.out.cell 1 _ rfl).1
  go_wp2_with fail
  refine (F.out _ X.out.d.rd).mono ?_
  rintro e v3 ⟨rfl, r⟩
  replace X := hide (X.out.next r)
  clear r F c1
  obtain ⟨x9, y9⟩ := X.out.cell 9 _ rfl
  have c1 := (X.out.cell 1 _ rfl).1
  go_upto_region 15 with fail
  have X2 := (X.out.set 9 (.int .i64 (n3 : Int)))
  simp only [List.setIfInBounds_toArray, List.set_cons_zero, List.set_cons_succ] at X2
  replace X := hide X2
  generalize (v3.setCell ⟨b6, 9, none⟩ (.int .i64 (n3 : Int))) = z3 at *
  clear X2 c1 x9 y9
  have F := fun w' h => rNum_r p a c l t3 w' h
  generalize hq4 : takeM l t3 = q4 at F
  obtain ⟨n4, t4⟩ := q4
  simp only at F
  have F := hide F
  have HQ4 := hide hq4
  clear hq4
  have c1 := (X.out.cell 1 _ rfl).1
  go_wp2_with fail
  refine (F.out _ X.out.d.rd).mono ?_
  rintro e v4 ⟨rfl, r⟩
  replace X := hide (X.out.next r)
  clear r F c1
  obtain ⟨x10, y10⟩ := X.out.cell 10 _ rfl
  have c1 := (X.out.cell 1 _ rfl).1
  go_upto_region 16 with fail
  have X2 := (X.out.set 10 (.int .i64 (n4 : Int)))
  simp only [List.setIfInBounds_toArray, List.set_cons_zero, List.set_cons_succ] at X2
  replace X := hide X2
  generalize (v4.setCell ⟨b6, 10, none⟩ (.int .i64 (n4 : Int))) = z4 at *
  clear X2 c1 x10 y10
  have F := fun w' h => rS_r p a c l t4 w' h
  generalize hq5 : signM l t4 = q5 at F
  obtain ⟨n5, t5⟩ := q5
  simp only at F
  have F := hide F
  have HQ5 := hide hq5
  clear hq5
  have c1 := (X.out.cell 1 _ rfl).1
  go_wp2_with fail
  refine (F.out _ X.out.d.rd).mono ?_
  rintro e v5 ⟨rfl, r⟩
  replace X := hide (X.out.next r)
  clear r F c1
  obtain ⟨x11, y11⟩ := X.out.cell 11 _ rfl
  have c1 := (X.out.cell 1 _ rfl).1
  go_upto_region 17 with fail
  have X2 := (X.out.set 11 (.int .i64 n5))
  simp only [List.setIfInBounds_toArray, List.set_cons_zero, List.set_cons_succ] at X2
  replace X := hide X2
  generalize (v5.setCell ⟨b6, 11, none⟩ (.int .i64 n5)) = z5 at *
  clear X2 c1 x11 y11
  have F := fun w' h => rS_r p a c l t5 w' h
  generalize hq6 : signM l t5 = q6 at F
  obtain ⟨n6, t6⟩ := q6
  simp only at F
  have F := hide F
  have HQ6 := hide hq6
  clear hq6
  have c1 := (X.out.cell 1 _ rfl).1
  go_wp2_with fail
  refine (F.out _ X.out.d.rd).mono ?_
  rintro e v6 ⟨rfl, r⟩
  replace X := hide (X.out.next r)
  clear r F c1
  obtain ⟨x12, y12⟩ := X.out.cell 12 _ rfl
  have c1 := (X.out.cell 1 _ rfl).1
  go_upto_region 18 with fail
  have X2 := (X.out.set 12 (.int .i64 n6))
  simp only [List.setIfInBounds_toArray, List.set_cons_zero, List.set_cons_succ] at X2
  replace X := hide X2
  generalize (v6.setCell ⟨b6, 12, none⟩ (.int .i64 n6)) = z6 at *
  clear X2 c1 x12 y12
  have F := fun w' h => rS_r p a c l t6 w' h
  generalize hq7 : signM l t6 = q7 at F
  obtain ⟨n7, t7⟩ := q7
  simp only at F
  have F := hide F
  have HQ7 := hide hq7
  clear hq7
  have c1 := (X.out.cell 1 _ rfl).1
  go_wp2_with fail
  refine (F.out _ X.out.d.rd).mono ?_
  rintro e v7 ⟨rfl, r⟩
  replace X := hide (X.out.next r)
  clear r F c1
  obtain ⟨x13, y13⟩ := X.out.cell 13 _ rfl
  have c1 := (X.out.cell 1 _ rfl).1
  go_upto_region 34 with fail
  have X2 := (X.out.set 13 (.int .i64 n7))
  simp only [List.setIfInBounds_toArray, List.set_cons_zero, List.set_cons_succ] at X2
  replace X := hide X2
  generalize (v7.setCell ⟨b6, 13, none⟩ (.int .i64 n7)) = z7 at *
  clear X2 c1 x13 y13
  have hR := HRR.out
  simp only [HQ1.out, HQ2.out, HQ3.out, HQ4.out, HQ5.out, HQ6.out, HQ7.out] at hR
  have hd := HDM.out
  rw [hR] at hd
  simp only at hd
  replace HDM := hide hd
  have C1 := fun w' a b => rCheck_any (RecM.mk 0 2 0 0 ((n1a : Int)) ((n1b : Int)) ((n2a : Int)) ((n2b : Int)) 0 ((n3 : Int)) ((n4 : Int)) n5 n6 n7 [] [] 0) none none 0 0 w' a b
  simp only [recC, List.length_nil] at C1
  clear hR hd HRR HQ1 HQ2 HQ3 HQ4 HQ5 HQ6 HQ7
  have HL : Hid (∀ w', Lies w' none (liveCs [])) := hide (fun _ => .inl rfl)
  have HDL : Hid (∀ w', Lies w' none (dirtyCs [])) := hide (fun _ => .inl rfl)
  have c1 := (X.out.cell 1 _ rfl).1
  have hzz : Hid (t7.e ≠ 0 → endE l t7.pos t7.e ≠ 0) := hide (fun h => by unfold endE; simp [h])
  go_wp2_with fail
  refine (rEnd_r p a c l t7 _ X.out.d.rd).mono ?_
  rintro e w5 ⟨rfl, r5⟩
  replace X := hide (X.out.next r5)
  clear r5 c1
  have F6 := rBad_any p a c l ⟨t7.pos, endE l t7.pos t7.e⟩ w5 X.out.d.rd
  simp only at F6
  generalize endE l t7.pos t7.e = ee at *
  by_cases hee : ee = 0
  · subst hee
    have hbt : decide ((0 : Nat) ≠ 0) = false := rfl
    rw [hbt] at F6
    replace F6 := hide F6
    clear hbt
    have C1 := hide (C1 w5 (HL.out _) (HDL.out _))
    generalize chkE (RecM.mk 0 2 0 0 ((n1a : Int)) ((n1b : Int)) ((n2a : Int)) ((n2b : Int)) 0 ((n3 : Int)) ((n4 : Int)) n5 n6 n7 [] [] 0) = ce at *
    clear hzz
    go_wp2_with fail
    refine F6.out.mono ?_
    rintro e' wq ⟨rfl, hq⟩
    obtain rfl : w5 = wq := hq.symm
    clear F6
    go_wp2_with (refine wpList_load36 X.out.x rfl rfl ?_)
    refine C1.out.mono ?_
    rintro e w7 ⟨rfl, b7⟩
    replace X := hide (X.out.below b7)
    clear b7 C1
    by_cases hce : ce = 0
    · subst hce
      have hd := HDM.out
      simp only [ne_eq, not_true_eq_false, if_false] at hd
      subst hd
      go_wp2_with (first | refine wpList_load36 X.out.x rfl rfl ?_ | (refine wpList_store36 X.out.d.bx rfl rfl rfl rfl rfl ?_; intro wf hbf hkf))
      exact bodyPost_ret (results_box2 rfl _ _ rfl hbf rfl) rfl ⟨_, rfl, ⟨none, none, 0, 0, rfl, World.ownsRow_nil _ _ _ _, World.ownsRow_nil _ _ _ _, nofun⟩, X.out.d.bel.trans (hkf.below X.out.d.bel.size (fun k hk q => by omega))⟩
    · have hd := HDM.out
      simp only [ne_eq, not_true_eq_false, if_false, hce, not_false_eq_true, if_true] at hd
      subst hd
      have hce1 : ¬ ((ce : Int) = 0) := by omega
      go_wp2_with (refine wpList_store36 X.out.d.bx rfl rfl rfl rfl rfl ?_; intro wf hbf hkf)
      exact bodyPost_ret (results_box2 rfl _ _ rfl hbf rfl) rfl ⟨_, rfl, RecOut.zero _ _, X.out.d.bel.trans (hkf.below X.out.d.bel.size (fun k hk q => by omega))⟩
  · have hd := HDM.out
    simp only [ne_eq, hee, not_false_eq_true, if_true] at hd
    subst hd
    have hbt : decide (ee ≠ 0) = true := by simp [hee]
    rw [hbt] at F6
    replace F6 := hide F6
    clear hbt C1
    have D5 := hide X.out.d
    clear X
    go_wp2_with fail
    refine F6.out.mono ?_
    rintro e' wq ⟨rfl, hq⟩
    obtain rfl : w5 = wq := hq.symm
    clear F6
    go_upto_region 36 with fail
    have FX := hide (show w5.cell? ⟨p, 2, none⟩ = some (.int .i64 (ee : Int)) from (D5.out.rd.1.get 2 _ rfl).1)
    have D5e := hide (D5.out.below (Below.refl _ _).drew)
    refine wp_region_held_drew (S := fun wq => wq.cell? ⟨p, 2, none⟩ = some (.int .i64 (ee : Int))) (by kernel_rfl) FX.out (fun hS => ?_)
    generalize w5.drew = we at *
    clear FX
    refine take_at 0 (some 107) (v := ?_) rfl rfl (by kernel_rfl) (by kernel_rfl) (by kernel_rfl) (fun _ _ _ h => h) ⟨by rfl, ?_⟩ hS ?_
    rotate_left
    · intro wq hSw; go_simp; try rfl
    simp only [Act.put, List.setIfInBounds_toArray, List.set_cons_zero, List.set_cons_succ]
    refine take_at 1 (some 108) (v := ?_) rfl rfl (by kernel_rfl) (by kernel_rfl) (by kernel_rfl) (fun _ _ _ h => h) ⟨by rfl, ?_⟩ hS ?_
    rotate_left
    · intro wq hSw; go_simp; try rfl
    simp only [Act.put, List.setIfInBounds_toArray, List.set_cons_zero, List.set_cons_succ]
    refine take_at 2 (some 109) (v := ?_) rfl rfl (by kernel_rfl) (by kernel_rfl) (by kernel_rfl) (fun _ _ _ h => h) ⟨by rfl, ?_⟩ hS ?_
    rotate_left
    · intro wq hSw; go_simp; try rfl
    simp only [Act.put, List.setIfInBounds_toArray, List.set_cons_zero, List.set_cons_succ]
    refine take_at 3 (some 110) (v := ?_) rfl rfl (by kernel_rfl) (by kernel_rfl) (by kernel_rfl) (fun _ _ _ h => h) ⟨by rfl, ?_⟩ hS ?_
    rotate_left
    · intro wq hSw; go_simp; try rfl
    simp only [Act.put, List.setIfInBounds_toArray, List.set_cons_zero, List.set_cons_succ]
    refine take_at 4 (some 111) (v := ?_) rfl rfl (by kernel_rfl) (by kernel_rfl) (by kernel_rfl) (fun _ _ _ h => h) ⟨by rfl, ?_⟩ hS ?_
    rotate_left
    · intro wq hSw; go_simp; try rfl
    simp only [Act.put, List.setIfInBounds_toArray, List.set_cons_zero, List.set_cons_succ]
    refine wpAnyH_ready (rs := [5]) (by kernel_rfl) (by simp) ?_
    refine AllReadyH.cons rfl (fun K hK => ?_) AllReadyH.nil
    refine wp_st36 rfl rfl rfl D5e.out.bx rfl rfl rfl rfl rfl ?_
    intro wf hbf hkf
    have hSf : wf.cell? ⟨p, 2, none⟩ = some (.int .i64 (ee : Int)) := (hkf.cell D5e.out.rd.1.1 (by intro q; have := D5e.out.ps; have e : p = w.heap.size := q; omega)).trans (D5e.out.rd.1.get 2 _ rfl).1
    refine hK.out _ _ hSf (fun hS => ?_)
    clear hK K hSf
    (try simp only [Act.put])
    refine take_at 6 (some 3) (v := ?_) rfl rfl (by kernel_rfl) (by kernel_rfl) (by kernel_rfl) (fun _ _ _ h => h) ⟨by rfl, ?_⟩ hS ?_
    rotate_left
    · intro wq hSw; go_simp; try rfl
    simp only [Act.put, List.setIfInBounds_toArray, List.set_cons_zero, List.set_cons_succ]
    refine wpAnyH_done (by kernel_rfl) ?_ _
    clear hS
    go_wp2_with fail
    exact bodyPost_ret (results_box2 rfl _ _ rfl hbf rfl) rfl ⟨_, rfl, RecOut.zero _ _, D5e.out.bel.trans (hkf.below D5e.out.bel.size (fun k hk q => by omega))⟩
end Go.Proofs.Ytlibldioliicfaa
