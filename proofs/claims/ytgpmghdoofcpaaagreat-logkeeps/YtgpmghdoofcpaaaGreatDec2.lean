import Derived.Test.YtgpmghdoofcpaaaGreatDec
import Derived.Test.YtgpmghdoofcpaaaGreatG20
namespace Go.Proofs.YtgpmghdoofcpaaaGreat
open Go.RowKit Go.QK

theorem repM_length {α : Type} (f : RM α) (l : List Nat) (s : RS) : ∀ n, (repM f n l s).1.length = n
  | 0 => rfl
  | n + 1 => by simp [repM, bindM, pureM, repM_length f l s n]

/-- What readPoints holds: the reader, the result's block, the points' block, the two rows. -/
structure PB (w : World) (p : Nat) (a : Option Addr) (c : Nat) (l : List Nat) (wi : World) (s : RS) (b2 b3 : Nat) (nx : Nat) (vL : Value) (ls : List LiveM) (vD : Value) (ds : List DirtyM) : Prop where
  st : RSt w p a c l wi s
  c2 : Cells wi b2 [.slice none 0 0, .slice none 0 0, .int .i64 0]
  c3 : Cells wi b3 [vL, vD, .int .i64 nx]
  rl : LRow wi w.heap.size vL ls
  rd : DRow wi w.heap.size vD ds
  s2 : w.heap.size ≤ b2
  s3 : w.heap.size ≤ b3
  ne : b2 ≠ b3
  l2 : vL.ownBlock ≠ some b2
  l3 : vL.ownBlock ≠ some b3
  d2 : vD.ownBlock ≠ some b2
  d3 : vD.ownBlock ≠ some b3
  ld : ∀ g, vL.ownBlock = some g → vD.ownBlock ≠ some g
section
variable {w wi w' : World} {p : Nat} {a : Option Addr} {c : Nat} {l : List Nat} {s s' : RS} {b2 b3 nx : Nat} {vL vD : Value} {ls : List LiveM} {ds : List DirtyM}
theorem PB.next (h : PB w p a c l wi s b2 b3 nx vL ls vD ds) (r : RSt wi p a c l w' s') : PB w p a c l w' s' b2 b3 nx vL ls vD ds :=
  { h with
    st := h.st.next r
    c2 := h.c2.keep r.keep (h.st.ne h.s2)
    c3 := h.c3.keep r.keep (h.st.ne h.s3)
    rl := GRow.keep h.rl r.keep (fun _ q => h.st.ne (World.ownsRow.lt h.rl _ q).1)
    rd := GRow.keep h.rd r.keep (fun _ q => h.st.ne (World.ownsRow.lt h.rd _ q).1) }
theorem PB.below (h : PB w p a c l wi s b2 b3 nx vL ls vD ds) (r : Below wi.heap.size wi w') : PB w p a c l w' s b2 b3 nx vL ls vD ds :=
  { h with st := h.st.below r, c2 := h.c2.below r, c3 := h.c3.below r, rl := GRow.below h.rl r, rd := GRow.below h.rd r }
theorem grown_keep {x x' : World} {o : Option Nat} (hg : x.grownBy x' o) : Keep (fun k => o = some k) x x' := (Keep.refl _ _).grown hg (fun _ q _ => q)
/-- A longer row is laid down. -/
theorem PB.putL (h : PB w p a c l wi s b2 b3 nx vL ls vD ds) {v' : Value} {ls' : List LiveM} (hr : LRow w' w.heap.size v' ls') (hg : wi.grownBy w' vL.ownBlock) (hv : v'.ownBlock = vL.ownBlock ∨ v'.ownBlock = some wi.heap.size) :
    PB w p a c l (w'.setCell ⟨b3, 0, none⟩ v') s b2 b3 nx v' ls' vD ds := by
  have hk := grown_keep hg
  have hne2 : v'.ownBlock ≠ some b2 := by
    rcases hv with e | e
    · rw [e]; exact h.l2
    · rw [e]; intro q; have := h.c2.1; cases q; omega
  have hne3 : v'.ownBlock ≠ some b3 := by
    rcases hv with e | e
    · rw [e]; exact h.l3
    · rw [e]; intro q; have := h.c3.1; cases q; omega
  have k3 : Keep (fun k => k = b3) w' (w'.setCell ⟨b3, 0, none⟩ v') := (Keep.refl (fun k => k = b3) w').setCell (fun _ => rfl) v'
  refine ⟨?_, ?_, ?_, ?_, ?_, h.s2, h.s3, h.ne, hne2, hne3, h.d2, h.d3, ?_⟩
  · exact (h.st.touch hk (fun k q => (World.ownsRow.lt h.rl k q).1)).store h.s3 v'
  · exact (h.c2.keep hk h.l2).keep k3 h.ne
  · exact (h.c3.keep hk h.l3).stored (j := 0) (by simp) v'
  · exact GRow.keep hr k3 (fun g q e => hne3 (by rw [q, e]))
  · exact GRow.keep (GRow.keep h.rd hk (fun g q e => h.ld g e q)) k3 (fun g q e => h.d3 (by rw [q, e]))
  · intro g q e
    rcases hv with v | v
    · exact h.ld g (v ▸ q) e
    · rw [v] at q
      cases q
      have := (World.ownsRow.lt h.rd _ e).2
      omega
theorem PB.putD (h : PB w p a c l wi s b2 b3 nx vL ls vD ds) {v' : Value} {ds' : List DirtyM} (hr : DRow w' w.heap.size v' ds') (hg : wi.grownBy w' vD.ownBlock) (hv : v'.ownBlock = vD.ownBlock ∨ v'.ownBlock = some wi.heap.size) :
    PB w p a c l (w'.setCell ⟨b3, 1, none⟩ v') s b2 b3 nx vL ls v' ds' := by
  have hk := grown_keep hg
  have hne2 : v'.ownBlock ≠ some b2 := by
    rcases hv with e | e
    · rw [e]; exact h.d2
    · rw [e]; intro q; have := h.c2.1; cases q; omega
  have hne3 : v'.ownBlock ≠ some b3 := by
    rcases hv with e | e
    · rw [e]; exact h.d3
    · rw [e]; intro q; have := h.c3.1; cases q; omega
  have k3 : Keep (fun k => k = b3) w' (w'.setCell ⟨b3, 1, none⟩ v') := (Keep.refl (fun k => k = b3) w').setCell (fun _ => rfl) v'
  refine ⟨?_, ?_, ?_, ?_, ?_, h.s2, h.s3, h.ne, h.l2, h.l3, hne2, hne3, ?_⟩
  · exact (h.st.touch hk (fun k q => (World.ownsRow.lt h.rd k q).1)).store h.s3 v'
  · exact (h.c2.keep hk h.d2).keep k3 h.ne
  · exact (h.c3.keep hk h.d3).stored (j := 1) (by simp) v'
  · exact GRow.keep (GRow.keep h.rl hk (fun g q e => h.ld g q e)) k3 (fun g q e => h.l3 (by rw [q, e]))
  · exact GRow.keep hr k3 (fun g q e => hne3 (by rw [q, e]))
  · intro g q e
    rcases hv with v | v
    · exact h.ld g q (v ▸ e)
    · rw [v] at e
      cases e
      have := (World.ownsRow.lt h.rl _ q).2
      omega
end
theorem lies_lit (w : World) (cs : Array Value) (t : TypeId) : Lies (w.alloc (.cells cs t)) (some ⟨w.heap.size, 0, none⟩) cs.toList := by
  have C := Cells.new w cs t
  exact .inr ⟨w.heap.size, 0, rfl, C.1, fun i hi => by rw [Nat.zero_add]; exact (C.2 i hi).1⟩

set_option maxRecDepth 100000
set_option maxHeartbeats 4000000 in
theorem readPoints_s (p : Nat) (a : Option Addr) (c : Nat) (l : List Nat) (s : RS) (w : World) (h : Rds w p a c l s) :
    Calls Tryz.prog 98 #[.pointer (some ⟨p, 0, none⟩)] w fun x w' => ∃ vL vD, x = .returned (.agg #[vL, vD, .int .i64 (((pointsM l s).1.1 : Nat) : Int)]) ∧ RSt w p a c l w' (pointsM l s).2 ∧ LRow w' w.heap.size vL (pointsM l s).1.2.1 ∧ DRow w' w.heap.size vD (pointsM l s).1.2.2 ∧ (∀ g, vL.ownBlock = some g → vD.ownBlock ≠ some g) := by
  have st0 := (RSt.start h).below (alloc_below w (.cells #[.slice none 0 0, .slice none 0 0, .int .i64 0] 42))
  have C0 := Cells.new w #[.slice none 0 0, .slice none 0 0, .int .i64 0] 42
  generalize hw0 : w.alloc (.cells #[.slice none 0 0, .slice none 0 0, .int .i64 0] 42) = w0 at *
  have f1 := readU_r 2147483648 p a c l s w0 st0.rd
  have hnx := uM_le 2147483648 l s
  have f2 := fun w' h => readU_r 32 p a c l (uM 2147483648 l s).2 w' h
  simp only [pointsM, bindM, pureM]
  generalize uM 2147483648 l s = q1 at *
  obtain ⟨nx, s1⟩ := q1
  simp only at *
  have hn := uM_le 32 l s1
  generalize uM 32 l s1 = q2 at *
  obtain ⟨n, s2⟩ := q2
  simp only at *
  have hlen := repM_length liveM l s2 n
  have hstep : ∀ k, repM liveM (k + 1) l s2 = ((repM liveM k l s2).1 ++ [(liveM l (repM liveM k l s2).2).1], (liveM l (repM liveM k l s2).2).2) := fun k => rfl
  have hlenk := repM_length liveM l s2
  have f3 := fun k w' h => readLive_s p a c l (repM liveM k l s2).2 w' h
  have f4 := fun w' h => readU_r 16 p a c l (repM liveM n l s2).2 w' h
  obtain ⟨rn, hrn⟩ : ∃ rn, rn = repM liveM n l s2 := ⟨_, rfl⟩
  rw [← hrn] at f4 hlen ⊢
  obtain ⟨ls, s3⟩ := rn
  have HRN := hide hrn
  simp only at f4 hlen ⊢
  have hm := uM_le 16 l s3
  generalize uM 16 l s3 = q4 at *
  obtain ⟨m, s4⟩ := q4
  simp only at f4 hm ⊢
  have hstepD : ∀ k, repM dirtyM (k + 1) l s4 = ((repM dirtyM k l s4).1 ++ [(dirtyM l (repM dirtyM k l s4).2).1], (dirtyM l (repM dirtyM k l s4).2).2) := fun k => rfl
  have hlenD := repM_length dirtyM l s4
  obtain ⟨rm, hrm⟩ : ∃ rm, rm = repM dirtyM m l s4 := ⟨_, rfl⟩
  rw [← hrm]
  obtain ⟨ds, s5⟩ := rm
  have HRM := hide hrm
  simp only
  have e1 : IntKind.i64.wrap (nx : Int) = (nx : Int) := by rw [IntKind.wrap_i64]; omega
  have F1 := hide f1
  have F2 := hide f2
  have F3 := hide f3
  have F4 := hide f4
  have ST0 := hide st0
  have HST := hide hstep
  have HSTD := hide hstepD
  have HLK := hide hlenk
  have HLD := hide hlenD
  clear f1 f2 f3 f4 h st0 hrn hrm hstep hstepD hlenk hlenD
  go_enter Tryz.func98, Tryz.ntmps98
  go_wp2_with fail
  refine F1.out.mono ?_
  rintro e w1 ⟨rfl, r1⟩
  have C1 := C0.keep r1.keep (ST0.out.ne (Nat.le_refl _))
  have ST1 := ST0.out.next r1
  have PB0 : PB w p a c l (w1.alloc (.cells #[.slice none 0 0, .slice none 0 0, .int .i64 nx] 42)) s1 w.heap.size w1.heap.size nx (.slice none 0 0) [] (.slice none 0 0) [] :=
    ⟨ST1.below (alloc_below _ _), C1.below (alloc_below _ _), Cells.new _ _ _, World.ownsRow_nil _ _ _ _, World.ownsRow_nil _ _ _ _, Nat.le_refl _, ST1.size, by have := C1.1; omega, nofun, nofun, nofun, nofun, nofun⟩
  generalize hw2 : w1.alloc (.cells #[.slice none 0 0, .slice none 0 0, .int .i64 nx] 42) = w2 at *
  have PB0 := hide PB0
  have HW2 := hide hw2
  have LT1 := hide C1.1
  clear C0 C1 r1 hw0 F1 ST0 ST1 hw2
  go_upto_region 2 with fail
  rw [HW2.out]
  generalize w1.heap.size = b3 at *
  clear HW2
  go_wp2_with fail
  refine (F2.out _ PB0.out.st.rd).mono ?_
  rintro e w3 ⟨rfl, r3⟩
  have PB1 := hide (PB0.out.next r3)
  clear PB0 r3 F2
  go_wp2_with fail
  go_loopw [10] (fun i wr => ∃ (k : Nat) (vL : Value), i = .int .u64 (k : Int) ∧ k ≤ n ∧ PB w p a c l wr (repM liveM k l s2).2 w.heap.size b3 nx vL (repM liveM k l s2).1 (.slice none 0 0) []) (fun i _ => (n + 1 - (intOf i).toNat))
  case atStart => exact ⟨0, .slice none 0 0, rfl, Nat.zero_le _, PB1.out⟩
  case round =>
    obtain ⟨k, vL, rfl, hk, hpb⟩ := hrel
    have PB1 := hide hpb
    clear hpb
    by_cases hlt : k < n
    · have hg1 : decide ((k : Int) < (n : Int)) = true := by simp; omega
      have ek := HST.out k
      have lk := HLK.out k
      have f3 := F3.out k
      have PB1 := PB1.out
      generalize repM liveM k l s2 = rk at ek lk f3 PB1
      obtain ⟨lsk, sk⟩ := rk
      simp only at ek lk f3 PB1
      generalize liveM l sk = lv at ek f3
      obtain ⟨y, sk'⟩ := lv
      obtain ⟨y0, y1, y2, y3⟩ := y
      simp only [liveC] at ek f3
      have F5 := hide f3
      have EK := hide ek
      have PB2 := hide (PB1.below (Below.refl _ _).drew)
      clear ek f3 PB1
      go_upto_region 4 with fail
      refine wp_region_held_drew (S := fun _ => True) (by kernel_rfl) trivial (fun _ => ?_)
      generalize wr.drew = w4 at *
      refine take_at 0 (some 12) (v := ?_) rfl rfl (by kernel_rfl) (by kernel_rfl) (by kernel_rfl) (fun _ _ _ h => h) ⟨by rfl, ?_⟩ trivial ?_
      rotate_left
      · intro wq _; go_simp; try rfl
      simp only [Act.put, List.setIfInBounds_toArray, List.set_cons_zero, List.set_cons_succ]
      refine take_at 2 (some 14) (v := ?_) rfl rfl (by kernel_rfl) (by kernel_rfl) (by kernel_rfl) (fun _ _ _ h => h) ⟨by rfl, ?_⟩ trivial ?_
      rotate_left
      · intro wq _; go_simp; try rfl
      simp only [Act.put, List.setIfInBounds_toArray, List.set_cons_zero, List.set_cons_succ]
      refine wpAnyH_ready (rs := [1, 3]) (by kernel_rfl) (by simp) ?_
      refine AllReadyH.cons rfl (fun K hK => ?_) (AllReadyH.cons rfl (fun K hK => ?_) AllReadyH.nil)
      · have cl := (PB2.out.c3.get 0 _ rfl).1
        go_simp
        go_wp2_with fail
        refine hK.out _ _ trivial (fun _ => ?_)
        clear hK K
        (try simp only [Act.put, List.setIfInBounds_toArray, List.set_cons_zero, List.set_cons_succ])
        clear cl
        refine wpAnyH_ready (rs := [3]) (by kernel_rfl) (by simp) ?_
        refine AllReadyH.cons rfl (fun K hK => ?_) AllReadyH.nil
        go_simp
        go_wp2_with fail
        refine (F5.out _ PB2.out.st.rd).mono ?_
        rintro e w5 ⟨rfl, r5⟩
        have PB3 := hide (PB2.out.next r5)
        clear r5 F5 PB2
        go_wp2_with fail
        refine hK.out _ _ trivial (fun _ => ?_)
        clear hK K
        (try simp only [Act.put, List.setIfInBounds_toArray, List.set_cons_zero, List.set_cons_succ])
        refine wpAnyH_ready (rs := [4]) (by kernel_rfl) (by simp) ?_
        refine AllReadyH.cons rfl (fun K hK => ?_) AllReadyH.nil
        have LI := hide (lies_lit w5 #[.int .i64 y0, .int .i64 y1, .bool y2, .bool y3] 55)
        have PB4 := hide (PB3.out.below (alloc_below w5 (.cells #[.int .i64 y0, .int .i64 y1, .bool y2, .bool y3] 55)))
        go_simp
        (try go_wp2_with fail)
        generalize w5.alloc (.cells #[.int .i64 y0, .int .i64 y1, .bool y2, .bool y3] 55) = w6 at *
        refine hK.out _ _ trivial (fun _ => ?_)
        clear hK K
        (try simp only [Act.put, List.setIfInBounds_toArray, List.set_cons_zero, List.set_cons_succ])
        have HB6 : w.heap.size ≤ w6.heap.size := PB4.out.st.size
        obtain ⟨v7, w7, hrun, hr7, hg7, hv7⟩ := run_pushL 39 w6 w.heap.size vL lsk PB4.out.rl ⟨w5.heap.size, 0, none⟩ ⟨y0, y1, y2, y3⟩ LI.out (by omega) HB6
        have PB5 := PB4.out.putL hr7 hg7 hv7
        obtain ⟨a7, c7, ev7, _⟩ := GRow.lies hr7
        have hle : (lsk ++ [(⟨y0, y1, y2, y3⟩ : LiveM)]).length = k + 1 := by simp [lk]
        rw [hle] at ev7
        clear hle
        subst ev7
        have hc7 := (((PB4.out.c3).keep (grown_keep hg7) PB4.out.l3).get 0 _ rfl)
        obtain ⟨c70, f70⟩ := hc7
        have HRUN := hide hrun
        have PB5 := hide PB5
        clear hrun hr7 hg7 hv7 PB4 LI
        refine wpAnyH_ready (rs := [5]) (by kernel_rfl) (by simp) ?_
        refine AllReadyH.cons rfl (fun K hK => ?_) AllReadyH.nil
        refine wp_run 17 (.tmp 13) (.tmp 16) rfl rfl rfl rfl rfl HRUN.out ?_
        refine hK.out _ _ trivial (fun _ => ?_)
        clear hK K
        (try simp only [Act.put, List.setIfInBounds_toArray, List.set_cons_zero, List.set_cons_succ])
        clear HRUN
        refine take_at 6 (some 18) (v := ?_) rfl rfl (by kernel_rfl) (by kernel_rfl) (by kernel_rfl) (fun _ _ _ h => h) ⟨by rfl, ?_⟩ trivial ?_
        rotate_left
        · intro wq _; go_simp; try rfl
        simp only [Act.put, List.setIfInBounds_toArray, List.set_cons_zero, List.set_cons_succ]
        refine wpAnyH_ready (rs := [7]) (by kernel_rfl) (by simp) ?_
        refine AllReadyH.cons rfl (fun K hK => ?_) AllReadyH.nil
        go_simp
        go_wp2_with fail
        refine hK.out _ _ trivial (fun _ => ?_)
        clear hK K
        (try simp only [Act.put, List.setIfInBounds_toArray, List.set_cons_zero, List.set_cons_succ])
        refine wpAnyH_done (by kernel_rfl) ?_ _
        clear c70 f70
        go_wp2_with fail
        go_roundw
        case rel => exact ⟨k + 1, _, by go_num, hlt, by rw [EK.out]; exact PB5.out⟩
        case measure => simp [intOf]; omega
      · go_simp
        go_wp2_with fail
        refine (F5.out _ PB2.out.st.rd).mono ?_
        rintro e w5 ⟨rfl, r5⟩
        have PB3 := hide (PB2.out.next r5)
        clear r5 F5 PB2
        go_wp2_with fail
        refine hK.out _ _ trivial (fun _ => ?_)
        clear hK K
        (try simp only [Act.put, List.setIfInBounds_toArray, List.set_cons_zero, List.set_cons_succ])
        refine wpAnyH_ready (rs := [1, 4]) (by kernel_rfl) (by simp) ?_
        refine AllReadyH.cons rfl (fun K hK => ?_) (AllReadyH.cons rfl (fun K hK => ?_) AllReadyH.nil)
        · have cl := (PB3.out.c3.get 0 _ rfl).1
          go_simp
          go_wp2_with fail
          refine hK.out _ _ trivial (fun _ => ?_)
          clear hK K
          (try simp only [Act.put, List.setIfInBounds_toArray, List.set_cons_zero, List.set_cons_succ])
          clear cl
          refine wpAnyH_ready (rs := [4]) (by kernel_rfl) (by simp) ?_
          refine AllReadyH.cons rfl (fun K hK => ?_) AllReadyH.nil
          have LI := hide (lies_lit w5 #[.int .i64 y0, .int .i64 y1, .bool y2, .bool y3] 55)
          have PB4 := hide (PB3.out.below (alloc_below w5 (.cells #[.int .i64 y0, .int .i64 y1, .bool y2, .bool y3] 55)))
          go_simp
          (try go_wp2_with fail)
          generalize w5.alloc (.cells #[.int .i64 y0, .int .i64 y1, .bool y2, .bool y3] 55) = w6 at *
          refine hK.out _ _ trivial (fun _ => ?_)
          clear hK K
          (try simp only [Act.put, List.setIfInBounds_toArray, List.set_cons_zero, List.set_cons_succ])
          have HB6 : w.heap.size ≤ w6.heap.size := PB4.out.st.size
          obtain ⟨v7, w7, hrun, hr7, hg7, hv7⟩ := run_pushL 39 w6 w.heap.size vL lsk PB4.out.rl ⟨w5.heap.size, 0, none⟩ ⟨y0, y1, y2, y3⟩ LI.out (by omega) HB6
          have PB5 := PB4.out.putL hr7 hg7 hv7
          obtain ⟨a7, c7, ev7, _⟩ := GRow.lies hr7
          have hle : (lsk ++ [(⟨y0, y1, y2, y3⟩ : LiveM)]).length = k + 1 := by simp [lk]
          rw [hle] at ev7
          clear hle
          subst ev7
          have hc7 := (((PB4.out.c3).keep (grown_keep hg7) PB4.out.l3).get 0 _ rfl)
          obtain ⟨c70, f70⟩ := hc7
          have HRUN := hide hrun
          have PB5 := hide PB5
          clear hrun hr7 hg7 hv7 PB4 LI
          refine wpAnyH_ready (rs := [5]) (by kernel_rfl) (by simp) ?_
          refine AllReadyH.cons rfl (fun K hK => ?_) AllReadyH.nil
          refine wp_run 17 (.tmp 13) (.tmp 16) rfl rfl rfl rfl rfl HRUN.out ?_
          refine hK.out _ _ trivial (fun _ => ?_)
          clear hK K
          (try simp only [Act.put, List.setIfInBounds_toArray, List.set_cons_zero, List.set_cons_succ])
          clear HRUN
          refine take_at 6 (some 18) (v := ?_) rfl rfl (by kernel_rfl) (by kernel_rfl) (by kernel_rfl) (fun _ _ _ h => h) ⟨by rfl, ?_⟩ trivial ?_
          rotate_left
          · intro wq _; go_simp; try rfl
          simp only [Act.put, List.setIfInBounds_toArray, List.set_cons_zero, List.set_cons_succ]
          refine wpAnyH_ready (rs := [7]) (by kernel_rfl) (by simp) ?_
          refine AllReadyH.cons rfl (fun K hK => ?_) AllReadyH.nil
          go_simp
          go_wp2_with fail
          refine hK.out _ _ trivial (fun _ => ?_)
          clear hK K
          (try simp only [Act.put, List.setIfInBounds_toArray, List.set_cons_zero, List.set_cons_succ])
          refine wpAnyH_done (by kernel_rfl) ?_ _
          clear c70 f70
          go_wp2_with fail
          go_roundw
          case rel => exact ⟨k + 1, _, by go_num, hlt, by rw [EK.out]; exact PB5.out⟩
          case measure => simp [intOf]; omega
        · have LI := hide (lies_lit w5 #[.int .i64 y0, .int .i64 y1, .bool y2, .bool y3] 55)
          have PB4 := hide (PB3.out.below (alloc_below w5 (.cells #[.int .i64 y0, .int .i64 y1, .bool y2, .bool y3] 55)))
          go_simp
          (try go_wp2_with fail)
          generalize w5.alloc (.cells #[.int .i64 y0, .int .i64 y1, .bool y2, .bool y3] 55) = w6 at *
          refine hK.out _ _ trivial (fun _ => ?_)
          clear hK K
          (try simp only [Act.put, List.setIfInBounds_toArray, List.set_cons_zero, List.set_cons_succ])
          refine wpAnyH_ready (rs := [1]) (by kernel_rfl) (by simp) ?_
          refine AllReadyH.cons rfl (fun K hK => ?_) AllReadyH.nil
          have cl := (PB4.out.c3.get 0 _ rfl).1
          go_simp
          go_wp2_with fail
          refine hK.out _ _ trivial (fun _ => ?_)
          clear hK K
          (try simp only [Act.put, List.setIfInBounds_toArray, List.set_cons_zero, List.set_cons_succ])
          clear cl
          have HB6 : w.heap.size ≤ w6.heap.size := PB4.out.st.size
          obtain ⟨v7, w7, hrun, hr7, hg7, hv7⟩ := run_pushL 39 w6 w.heap.size vL lsk PB4.out.rl ⟨w5.heap.size, 0, none⟩ ⟨y0, y1, y2, y3⟩ LI.out (by omega) HB6
          have PB5 := PB4.out.putL hr7 hg7 hv7
          obtain ⟨a7, c7, ev7, _⟩ := GRow.lies hr7
          have hle : (lsk ++ [(⟨y0, y1, y2, y3⟩ : LiveM)]).length = k + 1 := by simp [lk]
          rw [hle] at ev7
          clear hle
          subst ev7
          have hc7 := (((PB4.out.c3).keep (grown_keep hg7) PB4.out.l3).get 0 _ rfl)
          obtain ⟨c70, f70⟩ := hc7
          have HRUN := hide hrun
          have PB5 := hide PB5
          clear hrun hr7 hg7 hv7 PB4 LI
          refine wpAnyH_ready (rs := [5]) (by kernel_rfl) (by simp) ?_
          refine AllReadyH.cons rfl (fun K hK => ?_) AllReadyH.nil
          refine wp_run 17 (.tmp 13) (.tmp 16) rfl rfl rfl rfl rfl HRUN.out ?_
          refine hK.out _ _ trivial (fun _ => ?_)
          clear hK K
          (try simp only [Act.put, List.setIfInBounds_toArray, List.set_cons_zero, List.set_cons_succ])
          clear HRUN
          refine take_at 6 (some 18) (v := ?_) rfl rfl (by kernel_rfl) (by kernel_rfl) (by kernel_rfl) (fun _ _ _ h => h) ⟨by rfl, ?_⟩ trivial ?_
          rotate_left
          · intro wq _; go_simp; try rfl
          simp only [Act.put, List.setIfInBounds_toArray, List.set_cons_zero, List.set_cons_succ]
          refine wpAnyH_ready (rs := [7]) (by kernel_rfl) (by simp) ?_
          refine AllReadyH.cons rfl (fun K hK => ?_) AllReadyH.nil
          go_simp
          go_wp2_with fail
          refine hK.out _ _ trivial (fun _ => ?_)
          clear hK K
          (try simp only [Act.put, List.setIfInBounds_toArray, List.set_cons_zero, List.set_cons_succ])
          refine wpAnyH_done (by kernel_rfl) ?_ _
          clear c70 f70
          go_wp2_with fail
          go_roundw
          case rel => exact ⟨k + 1, _, by go_num, hlt, by rw [EK.out]; exact PB5.out⟩
          case measure => simp [intOf]; omega
    · have hg1 : decide ((k : Int) < (n : Int)) = false := by simp; omega
      have hkk : k = n := by omega
      subst hkk
      have PB2 := PB1.out
      rw [← HRN.out] at PB2
      have PB2 := hide PB2
      clear PB1
      go_wp2_with fail
      refine (F4.out _ PB2.out.st.rd).mono ?_
      rintro e w5 ⟨rfl, r5⟩
      have PB3 := hide (PB2.out.next r5)
      clear PB2 r5 F4
      go_wp2_with fail
      go_loopw [22] (fun i wr => ∃ (j : Nat) (vD : Value), i = .int .u64 (j : Int) ∧ j ≤ m ∧ PB w p a c l wr (repM dirtyM j l s4).2 w.heap.size b3 nx vL ls vD (repM dirtyM j l s4).1) (fun i _ => (m + 1 - (intOf i).toNat))
      case atStart => exact ⟨0, .slice none 0 0, rfl, Nat.zero_le _, PB3.out⟩
      case round =>
        obtain ⟨j, vD, rfl, hj, hpb⟩ := hrel
        have PB1 := hide hpb
        clear hpb PB3
        by_cases hlt : j < m
        · have hg1 : decide ((j : Int) < (m : Int)) = true := by simp; omega
          have ek := HSTD.out j
          have lk := HLD.out j
          have PB1 := PB1.out
          generalize repM dirtyM j l s4 = rk at ek lk PB1
          obtain ⟨dsk, sk⟩ := rk
          simp only at ek lk PB1
          have ed : dirtyM l sk = (⟨((takeM l sk).1 : Int), ((takeM l (takeM l sk).2).1 : Int)⟩, (takeM l (takeM l sk).2).2) := rfl
          rw [ed] at ek
          clear ed
          have f5 := fun w' h => take_r p a c l sk w' h
          have f6 := fun w' h => take_r p a c l (takeM l sk).2 w' h
          generalize takeM l sk = q5 at *
          obtain ⟨y0, sk1⟩ := q5
          simp only at ek f5 f6
          generalize takeM l sk1 = q6 at *
          obtain ⟨y1, sk2⟩ := q6
          simp only at ek f5 f6
          have F5 := hide f5
          have F6 := hide f6
          have EK := hide ek
          have PB2 := hide (PB1.below (Below.refl _ _).drew)
          clear ek f5 f6 PB1
          go_upto_region 8 with fail
          refine wp_region_held_drew (S := fun _ => True) (by kernel_rfl) trivial (fun _ => ?_)
          generalize World.drew _ = w4 at *
          refine take_at 0 (some 24) (v := ?_) rfl rfl (by kernel_rfl) (by kernel_rfl) (by kernel_rfl) (fun _ _ _ h => h) ⟨by rfl, ?_⟩ trivial ?_
          rotate_left
          · intro wq _; go_simp; try rfl
          simp only [Act.put, List.setIfInBounds_toArray, List.set_cons_zero, List.set_cons_succ]
          refine take_at 2 (some 26) (v := ?_) rfl rfl (by kernel_rfl) (by kernel_rfl) (by kernel_rfl) (fun _ _ _ h => h) ⟨by rfl, ?_⟩ trivial ?_
          rotate_left
          · intro wq _; go_simp; try rfl
          simp only [Act.put, List.setIfInBounds_toArray, List.set_cons_zero, List.set_cons_succ]
          refine take_at 4 (some 28) (v := ?_) rfl rfl (by kernel_rfl) (by kernel_rfl) (by kernel_rfl) (fun _ _ _ h => h) ⟨by rfl, ?_⟩ trivial ?_
          rotate_left
          · intro wq _; go_simp; try rfl
          simp only [Act.put, List.setIfInBounds_toArray, List.set_cons_zero, List.set_cons_succ]
          refine wpAnyH_ready (rs := [1, 3]) (by kernel_rfl) (by simp) ?_
          refine AllReadyH.cons rfl (fun K hK => ?_) (AllReadyH.cons rfl (fun K hK => ?_) AllReadyH.nil)
          · have cl := (PB2.out.c3.get 1 _ rfl).1
            go_simp
            go_wp2_with fail
            refine hK.out _ _ trivial (fun _ => ?_)
            clear hK K
            (try simp only [Act.put, List.setIfInBounds_toArray, List.set_cons_zero, List.set_cons_succ])
            clear cl
            refine wpAnyH_ready (rs := [3]) (by kernel_rfl) (by simp) ?_
            refine AllReadyH.cons rfl (fun K hK => ?_) AllReadyH.nil
            go_simp
            go_wp2_with fail
            refine (F5.out _ PB2.out.st.rd).mono ?_
            rintro e w5 ⟨rfl, r5⟩
            have PB3 := hide (PB2.out.next r5)
            clear r5 F5 PB2
            go_wp2_with fail
            refine hK.out _ _ trivial (fun _ => ?_)
            clear hK K
            (try simp only [Act.put, List.setIfInBounds_toArray, List.set_cons_zero, List.set_cons_succ])
            refine wpAnyH_ready (rs := [5]) (by kernel_rfl) (by simp) ?_
            refine AllReadyH.cons rfl (fun K hK => ?_) AllReadyH.nil
            go_simp
            go_wp2_with fail
            refine (F6.out _ PB3.out.st.rd).mono ?_
            rintro e w6 ⟨rfl, r6⟩
            have PB4 := hide (PB3.out.next r6)
            clear r6 F6 PB3
            go_wp2_with fail
            refine hK.out _ _ trivial (fun _ => ?_)
            clear hK K
            (try simp only [Act.put, List.setIfInBounds_toArray, List.set_cons_zero, List.set_cons_succ])
            refine take_at 6 (some 30) (v := ?_) rfl rfl (by kernel_rfl) (by kernel_rfl) (by kernel_rfl) (fun _ _ _ h => h) ⟨by rfl, ?_⟩ trivial ?_
            rotate_left
            · intro wq _; go_simp; try rfl
            simp only [Act.put, List.setIfInBounds_toArray, List.set_cons_zero, List.set_cons_succ]
            refine wpAnyH_ready (rs := [7]) (by kernel_rfl) (by simp) ?_
            refine AllReadyH.cons rfl (fun K hK => ?_) AllReadyH.nil
            have LI := hide (lies_lit w6 #[.int .i64 y0, .int .i64 y1] 57)
            have PB5 := hide (PB4.out.below (alloc_below w6 (.cells #[.int .i64 y0, .int .i64 y1] 57)))
            go_simp
            (try go_wp2_with fail)
            generalize w6.alloc (.cells #[.int .i64 y0, .int .i64 y1] 57) = w7 at *
            refine hK.out _ _ trivial (fun _ => ?_)
            clear hK K
            (try simp only [Act.put, List.setIfInBounds_toArray, List.set_cons_zero, List.set_cons_succ])
            have HB7 : w.heap.size ≤ w7.heap.size := PB5.out.st.size
            obtain ⟨v8, w8, hrun, hr8, hg8, hv8⟩ := run_pushD 40 w7 w.heap.size vD dsk PB5.out.rd ⟨w6.heap.size, 0, none⟩ ⟨y0, y1⟩ LI.out (by omega) HB7
            have PB6 := PB5.out.putD hr8 hg8 hv8
            obtain ⟨a8, c8, ev8, _⟩ := GRow.lies hr8
            have hle : (dsk ++ [(⟨y0, y1⟩ : DirtyM)]).length = j + 1 := by simp [lk]
            rw [hle] at ev8
            clear hle
            subst ev8
            have hc8 := (((PB5.out.c3).keep (grown_keep hg8) PB5.out.d3).get 1 _ rfl)
            obtain ⟨c80, f80⟩ := hc8
            have HRUN := hide hrun
            have PB6 := hide PB6
            clear hrun hr8 hg8 hv8 PB5 LI
            refine wpAnyH_ready (rs := [8]) (by kernel_rfl) (by simp) ?_
            refine AllReadyH.cons rfl (fun K hK => ?_) AllReadyH.nil
            refine wp_run 32 (.tmp 25) (.tmp 31) rfl rfl rfl rfl rfl HRUN.out ?_
            refine hK.out _ _ trivial (fun _ => ?_)
            clear hK K
            (try simp only [Act.put, List.setIfInBounds_toArray, List.set_cons_zero, List.set_cons_succ])
            clear HRUN
            refine take_at 9 (some 33) (v := ?_) rfl rfl (by kernel_rfl) (by kernel_rfl) (by kernel_rfl) (fun _ _ _ h => h) ⟨by rfl, ?_⟩ trivial ?_
            rotate_left
            · intro wq _; go_simp; try rfl
            simp only [Act.put, List.setIfInBounds_toArray, List.set_cons_zero, List.set_cons_succ]
            refine wpAnyH_ready (rs := [10]) (by kernel_rfl) (by simp) ?_
            refine AllReadyH.cons rfl (fun K hK => ?_) AllReadyH.nil
            go_simp
            go_wp2_with fail
            refine hK.out _ _ trivial (fun _ => ?_)
            clear hK K
            (try simp only [Act.put, List.setIfInBounds_toArray, List.set_cons_zero, List.set_cons_succ])
            refine wpAnyH_done (by kernel_rfl) ?_ _
            clear c80 f80
            go_wp2_with fail
            go_roundw
            case rel => exact ⟨j + 1, _, by go_num, hlt, by rw [EK.out]; exact PB6.out⟩
            case measure => simp [intOf]; omega
          · go_simp
            go_wp2_with fail
            refine (F5.out _ PB2.out.st.rd).mono ?_
            rintro e w5 ⟨rfl, r5⟩
            have PB3 := hide (PB2.out.next r5)
            clear r5 F5 PB2
            go_wp2_with fail
            refine hK.out _ _ trivial (fun _ => ?_)
            clear hK K
            (try simp only [Act.put, List.setIfInBounds_toArray, List.set_cons_zero, List.set_cons_succ])
            refine wpAnyH_ready (rs := [1, 5]) (by kernel_rfl) (by simp) ?_
            refine AllReadyH.cons rfl (fun K hK => ?_) (AllReadyH.cons rfl (fun K hK => ?_) AllReadyH.nil)
            · have cl := (PB3.out.c3.get 1 _ rfl).1
              go_simp
              go_wp2_with fail
              refine hK.out _ _ trivial (fun _ => ?_)
              clear hK K
              (try simp only [Act.put, List.setIfInBounds_toArray, List.set_cons_zero, List.set_cons_succ])
              clear cl
              refine wpAnyH_ready (rs := [5]) (by kernel_rfl) (by simp) ?_
              refine AllReadyH.cons rfl (fun K hK => ?_) AllReadyH.nil
              go_simp
              go_wp2_with fail
              refine (F6.out _ PB3.out.st.rd).mono ?_
              rintro e w6 ⟨rfl, r6⟩
              have PB4 := hide (PB3.out.next r6)
              clear r6 F6 PB3
              go_wp2_with fail
              refine hK.out _ _ trivial (fun _ => ?_)
              clear hK K
              (try simp only [Act.put, List.setIfInBounds_toArray, List.set_cons_zero, List.set_cons_succ])
              refine take_at 6 (some 30) (v := ?_) rfl rfl (by kernel_rfl) (by kernel_rfl) (by kernel_rfl) (fun _ _ _ h => h) ⟨by rfl, ?_⟩ trivial ?_
              rotate_left
              · intro wq _; go_simp; try rfl
              simp only [Act.put, List.setIfInBounds_toArray, List.set_cons_zero, List.set_cons_succ]
              refine wpAnyH_ready (rs := [7]) (by kernel_rfl) (by simp) ?_
              refine AllReadyH.cons rfl (fun K hK => ?_) AllReadyH.nil
              have LI := hide (lies_lit w6 #[.int .i64 y0, .int .i64 y1] 57)
              have PB5 := hide (PB4.out.below (alloc_below w6 (.cells #[.int .i64 y0, .int .i64 y1] 57)))
              go_simp
              (try go_wp2_with fail)
              generalize w6.alloc (.cells #[.int .i64 y0, .int .i64 y1] 57) = w7 at *
              refine hK.out _ _ trivial (fun _ => ?_)
              clear hK K
              (try simp only [Act.put, List.setIfInBounds_toArray, List.set_cons_zero, List.set_cons_succ])
              have HB7 : w.heap.size ≤ w7.heap.size := PB5.out.st.size
              obtain ⟨v8, w8, hrun, hr8, hg8, hv8⟩ := run_pushD 40 w7 w.heap.size vD dsk PB5.out.rd ⟨w6.heap.size, 0, none⟩ ⟨y0, y1⟩ LI.out (by omega) HB7
              have PB6 := PB5.out.putD hr8 hg8 hv8
              obtain ⟨a8, c8, ev8, _⟩ := GRow.lies hr8
              have hle : (dsk ++ [(⟨y0, y1⟩ : DirtyM)]).length = j + 1 := by simp [lk]
              rw [hle] at ev8
              clear hle
              subst ev8
              have hc8 := (((PB5.out.c3).keep (grown_keep hg8) PB5.out.d3).get 1 _ rfl)
              obtain ⟨c80, f80⟩ := hc8
              have HRUN := hide hrun
              have PB6 := hide PB6
              clear hrun hr8 hg8 hv8 PB5 LI
              refine wpAnyH_ready (rs := [8]) (by kernel_rfl) (by simp) ?_
              refine AllReadyH.cons rfl (fun K hK => ?_) AllReadyH.nil
              refine wp_run 32 (.tmp 25) (.tmp 31) rfl rfl rfl rfl rfl HRUN.out ?_
              refine hK.out _ _ trivial (fun _ => ?_)
              clear hK K
              (try simp only [Act.put, List.setIfInBounds_toArray, List.set_cons_zero, List.set_cons_succ])
              clear HRUN
              refine take_at 9 (some 33) (v := ?_) rfl rfl (by kernel_rfl) (by kernel_rfl) (by kernel_rfl) (fun _ _ _ h => h) ⟨by rfl, ?_⟩ trivial ?_
              rotate_left
              · intro wq _; go_simp; try rfl
              simp only [Act.put, List.setIfInBounds_toArray, List.set_cons_zero, List.set_cons_succ]
              refine wpAnyH_ready (rs := [10]) (by kernel_rfl) (by simp) ?_
              refine AllReadyH.cons rfl (fun K hK => ?_) AllReadyH.nil
              go_simp
              go_wp2_with fail
              refine hK.out _ _ trivial (fun _ => ?_)
              clear hK K
              (try simp only [Act.put, List.setIfInBounds_toArray, List.set_cons_zero, List.set_cons_succ])
              refine wpAnyH_done (by kernel_rfl) ?_ _
              clear c80 f80
              go_wp2_with fail
              go_roundw
              case rel => exact ⟨j + 1, _, by go_num, hlt, by rw [EK.out]; exact PB6.out⟩
              case measure => simp [intOf]; omega
            · go_simp
              go_wp2_with fail
              refine (F6.out _ PB3.out.st.rd).mono ?_
              rintro e w6 ⟨rfl, r6⟩
              have PB4 := hide (PB3.out.next r6)
              clear r6 F6 PB3
              go_wp2_with fail
              refine hK.out _ _ trivial (fun _ => ?_)
              clear hK K
              (try simp only [Act.put, List.setIfInBounds_toArray, List.set_cons_zero, List.set_cons_succ])
              refine take_at 6 (some 30) (v := ?_) rfl rfl (by kernel_rfl) (by kernel_rfl) (by kernel_rfl) (fun _ _ _ h => h) ⟨by rfl, ?_⟩ trivial ?_
              rotate_left
              · intro wq _; go_simp; try rfl
              simp only [Act.put, List.setIfInBounds_toArray, List.set_cons_zero, List.set_cons_succ]
              refine wpAnyH_ready (rs := [1, 7]) (by kernel_rfl) (by simp) ?_
              refine AllReadyH.cons rfl (fun K hK => ?_) (AllReadyH.cons rfl (fun K hK => ?_) AllReadyH.nil)
              · have cl := (PB4.out.c3.get 1 _ rfl).1
                go_simp
                go_wp2_with fail
                refine hK.out _ _ trivial (fun _ => ?_)
                clear hK K
                (try simp only [Act.put, List.setIfInBounds_toArray, List.set_cons_zero, List.set_cons_succ])
                clear cl
                refine wpAnyH_ready (rs := [7]) (by kernel_rfl) (by simp) ?_
                refine AllReadyH.cons rfl (fun K hK => ?_) AllReadyH.nil
                have LI := hide (lies_lit w6 #[.int .i64 y0, .int .i64 y1] 57)
                have PB5 := hide (PB4.out.below (alloc_below w6 (.cells #[.int .i64 y0, .int .i64 y1] 57)))
                go_simp
                (try go_wp2_with fail)
                generalize w6.alloc (.cells #[.int .i64 y0, .int .i64 y1] 57) = w7 at *
                refine hK.out _ _ trivial (fun _ => ?_)
                clear hK K
                (try simp only [Act.put, List.setIfInBounds_toArray, List.set_cons_zero, List.set_cons_succ])
                have HB7 : w.heap.size ≤ w7.heap.size := PB5.out.st.size
                obtain ⟨v8, w8, hrun, hr8, hg8, hv8⟩ := run_pushD 40 w7 w.heap.size vD dsk PB5.out.rd ⟨w6.heap.size, 0, none⟩ ⟨y0, y1⟩ LI.out (by omega) HB7
                have PB6 := PB5.out.putD hr8 hg8 hv8
                obtain ⟨a8, c8, ev8, _⟩ := GRow.lies hr8
                have hle : (dsk ++ [(⟨y0, y1⟩ : DirtyM)]).length = j + 1 := by simp [lk]
                rw [hle] at ev8
                clear hle
                subst ev8
                have hc8 := (((PB5.out.c3).keep (grown_keep hg8) PB5.out.d3).get 1 _ rfl)
                obtain ⟨c80, f80⟩ := hc8
                have HRUN := hide hrun
                have PB6 := hide PB6
                clear hrun hr8 hg8 hv8 PB5 LI
                refine wpAnyH_ready (rs := [8]) (by kernel_rfl) (by simp) ?_
                refine AllReadyH.cons rfl (fun K hK => ?_) AllReadyH.nil
                refine wp_run 32 (.tmp 25) (.tmp 31) rfl rfl rfl rfl rfl HRUN.out ?_
                refine hK.out _ _ trivial (fun _ => ?_)
                clear hK K
                (try simp only [Act.put, List.setIfInBounds_toArray, List.set_cons_zero, List.set_cons_succ])
                clear HRUN
                refine take_at 9 (some 33) (v := ?_) rfl rfl (by kernel_rfl) (by kernel_rfl) (by kernel_rfl) (fun _ _ _ h => h) ⟨by rfl, ?_⟩ trivial ?_
                rotate_left
                · intro wq _; go_simp; try rfl
                simp only [Act.put, List.setIfInBounds_toArray, List.set_cons_zero, List.set_cons_succ]
                refine wpAnyH_ready (rs := [10]) (by kernel_rfl) (by simp) ?_
                refine AllReadyH.cons rfl (fun K hK => ?_) AllReadyH.nil
                go_simp
                go_wp2_with fail
                refine hK.out _ _ trivial (fun _ => ?_)
                clear hK K
                (try simp only [Act.put, List.setIfInBounds_toArray, List.set_cons_zero, List.set_cons_succ])
                refine wpAnyH_done (by kernel_rfl) ?_ _
                clear c80 f80
                go_wp2_with fail
                go_roundw
                case rel => exact ⟨j + 1, _, by go_num, hlt, by rw [EK.out]; exact PB6.out⟩
                case measure => simp [intOf]; omega
              · have LI := hide (lies_lit w6 #[.int .i64 y0, .int .i64 y1] 57)
                have PB5 := hide (PB4.out.below (alloc_below w6 (.cells #[.int .i64 y0, .int .i64 y1] 57)))
                go_simp
                (try go_wp2_with fail)
                generalize w6.alloc (.cells #[.int .i64 y0, .int .i64 y1] 57) = w7 at *
                refine hK.out _ _ trivial (fun _ => ?_)
                clear hK K
                (try simp only [Act.put, List.setIfInBounds_toArray, List.set_cons_zero, List.set_cons_succ])
                refine wpAnyH_ready (rs := [1]) (by kernel_rfl) (by simp) ?_
                refine AllReadyH.cons rfl (fun K hK => ?_) AllReadyH.nil
                have cl := (PB5.out.c3.get 1 _ rfl).1
                go_simp
                go_wp2_with fail
                refine hK.out _ _ trivial (fun _ => ?_)
                clear hK K
                (try simp only [Act.put, List.setIfInBounds_toArray, List.set_cons_zero, List.set_cons_succ])
                clear cl
                have HB7 : w.heap.size ≤ w7.heap.size := PB5.out.st.size
                obtain ⟨v8, w8, hrun, hr8, hg8, hv8⟩ := run_pushD 40 w7 w.heap.size vD dsk PB5.out.rd ⟨w6.heap.size, 0, none⟩ ⟨y0, y1⟩ LI.out (by omega) HB7
                have PB6 := PB5.out.putD hr8 hg8 hv8
                obtain ⟨a8, c8, ev8, _⟩ := GRow.lies hr8
                have hle : (dsk ++ [(⟨y0, y1⟩ : DirtyM)]).length = j + 1 := by simp [lk]
                rw [hle] at ev8
                clear hle
                subst ev8
                have hc8 := (((PB5.out.c3).keep (grown_keep hg8) PB5.out.d3).get 1 _ rfl)
                obtain ⟨c80, f80⟩ := hc8
                have HRUN := hide hrun
                have PB6 := hide PB6
                clear hrun hr8 hg8 hv8 PB5 LI
                refine wpAnyH_ready (rs := [8]) (by kernel_rfl) (by simp) ?_
                refine AllReadyH.cons rfl (fun K hK => ?_) AllReadyH.nil
                refine wp_run 32 (.tmp 25) (.tmp 31) rfl rfl rfl rfl rfl HRUN.out ?_
                refine hK.out _ _ trivial (fun _ => ?_)
                clear hK K
                (try simp only [Act.put, List.setIfInBounds_toArray, List.set_cons_zero, List.set_cons_succ])
                clear HRUN
                refine take_at 9 (some 33) (v := ?_) rfl rfl (by kernel_rfl) (by kernel_rfl) (by kernel_rfl) (fun _ _ _ h => h) ⟨by rfl, ?_⟩ trivial ?_
                rotate_left
                · intro wq _; go_simp; try rfl
                simp only [Act.put, List.setIfInBounds_toArray, List.set_cons_zero, List.set_cons_succ]
                refine wpAnyH_ready (rs := [10]) (by kernel_rfl) (by simp) ?_
                refine AllReadyH.cons rfl (fun K hK => ?_) AllReadyH.nil
                go_simp
                go_wp2_with fail
                refine hK.out _ _ trivial (fun _ => ?_)
                clear hK K
                (try simp only [Act.put, List.setIfInBounds_toArray, List.set_cons_zero, List.set_cons_succ])
                refine wpAnyH_done (by kernel_rfl) ?_ _
                clear c80 f80
                go_wp2_with fail
                go_roundw
                case rel => exact ⟨j + 1, _, by go_num, hlt, by rw [EK.out]; exact PB6.out⟩
                case measure => simp [intOf]; omega
        · have hg1 : decide ((j : Int) < (m : Int)) = false := by simp; omega
          have hjj : j = m := by omega
          subst hjj
          have PB2 := PB1.out
          rw [← HRM.out] at PB2
          simp only at PB2
          obtain ⟨aL, cL, eL, _⟩ := GRow.lies PB2.rl
          obtain ⟨aD, cD, eD, _⟩ := GRow.lies PB2.rd
          have k0 := PB2.c3.get 0 _ rfl
          have k1 := PB2.c3.get 1 _ rfl
          have k2 := PB2.c3.get 2 _ rfl
          have g0 := PB2.c2.get 0 _ rfl
          have g1 := PB2.c2.get 1 _ rfl
          have g2 := PB2.c2.get 2 _ rfl
          obtain ⟨k0, _⟩ := k0
          obtain ⟨k1, _⟩ := k1
          obtain ⟨k2, _⟩ := k2
          obtain ⟨g0, p0⟩ := g0
          obtain ⟨g1, p1⟩ := g1
          obtain ⟨g2, p2⟩ := g2
          have hne := PB2.ne
          have ST := ((PB2.st.store (b := w.heap.size) (j := 0) (Nat.le_refl _) vL).store (b := w.heap.size) (j := 1) (Nat.le_refl _) vD).store (b := w.heap.size) (j := 2) (Nat.le_refl _) (.int .i64 nx)
          have C5 := ((PB2.c2.stored (j := 0) (by simp) vL).stored (j := 1) (by simp) vD).stored (j := 2) (by simp) (.int .i64 nx)
          have hkk : Keep (fun k => k = w.heap.size) _ _ := (((Keep.refl (fun k => k = w.heap.size) wr).setCell (fun _ => rfl) vL (j := 0)).setCell (fun _ => rfl) vD (j := 1)).setCell (fun _ => rfl) (.int .i64 nx) (j := 2)
          have RL := GRow.keep PB2.rl hkk (fun g q e => PB2.l2 (by rw [q, e]))
          have RD := GRow.keep PB2.rd hkk (fun g q e => PB2.d2 (by rw [q, e]))
          have LD := PB2.ld
          subst eL eD
          have y0 := (C5.get 0 _ rfl).1
          have y1 := (C5.get 1 _ rfl).1
          have y2 := (C5.get 2 _ rfl).1
          have ST := hide ST
          have RL := hide RL
          have RD := hide RD
          have LD := hide LD
          clear PB1 PB2 C5 hkk hlen
          go_wp2_with fail
          exact bodyPost_ret (v := .agg #[.slice aL ls.length cL, .slice aD ds.length cD, .int .i64 nx]) (by simp only [results, Tryz.results98]; simp [go_sem, y0, y1, y2]) rfl ⟨_, _, rfl, ST.out, RL.out, RD.out, LD.out⟩
end Go.Proofs.YtgpmghdoofcpaaaGreat
