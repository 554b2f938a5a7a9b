import Derived.Test.YtapjbgkmcplpbaaGreatG17
import Derived.ChangeKeysEq
namespace Go.Proofs.YtapjbgkmcplpbaaGreat
open Go.RowKit Go.QK

theorem Dev.write_len {g : Dev} {i : Int} {b : List Nat} : (g.write i b).pend.length ≤ g.pend.length + 1 ∧ (g.write i b).calls ≤ g.calls + 1 := by
  unfold Dev.write
  split
  · exact ⟨Nat.le_succ _, Nat.le_succ _⟩
  · split
    · unfold Dev.crashes
      split
      · exact ⟨by simp [Dev.fall], by simp [Dev.fall, Dev.strike, Dev.push]⟩
      · exact ⟨by simp [Dev.strike, Dev.push], by simp [Dev.strike, Dev.push]⟩
    · exact ⟨by simp [Dev.strike, Dev.push], by simp [Dev.strike, Dev.push]⟩
theorem Dev.sync_len {g : Dev} : g.sync.pend.length ≤ g.pend.length ∧ g.sync.calls ≤ g.calls + 1 := by
  unfold Dev.sync
  split
  · exact ⟨Nat.le_refl _, Nat.le_succ _⟩
  · split
    · unfold Dev.crashes
      split
      · exact ⟨by simp [Dev.fall], by simp [Dev.fall, Dev.strike]⟩
      · exact ⟨by simp [Dev.strike], by simp [Dev.strike]⟩
    · exact ⟨by simp [Dev.settle], by simp [Dev.settle, Dev.strike]⟩
theorem Dev.put_len {g : Dev} {i : Int} {b : List Nat} : (g.putD i b).pend.length ≤ g.pend.length + 1 ∧ (g.putD i b).calls ≤ g.calls + 2 := by
  have h := @Dev.write_len g i b
  have k := @Dev.sync_len (g.write i b)
  unfold Dev.putD
  split
  · omega
  · omega

set_option maxHeartbeats 1000000 in
set_option maxRecDepth 100000 in
theorem put_any {w : World} {S : Nat → Prop} {d : Nat} {g : Dev} (h : PDev w S d g) (i : Int) (b : List Nat) (hl : b.length = 512) (hb : AllB b) (hpl : g.pend.length ≤ 999999) (hcl : g.calls ≤ 999999) :
    Calls Tryz.prog 71 #[.pointer (some ⟨d, 0, none⟩), .int .i64 i, .agg (bytesV b)] w fun e w' => ∃ S', e = .returned (.int .i64 ((g.putE i b : Nat) : Int)) ∧ PDev w' S' d (g.putD i b) ∧ Step w S w' S' := by
  obtain ⟨w1, hw1⟩ : ∃ w1, w1 = w.alloc (.cells (bytesV b) 108) := ⟨_, rfl⟩
  have A1 : Arr w1 108 w.heap.size b := by rw [hw1]; exact Arr.new w 108 b
  have b1 : Below w.heap.size w w1 := by rw [hw1]; exact alloc_below _ _
  have P1 := h.below b1
  have SL := fun w' => slice_arr w.heap.size w'
  have K := write_any P1 i (some ⟨w.heap.size, 0, none⟩) b 512 A1.seen (by omega) nofun hb (by omega) hpl (by omega)
  have ln := @Dev.write_len g i b
  unfold Dev.putE Dev.putD
  rw [hl] at K ⊢
  have K := hide K
  have HW := hide hw1
  have LN := hide ln
  have B1 := hide b1
  have HP := hide (h.lt)
  clear hw1 P1 A1 b1 ln h hl hb
  by_cases q : g.writeE i 512 = 0
  · rw [if_neg (not_not_intro q), if_neg (not_not_intro q)]
    rw [q] at K
    go_enter Tryz.func71, Tryz.ntmps71
    go_wp2_with fail
    rw [← HW.out]
    clear HW
    refine K.out.mono ?_
    rintro e w2 ⟨S2, rfl, P2, st2⟩
    have KS := hide (sync_any P2 (by have := LN.out; omega) (by have := LN.out; omega))
    have ST := hide st2
    clear K P2 st2 SL
    go_wp2_with fail
    refine KS.out.mono ?_
    rintro e w3 ⟨rfl, P3, k3⟩
    go_wp2_with fail
    go_ret
    exact ⟨S2, rfl, P3, (Step.of_below B1.out).trans (ST.out.trans (Step.of_keep k3))⟩
  · rw [if_pos q, if_pos q]
    have q' : (((g.writeE i 512 : Nat) : Int) == 0) = false := by simpa using q
    have q2 : (((g.writeE i 512 : Nat) : Int) != 0) = true := by simpa using q
    generalize g.writeE i 512 = ee at *
    clear q
    go_enter Tryz.func71, Tryz.ntmps71
    go_wp2_with fail
    rw [← HW.out]
    clear HW
    refine K.out.mono ?_
    rintro e w2 ⟨S2, rfl, P2, st2⟩
    have ST := hide st2
    have HP2 := hide P2
    clear K P2 st2 SL
    go_wp2_with fail
    go_ret
    exact ⟨S2, rfl, HP2.out, (Step.of_below B1.out).trans ST.out⟩
end Go.Proofs.YtapjbgkmcplpbaaGreat

namespace Go.Proofs.YtapjbgkmcplpbaaGreat
open Go.RowKit Go.QK

/-- A slot's five cells at block b. -/
def Five (b : Nat) (s : Slot) (wq : World) : Prop := wq.cell? ⟨b, 0, none⟩ = some (.int .u64 (s.stamp : Int)) ∧ wq.cell? ⟨b, 1, none⟩ = some (.int .i64 (s.pages : Int)) ∧ wq.cell? ⟨b, 2, none⟩ = some (.int .i64 (s.log : Int)) ∧ wq.cell? ⟨b, 3, none⟩ = some (.int .i64 (s.frames : Int)) ∧ wq.cell? ⟨b, 4, none⟩ = some (.int .i64 (s.point : Int))
theorem SlotAt.five {w : World} {b : Nat} {s : Slot} (h : SlotAt w b s) : Five b s w := ⟨h.at0, h.at1, h.at2, h.at3, h.at4⟩
theorem SlotAt.drew {w : World} {b : Nat} {s : Slot} (h : SlotAt w b s) : SlotAt w.drew b s := h

set_option maxHeartbeats 1000000 in
set_option maxRecDepth 100000 in
theorem lay_any {w : World} {S : Nat → Prop} {d : Nat} {g : Dev} (h : PDev w S d g) (s : Slot) (hf : s.Fit) (hpl : g.pend.length ≤ 999999) (hcl : g.calls ≤ 999999) :
    Calls Tryz.prog 72 #[.pointer (some ⟨d, 0, none⟩), .agg (slotC s)] w fun e w' => ∃ S', e = .returned (.int .i64 ((g.putE ((s.stamp % 2 : Nat) : Int) (slotB s) : Nat) : Int)) ∧ PDev w' S' d (g.putD ((s.stamp % 2 : Nat) : Int) (slotB s)) ∧ Step w S w' S' := by
  obtain ⟨w1, hw1⟩ : ∃ w1, w1 = w.alloc (.cells (slotC s) 82) := ⟨_, rfl⟩
  have S1 : SlotAt w1 w.heap.size s := by rw [hw1]; exact SlotAt.new w s
  have b1 : Below w.heap.size w w1 := by rw [hw1]; exact alloc_below _ _
  have z1 : w1.heap.size = w.heap.size + 1 := by rw [hw1]; simp
  have P1 := hide (h.below b1.drew)
  have K1 := hide (home_any s w1.drew hf.stamp)
  have K2 := fun w' => hide (sector_any s w' hf)
  have HLT := hide h.lt
  have HW := hide hw1
  have B1 := hide b1
  have HS1 := hide S1
  have F1 := S1.five
  obtain ⟨m, hm⟩ : ∃ m, m = s.stamp % 2 := ⟨_, rfl⟩
  rw [← hm] at K1 ⊢
  clear hw1 b1 S1 h hf hm
  unfold slotC at HW K1 K2 ⊢
  go_enter Tryz.func72, Tryz.ntmps72
  go_upto_region 1 with fail
  rw [← HW.out]
  refine wp_region_held_drew (S := Five w.heap.size s) (by kernel_rfl) F1 (fun hS => ?_)
  refine take_at 0 (some 5) (v := ?_) rfl rfl (by kernel_rfl) (by kernel_rfl) (by kernel_rfl) (fun _ _ _ h => h) ⟨by rfl, ?_⟩ hS ?_
  rotate_left
  · intro wq hSw; go_simp; try rfl
  simp only [Act.put, List.setIfInBounds_toArray, List.set_cons_zero, List.set_cons_succ]
  refine take_at 1 (some 6) (v := ?_) rfl rfl (by kernel_rfl) (by kernel_rfl) (by kernel_rfl) (fun _ _ _ h => h) ⟨by rfl, ?_⟩ hS ?_
  rotate_left
  · intro wq hSw; obtain ⟨x0, x1, x2, x3, x4⟩ := hSw; go_simp; try rfl
  simp only [Act.put, List.setIfInBounds_toArray, List.set_cons_zero, List.set_cons_succ]
  refine take_at 3 (some 8) (v := ?_) rfl rfl (by kernel_rfl) (by kernel_rfl) (by kernel_rfl) (fun _ _ _ h => h) ⟨by rfl, ?_⟩ hS ?_
  rotate_left
  · intro wq hSw; obtain ⟨x0, x1, x2, x3, x4⟩ := hSw; go_simp; try rfl
  simp only [Act.put, List.setIfInBounds_toArray, List.set_cons_zero, List.set_cons_succ]
  refine wpAnyH_ready (rs := [2]) (by kernel_rfl) (by simp) ?_
  refine AllReadyH.cons rfl (fun K hK => ?_) AllReadyH.nil
  go_simp
  go_wp2_with fail
  refine K1.out.mono ?_
  rintro e w2 ⟨rfl, b2⟩
  have S2 := hide (HS1.out.drew.below b2)
  have B2 := hide (bnext B1.out (below_undrew b2) (Nat.le_refl _))
  have P2 := hide (P1.out.below b2)
  have z2 := b2.size
  simp only [World.drew] at z2
  clear b2 P1 HS1 B1 K1
  go_wp2_with fail
  refine hK.out _ _ S2.out.five (fun hS => ?_)
  clear hK K
  (try simp only [Act.put, List.setIfInBounds_toArray, List.set_cons_zero, List.set_cons_succ])
  refine wpAnyH_ready (rs := [4]) (by kernel_rfl) (by simp) ?_
  refine AllReadyH.cons rfl (fun K hK => ?_) AllReadyH.nil
  go_simp
  go_wp2_with fail
  refine (K2 w2).out.mono ?_
  rintro e w3 ⟨rfl, b3⟩
  have S3 := hide (S2.out.below b3)
  have B3 := hide (bnext B2.out b3 (Nat.le_refl _))
  have P3 := hide (P2.out.below b3)
  have K3 := hide (put_any P3.out (m : Int) (slotB s) (slotB_length s) (slotB_allB s) hpl hcl)
  clear b3 P2 S2 B2 K2
  go_wp2_with fail
  refine hK.out _ _ S3.out.five (fun hS => ?_)
  clear hK K
  (try simp only [Act.put, List.setIfInBounds_toArray, List.set_cons_zero, List.set_cons_succ])
  refine wpAnyH_ready (rs := [5]) (by kernel_rfl) (by simp) ?_
  refine AllReadyH.cons rfl (fun K hK => ?_) AllReadyH.nil
  go_simp
  go_wp2_with fail
  refine K3.out.mono ?_
  rintro e w4 ⟨S', rfl, P4, st4⟩
  have S4 := hide (S3.out.keep st4.1 (fun q => by have := HLT.out _ q; omega))
  have R4 := hide (show ∃ S', PDev w4 S' d (g.putD (m : Int) (slotB s)) ∧ Step w S w4 S' from ⟨S', P4, (Step.of_below B3.out).trans st4⟩)
  clear P4 st4 P3 S3 B3 K3
  go_wp2_with fail
  refine hK.out _ _ S4.out.five (fun hS => ?_)
  clear hK K
  (try simp only [Act.put, List.setIfInBounds_toArray, List.set_cons_zero, List.set_cons_succ])
  refine take_at 6 (some 4) (v := ?_) rfl rfl (by kernel_rfl) (by kernel_rfl) (by kernel_rfl) (fun _ _ _ h => h) ⟨by rfl, ?_⟩ hS ?_
  rotate_left
  · intro wq hSw; go_simp; try rfl
  simp only [Act.put, List.setIfInBounds_toArray, List.set_cons_zero, List.set_cons_succ]
  refine wpAnyH_done (by kernel_rfl) ?_ _
  go_wp2_with fail
  go_ret
  obtain ⟨S', P4, st4⟩ := R4.out
  exact ⟨S', rfl, P4, st4⟩
end Go.Proofs.YtapjbgkmcplpbaaGreat

namespace Go.Proofs.YtapjbgkmcplpbaaGreat
open Go.RowKit Go.QK

theorem part5 (L : List Nat) (j : Nat) (hj : j < L.length) (w : World) : (part 5 (bytesV L) j).run Tryz.prog w = .ok (.int .u8 ((L.getD j 0 : Nat) : Int)) w := by
  have e : (bytesV L)[j]? = some (.int .u8 ((L.getD j 0 : Nat) : Int)) := by simp [bytesV, ints, hj]
  have ha : (isAgg 5).run Tryz.prog w = .ok false w := by
    unfold isAgg
    rw [Sem.run_bind, run_underlying Tryz.underlying5 w]
    rfl
  unfold part
  rw [Sem.run_bind, ha]
  simp only [Result.andThen_ok]
  simp [e]
theorem items5 (d : Nat) (L M : List Nat) (w : World) : (is : List Nat) → (∀ j ∈ is, j < L.length ∧ j < M.length) → (Op.eqItems (d + 1) 5 1 (bytesV L) (bytesV M) is).run Tryz.prog w = .ok (is.all fun j => L.getD j 0 == M.getD j 0) w
  | [], _ => by simp [Op.eqItems]
  | j :: is, h => by
    have ih := items5 d L M w is (fun k hk => h k (by simp [hk]))
    obtain ⟨h1, h2⟩ := h j (by simp)
    simp only [Op.eqItems, Sem.run_bind, Nat.mul_one, part5 L j h1 w, part5 M j h2 w, Result.andThen_ok, run_equalIn_int w d 5 .u8 .u8 _ _ Tryz.underlying5]
    by_cases q : L.getD j 0 = M.getD j 0
    · have q' : ((((L.getD j 0 : Nat) : Int)) == ((M.getD j 0 : Nat) : Int)) = true := by rw [q]; simp
      rw [q']
      simp only [Bool.not_true, Bool.false_eq_true, if_false, ih, List.all_cons, q, beq_self_eq_true, Bool.true_and]
    · have q' : ((((L.getD j 0 : Nat) : Int)) == ((M.getD j 0 : Nat) : Int)) = false := by rw [beq_eq_false_iff_ne]; omega
      have q2 : (L.getD j 0 == M.getD j 0) = false := by rw [beq_eq_false_iff_ne]; exact q
      rw [q']
      simp [List.all_cons]
      intro hh
      exact absurd (by simpa using hh) q
theorem neq_arr (L M : List Nat) (hl : L.length = 512) (hm : M.length = 512) (w : World) : (binOp .neq 108 (.agg (bytesV L)) (.agg (bytesV M))).run Tryz.prog w = .ok (.bool (!decide (L = M))) w := by
  obtain ⟨i, hi⟩ : ∃ i, Tryz.prog.info? 5 = some i := by
    have := info5
    cases hq : Tryz.prog.info? 5 with
    | none => simp [hq] at this
    | some i => exact ⟨i, rfl⟩
  have hc : Tryz.prog.cellsOf 5 = 1 := by kernel_rfl
  have e := run_equalIn_array w 9999 (bytesV L) (bytesV M) Tryz.underlying108 hi
  rw [hc] at e
  have k := items5 9998 L M w (List.range 512) (fun j hj => by simp at hj; omega)
  rw [k] at e
  have ea : ((List.range 512).all fun j => L.getD j 0 == M.getD j 0) = decide (L = M) := by
    by_cases q : L = M
    · subst q; simp
    · rw [decide_eq_false q, List.all_eq_false]
      by_cases r : ∀ j, j < 512 → L.getD j 0 = M.getD j 0
      · exfalso
        apply q
        apply List.ext_getElem (by omega)
        intro j h1 h2
        have := r j (by omega)
        simpa [h1, h2] using this
      · simp only [Classical.not_forall] at r
        obtain ⟨j, hj, hne⟩ := r
        exact ⟨j, by simpa using hj, by simpa using hne⟩
  rw [ea] at e
  simp only [binOp]
  simp [Op.equal, Op.maxDepth, e]
end Go.Proofs.YtapjbgkmcplpbaaGreat
