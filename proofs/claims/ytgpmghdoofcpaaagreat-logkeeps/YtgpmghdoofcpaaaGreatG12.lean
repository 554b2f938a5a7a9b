import Derived.Test.YtgpmghdoofcpaaaGreatG10
import Derived.Deep.DeepCutAuto
import Derived.Test.YtgpmghdoofcpaaaGreatG11
namespace Go.QK
open Go.RowKit

theorem setRow_keep (w : World) (g : Nat) (cs : Array Value) : Keep (fun b => b = g) w (w.setRow g cs) :=
  ⟨rfl, rfl, rfl, by simp [World.setRow], fun k _ hn => setRow_other w g k cs hn⟩

theorem splice_map {α β : Type} (f : α → β) (L : List α) (off : Nat) (cs : List α) : (splice L off cs).map f = splice (L.map f) off (cs.map f) := by simp [splice]
theorem splice_take {α : Type} (L : List α) (off n : Nat) (cs : List α) (h : off + cs.length ≤ n) : (splice L off cs).take n = splice (L.take n) off cs := by
  unfold splice
  have e0 : (L.take n).take off = L.take off := by rw [List.take_take, Nat.min_eq_left (by omega)]
  rw [List.take_append, List.take_append, List.take_take, Nat.min_eq_right (show off ≤ n by omega), e0]
  by_cases q : off ≤ L.length
  · have e : (L.take off).length = off := by simp; omega
    have e2 : n - off - cs.length = n - (off + cs.length) := by omega
    rw [e, List.take_of_length_le (show cs.length ≤ n - off by omega), List.drop_take, e2]
  · have e : (L.take off).length = L.length := by simp; omega
    have d1 : L.drop (off + cs.length) = [] := List.drop_eq_nil_of_le (by omega)
    have d2 : (L.take n).drop (off + cs.length) = [] := List.drop_eq_nil_of_le (by simp; omega)
    rw [e, d1, d2, List.take_of_length_le (show cs.length ≤ n - L.length by omega)]
    simp

/-- 'copy(v[off:off+dLen], x)', over a row of one-cell integers of the program's own. -/
theorem run_copy_own {P : Program} {k : IntKind} (w : World) (dT sT ty e : TypeId) (hu : P.underlying dT = some (.slice e)) (hsz : (P.info? e).map (·.size) = some 1)
    (B g n c off dLen dCap : Nat) (L : List Int) (hown : Owns k e w B (.slice (some ⟨g, 0, none⟩) n c) L) (ad : Addr) (sLen sCap : Nat) (m : List Int) (hs : Seen k w (some ad) m) (hm : m.length = Nat.min sLen dLen) (hfit : off + m.length ≤ n) :
    ∃ w', (Builtin.copy_ #[dT, sT] ty #[.slice (some ⟨g, off, none⟩) dLen dCap, .slice (some ad) sLen sCap]).run P w = .ok (goInt m.length) w' ∧ Owns k e w' B (.slice (some ⟨g, 0, none⟩) n c) (splice L off m) ∧ Keep (fun b => b = g) w w' := by
  have hl := hown.len
  obtain ⟨h1, h2⟩ := hown
  rcases h2 with ⟨q, _⟩ | ⟨g', cap, cur, q, hB, hg, hle, hmx, hsize, ht⟩
  · cases q
  · simp only [Value.slice.injEq, Option.some.injEq, Addr.mk.injEq] at q
    obtain ⟨⟨rfl, _, _⟩, _, rfl⟩ := q
    have hr := run_copy_row (P := P) w dT sT ty e g off dLen dCap ad sLen sCap cur e (m.map (Value.int k)) hu hsz hg (by simpa using hm) ?_ (by simp; omega) ?_
    · refine ⟨_, by simpa using hr, ?_, setRow_keep _ _ _⟩
      have hlen : (splice L off m).length = L.length := length_splice L off m (by omega)
      refine ⟨by simp [hlen], .inr ⟨g, c, _, by rw [hlen, hl], hB, setRow_heap w g _ _ e _ hg, by omega, hmx, ?_, ?_⟩⟩
      · simp at hsize ⊢
        omega
      · rw [hlen]
        simp only [Nat.mul_one] at ht ⊢
        have e1 : cur.toList.take off ++ (m.map (Value.int k) ++ cur.toList.drop (off + m.length)) = splice cur.toList off (m.map (Value.int k)) := by simp [splice]
        rw [e1]
        show (splice cur.toList off (m.map (Value.int k))).take L.length = _
        rw [splice_take _ _ _ _ (by simp; omega), ht, splice_map]
    · intro j v hj
      rcases hs with rfl | ⟨b, o, ha, hlt, hc⟩
      · simp at hj
      · cases ha
        simp at hj
        obtain ⟨q, hq, rfl⟩ := hj
        obtain ⟨hjl, hq'⟩ := List.getElem?_eq_some_iff.1 hq
        rw [addr_add, hc j hjl, hq']
    · intro v hv
      simp at hv
      obtain ⟨q, _, rfl⟩ := hv
      rfl

/-- The same as one step of a region. -/
theorem wp_copy {P : Program} {k : IntKind} {o : Oper} {a : Act} {w : World} {K : Act → World → Prop} {Q : Exit → Act → World → Prop} {cond : Bool} (hc : cond = true) (d s : Operand) (dT sT e : TypeId)
    (ho : o.op = .call { callee := .builtin .copy, args := #[d, s], argTypes := #[dT, sT] }) (hu : P.underlying dT = some (.slice e)) (hsz : (P.info? e).map (·.size) = some 1)
    (B g n c off dLen dCap : Nat) (L : List Int) (hown : Owns k e w B (.slice (some ⟨g, 0, none⟩) n c) L) (ad : Addr) (sLen sCap : Nat) (m : List Int) (hd : a.eval d = .slice (some ⟨g, off, none⟩) dLen dCap) (hs : a.eval s = .slice (some ad) sLen sCap)
    (hm : Seen k w (some ad) m) (hml : m.length = Nat.min sLen dLen) (hfit : off + m.length ≤ n)
    (h : ∀ w', Owns k e w' B (.slice (some ⟨g, 0, none⟩) n c) (splice L off m) → Keep (fun b => b = g) w w' → K (a.put o.dst (goInt m.length)) w') : if cond = true then Oper.wp P o a w K Q else K (a.put o.dst undef) w := by
  rw [if_pos hc]
  obtain ⟨w', hr, h1, h2⟩ := run_copy_own (P := P) (k := k) w dT sT o.type e hu hsz B g n c off dLen dCap L hown ad sLen sCap m hm hml hfit
  unfold Oper.wp
  simp [execOp, ho, resolve, invoke, builtin, hd, hs, hr, Result.andThen]
  exact h w' h1 h2
/-- The same in a plain row of operations. -/
theorem wpList_copy {P : Program} {k : IntKind} {o : Oper} {a : Act} {w : World} {ops : Array Oper} {rest : List Oper} {Q : Exit → Act → World → Prop} (hgd : o.guard = none) (d s : Operand) (dT sT e : TypeId)
    (ho : o.op = .call { callee := .builtin .copy, args := #[d, s], argTypes := #[dT, sT] }) (hu : P.underlying dT = some (.slice e)) (hsz : (P.info? e).map (·.size) = some 1)
    (B g n c off dLen dCap : Nat) (L : List Int) (hown : Owns k e w B (.slice (some ⟨g, 0, none⟩) n c) L) (ad : Addr) (sLen sCap : Nat) (m : List Int) (hd : a.eval d = .slice (some ⟨g, off, none⟩) dLen dCap) (hs : a.eval s = .slice (some ad) sLen sCap)
    (hm : Seen k w (some ad) m) (hml : m.length = Nat.min sLen dLen) (hfit : off + m.length ≤ n)
    (h : ∀ w', Owns k e w' B (.slice (some ⟨g, 0, none⟩) n c) (splice L off m) → Keep (fun b => b = g) w w' → wpList P ops Q rest (a.put o.dst (goInt m.length)) w') : wpList P ops Q (o :: rest) a w := by
  refine wpList_plain hgd fun K hK => ?_
  obtain ⟨w', hr, h1, h2⟩ := run_copy_own (P := P) (k := k) w dT sT o.type e hu hsz B g n c off dLen dCap L hown ad sLen sCap m hm hml hfit
  unfold Oper.wp
  simp [execOp, ho, resolve, invoke, builtin, hd, hs, hr, Result.andThen]
  exact hK _ _ (h w' h1 h2)
end Go.QK

namespace Go.Proofs.YtgpmghdoofcpaaaGreat.Dv
open Go.RowKit Go.QK

theorem splice_ints (img : List Nat) (o : Nat) (cs : List Nat) : ints (splice img o cs) = splice (ints img) o (ints cs) := splice_map _ _ _ _
def pendV (s k c : Nat) : Value := .agg #[.int .i64 (s : Int), .slice (some ⟨k, 0, none⟩) 512 c]

set_option maxHeartbeats 1000000 in
set_option maxRecDepth 100000 in
theorem land_at {w : World} {d ib ic k c s n : Nat} {img b : List Nat} (c0 : w.cell? ⟨d, 0, none⟩ = some (.slice (some ⟨ib, 0, none⟩) img.length ic)) (hd : d < w.heap.size) (hi : OwnB w 0 (.slice (some ⟨ib, 0, none⟩) img.length ic) img)
    (hb : Bytes w (some ⟨k, 0, none⟩) b) (hbl : b.length = 512) (hbc : 512 ≤ c) (hs : 512 * s + 512 ≤ img.length) (hm : img.length ≤ 4194304) (hn : n ≤ 512) :
    Calls Tryz.prog 79 #[.pointer (some ⟨d, 0, none⟩), .agg #[.int .i64 (s : Int), .slice (some ⟨k, 0, none⟩) 512 c], .int .i64 (n : Int)] w fun e w' => (∃ v, e = .returned v) ∧ OwnB w' 0 (.slice (some ⟨ib, 0, none⟩) img.length ic) (lay img s b n) ∧ Keep (fun j => j = ib) w w' := by
  obtain ⟨a, cap, hv, hsn, ha, hle, hmx⟩ := hi.seen
  rw [ints_length] at hle hv
  cases hv
  clear hmx hsn
  have hib : ib < w.heap.size := (World.ownsRow.lt hi ib rfl).2
  have B0 := alloc_below w (.cells #[.int .i64 (s : Int), .slice (some ⟨k, 0, none⟩) 512 c] 124)
  have k0 : (w.alloc (.cells #[.int .i64 (s : Int), .slice (some ⟨k, 0, none⟩) 512 c] 124)).cell? ⟨w.heap.size, 0, none⟩ = some (.int .i64 (s : Int)) := by rw [World.cell?_alloc_new]; rfl
  have k1 : (w.alloc (.cells #[.int .i64 (s : Int), .slice (some ⟨k, 0, none⟩) 512 c] 124)).cell? ⟨w.heap.size, 1, none⟩ = some (.slice (some ⟨k, 0, none⟩) 512 c) := by rw [World.cell?_alloc_new]; rfl
  have K0 := ((B0.cell (p := ⟨d, 0, none⟩) hd).trans c0 : (w.alloc (.cells #[.int .i64 (s : Int), .slice (some ⟨k, 0, none⟩) 512 c] 124)).drew.cell? ⟨d, 0, none⟩ = _)
  have OI := hide ((Owns.below hi B0.drew : OwnB (w.alloc (.cells #[.int .i64 (s : Int), .slice (some ⟨k, 0, none⟩) 512 c] 124)).drew 0 _ img))
  have BS := hide ((Seen.below (hb.take n) B0.drew : Bytes (w.alloc (.cells #[.int .i64 (s : Int), .slice (some ⟨k, 0, none⟩) 512 c] 124)).drew _ (b.take n)))
  have hnc : n ≤ c := by omega
  clear c0 hi hb ha
  go_enter Tryz.func79, Tryz.ntmps79
  go_upto_region 1 with fail
  refine wp_region_held_drew (S := fun wq => wq.cell? ⟨w.heap.size, 0, none⟩ = some (.int .i64 (s : Int)) ∧ wq.cell? ⟨w.heap.size, 1, none⟩ = some (.slice (some ⟨k, 0, none⟩) 512 c)) (by kernel_rfl) ⟨k0, k1⟩ (fun hS => ?_)
  refine take_at 0 (some 6) (v := ?_) rfl rfl (by kernel_rfl) (by kernel_rfl) (by kernel_rfl) (fun _ _ _ h => h) ⟨by rfl, ?_⟩ hS ?_
  rotate_left
  · intro wq hSw; (try dsimp only at hSw); go_simp; try rfl
  simp only [Act.put, List.setIfInBounds_toArray, List.set_cons_zero, List.set_cons_succ]
  refine take_at 1 (some 7) (v := ?_) rfl rfl (by kernel_rfl) (by kernel_rfl) (by kernel_rfl) (fun _ _ _ h => h) ⟨by rfl, ?_⟩ hS ?_
  rotate_left
  · intro wq hSw; (try dsimp only at hSw); go_simp; try rfl
  simp only [Act.put, List.setIfInBounds_toArray, List.set_cons_zero, List.set_cons_succ]
  refine take_at 2 (some 8) (v := ?_) rfl rfl (by kernel_rfl) (by kernel_rfl) (by kernel_rfl) (fun _ _ _ h => h) ⟨by rfl, ?_⟩ hS ?_
  rotate_left
  · intro wq hSw; (try dsimp only at hSw); go_simp; try rfl
  simp only [Act.put, List.setIfInBounds_toArray, List.set_cons_zero, List.set_cons_succ]
  refine take_at 4 (some 10) (v := ?_) rfl rfl (by kernel_rfl) (by kernel_rfl) (by kernel_rfl) (fun _ _ _ h => h) ⟨by rfl, ?_⟩ hS ?_
  rotate_left
  · intro wq hSw; (try dsimp only at hSw); go_simp; try rfl
  simp only [Act.put, List.setIfInBounds_toArray, List.set_cons_zero, List.set_cons_succ]
  refine take_at 5 (some 11) (v := ?_) rfl rfl (by kernel_rfl) (by kernel_rfl) (by kernel_rfl) (fun _ _ _ h => h) ⟨by rfl, ?_⟩ hS ?_
  rotate_left
  · intro wq hSw; (try dsimp only at hSw); go_simp; try rfl
  simp only [Act.put, List.setIfInBounds_toArray, List.set_cons_zero, List.set_cons_succ]
  refine take_at 6 (some 12) (v := ?_) rfl rfl (by kernel_rfl) (by kernel_rfl) (by kernel_rfl) (fun _ _ _ h => h) ⟨by rfl, ?_⟩ hS ?_
  rotate_left
  · intro wq hSw; (try dsimp only at hSw); go_simp; try rfl
  simp only [Act.put, List.setIfInBounds_toArray, List.set_cons_zero, List.set_cons_succ]
  refine take_at 7 (some 13) (v := ?_) rfl rfl (by kernel_rfl) (by kernel_rfl) (by kernel_rfl) (fun _ _ _ h => h) ⟨by rfl, ?_⟩ hS ?_
  rotate_left
  · intro wq hSw; (try dsimp only at hSw); go_simp; try rfl
  simp only [Act.put, List.setIfInBounds_toArray, List.set_cons_zero, List.set_cons_succ]
  refine wpAnyH_ready (rs := [3]) (by kernel_rfl) (by simp) ?_
  refine AllReadyH.cons rfl (fun K hK => ?_) AllReadyH.nil
  go_simp
  go_wp2_with fail
  refine (durable_at s (by exact K0) hs hle hm).mono ?_
  rintro e w1 ⟨rfl, rfl⟩
  go_wp2_with fail
  refine hK.out _ _ hS (fun _ => ?_)
  clear hK K
  refine wpAnyH_ready (rs := [8]) (by kernel_rfl) (by simp) ?_
  refine AllReadyH.cons rfl (fun K hK => ?_) AllReadyH.nil
  refine wp_copy (k := .u8) rfl (.tmp 9) (.tmp 13) 80 80 5 rfl Tryz.underlying80 (by kernel_rfl) 0 ib img.length ic (512 * s) 512 (ic - 512 * s) (ints img) OI.out ⟨k, 0, none⟩ n c (ints (b.take n)) rfl rfl BS.out (by simp [hbl]) (by simp; omega) ?_
  intro w2 o2 k2
  have hsp := hide (splice_ints img (512 * s) (b.take n))
  refine hK.out _ _ ⟨(k2.cell (p := ⟨w.heap.size, 0, none⟩) (by simp) (by simp; omega)).trans hS.1, (k2.cell (p := ⟨w.heap.size, 1, none⟩) (by simp) (by simp; omega)).trans hS.2⟩ (fun _ => ?_)
  clear hK K
  refine wpAnyH_done (by kernel_rfl) ?_ _
  go_wp2_with fail
  go_end0
  refine ⟨⟨_, rfl⟩, ?_, ?_⟩
  · unfold lay OwnB
    rw [hsp.out]
    have hl : img.length = (ints img).length := by simp
    exact o2
  · exact (Keep.of_below B0).trans (Keep.undrew k2) (fun _ _ q => q)
end Go.Proofs.YtgpmghdoofcpaaaGreat.Dv

namespace Go.Proofs.YtgpmghdoofcpaaaGreat.Dv
open Go.RowKit Go.QK

set_option maxRecDepth 100000 in
theorem disarm_at {w : World} {d : Nat} {a0 a1 a2 a3 a4 a5 a6 a7 : Value} (h : Cells w d [a0, a1, a2, a3, a4, a5, a6, a7]) :
    Calls Tryz.prog 50 #[.pointer (some ⟨d, 0, none⟩)] w fun e w' => (∃ v, e = .returned v) ∧ Cells w' d [a0, a1, a2, a3, .int .i64 0, .slice none 0 0, .int .i64 0, .int .i64 0] ∧ Keep (fun j => j = d) w w' := by
  obtain ⟨c4, f4⟩ := h.get 4 _ rfl
  obtain ⟨c5, f5⟩ := h.get 5 _ rfl
  obtain ⟨c6, f6⟩ := h.get 6 _ rfl
  obtain ⟨c7, f7⟩ := h.get 7 _ rfl
  have H := hide h
  clear h
  go_enter Tryz.func50, Tryz.ntmps50
  go_wp2_with fail
  go_end0
  refine ⟨⟨_, rfl⟩, ?_, ?_⟩
  · exact (((H.out.stored (j := 4) (by simp) _).stored (j := 5) (by simp) _).stored (j := 6) (by simp) _).stored (j := 7) (by simp) _
  · exact ((((Keep.refl (fun j => j = d) w).setCell (fun _ => rfl) _).setCell (fun _ => rfl) _).setCell (fun _ => rfl) _).setCell (fun _ => rfl) _

set_option maxRecDepth 100000 in
theorem strikes_at {w : World} {d calls left : Nat} {a0 a1 a3 a5 a6 a7 : Value} (h : Cells w d [a0, a1, .int .i64 (calls : Int), a3, .int .i64 (left : Int), a5, a6, a7]) (hc : calls ≤ 1000000) (hl : left ≤ 9223372036854775807) :
    Calls Tryz.prog 78 #[.pointer (some ⟨d, 0, none⟩)] w fun e w' => e = .returned (.bool (decide (left = 1))) ∧ Cells w' d [a0, a1, .int .i64 ((calls + 1 : Nat) : Int), a3, .int .i64 ((left - 1 : Nat) : Int), a5, a6, a7] ∧ Keep (fun j => j = d) w w' := by
  obtain ⟨c2, f2⟩ := h.get 2 _ rfl
  obtain ⟨c4, f4⟩ := h.get 4 _ rfl
  have H := hide h
  have e1 : IntKind.i64.wrap ((calls : Int) + 1) = ((calls + 1 : Nat) : Int) := by rw [IntKind.wrap_i64]; omega
  clear h
  by_cases hz : left = 0
  · subst hz
    go_enter Tryz.func78, Tryz.ntmps78
    go_wp2_with fail
    go_ret
    refine ⟨rfl, ?_, ?_⟩
    · exact H.out.stored (j := 2) (by simp) _
    · exact (Keep.refl (fun j => j = d) w).setCell (fun _ => rfl) _
  · obtain ⟨m, rfl⟩ : ∃ m, left = m + 1 := ⟨left - 1, by omega⟩
    have e2 : IntKind.i64.wrap (((m + 1 : Nat) : Int) - 1) = (m : Int) := by rw [IntKind.wrap_i64]; omega
    have e3 : (((m + 1 : Nat) : Int) == 0) = false := by simp; omega
    rw [Nat.add_sub_cancel]
    go_enter Tryz.func78, Tryz.ntmps78
    go_wp2_with fail
    go_ret
    refine ⟨?_, ?_, ?_⟩
    · show Ending.returned (Value.bool _) = _
      congr 2
      by_cases q : m = 0 <;> simp [q] <;> omega
    · exact (H.out.stored (j := 2) (by simp) _).stored (j := 4) (by simp) _
    · exact ((Keep.refl (fun j => j = d) w).setCell (fun _ => rfl) _).setCell (fun _ => rfl) _
end Go.Proofs.YtgpmghdoofcpaaaGreat.Dv
