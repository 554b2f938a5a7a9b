import Derived.Test.YtgpmghdoofcpaaaGreatG20
import Derived.Test.YtgpmghdoofcpaaaGreatG25
import Derived.Deep.MidRow
namespace Go.Proofs.YtgpmghdoofcpaaaGreat.Lg
open Go.RowKit Go.QK
open Dv (hide bnext alloc_below load_arr store_arr slice_arr wp_load_arr wp_store_arr neq_arr info91)

theorem wp_load_seen {op : Oper} {a : Act} {w : World} {K : Act → World → Prop} {Q : Exit → Act → World → Prop} (x : Operand) (ho : op.op = .load 150 x)
    (g : Nat) (hx : a.eval x = .pointer (some ⟨g, 0, none⟩)) (L : List Nat) (h : Bytes w (some ⟨g, 0, none⟩) L) (hl : L.length = 512) (k : K (a.put op.dst (.agg (bytesV L))) w) : op.wp Tryz.prog a w K Q := by
  refine wp_load_mid 150 x ho g 0 hx ((ints L).map (Value.int .u8)) _ ?_ Tryz.underlying150 rfl (by rw [List.length_map, ints_length, hl]; exact info91) k
  intro j v hv
  have hj : j < L.length := by simpa using (List.getElem?_eq_some_iff.1 hv).1
  obtain ⟨b, off, he, _, hc⟩ := h.at hj
  cases he
  rw [hc]
  simp [ints, hj] at hv
  rw [← hv]
  simp [hj]
theorem wp_toArr {op : Oper} {a : Act} {w : World} {K : Act → World → Prop} {Q : Exit → Act → World → Prop} (x : Operand) (ho : op.op = .sliceToArrayPointer 150 x)
    (ad : Addr) (c : Nat) (hx : a.eval x = .slice (some ad) 512 c) (k : K (a.put op.dst (.pointer (some ad))) w) : op.wp Tryz.prog a w K Q := by
  have e : (Instr.arrayAt 150 (.slice (some ad) 512 c)).run Tryz.prog w = .ok (.pointer (some ad)) w := by
    unfold Instr.arrayAt
    rw [Sem.run_bind, run_underlying Tryz.underlying150 w]
    rfl
  unfold Oper.wp execOp
  simp only [ho, hx, Sem.run_bind, e, Result.andThen]
  exact k

/-- The log's block. -/
def hdC (d first count : Nat) (rv : Value) (forced : Nat) (ended : Bool) : List Value := [.pointer (some ⟨d, 0, none⟩), .int .i64 (first : Int), .int .i64 (count : Int), rv, .int .i64 (forced : Int), .bool ended]
abbrev Hd (w : World) (l d first count : Nat) (rv : Value) (forced : Nat) (ended : Bool) : Prop := Cells w l (hdC d first count rv forced ended)

set_option maxRecDepth 100000 in
set_option maxHeartbeats 1000000 in
theorem home_any (l first s : Nat) (w : World) (c1 : w.cell? ⟨l, 1, none⟩ = some (.int .i64 (first : Int))) (hs : 1 ≤ s) (hb : first + s ≤ 1000000) :
    Calls Tryz.prog 108 #[.pointer (some ⟨l, 0, none⟩), .int .i64 (s : Int)] w fun e w' => e = .returned (.int .i64 ((first + s - 1 : Nat) : Int)) ∧ w' = w := by
  go_enter Tryz.func108, Tryz.ntmps108
  go_wp2_with fail
  go_ret
  refine ⟨?_, rfl⟩
  simp
  omega

set_option maxRecDepth 100000 in
set_option maxHeartbeats 1000000 in
theorem lread_any {w : World} {S : Nat → Prop} {d : Nat} {g : Dev} (h : PDev w S d g) (l first s : Nat) (hl : l < w.heap.size) (c0 : w.cell? ⟨l, 0, none⟩ = some (.pointer (some ⟨d, 0, none⟩))) (c1 : w.cell? ⟨l, 1, none⟩ = some (.int .i64 (first : Int)))
    (hs : 1 ≤ s) (hb : first + s ≤ 1000000) (hd : g.down = false) (hn : first + s - 1 < g.n) (hpl : g.pend.length ≤ 1000000) :
    Calls Tryz.prog 85 #[.pointer (some ⟨l, 0, none⟩), .int .i64 (s : Int)] w fun e w' => e = .returned (.agg (bytesV (g.content (first + s - 1)))) ∧ Below w.heap.size w w' := by
  have hr : g.reach ((first + s - 1 : Nat) : Int) = 0 := by unfold Dev.reach; rw [hd, if_neg (by simp), if_neg (by omega)]
  have hR := Dev.reach_ok h.ok hr
  have hlen : (g.content (first + s - 1)).length = 512 := Dv.content_len h.ok _ (by have := hR.2.2.1; simpa using this)
  have hrb : g.readB ((first + s - 1 : Nat) : Int) = g.content (first + s - 1) := by unfold Dev.readB; rw [if_pos hr]; simp
  have Z := Dv.zero_run
  obtain ⟨w1, hw1⟩ : ∃ w1, w1 = w.alloc (.cells (bytesV zerosB) 150) := ⟨_, rfl⟩
  have b1 : Below w.heap.size w w1 := by rw [hw1]; exact alloc_below _ _
  have a1 : Arr w1 150 w.heap.size zerosB := by rw [hw1]; exact Arr.new w 150 zerosB
  have z1 : w1.heap.size = w.heap.size + 1 := by rw [hw1]; simp
  have D1 : Below w1.heap.size w1 w1.drew := (Below.refl _ _).drew
  have P1 := (h.below b1).below D1
  have e0 := (World.cell?_of_block (a := ⟨l, 0, none⟩) (b1.block l hl)).trans c0
  have e1 := (World.cell?_of_block (a := ⟨l, 1, none⟩) (b1.block l hl)).trans c1
  have KH := hide (home_any l first s w1.drew e1 hs hb)
  have KR := Dv.read_any P1 ((first + s - 1 : Nat) : Int) hpl
  rw [hr, hrb] at KR
  have KR := hide KR
  have KM := fun w => must_ok w
  have HW := hide hw1
  have HL := hide hlen
  have A1 := hide (a1.below D1)
  have B1 := hide (b1.trans (Below.mono D1 (by omega)))
  generalize g.content (first + s - 1) = L at *
  generalize first + s - 1 = hm at *
  have E0 := hide e0
  have hlz : l < w1.heap.size := by omega
  clear hw1 hr hR hrb h P1 b1 a1 D1 c0 c1 e1 hlen e0
  go_enter Tryz.func85, Tryz.ntmps85
  go_upto_region 1 with fail
  rw [← HW.out]
  clear HW
  refine wp_region_held_drew (S := fun wq => wq.cell? ⟨l, 0, none⟩ = some (.pointer (some ⟨d, 0, none⟩))) (by kernel_rfl) E0.out (fun hS => ?_)
  have hlz : l < w1.drew.heap.size := hlz
  have z1 : w1.drew.heap.size = w.heap.size + 1 := z1
  generalize w1.drew = w2 at *
  clear E0
  refine take_at 0 (some 8) (v := ?_) rfl rfl (by kernel_rfl) (by kernel_rfl) (by kernel_rfl) (fun _ _ _ h => h) ⟨by rfl, ?_⟩ hS ?_
  rotate_left
  · intro wq hSw; go_simp; try rfl
  simp only [Act.put, List.setIfInBounds_toArray, List.set_cons_zero, List.set_cons_succ]
  refine take_at 1 (some 9) (v := ?_) rfl rfl (by kernel_rfl) (by kernel_rfl) (by kernel_rfl) (fun _ _ _ h => h) ⟨by rfl, ?_⟩ hS ?_
  rotate_left
  · intro wq hSw; go_simp; try rfl
  simp only [Act.put, List.setIfInBounds_toArray, List.set_cons_zero, List.set_cons_succ]
  refine take_at 2 (some 10) (v := ?_) rfl rfl (by kernel_rfl) (by kernel_rfl) (by kernel_rfl) (fun _ _ _ h => h) ⟨by rfl, ?_⟩ hS ?_
  rotate_left
  · intro wq hSw; go_simp; try rfl
  simp only [Act.put, List.setIfInBounds_toArray, List.set_cons_zero, List.set_cons_succ]
  refine take_at 3 (some 11) (v := ?_) rfl rfl (by kernel_rfl) (by kernel_rfl) (by kernel_rfl) (fun _ _ _ h => h) ⟨by rfl, ?_⟩ hS ?_
  rotate_left
  · intro wq hSw; go_simp; try rfl
  simp only [Act.put, List.setIfInBounds_toArray, List.set_cons_zero, List.set_cons_succ]
  refine take_at 4 (some 12) (v := ?_) rfl rfl (by kernel_rfl) (by kernel_rfl) (by kernel_rfl) (fun _ _ _ h => h) ⟨by rfl, ?_⟩ hS ?_
  rotate_left
  · intro wq hSw; go_simp; try rfl
  simp only [Act.put, List.setIfInBounds_toArray, List.set_cons_zero, List.set_cons_succ]
  refine take_at 5 (some 13) (v := ?_) rfl rfl (by kernel_rfl) (by kernel_rfl) (by kernel_rfl) (fun _ _ _ h => h) ⟨by rfl, ?_⟩ hS ?_
  rotate_left
  · intro wq hSw; go_simp; try rfl
  simp only [Act.put, List.setIfInBounds_toArray, List.set_cons_zero, List.set_cons_succ]
  refine wpAnyH_ready (rs := [6]) (by kernel_rfl) (by simp) ?_
  refine AllReadyH.cons rfl (fun K hK => ?_) AllReadyH.nil
  go_simp
  go_wp2_with fail
  refine KH.out.mono ?_
  rintro e w3 ⟨rfl, rfl⟩
  go_wp2_with fail
  refine hK.out _ _ hS (fun hS => ?_)
  clear hK K
  (try simp only [Act.put, List.setIfInBounds_toArray, List.set_cons_zero, List.set_cons_succ])
  refine wpAnyH_ready (rs := [7]) (by kernel_rfl) (by simp) ?_
  refine AllReadyH.cons rfl (fun K hK => ?_) AllReadyH.nil
  go_simp
  go_wp2_with fail
  refine KR.out.mono ?_
  rintro e w4 ⟨v4, rfl, o4, b4⟩
  have hS4 := (World.cell?_of_block (a := ⟨l, 0, none⟩) (b4.block l hlz)).trans hS
  obtain ⟨gb, cap, rfl, hcap, _, hgb⟩ := o4.form (by rw [ints_length, HL.out]; omega)
  have sn := hide o4.seen_at
  rw [ints_length, HL.out] at hcap ⊢
  have A4 := hide (A1.out.below b4)
  have B4 := hide (B1.out.trans (b4.mono (by omega)))
  have z4 := b4.size
  clear KR KH A1 B1 o4 hS b4 hgb
  go_wp2_with fail
  refine hK.out _ _ hS4 (fun hS => ?_)
  clear hK K
  (try simp only [Act.put, List.setIfInBounds_toArray, List.set_cons_zero, List.set_cons_succ])
  refine take_at 8 (some 7) (v := ?_) rfl rfl (by kernel_rfl) (by kernel_rfl) (by kernel_rfl) (fun _ _ _ h => h) ⟨by rfl, ?_⟩ hS ?_
  rotate_left
  · intro wq hSw; go_simp; try rfl
  simp only [Act.put, List.setIfInBounds_toArray, List.set_cons_zero, List.set_cons_succ]
  refine take_at 9 (some 16) (v := ?_) rfl rfl (by kernel_rfl) (by kernel_rfl) (by kernel_rfl) (fun _ _ _ h => h) ⟨by rfl, ?_⟩ hS ?_
  rotate_left
  · intro wq hSw; go_simp; try rfl
  simp only [Act.put, List.setIfInBounds_toArray, List.set_cons_zero, List.set_cons_succ]
  refine take_at 10 (some 17) (v := ?_) rfl rfl (by kernel_rfl) (by kernel_rfl) (by kernel_rfl) (fun _ _ _ h => h) ⟨by rfl, ?_⟩ hS ?_
  rotate_left
  · intro wq hSw; go_simp; try rfl
  simp only [Act.put, List.setIfInBounds_toArray, List.set_cons_zero, List.set_cons_succ]
  refine take_at 11 (some 5) (v := ?_) rfl rfl (by kernel_rfl) (by kernel_rfl) (by kernel_rfl) (fun _ _ _ h => h) ⟨by rfl, ?_⟩ hS ?_
  rotate_left
  · intro wq hSw; go_simp; try rfl
  simp only [Act.put, List.setIfInBounds_toArray, List.set_cons_zero, List.set_cons_succ]
  refine take_at 12 (some 6) (v := ?_) rfl rfl (by kernel_rfl) (by kernel_rfl) (by kernel_rfl) (fun _ _ _ h => h) ⟨by rfl, ?_⟩ hS ?_
  rotate_left
  · intro wq hSw; go_simp; try rfl
  simp only [Act.put, List.setIfInBounds_toArray, List.set_cons_zero, List.set_cons_succ]
  refine wpAnyH_done (by kernel_rfl) ?_ _
  go_wp2_with fail
  refine (KM w4).mono ?_
  rintro e w5 ⟨rfl, rfl⟩
  obtain ⟨w9, X9, h9, k9⟩ := Dv.cells_arr (M := L) A4.out zerosB_length HL.out
  have B9 := hide (B4.out.trans (k9.below (by omega) (fun k hk => by omega)))
  clear A4 B4 KM hS k9
  go_wp2_with fail
  refine wp_toArr (.tmp 20) (by rfl) ⟨gb, 0, none⟩ cap (by rfl) ?_
  go_wp2_with fail
  refine wp_load_seen (.tmp 21) (by rfl) gb (by rfl) L sn.out HL.out ?_
  have L9 := load_arr h9 HL.out
  clear sn h9
  go_wp2_with fail
  refine bodyPost_ret (v := .agg (bytesV L)) ?_ rfl ⟨rfl, B9.out⟩
  simp only [Instr.loadAt, Instr.sureAddr, Sem.run_bind, Sem.run_pure, Result.andThen] at L9
  simp [results, Tryz.results85, asAddr, L9]
end Go.Proofs.YtgpmghdoofcpaaaGreat.Lg

namespace Go.Proofs.YtgpmghdoofcpaaaGreat.Lg
open Go.RowKit Go.QK
open Dv (hide bnext alloc_below load_arr store_arr slice_arr wp_load_arr wp_store_arr neq_arr info91)

/-- How a call of the package's own ends: with nothing, or given up. -/
def fin (at_ e : Nat) : Ending := if e = 0 then .returned (.tuple #[]) else .panicked (pan at_ e)
theorem fin_zero (at_ : Nat) : fin at_ 0 = .returned (.tuple #[]) := rfl
theorem fin_no {at_ e : Nat} (h : e ≠ 0) : fin at_ e = .panicked (pan at_ e) := if_neg h

set_option maxRecDepth 100000 in
set_option maxHeartbeats 1000000 in
theorem lput_any {w : World} {S : Nat → Prop} {d : Nat} {g : Dev} (h : PDev w S d g) (l first s : Nat) (b : List Nat) (hl : l < w.heap.size) (hlS : ¬ S l) (c0 : w.cell? ⟨l, 0, none⟩ = some (.pointer (some ⟨d, 0, none⟩))) (c1 : w.cell? ⟨l, 1, none⟩ = some (.int .i64 (first : Int)))
    (hs : 1 ≤ s) (hb : first + s ≤ 1000000) (hbl : b.length = 512) (hba : AllB b) (hpl : g.pend.length ≤ 999999) (hcl : g.calls ≤ 1000000) :
    Calls Tryz.prog 82 #[.pointer (some ⟨l, 0, none⟩), .int .i64 (s : Int), .agg (bytesV b)] w fun e w' => ∃ S', e = fin 0 (g.writeE ((first + s - 1 : Nat) : Int) 512) ∧ PDev w' S' d (g.write ((first + s - 1 : Nat) : Int) b) ∧ Step w S w' S' := by
  obtain ⟨w1, hw1⟩ : ∃ w1, w1 = w.alloc (.cells (bytesV b) 150) := ⟨_, rfl⟩
  have b1 : Below w.heap.size w w1 := by rw [hw1]; exact alloc_below _ _
  have a1 : Arr w1 150 w.heap.size b := by rw [hw1]; exact Arr.new w 150 b
  have z1 : w1.heap.size = w.heap.size + 1 := by rw [hw1]; simp
  have D1 : Below w1.heap.size w1 w1.drew := (Below.refl _ _).drew
  have P1 := (h.below b1).below D1
  have e0 := (World.cell?_of_block (a := ⟨l, 0, none⟩) (b1.block l hl)).trans c0
  have e1 := (World.cell?_of_block (a := ⟨l, 1, none⟩) (b1.block l hl)).trans c1
  have KH := hide (home_any l first s w1.drew e1 hs hb)
  have KW := Dv.write_any P1 ((first + s - 1 : Nat) : Int) (some ⟨w.heap.size, 0, none⟩) b 512 (a1.below D1).seen (by omega) nofun hba (by omega) hpl hcl
  rw [hbl] at KW
  have KW := hide KW
  have SL := fun w' => slice_arr w.heap.size w'
  have HW := hide hw1
  have B1 := hide (b1.trans (Below.mono D1 (by omega)))
  have E0 := hide e0
  have hlz : l < w1.heap.size := by omega
  have HSL := hide hlS
  have M0 := hide (fun w => must_ok w)
  have M1 := hide (fun e h w => must_no e h w)
  generalize g.write ((first + s - 1 : Nat) : Int) b = g' at *
  generalize hee : g.writeE ((first + s - 1 : Nat) : Int) 512 = ee at *
  generalize first + s - 1 = hm at *
  clear hw1 h P1 b1 a1 D1 c0 c1 e1 e0 hlS hee hbl hba
  go_enter Tryz.func82, Tryz.ntmps82
  go_upto_region 1 with fail
  rw [← HW.out]
  clear HW
  refine wp_region_held_drew (S := fun wq => wq.cell? ⟨l, 0, none⟩ = some (.pointer (some ⟨d, 0, none⟩))) (by kernel_rfl) E0.out (fun hS => ?_)
  have hlz : l < w1.drew.heap.size := hlz
  have z1 : w1.drew.heap.size = w.heap.size + 1 := z1
  generalize w1.drew = w2 at *
  clear E0
  refine take_at 0 (some 6) (v := ?_) rfl rfl (by kernel_rfl) (by kernel_rfl) (by kernel_rfl) (fun _ _ _ h => h) ⟨by rfl, ?_⟩ hS ?_
  rotate_left
  · intro wq hSw; go_simp; try rfl
  simp only [Act.put, List.setIfInBounds_toArray, List.set_cons_zero, List.set_cons_succ]
  refine take_at 1 (some 7) (v := ?_) rfl rfl (by kernel_rfl) (by kernel_rfl) (by kernel_rfl) (fun _ _ _ h => h) ⟨by rfl, ?_⟩ hS ?_
  rotate_left
  · intro wq hSw; go_simp; try rfl
  simp only [Act.put, List.setIfInBounds_toArray, List.set_cons_zero, List.set_cons_succ]
  refine take_at 2 (some 8) (v := ?_) rfl rfl (by kernel_rfl) (by kernel_rfl) (by kernel_rfl) (fun _ _ _ h => h) ⟨by rfl, ?_⟩ hS ?_
  rotate_left
  · intro wq hSw; go_simp; try rfl
  simp only [Act.put, List.setIfInBounds_toArray, List.set_cons_zero, List.set_cons_succ]
  refine take_at 3 (some 9) (v := ?_) rfl rfl (by kernel_rfl) (by kernel_rfl) (by kernel_rfl) (fun _ _ _ h => h) ⟨by rfl, ?_⟩ hS ?_
  rotate_left
  · intro wq hSw; go_simp; try rfl
  simp only [Act.put, List.setIfInBounds_toArray, List.set_cons_zero, List.set_cons_succ]
  refine take_at 4 (some 10) (v := ?_) rfl rfl (by kernel_rfl) (by kernel_rfl) (by kernel_rfl) (fun _ _ _ h => h) ⟨by rfl, ?_⟩ hS ?_
  rotate_left
  · intro wq hSw; go_simp; try rfl
  simp only [Act.put, List.setIfInBounds_toArray, List.set_cons_zero, List.set_cons_succ]
  refine take_at 5 (some 11) (v := ?_) rfl rfl (by kernel_rfl) (by kernel_rfl) (by kernel_rfl) (fun _ _ _ h => h) ⟨by rfl, ?_⟩ hS ?_
  rotate_left
  · intro wq hSw; go_simp; try rfl
  simp only [Act.put, List.setIfInBounds_toArray, List.set_cons_zero, List.set_cons_succ]
  refine take_at 7 (some 13) (v := ?_) rfl rfl (by kernel_rfl) (by kernel_rfl) (by kernel_rfl) (fun _ _ _ h => h) ⟨by rfl, ?_⟩ hS ?_
  rotate_left
  · intro wq hSw; go_simp; try rfl
  simp only [Act.put, List.setIfInBounds_toArray, List.set_cons_zero, List.set_cons_succ]
  refine wpAnyH_ready (rs := [6]) (by kernel_rfl) (by simp) ?_
  refine AllReadyH.cons rfl (fun K hK => ?_) AllReadyH.nil
  go_simp
  go_wp2_with fail
  refine KH.out.mono ?_
  rintro e w3 ⟨rfl, rfl⟩
  go_wp2_with fail
  refine hK.out _ _ hS (fun hS => ?_)
  clear hK K
  (try simp only [Act.put, List.setIfInBounds_toArray, List.set_cons_zero, List.set_cons_succ])
  refine wpAnyH_ready (rs := [8]) (by kernel_rfl) (by simp) ?_
  refine AllReadyH.cons rfl (fun K hK => ?_) AllReadyH.nil
  go_simp
  go_wp2_with fail
  refine KW.out.mono ?_
  rintro e w4 ⟨S4, rfl, p4, s4⟩
  have hS4 := (s4.1.cell (p := ⟨l, 0, none⟩) hlz HSL.out).trans hS
  have P4 := hide p4
  have ST := hide ((Step.of_below (S := S) B1.out).trans s4)
  clear KW KH B1 p4 hS s4
  go_wp2_with fail
  refine hK.out _ _ hS4 (fun hS => ?_)
  clear hK K
  (try simp only [Act.put, List.setIfInBounds_toArray, List.set_cons_zero, List.set_cons_succ])
  by_cases he : ee = 0
  · subst he
    refine wpAnyH_ready (rs := [9]) (by kernel_rfl) (by simp) ?_
    refine AllReadyH.cons rfl (fun K hK => ?_) AllReadyH.nil
    go_simp
    go_wp2_with fail
    refine (M0.out w4).mono ?_
    rintro e w5 ⟨rfl, rfl⟩
    go_wp2_with fail
    refine hK.out _ _ hS (fun hS => ?_)
    clear hK K
    (try simp only [Act.put, List.setIfInBounds_toArray, List.set_cons_zero, List.set_cons_succ])
    refine wpAnyH_done (by kernel_rfl) ?_ _
    go_wp2_with fail
    go_end0
    exact ⟨S4, rfl, P4.out, ST.out⟩
  · have HE := hide he
    clear he
    refine wpAnyH_ready (rs := [9]) (by kernel_rfl) (by simp) ?_
    refine AllReadyH.cons rfl (fun K hK => ?_) AllReadyH.nil
    go_simp
    go_wp2_with fail
    refine (M1.out ee HE.out w4).mono ?_
    rintro e w5 ⟨rfl, rfl⟩
    exact ⟨rfl, S4, (fin_no HE.out).symm, P4.out, ST.out⟩
end Go.Proofs.YtgpmghdoofcpaaaGreat.Lg

namespace Go.Proofs.YtgpmghdoofcpaaaGreat.Lg
open Go.RowKit Go.QK
open Dv (hide bnext alloc_below load_arr store_arr slice_arr wp_load_arr wp_store_arr neq_arr info91)

set_option maxRecDepth 100000 in
set_option maxHeartbeats 1000000 in
theorem last_any (l n c : Nat) (a : Option Addr) (w : World) (c3 : w.cell? ⟨l, 3, none⟩ = some (.slice a n c)) :
    Calls Tryz.prog 18 #[.pointer (some ⟨l, 0, none⟩)] w fun e w' => e = .returned (.int .i64 (n : Int)) ∧ w' = w := by
  go_enter Tryz.func18, Tryz.ntmps18
  go_wp2_with fail
  go_ret
  exact ⟨rfl, rfl⟩
set_option maxRecDepth 100000 in
set_option maxHeartbeats 1000000 in
theorem settle_any {w : World} {S : Nat → Prop} {d : Nat} {g : Dev} (h : PDev w S d g) (l : Nat) (hl : l < w.heap.size) (_hlS : ¬ S l) (c0 : w.cell? ⟨l, 0, none⟩ = some (.pointer (some ⟨d, 0, none⟩)))
    (hpl : g.pend.length ≤ 1000000) (hcl : g.calls ≤ 1000000) :
    Calls Tryz.prog 63 #[.pointer (some ⟨l, 0, none⟩)] w fun e w' => e = fin 0 (settleE g) ∧ PDev w' S d (settleD g) ∧ Keep S w w' := by
  have KD := hide (Dv.down_any h)
  cases hd : g.down
  · rw [hd] at KD
    have KC := hide (Dv.cache_any h hpl)
    have HP := hide h
    clear h
    by_cases hp : g.pend = []
    · rw [show settleE g = 0 by unfold settleE; simp [hd, hp], show settleD g = g by unfold settleD; simp [hd, hp]]
      clear hd
      have HPE := hide hp
      clear hp
      go_enter Tryz.func63, Tryz.ntmps63
      go_wp2_with fail
      refine KD.out.mono ?_
      rintro e w1 ⟨rfl, rfl⟩
      clear KD
      go_wp2_with fail
      refine KC.out.mono ?_
      rintro e w2 ⟨qs, rfl, hq, _, _, b2⟩
      have hql : qs.length = 0 := by have := congrArg List.length hq; rw [HPE.out] at this; simpa using this
      rw [hql]
      have B2 := hide b2
      clear KC hq hql b2
      go_wp2_with fail
      go_end0
      exact ⟨rfl, HP.out.below B2.out, Keep.of_below B2.out⟩
    · rw [show settleE g = g.syncE by unfold settleE; simp [hd, hp], show settleD g = g.sync by unfold settleD; simp [hd, hp]]
      clear hd
      have HPE := hide hp
      clear hp
      go_enter Tryz.func63, Tryz.ntmps63
      go_wp2_with fail
      refine KD.out.mono ?_
      rintro e w1 ⟨rfl, rfl⟩
      clear KD
      go_wp2_with fail
      refine KC.out.mono ?_
      rintro e w2 ⟨qs, rfl, hq, _, _, b2⟩
      have hql : 0 < qs.length := by
        have := congrArg List.length hq
        have h2 : g.pend.length ≠ 0 := fun q => HPE.out (List.eq_nil_of_length_eq_zero q)
        simp at this
        omega
      have hdq : decide (0 < qs.length) = true := by simp; omega
      have c2 := (World.cell?_of_block (a := ⟨l, 0, none⟩) (b2.block l hl)).trans c0
      have KS := hide (Dv.sync_any (HP.out.below b2) hpl hcl)
      have B2 := hide b2
      clear KC hq hql b2 c0
      go_wp2_with fail
      refine KS.out.mono ?_
      rintro e w3 ⟨rfl, p3, k3⟩
      have P3 := hide p3
      have K3 := hide ((Keep.of_below (S := S) B2.out).trans k3 (fun _ _ q => q))
      clear KS p3 k3 B2 HP c2
      by_cases he : g.syncE = 0
      · rw [he]
        go_wp2_with fail
        refine (must_ok w3).mono ?_
        rintro e w5 ⟨rfl, rfl⟩
        go_wp2_with fail
        go_end0
        exact ⟨by rw [he]; rfl, P3.out, K3.out⟩
      · have HE := hide he
        clear he
        go_wp2_with fail
        refine (must_no g.syncE HE.out w3).mono ?_
        rintro e w5 ⟨rfl, rfl⟩
        exact ⟨rfl, (fin_no HE.out).symm, P3.out, K3.out⟩
  · rw [show settleE g = 40 by unfold settleE; simp [hd], show settleD g = g by unfold settleD; simp [hd]]
    rw [hd] at KD
    have HP := hide h
    clear h hd
    go_enter Tryz.func63, Tryz.ntmps63
    go_wp2_with fail
    refine KD.out.mono ?_
    rintro e w1 ⟨rfl, rfl⟩
    go_wp2_with fail
    refine (giveUp_any 0 40 _).mono ?_
    rintro e w5 ⟨rfl, rfl⟩
    exact ⟨rfl, rfl, HP.out, Keep.refl _ _⟩
end Go.Proofs.YtgpmghdoofcpaaaGreat.Lg
