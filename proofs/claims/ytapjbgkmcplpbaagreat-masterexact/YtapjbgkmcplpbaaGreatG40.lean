import Derived.Test.YtapjbgkmcplpbaaGreatG38
import Derived.Laws.CopyRow
import Derived.Test.YtapjbgkmcplpbaaGreatG18
import Derived.Test.YtapjbgkmcplpbaaGreatMast
namespace Go.Proofs.YtapjbgkmcplpbaaGreat
open Go.RowKit Go.QK

/-- 512 bytes: those, then zeros. -/
def padB (L : List Nat) : List Nat := splice (List.replicate 512 0) 0 (L.take 512)
theorem take512 (L : List Nat) : 0 + (L.take 512).length ≤ (List.replicate 512 0).length := by
  rw [List.length_replicate, List.length_take]
  omega
theorem padB_length (L : List Nat) : (padB L).length = 512 := by
  unfold padB
  rw [length_splice _ _ _ (take512 L), List.length_replicate]
theorem padB_allB {L : List Nat} (h : AllB L) : AllB (padB L) := by
  unfold padB splice
  intro x hx
  rcases List.mem_append.1 hx with q | q
  · rw [List.eq_of_mem_replicate (List.mem_of_mem_take q)]; decide
  · rcases List.mem_append.1 q with q | q
    · exact h x (List.mem_of_mem_take q)
    · rw [List.eq_of_mem_replicate (List.mem_of_mem_drop q)]; decide
theorem padB_full {L : List Nat} (h : L.length = 512) : padB L = L := by
  unfold padB splice
  rw [List.take_of_length_le (show L.length ≤ 512 by omega)]
  generalize hz : List.replicate 512 0 = Z
  have hl : Z.length = 512 := by rw [← hz, List.length_replicate]
  rw [List.drop_eq_nil_of_le (by omega)]
  simp
theorem padB_nil : padB [] = List.replicate 512 0 := by
  unfold padB splice
  generalize List.replicate 512 0 = Z
  simp
theorem copy_pad (ty : TypeId) (w : World) (gi B : Nat) (ho : OwnB w B (.slice (some ⟨gi, 0, none⟩) 512 512) (List.replicate 512 0)) (a : Option Addr) (L : List Nat) (cc : Nat) (hs : Bytes w a L) (ha : a = none → cc = 0) :
    ∃ w' n, (Builtin.copy_ #[34, 34] ty #[.slice (some ⟨gi, 0, none⟩) 512 512, .slice a L.length cc]).run Tryz.prog w = .ok (goInt n) w' ∧ OwnB w' B (.slice (some ⟨gi, 0, none⟩) 512 512) (padB L) ∧ Keep (fun b => b = gi) w w' := by
  cases a with
  | none =>
    have hL : L = [] := by
      rcases hs with q | ⟨b, off, q, _⟩
      · cases L with
        | nil => rfl
        | cons x l => simp [ints] at q
      · cases q
    subst hL
    rw [ha rfl]
    exact ⟨w, 0, run_copy_nil (P := Tryz.prog) w 34 34 ty 5 _ 512 512 Tryz.underlying34 (by kernel_rfl), by rw [padB_nil]; exact ho, Keep.refl _ _⟩
  | some ad =>
    obtain ⟨w', h1, h2, h3⟩ := run_copy_own (P := Tryz.prog) (k := .u8) w 34 34 ty 5 Tryz.underlying34 (by kernel_rfl) B gi 512 512 0 512 512 _ ho ad L.length cc (ints (L.take 512)) (by have := hs.take 512; exact this) (by rw [ints_length, List.length_take, Nat.min_comm]) (by rw [ints_length]; have := take512 L; rw [List.length_replicate] at this; exact this)
    refine ⟨w', _, h1, ?_, h3⟩
    unfold OwnB padB
    rw [splice_ints]
    exact h2
set_option maxHeartbeats 4000000 in
set_option maxRecDepth 100000 in
theorem writes_any {w : World} {S T : Nat → Prop} {d c : Nat} {g : Dev} {pb p q r : Nat} (h : Duet w S d g T c g pb p q r) (i : Int) (a : Option Addr) (L : List Nat) (cc : Nat) (hs : Bytes w a L) (ha : a = none → cc = 0) (hab : AllB L) (hpl : g.pend.length ≤ 999990) (hcl : g.calls ≤ 999990) :
    Calls Tryz.prog 63 #[.pointer (some ⟨pb, 0, none⟩), .int .i64 i, .slice a L.length cc] w fun e w' => ∃ S' T', e = .returned (.bool true) ∧ Duet w' S' d (g.write i (padB L)) T' c (g.write i (padB L)) pb p q r ∧ Step w (fun b => S b ∨ T b) w' (fun b => S' b ∨ T' b) := by
  obtain ⟨w1, m1, o1, b1, h1⟩ := makeB w 512 (by omega)
  simp only [show ((512 : Nat) : Int) = 512 from rfl] at m1
  obtain ⟨w2, n2, m2, o2, k2⟩ := copy_pad 3 w1 w.heap.size w.heap.size o1 a L cc (Seen.below hs b1) ha
  have D1 := h.below b1
  have nS : ¬ S w.heap.size ∧ ¬ T w.heap.size ∧ w.heap.size ≠ pb := ⟨fun q => by have := h.pr.one.lt _ q; omega, fun q => by have := h.pr.two.lt _ q; omega, fun q => by have := h.cells.1; omega⟩
  have D2 := D1.apart k2 (fun b hb => by rw [hb]; exact nS)
  have b2 : Below w.heap.size w w2 := b1.trans (k2.below b1.size (fun k hk q => by omega))
  have ST2 := Step.of_below (S := fun b => S b ∨ T b) b2
  obtain ⟨W, hW⟩ : ∃ W, W = w2.drew := ⟨_, rfl⟩
  have bW : Below w2.heap.size w2 W := by rw [hW]; exact (Below.refl _ _).drew
  have DW := D2.below bW
  have OW := Owns.below o2 bW
  have STW := hide (ST2.trans (Step.of_below bW))
  have lp := padB_length L
  have ap := padB_allB hab
  have KW := write_any DW.pr.one i (some ⟨w.heap.size, 0, none⟩) (padB L) 512 (Owns.seen_at OW) (by omega) nofun ap (by omega) (by omega) (by omega)
  have KR := fun (w' : World) (T' : Nat → Prop) (hh : RDev w' T' c g) (hb : Bytes w' (some ⟨w.heap.size, 0, none⟩) (padB L)) => rWrite_any hh i (some ⟨w.heap.size, 0, none⟩) (padB L) 512 hb (by omega) nofun ap (by omega) (by omega) (by omega)
  rw [lp] at KW
  simp only [lp] at KR
  obtain ⟨ee, hee⟩ : ∃ ee, ee = g.writeE i 512 := ⟨_, rfl⟩
  obtain ⟨gg, hgg⟩ : ∃ gg, gg = g.write i (padB L) := ⟨_, rfl⟩
  rw [← hee, ← hgg] at KW
  simp only [← hee, ← hgg] at KR
  rw [← hgg]
  have KW := hide KW
  have KR := hide KR
  have F2 := hide D2.pc
  have DW := hide DW
  have OW := hide OW
  have HM2 := hide m2
  have HW := hide hW
  have BE := hide (both_any (ee : Int))
  obtain ⟨nL, hnL⟩ : ∃ nL, nL = L.length := ⟨_, rfl⟩
  rw [← hnL] at HM2 ⊢
  have LT := hide (show w.heap.size < w2.heap.size from Nat.lt_of_lt_of_le h1 k2.size)
  clear hW bW h hee hgg o1 b1 h1 m2 o2 k2 D1 D2 b2 ST2 lp ap hab hs ha hnL
  go_enter Tryz.func63, Tryz.ntmps63
  have m2 := HM2.out
  go_upto_region 3 with fail
  refine wp_region_held_drew (S := PC pb d c) (by kernel_rfl) F2.out (fun hS => ?_)
  rw [← HW.out] at hS ⊢
  clear F2 HM2 m1 m2
  refine take_at 0 (some 12) (v := ?_) rfl rfl (by kernel_rfl) (by kernel_rfl) (by kernel_rfl) (fun _ _ _ h => h) ⟨by rfl, ?_⟩ hS ?_
  rotate_left
  · intro wq hSw; go_simp; try rfl
  simp only [Act.put, List.setIfInBounds_toArray, List.set_cons_zero, List.set_cons_succ]
  refine take_at 1 (some 13) (v := ?_) rfl rfl (by kernel_rfl) (by kernel_rfl) (by kernel_rfl) (fun _ _ _ h => h) ⟨by rfl, ?_⟩ hS ?_
  rotate_left
  · intro wq hSw; go_simp; try rfl
  simp only [Act.put, List.setIfInBounds_toArray, List.set_cons_zero, List.set_cons_succ]
  refine take_at 2 (some 14) (v := ?_) rfl rfl (by kernel_rfl) (by kernel_rfl) (by kernel_rfl) (fun _ _ _ h => h) ⟨by rfl, ?_⟩ hS ?_
  rotate_left
  · intro wq hSw; go_simp; try rfl
  simp only [Act.put, List.setIfInBounds_toArray, List.set_cons_zero, List.set_cons_succ]
  refine take_at 3 (some 15) (v := ?_) rfl rfl (by kernel_rfl) (by kernel_rfl) (by kernel_rfl) (fun _ _ _ h => h) ⟨by rfl, ?_⟩ hS ?_
  rotate_left
  · intro wq hSw; obtain ⟨x0, x1⟩ := hSw; go_simp; try rfl
  simp only [Act.put, List.setIfInBounds_toArray, List.set_cons_zero, List.set_cons_succ]
  refine take_at 4 (some 16) (v := ?_) rfl rfl (by kernel_rfl) (by kernel_rfl) (by kernel_rfl) (fun _ _ _ h => h) ⟨by rfl, ?_⟩ hS ?_
  rotate_left
  · intro wq hSw; go_simp; try rfl
  simp only [Act.put, List.setIfInBounds_toArray, List.set_cons_zero, List.set_cons_succ]
  refine take_at 5 (some 17) (v := ?_) rfl rfl (by kernel_rfl) (by kernel_rfl) (by kernel_rfl) (fun _ _ _ h => h) ⟨by rfl, ?_⟩ hS ?_
  rotate_left
  · intro wq hSw; go_simp; try rfl
  simp only [Act.put, List.setIfInBounds_toArray, List.set_cons_zero, List.set_cons_succ]
  refine take_at 7 (some 19) (v := ?_) rfl rfl (by kernel_rfl) (by kernel_rfl) (by kernel_rfl) (fun _ _ _ h => h) ⟨by rfl, ?_⟩ hS ?_
  rotate_left
  · intro wq hSw; go_simp; try rfl
  simp only [Act.put, List.setIfInBounds_toArray, List.set_cons_zero, List.set_cons_succ]
  refine take_at 8 (some 20) (v := ?_) rfl rfl (by kernel_rfl) (by kernel_rfl) (by kernel_rfl) (fun _ _ _ h => h) ⟨by rfl, ?_⟩ hS ?_
  rotate_left
  · intro wq hSw; go_simp; try rfl
  simp only [Act.put, List.setIfInBounds_toArray, List.set_cons_zero, List.set_cons_succ]
  refine take_at 9 (some 21) (v := ?_) rfl rfl (by kernel_rfl) (by kernel_rfl) (by kernel_rfl) (fun _ _ _ h => h) ⟨by rfl, ?_⟩ hS ?_
  rotate_left
  · intro wq hSw; go_simp; try rfl
  simp only [Act.put, List.setIfInBounds_toArray, List.set_cons_zero, List.set_cons_succ]
  refine take_at 10 (some 22) (v := ?_) rfl rfl (by kernel_rfl) (by kernel_rfl) (by kernel_rfl) (fun _ _ _ h => h) ⟨by rfl, ?_⟩ hS ?_
  rotate_left
  · intro wq hSw; obtain ⟨x0, x1⟩ := hSw; go_simp; try rfl
  simp only [Act.put, List.setIfInBounds_toArray, List.set_cons_zero, List.set_cons_succ]
  refine take_at 11 (some 23) (v := ?_) rfl rfl (by kernel_rfl) (by kernel_rfl) (by kernel_rfl) (fun _ _ _ h => h) ⟨by rfl, ?_⟩ hS ?_
  rotate_left
  · intro wq hSw; go_simp; try rfl
  simp only [Act.put, List.setIfInBounds_toArray, List.set_cons_zero, List.set_cons_succ]
  refine take_at 12 (some 24) (v := ?_) rfl rfl (by kernel_rfl) (by kernel_rfl) (by kernel_rfl) (fun _ _ _ h => h) ⟨by rfl, ?_⟩ hS ?_
  rotate_left
  · intro wq hSw; go_simp; try rfl
  simp only [Act.put, List.setIfInBounds_toArray, List.set_cons_zero, List.set_cons_succ]
  refine wpAnyH_ready (rs := [6]) (by kernel_rfl) (by simp) ?_
  refine AllReadyH.cons rfl (fun K hK => ?_) AllReadyH.nil
  go_simp
  go_wp2_with fail
  refine KW.out.mono ?_
  rintro e w3 ⟨S3, rfl, P3, st3⟩
  have D3 := hide (DW.out.left P3 st3)
  have ST3 := hide (STW.out.trans (Step.inl (T := T) st3))
  have O3 := hide (show Bytes w3 (some ⟨w.heap.size, 0, none⟩) (padB L) from Seen.keep (Owns.seen_at OW.out) st3.1 (fun ad had => by cases had; exact nS.1))
  have KQ := hide (KR.out w3 T D3.out.pr.two O3.out)
  clear P3 st3 KW DW OW STW KR O3
  go_wp2_with fail
  refine hK.out _ _ D3.out.pc (fun hS => ?_)
  clear hK K
  (try simp only [Act.put, List.setIfInBounds_toArray, List.set_cons_zero, List.set_cons_succ])
  refine wpAnyH_ready (rs := [13]) (by kernel_rfl) (by simp) ?_
  refine AllReadyH.cons rfl (fun K hK => ?_) AllReadyH.nil
  go_simp
  go_wp2_with fail
  refine KQ.out.mono ?_
  rintro e w5 ⟨T5, rfl, P5, st5⟩
  have D5 := hide (D3.out.right P5 st5)
  have ST5 := hide (ST3.out.trans (Step.inr (S := S3) st5))
  clear P5 st5 KQ D3 ST3
  go_wp2_with fail
  refine hK.out _ _ D5.out.pc (fun hS => ?_)
  clear hK K
  (try simp only [Act.put, List.setIfInBounds_toArray, List.set_cons_zero, List.set_cons_succ])
  refine wpAnyH_ready (rs := [14]) (by kernel_rfl) (by simp) ?_
  refine AllReadyH.cons rfl (fun K hK => ?_) AllReadyH.nil
  go_simp
  go_wp2_with fail
  refine (BE.out w5).mono ?_
  rintro e w' ⟨rfl, hw⟩
  obtain rfl : w5 = w' := hw.symm
  go_wp2_with fail
  refine hK.out _ _ D5.out.pc (fun hS => ?_)
  clear hK K
  (try simp only [Act.put, List.setIfInBounds_toArray, List.set_cons_zero, List.set_cons_succ])
  refine take_at 15 (some 6) (v := ?_) rfl rfl (by kernel_rfl) (by kernel_rfl) (by kernel_rfl) (fun _ _ _ h => h) ⟨by rfl, ?_⟩ hS ?_
  rotate_left
  · intro wq hSw; go_simp; try rfl
  simp only [Act.put, List.setIfInBounds_toArray, List.set_cons_zero, List.set_cons_succ]
  refine wpAnyH_done (by kernel_rfl) ?_ _
  go_wp2_with fail
  go_ret
  exact ⟨S3, T5, rfl, D5.out, ST5.out⟩
end Go.Proofs.YtapjbgkmcplpbaaGreat

namespace Go.Proofs.YtapjbgkmcplpbaaGreat
open Go.RowKit Go.QK

/-- What one call may do to a disk's numbers. -/
structure Grows (g g' : Dev) : Prop where
  len : g'.img.length = g.img.length
  pend : g'.pend.length ≤ g.pend.length + 2
  calls : g'.calls ≤ g.calls + 4
theorem Grows.refl (g : Dev) : Grows g g := ⟨rfl, by omega, by omega⟩
theorem Grows.n {g g' : Dev} (h : Grows g g') : g'.n = g.n := by unfold Dev.n; rw [h.len]
theorem crashes_len {g : Dev} (ok : g.Ok) : g.crashes.img.length = g.img.length := by
  unfold Dev.crashes
  split
  · exact (fallFrom_ok _ g.pend 0 g.img ok.pend rfl ok.bytes).1
  · rfl
theorem write_len {g : Dev} (ok : g.Ok) (i : Int) (b : List Nat) (hb : AllB b) : (g.write i b).img.length = g.img.length := by
  unfold Dev.write
  split
  · rfl
  · rename_i q
    have hr : g.reach i = 0 := by
      by_cases x : g.reach i = 0
      · exact x
      · exact (q (.inl x)).elim
    have hl : b.length = 512 := by
      by_cases x : b.length = 512
      · exact x
      · exact (q (.inr x)).elim
    obtain ⟨_, _, h1, _⟩ := Dev.reach_ok ok hr
    split
    · rw [crashes_len ((ok.push (s := i.toNat) (b := b) ⟨h1, hl, hb⟩).strike)]
      rfl
    · rfl
theorem sync_len {g : Dev} (ok : g.Ok) : g.sync.img.length = g.img.length := by
  unfold Dev.sync
  split
  · rfl
  · split
    · rw [crashes_len ok.strike]
      rfl
    · exact (syncAll_ok g.pend g.img ok.pend rfl ok.bytes).1
theorem put_len {g : Dev} (ok : g.Ok) (i : Int) (b : List Nat) (hb : AllB b) : (g.putD i b).img.length = g.img.length ∧ (g.putD i b).Ok := by
  unfold Dev.putD
  split
  · exact ⟨write_len ok i b hb, ok.write i b hb⟩
  · exact ⟨(sync_len (ok.write i b hb)).trans (write_len ok i b hb), (ok.write i b hb).sync⟩
theorem Grows.write {g : Dev} (ok : g.Ok) (i : Int) (b : List Nat) (hb : AllB b) : Grows g (g.write i b) := by
  have := @Dev.write_len g i b
  exact ⟨write_len ok i b hb, by omega, by omega⟩
theorem Grows.sync {g : Dev} (ok : g.Ok) : Grows g g.sync := by
  have := @Dev.sync_len g
  exact ⟨sync_len ok, by omega, by omega⟩
theorem Grows.point {g : Dev} (ok : g.Ok) (lsn : Int) : Grows g (g.pointD lsn) := by
  unfold Dev.pointD
  split
  · exact Grows.refl g
  · split
    · exact Grows.refl g
    · split
      · exact Grows.refl g
      · have h := put_len ok ((g.master.next lsn).stamp % 2 : Nat) (slotB (g.master.next lsn)) (slotB_allB _)
        have k := @Dev.put_len g ((g.master.next lsn).stamp % 2 : Nat) (slotB (g.master.next lsn))
        exact ⟨h.1, by omega, by omega⟩
theorem Grows.format {g : Dev} (ok : g.Ok) (p l f : Int) : Grows g (g.formatD p l f) := by
  unfold Dev.formatD
  have h := put_len ok 0 zerosB zerosB_allB
  have k := @Dev.put_len g 0 zerosB
  split
  · exact Grows.refl g
  · split
    · exact ⟨h.1, by omega, by omega⟩
    · have h2 := put_len h.2 1 (slotB (firstS p l f)) (slotB_allB _)
      have k2 := @Dev.put_len (g.putD 0 zerosB) 1 (slotB (firstS p l f))
      exact ⟨h2.1.trans h.1, by omega, by omega⟩
theorem Grows.arm {g : Dev} (step : Int) (l : Loss) : Grows g (g.arm step l) := by
  unfold Dev.arm
  split
  · exact Grows.refl g
  · exact ⟨rfl, by show g.pend.length ≤ _; omega, by show g.calls ≤ _; omega⟩
theorem Grows.crash {g : Dev} (ok : g.Ok) (l : Loss) : Grows g (g.crash l) := by
  unfold Dev.crash
  split
  · exact Grows.refl g
  · exact ⟨(fallFrom_ok _ g.pend 0 g.img ok.pend rfl ok.bytes).1, by simp [Dev.fall], by simp [Dev.fall]⟩
theorem Grows.up (g : Dev) : Grows g g.up := ⟨rfl, by show g.pend.length ≤ _; omega, by show g.calls ≤ _; omega⟩
end Go.Proofs.YtapjbgkmcplpbaaGreat
