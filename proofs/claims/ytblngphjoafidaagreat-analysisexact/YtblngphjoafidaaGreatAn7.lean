import Derived.Test.YtblngphjoafidaaGreatAn6
namespace Go.Proofs.YtblngphjoafidaaGreat
open Go.RowKit Go.QK Go.Maps Go.QM Go.QT
set_option maxRecDepth 100000
/-! begin: how a pass starts. -/
def BegPost (w : World) (P : Option PassM) (e : Ending) (w' : World) : Prop :=
  match P with
  | some p => ∃ b tb m, e = .returned (.tuple #[ptr b, .int .i64 0]) ∧ PP w' b tb m p ∧ w.heap.size ≤ b ∧ w.heap.size ≤ tb ∧ w.heap.size ≤ m ∧ Below w.heap.size w w'
  | none => e = .returned (.tuple #[.pointer none, .int .i64 4]) ∧ Below w.heap.size w w'
theorem start_zero (rs : List RecM) : startP rs 0 = some pass0 := rfl
set_option maxHeartbeats 4000000 in
theorem begin_zero (v : Value) (w : World) : Calls Tryz.prog 16 #[v, .int .i64 0] w (BegPost w (some pass0)) := by
  unfold BegPost
  have KN := hide (fun w => new_yes 1 w rfl)
  go_enter Tryz.func16, Tryz.ntmps16
  go_upto_region 3 with (go_at_call 28; refine (KN.out _).mono ?_; rintro e w1 ⟨rfl, hT, hb1, hs1⟩)
  have T1 := hide hT
  have B1 := hide hb1
  have SZ := hide hs1
  clear hT hb1 hs1 KN
  go_wp2_with (first | refine wpList_build72 rfl ?_ | refine wpList_box72 rfl ?_)
  go_ret2
  have bb := (alloc_below w1 (.cells (zeroA (ptr (w.heap.size + 1))) 84))
  have e1 := SZ.out
  exact ⟨w1.heap.size, w.heap.size + 1, w.heap.size, rfl, ⟨PS.made _ _, T1.out.below bb, by omega, by omega⟩, by omega, by omega, by omega, B1.out.trans (bb.mono B1.out.size)⟩
set_option maxHeartbeats 4000000 in
theorem begin_out (a : Option Addr) (n c : Nat) (point : Int) (w : World) (h0 : point ≠ 0) (hb : point < 1 ∨ (n : Int) < point) : Calls Tryz.prog 16 #[.slice a n c, .int .i64 point] w (BegPost w none) := by
  unfold BegPost
  have e0 : (point == 0) = false := by simpa using h0
  by_cases h1 : point < 1
  · have e1 : decide (point < 1) = true := by simpa using h1
    clear hb h0 h1
    go_enter Tryz.func16, Tryz.ntmps16
    go_wp2_with fail
    go_ret2
    exact ⟨rfl, Below.refl _ _⟩
  · have e1 : decide (point < 1) = false := by simpa using h1
    have e2 : decide ((n : Int) < point) = true := by simp; omega
    clear hb h0 h1
    go_enter Tryz.func16, Tryz.ntmps16
    go_wp2_with fail
    go_ret2
    exact ⟨rfl, Below.refl _ _⟩
theorem sub1 {k : Nat} (h : k ≤ 1000000) : IntKind.i64.wrap ((k : Int) + 1 - 1) = (k : Int) := by rw [IntKind.wrap_i64]; omega
set_option maxHeartbeats 4000000 in
theorem begin_in (xs : List RX) (a : Option Addr) (n c k : Nat) (pt : Int) (w : World) (h : RecsAt w a xs) (hk : k < xs.length) (hn : n = xs.length) (hm : n ≤ 1000000) (hp : pt = (k : Int) + 1) (hgd : GoodR xs[k].r) : Calls Tryz.prog 16 #[.slice a n c, .int .i64 pt] w (BegPost w (if xs[k].r.kind = 8 then some (standP xs[k].r) else none)) := by
  obtain ⟨sb, so, rfl, slt, sel⟩ := Lies.rowAt rxC 17 (fun _ => rfl) h.row k hk (by decide)
  have HI := hide (h.each xs[k] (List.getElem_mem hk))
  have e0 : (pt == 0) = false := by simp; omega
  have e1 : decide (pt < 1) = false := by simp; omega
  have e2 : decide ((n : Int) < pt) = false := by simp; omega
  have e3 : IntKind.i64.wrap (pt - 1) = (k : Int) := by rw [IntKind.wrap_i64]; omega
  have e3' : pt - 1 = (k : Int) := by omega
  have hkn : k < n := by omega
  clear h hn hp
  generalize xs[k] = x at *
  have c1 := sel 1 _ rfl
  by_cases h8 : x.r.kind = 8
  · rw [if_pos h8]
    have e4 : (x.r.kind != 8) = false := by simpa using h8
    have PO := hide (hgd.pts h8)
    have c14 := sel 14 _ rfl
    have c15 := sel 15 _ rfl
    have c16 := sel 16 _ rfl
    obtain ⟨nl, hnl⟩ : ∃ N, N = x.r.live.length := ⟨_, rfl⟩
    obtain ⟨nd, hnd⟩ : ∃ N, N = x.r.dirty.length := ⟨_, rfl⟩
    have KS := hide (standing_any x.r x.la x.da x.lc x.dc nl nd w HI.out.li HI.out.di PO.out hnl hnd)
    rw [← hnl] at c14
    rw [← hnd] at c15
    clear hnl hnd h8 hgd
    unfold BegPost
    simp only
    generalize x.r.kind = K at *
    generalize x.r.next = NX at *
    clear sel
    generalize x.la = la at *
    generalize x.da = da at *
    go_enter Tryz.func16, Tryz.ntmps16
    go_wp2_with fail
    refine KS.out.mono ?_
    rintro e w1 ⟨b, tb, m, rfl, h1, h2, h3, h4, h5⟩
    go_wp2_with fail
    go_ret2
    exact ⟨b, tb, m, rfl, h1, h2, h3, h4, h5⟩
  · rw [if_neg h8]
    have e4 : (x.r.kind != 8) = true := by simpa using h8
    clear h8 hgd sel
    unfold BegPost
    simp only
    generalize x.r.kind = K at *
    go_enter Tryz.func16, Tryz.ntmps16
    go_wp2_with fail
    go_ret2
    exact ⟨rfl, Below.refl _ _⟩
theorem beg_any (xs : List RX) (a : Option Addr) (n c : Nat) (point : Int) (w : World) (h : RecsAt w a xs) (hn : n = xs.length) (hm : n ≤ 1000000) (hf : faultE 1 (rsOf xs) = 0) : Calls Tryz.prog 16 #[.slice a n c, .int .i64 point] w (BegPost w (startP (rsOf xs) point)) := by
  by_cases h0 : point = 0
  · subst h0
    rw [start_zero]
    exact begin_zero _ w
  · by_cases h1 : point < 1 ∨ (n : Int) < point
    · have e : startP (rsOf xs) point = none := by
        unfold startP
        rw [if_neg h0, if_pos (by simpa [← hn] using h1)]
      rw [e]
      exact begin_out a n c point w h0 h1
    · obtain ⟨k, hk⟩ : ∃ k : Nat, point = (k : Int) + 1 := ⟨(point - 1).toNat, by omega⟩
      have hkl : k < xs.length := by omega
      have e : startP (rsOf xs) point = if xs[k].r.kind = 8 then some (standP xs[k].r) else none := by
        unfold startP
        rw [if_neg h0, if_neg (by simpa [← hn] using h1)]
        have e1 : (point - 1).toNat = k := by omega
        rw [e1, List.getElem?_eq_getElem (by simpa using hkl)]
        simp
      rw [e]
      have hg := (fault_each hf k (by simpa using hkl)).2
      exact begin_in xs a n c k point w h hkl hn hm hk (by simpa using hg)
end Go.Proofs.YtblngphjoafidaaGreat
