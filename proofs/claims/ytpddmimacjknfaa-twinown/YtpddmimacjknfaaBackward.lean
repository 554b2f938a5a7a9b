import Derived.RangeFuncNested
import Derived.RangeFuncBound
import Derived.RangeFuncCalls
import Derived.RangeFuncLeaves
import Derived.Shelf.Abstract
import Derived.Shelf.RegionOpen
import Derived.OwnWalkIn
import Derived.TacticsInMore
import Derived.LoopNIn
import Derived.LoopIn
import Derived.Test.YtpddmimacjknfaaDev6
namespace Go.Proofs.Ytpddmimacjknfaa
open Go.RowKit Go.Shelf Go.QK

attribute [local go_sem] Oper.semAt_some

def pe0 : PE := ⟨0, 0, 0, []⟩
/-- What has come behind k rounds: from the end on. -/
def downto (ps : List PE) (k : Nat) : List (Nat × PE) := (List.range k).map fun j => (ps.length - 1 - j, (ps[ps.length - 1 - j]?).getD pe0)
theorem downto_succ (ps : List PE) (k : Nat) : downto ps (k + 1) = downto ps k ++ [(ps.length - 1 - k, (ps[ps.length - 1 - k]?).getD pe0)] := by simp [downto, List.range_succ]
theorem downto_length (ps : List PE) (k : Nat) : (downto ps k).length = k := by simp [downto]
def encP (x : Nat × PE) : Array Value := #[.int .i64 (x.1 : Int), .agg #[.int .i64 (x.2.s : Int), .slice (some ⟨x.2.k, 0, none⟩) x.2.b.length x.2.c]]

set_option maxRecDepth 100000 in
set_option maxHeartbeats 2000000 in
theorem back1_in (F : Fence) (n : Nat) (h69 : F.fn 89) (hro : F.round = none) (hn : 1 ≤ n) (l Bs n₀ b cap : Nat) (ps : List PE) (hlen : ps.length ≤ 1000000) (hb : b < n₀) (J Jx : List (Nat × PE) → World → Prop)
    (hY : ∀ pre x W, J pre W → pre.length < ps.length → YieldAt F (n - 1) Try.prog l (encP x) W fun e W' =>
      (e = .returned (.bool true) ∧ J (pre ++ [x]) W' ∧ Below n₀ W W') ∨ (e = .returned (.bool false) ∧ Jx (pre ++ [x]) W'))
    (W : World) (hBs : W.cell? ⟨Bs, 0, none⟩ = some (.slice (some ⟨b, 0, none⟩) ps.length cap)) (hBn : ∀ W', Below n₀ W W' → W'.cell? ⟨Bs, 0, none⟩ = some (.slice (some ⟨b, 0, none⟩) ps.length cap))
    (hc : ∀ j (h : j < ps.length), W.cell? ⟨b, j * 2, none⟩ = some (.int .i64 (ps[j].s : Int)) ∧ W.cell? ⟨b, j * 2 + 1, none⟩ = some ps[j].v) (h0 : J [] W) :
    CallsIn F n Try.prog 89 #[.func (.yield l) #[] #[], .pointer (some ⟨Bs, 0, none⟩)] W fun e W' => (∃ v, e = .returned v) ∧
      ((∃ ys, ys = downto ps ps.length ∧ J ys W') ∨ (∃ pre, (∃ k, k ≤ ps.length ∧ pre = downto ps k) ∧ Jx pre W')) := by
  refine callsIn_of_wp Try.func89 rfl h69 ?_ hro
  simp only [Try.ntmps89, List.size_toArray, List.length_cons, List.length_nil, Nat.reduceAdd, Nat.reduceSub, Array.replicate_succ, Array.replicate_zero, List.push_toArray, List.append_toArray, List.nil_append, List.cons_append]
  gi_wp2
  gi_loopw [3] (fun i wr => ∃ k : Nat, k ≤ ps.length ∧ i = .int .i64 ((ps.length : Int) - 1 - (k : Int)) ∧ J (downto ps k) wr ∧ Below n₀ W wr)
    (fun i _ => (intOf i + 1).toNat)
  case atStart => exact ⟨0, Nat.zero_le _, by simp, h0, Below.refl _ _⟩
  case round =>
    obtain ⟨k, hk, rfl, hJs, hnx⟩ := hrel
    have hbs := hBn wr hnx
    by_cases hlt : k < ps.length
    · obtain ⟨m, hm⟩ : ∃ m, m = ps.length - 1 - k := ⟨_, rfl⟩
      have hml : m < ps.length := by omega
      have em : (ps.length : Int) - 1 - (k : Int) = (m : Int) := by omega
      obtain ⟨p0, p1⟩ := hc m hml
      have q0 := (hnx.cell (p := ⟨b, m * 2, none⟩) hb).trans p0
      have q1 := (hnx.cell (p := ⟨b, m * 2 + 1, none⟩) hb).trans p1
      unfold PE.v at q1
      obtain ⟨fn, tmps, assign, body, hy, hR⟩ := hY _ (m, ps[m]) wr hJs (by rw [downto_length]; exact hlt)
      unfold encP at hy
      dsimp only at hy
      have STEP := hide (show downto ps (k + 1) = downto ps k ++ [(m, ps[m])] by rw [downto_succ, ← hm]; simp [hml])
      have e2 : IntKind.i64.wrap ((m : Int) - 1) = (m : Int) - 1 := by rw [IntKind.wrap_i64]; omega
      rw [em]
      have HM := hide hm
      have EM := hide em
      clear p0 p1 hm em
      generalize ps[m] = p at *
      gi_wp2
      refine hR.mono ?_
      rintro e W3 (⟨rfl, hJ3, hk3⟩ | ⟨rfl, hJx3⟩)
      · gi_wp2
        go_roundw
        case rel => exact ⟨k + 1, by omega, by have := EM.out; simp; omega, by rw [STEP.out]; exact hJ3, hnx.trans hk3⟩
        case measure => simp [intOf]
      · gi_wp2
        refine bodyPost_ret (results_none rfl _ _ _) rfl ?_
        exact ⟨⟨_, rfl⟩, .inr ⟨_, ⟨k + 1, by omega, STEP.out.symm⟩, hJx3⟩⟩
    · obtain rfl : k = ps.length := by omega
      have em : (ps.length : Int) - 1 - (ps.length : Int) = -1 := by omega
      rw [em]
      gi_wp2
      go_end0
      exact ⟨⟨_, rfl⟩, .inl ⟨_, rfl, hJs⟩⟩

set_option maxRecDepth 100000 in
set_option maxHeartbeats 1000000 in
theorem back1_nil_in (F : Fence) (n : Nat) (h69 : F.fn 89) (hro : F.round = none) (l Bs : Nat) (J : List (Nat × PE) → World → Prop) (W : World) (hBs : W.cell? ⟨Bs, 0, none⟩ = some (.slice none 0 0)) (h0 : J [] W) :
    CallsIn F n Try.prog 89 #[.func (.yield l) #[] #[], .pointer (some ⟨Bs, 0, none⟩)] W fun e W' => (∃ v, e = .returned v) ∧ J [] W' := by
  refine callsIn_of_wp Try.func89 rfl h69 ?_ hro
  simp only [Try.ntmps89, List.size_toArray, List.length_cons, List.length_nil, Nat.reduceAdd, Nat.reduceSub, Array.replicate_succ, Array.replicate_zero, List.push_toArray, List.append_toArray, List.nil_append, List.cons_append]
  gi_wp2
  gi_loopw [3] (fun i wr => i = .int .i64 (-1) ∧ J [] wr) (fun _ _ => 0)
  case atStart => exact ⟨rfl, h0⟩
  case round =>
    obtain ⟨rfl, hJs⟩ := hrel
    gi_wp2
    go_end0
    exact ⟨⟨_, rfl⟩, hJs⟩

set_option maxRecDepth 100000 in
theorem back_in (F : Fence) (n : Nat) (h62 : F.fn 87) (hro : F.round = none) (a : Option Addr) (len cap : Nat) (w : World) :
    CallsIn F n Try.prog 87 #[.slice a len cap] w fun e w' => e = .returned (.func (.func 89) #[] #[.pointer (some ⟨w.heap.size, 0, none⟩)]) ∧ w' = w.alloc (.cells #[.slice a len cap] 79) := by
  refine callsIn_of_wp Try.func87 rfl h62 ?_ hro
  simp only [Try.ntmps87, List.size_toArray, List.length_cons, List.length_nil, Nat.reduceAdd, Nat.reduceSub, Array.replicate_succ, Array.replicate_zero, List.push_toArray, List.append_toArray, List.nil_append, List.cons_append]
  gi_wp2
  go_ret
  exact ⟨rfl, rfl⟩

/-- The iterator over a row of pending writes, from its end on. -/
theorem back_stops (F : Fence) (n : Nat) (h69 : F.fn 89) (hro : F.round = none) (hn : 1 ≤ n) (Bs n₀ B : Nat) (v : Value) (ps : List PE) (hlen : ps.length ≤ 1000000) (w : World) (hBs : Bs < n₀) (hn₀ : n₀ ≤ w.heap.size)
    (hc : w.cell? ⟨Bs, 0, none⟩ = some v) (hv : PRow w B v ps) (hvn : ∀ b, v.ownBlock = some b → b < n₀) :
    SeqStopsK F n Try.prog 89 #[.pointer (some ⟨Bs, 0, none⟩)] encP (Below n₀) (fun ys => ys = downto ps ps.length) (fun pre => ∃ k, k ≤ ps.length ∧ pre = downto ps k) ps.length w := fun l J Jx W hW _ _ hY h0 => by
  have hc' := (hW.cell (p := ⟨Bs, 0, none⟩) (by show Bs < _; omega)).trans hc
  have hvW := hv.keep (S := fun _ => False) (Keep.of_below hW) (fun _ _ q => q)
  rcases hvW.2 with ⟨rfl, hn0⟩ | ⟨g, cap, cur, rfl, _⟩
  · have : ps = [] := List.eq_nil_of_length_eq_zero hn0
    subst this
    exact (back1_nil_in F n h69 hro l Bs J W hc' h0).mono fun e W' ⟨he, hj⟩ => ⟨he, .inl ⟨_, rfl, hj⟩⟩
  · have hg := hvn g rfl
    refine (back1_in F n h69 hro hn l Bs n₀ g cap ps hlen hg J Jx hY W hc' (fun W' hb => (hb.cell (p := ⟨Bs, 0, none⟩) hBs).trans hc') (fun j hj => ?_) h0).mono ?_
    · obtain ⟨b, e, _, h1, h2⟩ := hvW.form' j hj
      cases e
      exact ⟨h1, h2⟩
    · rintro e W' ⟨he, ⟨ys, hys, hj⟩ | ⟨pre, hk, hj⟩⟩
      · exact ⟨he, .inl ⟨_, hys, hj⟩⟩
      · exact ⟨he, .inr ⟨_, hk, hj⟩⟩
end Go.Proofs.Ytpddmimacjknfaa
