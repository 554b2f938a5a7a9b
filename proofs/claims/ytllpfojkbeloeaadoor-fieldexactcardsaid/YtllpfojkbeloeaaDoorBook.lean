import Derived.Test.YtllpfojkbeloeaaDoorSlices
import Derived.BigQuiet
namespace Go.Proofs.YtllpfojkbeloeaaDoor
open Go.RowKit Go.QK

theorem bdrewN {B : Nat} {a w : World} (h : Below B a w) (n : Nat) : Below B a (w.drewN n) := ⟨h.os, h.tape, h.output, h.size, h.block⟩
/-- The mark of list number k. -/
def mk (k : Nat) : Nat := (7 * k + 1) % 256
/-- A list that was handed out, marked, and its longer copy. -/
def BEnt (w : World) (v u : Value) (m : Nat) : Prop :=
  ∃ (a : Option Addr) (n c : Nat) (a' : Option Addr) (c' : Nat), v = .slice a n c ∧ u = .slice a' (n + 1) c' ∧ Bytes w a (List.replicate n m) ∧ Bytes w a' (List.replicate (n + 1) m) ∧ n ≤ 1000000
theorem BEnt.below {w w' : World} {v u : Value} {m : Nat} (h : BEnt w v u m) (k : Below w.heap.size w w') : BEnt w' v u m := by
  obtain ⟨a, n, c, a', c', h1, h2, h3, h4, h5⟩ := h
  exact ⟨a, n, c, a', c', h1, h2, Seen.below h3 k, Seen.below h4 k, h5⟩
/-- The book, as it is read. -/
def BookAt (w : World) (t o n : Nat) (aL : Option Addr) (cL : Nat) (aM : Option Addr) (cM : Nat) : Prop :=
  t < w.heap.size ∧ w.cell? ⟨t, o, none⟩ = some (.slice aL n cL) ∧ w.cell? ⟨t, o + 1, none⟩ = some (.slice aM n cM) ∧
  ∀ k, k < n → ∃ bL bM v u, aL = some ⟨bL, 0, none⟩ ∧ aM = some ⟨bM, 0, none⟩ ∧ bL < w.heap.size ∧ bM < w.heap.size ∧ w.cell? ⟨bL, k, none⟩ = some v ∧ w.cell? ⟨bM, k, none⟩ = some u ∧ BEnt w v u (mk k)
theorem BookAt.below {w w' : World} {t o n : Nat} {aL : Option Addr} {cL : Nat} {aM : Option Addr} {cM : Nat} (h : BookAt w t o n aL cL aM cM) (k : Below w.heap.size w w') : BookAt w' t o n aL cL aM cM := by
  obtain ⟨h0, h1, h2, h3⟩ := h
  refine ⟨Nat.lt_of_lt_of_le h0 k.size, (k.cell (p := ⟨t, o, none⟩) h0).trans h1, (k.cell (p := ⟨t, o + 1, none⟩) h0).trans h2, fun j hj => ?_⟩
  obtain ⟨bL, bM, v, u, e1, e2, e3, e4, e5, e6, e7⟩ := h3 j hj
  exact ⟨bL, bM, v, u, e1, e2, Nat.lt_of_lt_of_le e3 k.size, Nat.lt_of_lt_of_le e4 k.size, (k.cell (p := ⟨bL, j, none⟩) e3).trans e5, (k.cell (p := ⟨bM, j, none⟩) e4).trans e6, e7.below k⟩

set_option maxHeartbeats 1000000 in
set_option maxRecDepth 100000 in
theorem holds_any (t o n : Nat) (aL : Option Addr) (cL : Nat) (aM : Option Addr) (cM : Nat) (w : World) (h : BookAt w t o n aL cL aM cM) (hn : n ≤ 100000) :
    Calls Tryd.prog 28 #[.pointer (some ⟨t, o, none⟩)] w fun e w' => e = .returned (.bool true) ∧ Below w.heap.size w w' := by
  have HB := hide h
  clear h
  go_enter Tryd.func28, Tryd.ntmps28
  go_wp2_with fail
  go_loopw [3] (fun i wr => ∃ k : Nat, i = .int .i64 (k : Int) ∧ k ≤ n ∧ Below w.heap.size w wr) (fun i _ => n - (intOf i).toNat)
  case atStart => exact ⟨0, rfl, by omega, Below.refl _ _⟩
  case round =>
    obtain ⟨k, rfl, hk, bl⟩ := hrel
    obtain ⟨wo, hwo⟩ : ∃ wo : World, wo = wr := ⟨_, rfl⟩
    subst hwo
    have HBk := hide (HB.out.below bl)
    obtain ⟨z, q0, q1, hent⟩ := HBk.out
    by_cases hlt : k < n
    · have d1 : decide ((k : Int) < (n : Int)) = true := decide_eq_true (by omega)
      have d2 : (k : Int) < (n : Int) := by omega
      obtain ⟨bL, bM, v, u, rfl, rfl, hbL, hbM, hcL, hcM, a, m, c, a', c', rfl, rfl, hs, hs', hm⟩ := hent k hlt
      have HS := hide hs
      have HS' := hide hs'
      clear hent hs hs'
      have ew3 : IntKind.i64.wrap ((k : Int) + 1) = (k : Int) + 1 := by rw [IntKind.wrap_i64]; omega
      go_wp2_with fail
      have HC := hide (And.intro z (And.intro q0 (And.intro q1 (And.intro hcL hcM))))
      clear z q0 q1 hcL hcM
      have HKM : Hid (∀ w, Calls Tryd.prog 40 #[.int .i64 (k : Int)] w fun e w' => e = .returned (.int .u8 ((mk k : Nat) : Int)) ∧ w' = w) := fun w => mark_any k w (by omega)
      go_loopw [4] (fun i wx => ∃ q : Nat, i = .int .i64 (q : Int) ∧ q ≤ m + 1 ∧ Below wo.heap.size wo wx) (fun i _ => m + 1 - (intOf i).toNat)
      case atStart => exact ⟨0, rfl, by omega, Below.refl _ _⟩
      case round =>
        obtain ⟨q, rfl, hq, bx⟩ := hrel
        obtain ⟨z, q0, q1, hcL, hcM⟩ := HC.out
        have z' := Nat.lt_of_lt_of_le z bx.size
        have p0 := (bx.cell (p := ⟨t, o, none⟩) z).trans q0
        have p1 := (bx.cell (p := ⟨t, o + 1, none⟩) z).trans q1
        have pL := (bx.cell (p := ⟨bL, k, none⟩) hbL).trans hcL
        have pM := (bx.cell (p := ⟨bM, k, none⟩) hbM).trans hcM
        clear z q0 q1 hcL hcM
        by_cases hqm : q < m + 1
        · have d3 : decide ((q : Int) < ((m + 1 : Nat) : Int)) = true := decide_eq_true (by omega)
          have d4 : (q : Int) < (m : Int) + 1 := by omega
          have ew4 : IntKind.i64.wrap ((q : Int) + 1) = (q : Int) + 1 := by rw [IntKind.wrap_i64]; omega
          obtain ⟨b2, off2, e2, hb2, hc2⟩ := Bytes.at (Seen.below HS'.out bx) (i := q) (by simp; omega)
          subst e2
          have e3 : (List.replicate (m + 1) (mk k)).getD q 0 = mk k := by simp [List.getD, hqm]
          rw [e3] at hc2
          by_cases hqn : q < m
          · have d5 : decide ((q : Int) < (m : Int)) = true := decide_eq_true (by omega)
            have d6 : (q : Int) < (m : Int) := by omega
            obtain ⟨b1, off1, e1, hb1, hc1⟩ := Bytes.at (Seen.below HS.out bx) (i := q) (by simp; omega)
            subst e1
            have e4 : (List.replicate m (mk k)).getD q 0 = mk k := by simp [List.getD, hqn]
            rw [e4] at hc1
            clear e3 e4
            go_upto_region 7 with fail
            go_quiet (first | (go_at_call 40; exact Calls.quiet_of_same (HKM.out _)))
            go_wp2_with fail
            go_roundw
            case rel => exact ⟨q + 1, by go_num, by omega, bdrewN bx _⟩
            case measure => simp [intOf]; omega
          · have d5 : decide ((q : Int) < (m : Int)) = false := decide_eq_false (by omega)
            clear e3
            go_upto_region 7 with fail
            go_quiet (first | (go_at_call 40; exact Calls.quiet_of_same (HKM.out _)))
            go_wp2_with fail
            go_roundw
            case rel => exact ⟨q + 1, by go_num, by omega, bdrewN bx _⟩
            case measure => simp [intOf]; omega
        · have d3 : decide ((q : Int) < ((m + 1 : Nat) : Int)) = false := decide_eq_false (by omega)
          have d4 : decide ((q : Int) < (m : Int) + 1) = false := decide_eq_false (by omega)
          go_wp2_with fail
          go_roundw
          case rel => exact ⟨k + 1, by go_num, by omega, bl.trans (bx.mono bl.size)⟩
          case measure => simp [intOf]; omega
    · have d1 : decide ((k : Int) < (n : Int)) = false := decide_eq_false (by omega)
      go_wp2_with fail
      go_ret
      exact ⟨rfl, bl⟩

end Go.Proofs.YtllpfojkbeloeaaDoor
