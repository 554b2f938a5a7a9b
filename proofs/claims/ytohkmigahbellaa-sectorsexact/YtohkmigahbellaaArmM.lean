import Derived.Test.YtohkmigahbellaaDisk
namespace Go.QK

/-! An armed device, and one that isn't. -/
def armed (k : Dev) (m : Nat) (l : Loss) : Dev := { k with left := m, loss := some l }
structure ArmR (l : Loss) (n K i : Nat) (g k : Dev) : Prop where
  left : k.left = 0
  loss : k.loss = none
  up : k.down = false
  pend : k.pend.length ≤ i
  calls : k.calls ≤ i
  size : k.n = n
  rel : (i < K ∧ g = armed k (K - i) l ∧ k.calls = i) ∨ (K ≤ i ∧ g = { k.fall l with calls := K })
theorem ArmR.gpend {l : Loss} {n K i : Nat} {g k : Dev} (h : ArmR l n K i g k) : g.pend.length ≤ i := by
  rcases h.rel with ⟨_, rfl, _⟩ | ⟨_, rfl⟩
  · exact h.pend
  · exact Nat.zero_le _
theorem ArmR.gcalls {l : Loss} {n K i : Nat} {g k : Dev} (h : ArmR l n K i g k) : g.calls ≤ i := by
  rcases h.rel with ⟨_, rfl, _⟩ | ⟨q, rfl⟩
  · exact h.calls
  · exact q
theorem ArmR.gdown {l : Loss} {n K i : Nat} {g k : Dev} (h : ArmR l n K i g k) : g.down = decide (K ≤ i) := by
  rcases h.rel with ⟨q, rfl, _⟩ | ⟨q, rfl⟩
  · rw [decide_eq_false (by omega)]; exact h.up
  · rw [decide_eq_true q]; rfl
/-- The call that is over: number i + 1. What both answer. -/
theorem ArmR.sync {l : Loss} {n K i : Nat} {g k : Dev} (h : ArmR l n K i g k) (ok : k.Ok) :
    g.syncE = (if i + 1 < K then 0 else 40) ∧ (i + 1 < K → k.syncE = 0 ∧ ArmR l n K (i + 1) g.sync k.sync) ∧ (¬ i + 1 < K → ArmR l n K (i + 1) g.sync k) := by
  obtain ⟨h1, h2, h3, h4, h5, h6, h7⟩ := h
  rcases h7 with ⟨q, rfl, q2⟩ | ⟨q, rfl⟩
  · by_cases r : i + 1 < K
    · refine ⟨?_, fun _ => ⟨?_, ?_⟩, fun x => (x r).elim⟩
      · simp [Dev.syncE, armed, h3, r]; omega
      · simp [Dev.syncE, h3, h1]
      · have e1 : k.sync = k.strike.settle := by simp [Dev.sync, h3, h1]
        have e2 : (armed k (K - i) l).sync = (armed k (K - i) l).strike.settle := by
          unfold Dev.sync
          rw [if_neg (by simp [armed, h3]), if_neg (by simp [armed]; omega)]
        rw [e1, e2]
        refine ⟨by simp [Dev.settle, Dev.strike, h1], h2, h3, by simp [Dev.settle], by simp [Dev.settle, Dev.strike]; omega, ?_, .inl ⟨r, ?_, by simp [Dev.settle, Dev.strike, q2]⟩⟩
        · rw [← h6]
          show (syncAll k.pend k.img).length / 512 = _
          rw [(syncAll_ok k.pend k.img ok.pend rfl ok.bytes).1]
          rfl
        · simp [armed, Dev.settle, Dev.strike, h1]; omega
    · have hK : K = i + 1 := by omega
      subst hK
      refine ⟨?_, fun x => (r x).elim, fun _ => ?_⟩
      · simp [Dev.syncE, armed]
      · have e : (armed k (i + 1 - i) l).sync = (armed k (i + 1 - i) l).strike.fall l := by
          unfold Dev.sync
          rw [if_neg (by simp [armed, h3]), if_pos (by simp [armed])]
          simp [Dev.crashes, Dev.strike, armed]
        rw [e]
        exact ⟨h1, h2, h3, by omega, by omega, h6, .inr ⟨Nat.le_refl _, by simp [Dev.fall, Dev.strike, armed, q2]⟩⟩
  · have r : ¬ i + 1 < K := by omega
    refine ⟨by simp [Dev.syncE, Dev.fall, r], fun x => (r x).elim, fun _ => ?_⟩
    have e : ({ k.fall l with calls := K } : Dev).sync = { k.fall l with calls := K } := by simp [Dev.sync, Dev.fall]
    rw [e]
    exact ⟨h1, h2, h3, by omega, by omega, h6, .inr ⟨by omega, rfl⟩⟩
theorem reach_of {k : Dev} {s : Nat} (h : k.down = false) (hs : s < k.n) : k.reach (s : Int) = 0 := by
  unfold Dev.reach
  rw [if_neg (by rw [h]; decide), if_neg (by omega)]
theorem ArmR.write {l : Loss} {n K i : Nat} {g k : Dev} (h : ArmR l n K i g k) (s : Nat) (hs : s < n) (b : List Nat) (hb : b.length = 512) :
    g.writeE (s : Int) 512 = (if i + 1 < K then 0 else 40) ∧ (i + 1 ≤ K → k.writeE (s : Int) 512 = 0 ∧ ArmR l n K (i + 1) (g.write (s : Int) b) (k.write (s : Int) b)) ∧ (¬ i + 1 ≤ K → ArmR l n K (i + 1) (g.write (s : Int) b) k) := by
  obtain ⟨h1, h2, h3, h4, h5, h6, h7⟩ := h
  have rk : k.reach (s : Int) = 0 := reach_of h3 (by omega)
  have ek : k.write (s : Int) b = (k.push s b).strike := by
    unfold Dev.write
    rw [if_neg (by omega), if_neg (by omega)]
    simp
  rcases h7 with ⟨q, rfl, q2⟩ | ⟨q, rfl⟩
  · have rg : (armed k (K - i) l).reach (s : Int) = 0 := rk
    by_cases r : i + 1 < K
    · have eg : (armed k (K - i) l).write (s : Int) b = ((armed k (K - i) l).push s b).strike := by
        unfold Dev.write
        rw [if_neg (by omega), if_neg (by simp [armed]; omega)]
        simp
      refine ⟨?_, fun _ => ⟨?_, ?_⟩, fun x => by omega⟩
      · unfold Dev.writeE
        rw [if_neg (by omega), if_neg (by omega), if_neg (by simp [armed]; omega), if_pos r]
      · unfold Dev.writeE
        rw [if_neg (by omega), if_neg (by omega), if_neg (by omega)]
      · rw [eg, ek]
        exact ⟨by simp [Dev.push, Dev.strike, h1], h2, h3, by simp [Dev.push, Dev.strike]; omega, by simp [Dev.push, Dev.strike]; omega, h6, .inl ⟨r, by simp [armed, Dev.push, Dev.strike]; omega, by simp [Dev.push, Dev.strike, q2]⟩⟩
    · have hK : K = i + 1 := by omega
      subst hK
      have eg : (armed k (i + 1 - i) l).write (s : Int) b = ((armed k (i + 1 - i) l).push s b).strike.fall l := by
        unfold Dev.write
        rw [if_neg (by omega), if_pos (by simp [armed])]
        simp [Dev.crashes, Dev.strike, Dev.push, armed]
      refine ⟨?_, fun _ => ⟨?_, ?_⟩, fun x => by omega⟩
      · unfold Dev.writeE
        rw [if_neg (by omega), if_neg (by omega), if_pos (by simp [armed]), if_neg r]
      · unfold Dev.writeE
        rw [if_neg (by omega), if_neg (by omega), if_neg (by omega)]
      · rw [eg, ek]
        exact ⟨by simp [Dev.push, Dev.strike, h1], h2, h3, by simp [Dev.push, Dev.strike]; omega, by simp [Dev.push, Dev.strike]; omega, h6, .inr ⟨Nat.le_refl _, by simp [armed, Dev.push, Dev.strike, Dev.fall, q2]⟩⟩
  · have rg : ({ k.fall l with calls := K } : Dev).reach (s : Int) = 40 := by simp [Dev.reach, Dev.fall]
    have eg : ({ k.fall l with calls := K } : Dev).write (s : Int) b = { k.fall l with calls := K } := by
      unfold Dev.write
      rw [if_pos (by omega)]
    refine ⟨?_, fun x => by omega, fun _ => ?_⟩
    · unfold Dev.writeE
      rw [if_pos (by omega), rg, if_neg (by omega)]
    · rw [eg]
      exact ⟨h1, h2, h3, by omega, by omega, h6, .inr ⟨by omega, rfl⟩⟩
end Go.QK
