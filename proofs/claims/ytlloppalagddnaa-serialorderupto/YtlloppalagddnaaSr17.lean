import Derived.Test.YtlloppalagddnaaSr16
import Derived.Test.YtlloppalagddnaaSr8
set_option linter.all false
namespace Go.Proofs.Ytlloppalagddnaa
open Go.RowKit Go.QK Quota Go.Maps Go.QM Go.QS
set_option maxRecDepth 100000
/-! Counters that may start; Start. -/
theorem run_makeMapH (n : Int) (w : World) : (Instr.makeMap 83 (some (.int .i64 n))).run Try.prog w = .ok (.map (some w.heap.size)) (w.alloc (.map #[] 0)) := by
  simp [Instr.makeMap, run_underlying Try.underlying83, asInt, asIntOf, Result.andThen]
theorem stE_vals (C : Cs) (x : Cn) : stE C x = 0 ∨ stE C x = 4 ∨ stE C x = 121 ∨ stE C x = 11 ∨ stE C x = 110 := by
  unfold stE newE
  split
  · simp
  · split
    · simp
    · split
      · simp
      · split <;> simp
theorem staE_vals (C : Cs) (l : List Cn) : staE C l ≠ 10 := by
  induction l generalizing C with
  | nil => simp [staE]
  | cons x r ih =>
    unfold staE
    split
    · exact ih _
    · rcases stE_vals C x with h | h | h | h | h <;> omega
theorem staC_mem {C : Cs} {l : List Cn} : ∀ p ∈ staC C l, p ∈ C ∨ p.2 ∈ l := by
  induction l generalizing C with
  | nil => exact fun p hp => .inl hp
  | cons x r ih =>
    intro p hp
    rcases ih p hp with q | q
    · rcases mem_putM q with rfl | q
      · exact .inr (by simp)
      · exact .inl q
    · exact .inr (by simp [q])
theorem staC_up {C : Cs} (h : Up C) (l : List Cn) : Up (staC C l) := by
  induction l generalizing C with
  | nil => exact h
  | cons x r ih => exact ih (h.put _ _)
theorem staC_len (C : Cs) (l : List Cn) : (staC C l).length ≤ C.length + l.length := by
  induction l generalizing C with
  | nil => simp [staC]
  | cons x r ih =>
    have h1 := ih (putM x.id x C)
    have h2 := length_putM x.id x C
    simp only [staC, List.length_cons]
    omega
set_option maxHeartbeats 4000000 in
theorem started_bad (a : Option Addr) (cap : Nat) (l : List Cn) (w : World) (h : Lies w a (cns l)) (hok : ∀ x ∈ l, x.Ok) (hl : l.length * 40 ≤ 140737488355328) (hE : staE [] l ≠ 0) :
    Calls Try.prog 30 #[.slice a l.length cap] w fun e w' => e = .returned (.tuple #[.map none, .int .i64 (staE [] l)]) ∧ Below w.heap.size w w' := by
  have KL := load_any a cap l w h hok hl
  have h1 : (staE [] l != 0) = true := by simpa using hE
  have h2 : (staE [] l != 10) = true := by simpa using staE_vals [] l
  clear h hok hl
  generalize staE [] l = E at *
  go_enter Try.func30, Try.ntmps30
  go_wp2_with fail
  refine KL.mono ?_
  rintro r w1 ⟨⟨p, e, rfl, q1, _⟩, b1⟩
  have := q1 hE
  subst this
  have B1 := hide b1
  clear KL q1 b1
  go_wp2_with fail
  go_ret2
  exact ⟨rfl, B1.out⟩
set_option maxHeartbeats 8000000 in
theorem started_ok (a : Option Addr) (cap : Nat) (l : List Cn) (w : World) (h : Lies w a (cns l)) (hok : ∀ x ∈ l, x.Ok) (hl : l.length * 40 ≤ 140737488355328) (hE : staE [] l = 0) :
    Calls Try.prog 30 #[.slice a l.length cap] w fun e w' => ∃ m, e = .returned (.tuple #[.map (some m), .int .i64 0]) ∧ AnyAt Try.prog 3 w' m (mapC (staC [] l)) ∧ w.heap.size ≤ m ∧ Below w.heap.size w w' := by
  have KL := load_any a cap l w h hok hl
  have hmm := run_makeMapH
  have HL := hide h
  have HOK := hide hok
  have HE := hide hE
  have HHL := hide hl
  clear h hok
  go_enter Try.func30, Try.ntmps30
  go_wp2_with fail
  refine KL.mono ?_
  rintro r w1 ⟨⟨p, e, rfl, _, q2⟩, b1⟩
  rcases q2 hE with rfl | rfl
  all_goals
    clear q2
    have B1 := hide b1
    have L1 := hide (HL.out.below b1)
    clear KL b1 hE
    go_wp2_with fail
    generalize hN : w1.heap.size = M at *
    have HM := hide hN
    have A0 := hide (show AnyAt Try.prog 3 (w1.alloc (.map #[] 0)) M (mapC []) by rw [← hN]; exact AnyAt.made Try.prog 3 w1)
    have B2 := hide (B1.out.alloc B1.out.size (.map #[] 0))
    have L2 := hide (L1.out.below (alloc_below w1 (.map #[] 0)))
    have lM : w.heap.size ≤ M := by rw [← hN]; exact B1.out.size
    clear hN
    go_loopw [26] (fun i wr => ∃ k : Nat, k ≤ l.length ∧ i = .int .i64 k ∧ AnyAt Try.prog 3 wr M (mapC (staC [] (l.take k))) ∧ Below w.heap.size w wr) (fun i _ => l.length - (intOf i).toNat)
    case atStart => exact ⟨0, Nat.zero_le _, rfl, A0.out, B2.out⟩
    case round =>
      obtain ⟨k, hk, rfl, hm, hb⟩ := hrel
      have lw := HL.out.below hb
      by_cases hlt : k < l.length
      · have HCC := hide (staC_take (C := []) k hlt)
        have hxo := HOK.out _ (List.getElem_mem hlt)
        obtain ⟨ab, ao, e2, hbl, c0, c1, c2, c3, c4⟩ := cn_at lw k hlt
        subst e2
        have hup : Up (staC [] (l.take k)) := staC_up List.Pairwise.nil _
        have hle : (staC [] (l.take k)).length ≤ k := by have := staC_len [] (l.take k); rw [List.length_take] at this; simp at this; omega
        generalize staC [] (l.take k) = C at *
        generalize l[k] = x at *
        obtain ⟨xi, xg, xl, xh, xv⟩ := x
        simp only at c0 c1 c2 c3 c4 hxo
        have xi64 : I64 xi := hxo.2.2.2.2
        have bA := alloc_below wr (.cells #[.int .i64 xi, .int .i64 xg, .int .i64 xl, .int .i64 xh, .int .i64 xv] 65)
        have lmw : M < wr.heap.size := World.ownsMap.lt hm
        obtain ⟨x5, hu5, cm5, hg5⟩ := any_upd lawK Try.underlying83 (anyAt_below hm bA) ((up_map (fun (x : Cn) => cnV x)).2 hup) (keyI xi64) (by rw [List.length_map]; have := HHL.out; omega) (.agg #[.int .i64 xi, .int .i64 xg, .int .i64 xl, .int .i64 xh, .int .i64 xv])
        have k45 := grown_m hg5
        have CM := hide (show AnyAt Try.prog 3 x5 M (mapC (putM xi (⟨xi, xg, xl, xh, xv⟩ : Cn) C)) by
          have e10 := putM_map (fun (x : Cn) => cnV x) xi (⟨xi, xg, xl, xh, xv⟩ : Cn) C
          show AnyAt Try.prog 3 x5 M ((putM xi (⟨xi, xg, xl, xh, xv⟩ : Cn) C).map (fun p => (p.1, cnV p.2)))
          rw [e10]
          exact cm5)
        have B5 := hide ((hb.trans (bA.mono hb.size)).trans (k45.below (B := w.heap.size) (by have := hb.size; have := bA.size; omega) (fun z hz q => by omega)))
        clear hm hb lw bA cm5 hg5 k45 A0 B2 L2 L1
        go_wp2_with fail
        go_roundw
        case rel => exact ⟨k + 1, hlt, by go_num, by rw [HCC.out]; exact CM.out, B5.out⟩
        case measure => simp [intOf]; omega
      · have hek : k = l.length := by omega
        subst hek
        rw [List.take_length] at hm
        have A3 := hide hm
        have B3 := hide hb
        clear hm hb lw A0 B2 L2 L1
        go_wp2_with fail
        go_ret2
        exact ⟨M, rfl, A3.out, lM, B3.out⟩
end Go.Proofs.Ytlloppalagddnaa
