import Derived.Test.YtlloppalagddnaaSr21
set_option linter.all false
namespace Go.Proofs.Ytlloppalagddnaa
open Go.RowKit Go.QK Quota Go.Maps Go.QM Go.QS
set_option maxRecDepth 100000
theorem Lies.front {w : World} {a : Option Addr} {cs ds : List Value} (h : Lies w a (cs ++ ds)) : Lies w a cs := by
  rcases h with h | ⟨b, off, ha, hlt, hc⟩
  · exact .inl (by simp at h; exact h.1)
  · refine .inr ⟨b, off, ha, hlt, fun i hi => ?_⟩
    rw [hc i (by simp; omega), List.getElem_append_left hi]
theorem lies_takeR {α : Type} {f : α → List Value} {w : World} {a : Option Addr} {L : List α} (h : Lies w a (rowsC f L)) (k : Nat) : Lies w a (rowsC f (L.take k)) := by
  have e : rowsC f L = rowsC f (L.take k) ++ rowsC f (L.drop k) := by unfold rowsC; rw [← List.flatMap_append, List.take_append_drop]
  rw [e] at h
  exact h.front
set_option maxHeartbeats 8000000 in
/-- 'lent': a copy with a mark behind it. -/
theorem lentR_any (xs : List RZ) (a : Option Addr) (c : Nat) (w : World) (h : Lies w a (rzs xs)) (hna : a = none → c = 0 ∧ xs.length = 0) (hl : (xs.length + 1) * 168 ≤ 140737488355328) :
    Calls Try.prog 10 #[.slice a xs.length c] w fun e w' => ∃ g c', e = .returned (.slice (some ⟨g, 0, none⟩) xs.length c') ∧ xs.length + 1 ≤ c' ∧ GRow w' w.heap.size 71 17 (.slice (some ⟨g, 0, none⟩) (xs.length + 1) c') (xs.length + 1) (rzs (xs ++ [mkZ])) ∧ Below w.heap.size w w' := by
  obtain ⟨N, hN⟩ : ∃ n, n = xs.length := ⟨_, rfl⟩
  have hlen : (rzs xs).length = N * 17 := by rw [rzs_len, hN]
  rw [← hN] at hl hna ⊢
  have HX := hide h
  have HA := hide hna
  clear hN h hna
  go_enter Try.func10, Try.ntmps10
  go_upto_region 3 with (at_builtin; refine wpList_appW Try.underlying22 info71 rfl (by decide) (by decide) rfl (.tmp 4) (.tmp 5) rfl w.heap.size (.slice none 0 0) 0 [] rfl (World.ownsRow_nil _ _ _ _) a N c (rzs xs) rfl hlen HX.out (rzs_one xs) HA.out (by omega) (Nat.le_refl _) ?_; intro v5 w5 q1 q2 q3; rw [Nat.zero_add, List.nil_append] at q1; obtain ⟨a1, c1, e1, -⟩ := GRow.lies q1; subst e1; have b5 : Below w.heap.size w w5 := (Below.refl _ _).grown q2 (Nat.le_refl _) (by nofun))
  have G5 := hide (GRow.below q1 (alloc_below w5 (.cells (rzA mkZ) 71)))
  have B5 := hide (b5.trans ((alloc_below w5 (.cells (rzA mkZ) 71)).mono b5.size))
  clear q1 q2 q3 b5
  go_upto_region 4 with (first | refine wpList_b22 (r := mkZ) rfl ?_ | (at_builtin; refine wpList_appW Try.underlying22 info71 rfl (by decide) (by decide) rfl (.tmp 7) (.tmp 9) rfl w.heap.size (.slice a1 N c1) N (rzs xs) rfl G5.out (some ⟨w5.heap.size, 0, none⟩) 1 1 (rzs [mkZ]) rfl rfl (lies_rz w5 mkZ) (rzs_one [mkZ]) nofun (by omega) B5.out.size ?_; intro v6 w6 q1 q2 q3; obtain ⟨g, c2, e1, hc2⟩ := grow_open q1 (Nat.succ_pos _); subst e1; have b6 : Below w.heap.size w w6 := B5.out.trans ((grown_keep q2).below B5.out.size (fun z hz e => by have := (World.ownsRow.lt G5.out z e).1; omega))))
  rw [← rzs_app] at q1
  have G6 := hide q1
  have B6 := hide b6
  have s1 := fun wq => slice22 (a := some ⟨g, 0, none⟩) (n := N + 1) (cap := c2) N wq (by omega) nofun
  clear q1 q2 q3 b6
  go_wp2_with fail
  go_ret
  exact ⟨g, c2, rfl, hc2, G6.out, B6.out⟩
theorem tmod_mod (k n : Int) (h0 : 0 < n) : (0 ≤ k.tmod n → k.tmod n = k % n) ∧ (k.tmod n < 0 → k.tmod n + n = k % n) := by
  have e : k.tmod n % n = k % n := by
    have q := Int.mul_tdiv_add_tmod k n
    have q2 : k % n = (n * k.tdiv n + k.tmod n) % n := by rw [q]
    rw [q2, Int.add_emod, Int.mul_emod_right, Int.zero_add, Int.emod_emod_of_dvd _ (Int.dvd_refl n)]
  have h1 := Int.tmod_lt_of_pos k h0
  have h2 := Int.lt_tmod_of_pos k h0
  refine ⟨fun h => ?_, fun h => ?_⟩
  · rw [← e]; exact (Int.emod_eq_of_lt h h1).symm
  · rw [← e, ← Int.add_emod_right]; exact (Int.emod_eq_of_lt (by omega) (by omega)).symm
set_option maxHeartbeats 4000000 in
theorem modulo_any (k n : Int) (w : World) (h0 : 0 < n) (h1 : n ≤ 4611686018427387904) : Calls Try.prog 8 #[.int .i64 k, .int .i64 n] w fun r w' => r = .returned (.int .i64 (k % n)) ∧ Below w.heap.size w w' := by
  have hn : n ≠ 0 := by omega
  have hd : decide (n = 0) = false := by simpa using hn
  have hm := tmod_mod k n h0
  have hl := Int.lt_tmod_of_pos k h0
  go_enter Try.func8, Try.ntmps8
  go_wp2_with fail
  · go_ret
    exact ⟨rfl, Below.refl _ _⟩
  · rename_i q
    have e := hm.1 q
    go_ret
    refine ⟨?_, Below.refl _ _⟩
    show Ending.returned (.int .i64 (k.tmod n)) = _
    rw [e]
set_option maxHeartbeats 4000000 in
theorem holdings_true (l : List Hn) (a b : Option Addr) (c d : Nat) (w : World) (h1 : Lies w a (hns l)) (h2 : Lies w b (hns l)) (hl : l.length ≤ 140737488355328) :
    Calls Try.prog 11 #[.slice a l.length c, .slice b l.length d] w fun e w' => e = .returned (.bool true) ∧ Below w.heap.size w w' := by
  have H1 := hide h1
  have H2 := hide h2
  clear h1 h2
  go_enter Try.func11, Try.ntmps11
  go_wp2_with fail
  go_loopw [5] (fun i wr => ∃ k : Nat, k ≤ l.length ∧ i = .int .i64 k ∧ Below w.heap.size w wr) (fun i _ => l.length - (intOf i).toNat)
  case atStart => exact ⟨0, Nat.zero_le _, rfl, Below.refl _ _⟩
  case round =>
    obtain ⟨k, hk, rfl, hb⟩ := hrel
    by_cases hlt : k < l.length
    · obtain ⟨ab, ao, e1, hab, p0, p1, p2⟩ := hn_at (H1.out.below hb) k hlt
      obtain ⟨bb, bo, e2, hbb, q0, q1, q2⟩ := hn_at (H2.out.below hb) k hlt
      subst e1
      subst e2
      generalize l[k] = x at *
      have HB := hide hb
      clear hb
      have e4 : decide ((k : Int) < (l.length : Int)) = true := decide_eq_true (by omega)
      go_upto_region 6 with fail
      go_quiet (fail)
      go_wp2_with fail
      go_roundw
      case rel => exact ⟨k + 1, hlt, by go_num, below_drewN HB.out _⟩
      case measure => simp [intOf]; omega
    · have hek : k = l.length := by omega
      subst hek
      have HB := hide hb
      clear hb
      go_wp2_with fail
      go_ret
      exact ⟨rfl, HB.out⟩
set_option maxHeartbeats 4000000 in
theorem counters_true (l : List Cn) (a b : Option Addr) (c d : Nat) (w : World) (h1 : Lies w a (cns l)) (h2 : Lies w b (cns l)) (hl : l.length ≤ 140737488355328) :
    Calls Try.prog 16 #[.slice a l.length c, .slice b l.length d] w fun e w' => e = .returned (.bool true) ∧ Below w.heap.size w w' := by
  have H1 := hide h1
  have H2 := hide h2
  clear h1 h2
  go_enter Try.func16, Try.ntmps16
  go_wp2_with fail
  go_loopw [5] (fun i wr => ∃ k : Nat, k ≤ l.length ∧ i = .int .i64 k ∧ Below w.heap.size w wr) (fun i _ => l.length - (intOf i).toNat)
  case atStart => exact ⟨0, Nat.zero_le _, rfl, Below.refl _ _⟩
  case round =>
    obtain ⟨k, hk, rfl, hb⟩ := hrel
    by_cases hlt : k < l.length
    · obtain ⟨ab, ao, e1, hab, p0, p1, p2, p3, p4⟩ := cn_at (H1.out.below hb) k hlt
      obtain ⟨bb, bo, e2, hbb, q0, q1, q2, q3, q4⟩ := cn_at (H2.out.below hb) k hlt
      subst e1
      subst e2
      generalize l[k] = x at *
      have HB := hide hb
      clear hb
      have e4 : decide ((k : Int) < (l.length : Int)) = true := decide_eq_true (by omega)
      go_upto_region 6 with fail
      go_quiet (fail)
      go_wp2_with fail
      go_roundw
      case rel => exact ⟨k + 1, hlt, by go_num, below_drewN HB.out _⟩
      case measure => simp [intOf]; omega
    · have hek : k = l.length := by omega
      subst hek
      have HB := hide hb
      clear hb
      go_wp2_with fail
      go_ret
      exact ⟨rfl, HB.out⟩
end Go.Proofs.Ytlloppalagddnaa
