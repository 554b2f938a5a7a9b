import Derived.Test.YtimakfnlcgedkaaRg8
namespace Go.Proofs.Ytimakfnlcgedkaa
open Go.RowKit Go.QK Go.Maps Go.QM Go.QR
set_option maxRecDepth 100000
theorem mod_in (n m : Int) (hm : 0 < m) (hb : m ≤ 1000000) : wrap64 (Int.tmod n m + m) = Int.tmod n m + m ∧ 0 ≤ Int.tmod (Int.tmod n m + m) m ∧ Int.tmod (Int.tmod n m + m) m < m := by
  have h1 := Int.tmod_lt_of_pos n hm
  have h2 := Int.lt_tmod_of_pos n hm
  generalize Int.tmod n m = x at *
  refine ⟨wrapI (by unfold I64; omega), ?_, ?_⟩
  · exact Int.tmod_nonneg _ (by omega)
  · exact Int.tmod_lt_of_pos _ hm
set_option maxHeartbeats 1000000 in
theorem rest_any (n : Int) (lo hi : Nat) (w : World) (h1 : lo ≤ hi) (h2 : hi ≤ 100000) : Calls Try.prog 8 #[.int .i64 n, .int .i64 (lo : Int), .int .i64 (hi : Int)] w fun e w' => ∃ k : Nat, e = .returned (.int .i64 (k : Int)) ∧ lo ≤ k ∧ k ≤ hi ∧ w' = w := by
  obtain ⟨m, hm⟩ : ∃ m : Int, m = (hi : Int) - lo + 1 := ⟨_, rfl⟩
  have M := mod_in n m (by omega) (by omega)
  have Z := hide M
  have hw : wrap64 ((lo : Int) + Int.tmod (Int.tmod n m + m) m) = (lo : Int) + Int.tmod (Int.tmod n m + m) m := wrapI (by unfold I64; omega)
  have M1 := hide M.1
  have HW := hide hw
  have HM := hide hm
  clear M hw
  go_enter Try.func8, Try.ntmps8
  go_upto_region 2 with fail
  rw [← HM.out]
  have hm0 : 0 < m := by omega
  have hm1 : m ≤ 1000000 := by omega
  have hmz : (m == 0) = false := by simp; omega
  clear hm
  go_wp2
  rw [M1.out, HW.out]
  go_ret
  have z := Z.out.2
  generalize (n.tmod m + m).tmod m = x at *
  have e := HM.out
  refine ⟨lo + x.toNat, ret_int (by show (lo : Int) + x = _; omega), by omega, by omega, rfl⟩

/-! RegistryFull: one counter behind the other, so many of one group. -/
def fullR (P each n : Nat) : Reg := ⟨P, (List.range n).map (fun i => (((i + 1 : Nat) : Int), ((i / each + 1 : Nat) : Int))), (List.range (needs n each)).map (fun i => ((i + 1 : Nat) : Int))⟩
theorem place_isSome {l : List Int} {n : Int} : (place l n).isSome = true ↔ n ∈ l := by
  constructor
  · intro h
    exact Classical.not_not.1 (fun q => by rw [place_none.2 q] at h; cases h)
  · intro h
    obtain ⟨k, hk⟩ := place_mem h
    rw [hk]; rfl
theorem needs_succ (n each : Nat) (he : 1 ≤ each) : needs (n + 1) each = n / each + 1 := by
  unfold needs
  have : n + 1 + each - 1 = n + each := by omega
  rw [this, Nat.add_div_right _ (by omega)]
theorem needs_near (n each : Nat) (he : 1 ≤ each) : n / each ≤ needs n each ∧ needs n each ≤ n / each + 1 := by
  unfold needs
  constructor
  · exact Nat.div_le_div_right (by omega)
  · have : (n + each - 1) / each ≤ (n + each) / each := Nat.div_le_div_right (by omega)
    rwa [Nat.add_div_right _ (by omega)] at this
theorem mem_ups (k : Nat) (x : Nat) : (((x + 1 : Nat) : Int) ∈ (List.range k).map (fun i => ((i + 1 : Nat) : Int))) ↔ x < k := by
  simp only [List.mem_map, List.mem_range]
  constructor
  · rintro ⟨a, h1, h2⟩; omega
  · intro h; exact ⟨x, h, rfl⟩
theorem full_nums (P each n : Nat) : (fullR P each n).nums = (List.range n).map (fun i => ((i + 1 : Nat) : Int)) := by
  unfold Reg.nums fullR
  simp [Function.comp_def]
theorem full_in (P each n : Nat) (q : n / each < needs n each) : (place (fullR P each n).G ((n / each + 1 : Nat) : Int)).isSome = true := place_isSome.2 ((mem_ups _ _).2 q)
theorem full_out (P each n : Nat) (q : ¬ n / each < needs n each) : ¬ (place (fullR P each n).G ((n / each + 1 : Nat) : Int)).isSome = true := fun e => q ((mem_ups _ _).1 (place_isSome.1 e))
theorem full_more (P each n : Nat) (he : 1 ≤ each) : (fullR P each n).gMore ((n / each + 1 : Nat) : Int) = n / each + 1 := by
  unfold Reg.gMore
  have h := needs_near n each he
  by_cases q : n / each < needs n each
  · rw [if_pos (full_in P each n q)]
    simp [fullR]; omega
  · rw [if_neg (full_out P each n q)]
    simp [fullR]; omega
theorem full_next (P each n : Nat) (he : 1 ≤ each) : (fullR P each n).more ((n + 1 : Nat) : Int) ((n / each + 1 : Nat) : Int) = fullR P each (n + 1) := by
  have h := needs_near n each he
  have e := needs_succ n each he
  unfold Reg.more
  have e1 : (fullR P each n).C ++ [(((n + 1 : Nat) : Int), ((n / each + 1 : Nat) : Int))] = (fullR P each (n + 1)).C := by
    unfold fullR
    simp [List.range_succ]
  have e2 : (if (place (fullR P each n).G ((n / each + 1 : Nat) : Int)).isSome = true then (fullR P each n).G else (fullR P each n).G ++ [((n / each + 1 : Nat) : Int)]) = (fullR P each (n + 1)).G := by
    by_cases q : n / each < needs n each
    · rw [if_pos (full_in P each n q)]
      unfold fullR
      have : needs n each = needs (n + 1) each := by omega
      rw [this]
    · rw [if_neg (full_out P each n q)]
      have hk : needs (n + 1) each = needs n each + 1 := by omega
      have hq : n / each = needs n each := by omega
      show (List.range (needs n each)).map (fun i => ((i + 1 : Nat) : Int)) ++ [((n / each + 1 : Nat) : Int)] = (List.range (needs (n + 1) each)).map (fun i => ((i + 1 : Nat) : Int))
      rw [hk, List.range_succ, List.map_append, hq]
      rfl
  rw [e1, e2]
  rfl
theorem full_plan (P each n : Nat) (he : 1 ≤ each) (hn : n < 500) : (fullR P each n).planE ((n + 1 : Nat) : Int) ((n / each + 1 : Nat) : Int) = if n / 31 + 1 + (n / each + 1 + 83) / 84 ≤ P then 0 else 6 := by
  have hd : n / each ≤ n := Nat.div_le_self _ _
  unfold Reg.planE
  have h1 : inR ((n + 1 : Nat) : Int) ((n / each + 1 : Nat) : Int) = true := by
    generalize n / each = q at *
    unfold inR; simp; omega
  have h2 : place (fullR P each n).nums ((n + 1 : Nat) : Int) = none := by
    rw [place_none, full_nums, mem_ups]
    omega
  have h3 : (fullR P each n).room ((n / each + 1 : Nat) : Int) = decide (n / 31 + 1 + (n / each + 1 + 83) / 84 ≤ P) := by
    unfold Reg.room
    rw [full_more P each n he]
    have e1 : (fullR P each n).C.length = n := by simp [fullR]
    have e2 : (fullR P each n).P = P := rfl
    rw [e1, e2, needs_succ n 31 (by omega)]
    unfold needs
    rw [decide_eq_decide]
    have : n / each + 1 + 84 - 1 = n / each + 1 + 83 := by generalize n / each = q; omega
    rw [this]
  rw [if_neg (by rw [h1]; simp), if_neg (by rw [h2]; simp), h3]
  simp only [decide_eq_true_eq]
theorem full_zero (P each : Nat) (he : 1 ≤ each) : fullR P each 0 = ⟨P, [], []⟩ := by
  unfold fullR needs
  have : (0 + each - 1) / each = 0 := Nat.div_eq_of_lt (by omega)
  rw [this]
  rfl
theorem full_take {P each n : Nat} (he : 1 ≤ each) {a b : SlotN} (hz : (fullR P each n).planE ((n + 1 : Nat) : Int) ((n / each + 1 : Nat) : Int) = 0) (ha : a = (fullR P each n).planW ((n + 1 : Nat) : Int) ((n / each + 1 : Nat) : Int)) (hb : b = (fullR P each n).planS ((n + 1 : Nat) : Int) ((n / each + 1 : Nat) : Int)) :
    (fullR P each n).takeE ((n + 1 : Nat) : Int) ((n / each + 1 : Nat) : Int) a b = 0 ∧ (fullR P each n).take ((n + 1 : Nat) : Int) ((n / each + 1 : Nat) : Int) a b = fullR P each (n + 1) := by
  have e1 : (fullR P each n).takeE ((n + 1 : Nat) : Int) ((n / each + 1 : Nat) : Int) a b = 0 := by unfold Reg.takeE; rw [if_pos hz, if_pos ⟨ha, hb⟩]
  exact ⟨e1, by unfold Reg.take; rw [if_pos e1, full_next P each n he]⟩
theorem takeE_no {r : Reg} {c d : Int} {a b : SlotN} (hz : r.planE c d ≠ 0) : r.takeE c d a b = r.planE c d ∧ r.take c d a b = r := by
  have e1 : r.takeE c d a b = r.planE c d := by unfold Reg.takeE; rw [if_neg hz]
  exact ⟨e1, by unfold Reg.take; rw [if_neg (by rw [e1]; exact hz)]⟩
theorem takeE_yes {r : Reg} {c d : Int} {a b : SlotN} (hz : r.planE c d = 0) (ha : a = r.planW c d) (hb : b = r.planS c d) : r.takeE c d a b = 0 ∧ r.take c d a b = r.more c d := by
  have e1 : r.takeE c d a b = 0 := by unfold Reg.takeE; rw [if_pos hz, if_pos ⟨ha, hb⟩]
  exact ⟨e1, by unfold Reg.take; rw [if_pos e1]⟩
end Go.Proofs.Ytimakfnlcgedkaa
