import Derived.Test.YthaiagalndcndaaPo3
namespace Go.Proofs.Ythaiagalndcndaa
open Go.RowKit Go.QK Go.Maps Go.QM Go.QP
set_option maxRecDepth 100000
theorem flat_snoc {LL : List Ent} {k : Nat} (hk : k < LL.length) : flat (LL.take (k + 1)) = flat (LL.take k) ++ LL[k].l := by
  rw [List.take_succ_eq_append_getElem hk]
  unfold flat
  rw [List.flatMap_append]
  simp
theorem flat_len {LL : List Ent} (h : ∀ x ∈ LL, x.l.length ≤ 100000) (k : Nat) : (flat (LL.take k)).length ≤ k * 100000 := by
  induction k with
  | zero => simp [flat]
  | succ k ih =>
    rw [Nat.add_mul, Nat.one_mul]
    generalize k * 100000 = z at *
    by_cases hk : k < LL.length
    · rw [flat_snoc hk, List.length_append]
      have := h LL[k] (List.getElem_mem hk)
      omega
    · rw [List.take_of_length_le (by omega)]
      rw [List.take_of_length_le (by omega)] at ih
      omega
set_option maxHeartbeats 1000000 in
theorem concat_any (LL : List Ent) (o : Option Addr) (c : Nat) (w : World) (hL : Lies w o (LL.map entV)) (hE : ∀ x ∈ LL, EntOk w x) (hn : LL.length ≤ 10) :
    Calls Try.prog 27 #[.slice o LL.length c] w fun e w' => ∃ v, e = .returned v ∧ DRow w' w.heap.size v (flat LL) ∧ Below w.heap.size w w' := by
  have HL := hide hL
  have HE := hide hE
  have HF := hide (flat_len (fun x hx => (hE x hx).2.1))
  clear hL hE
  go_enter Try.func27, Try.ntmps27
  go_wp2
  go_loopw [3, 11] (fun s i wr => ∃ k n : Nat, i = .int .i64 (k : Int) ∧ k ≤ LL.length ∧ s = .int .i64 (n : Int) ∧ n = (flat (LL.take k)).length ∧ w = wr) (fun _ i _ => LL.length - (intOf i).toNat)
  case atStart => exact ⟨0, 0, rfl, Nat.zero_le _, rfl, rfl, rfl⟩
  case round =>
    obtain ⟨k, n, rfl, hk, rfl, hnl, rfl⟩ := hrel
    have hb := HF.out k
    rw [← hnl] at hb
    have HN := hide hnl
    clear hnl
    by_cases hlt : k < LL.length
    · obtain ⟨b, off, rfl, hbl, hc⟩ := ent_at HL.out hlt
      have hx := (HE.out LL[k] (List.getElem_mem hlt)).2.1
      have hs := hide (flat_snoc hlt)
      generalize LL[k] = x at *
      obtain ⟨a, cx, l⟩ := x
      simp only [entV] at hc hx
      obtain ⟨q, hq⟩ : ∃ q, q = l.length := ⟨_, rfl⟩
      rw [← hq] at hc hx
      have HQ := hide hq
      clear hq
      go_wp2
      go_roundw
      case rel => exact ⟨k + 1, n + q, by go_num, by omega, by go_num, by rw [hs.out, List.length_append, HN.out, HQ.out], (by first | rfl | trivial)⟩
      case measure => simp [intOf]; omega
    · obtain rfl : k = LL.length := by omega
      have KG := grow_any n w (by omega)
      clear HN
      go_wp2_with fail
      refine KG.mono ?_
      rintro e w2 ⟨v0, rfl, r0, b0⟩
      have R0 := hide r0
      have B0 := hide b0
      clear r0 b0 KG
      go_wp2_with fail
      go_loopw [6, 27] (fun v i ws => ∃ k : Nat, i = .int .i64 (k : Int) ∧ k ≤ LL.length ∧ DRow ws w.heap.size v (flat (LL.take k)) ∧ Below w.heap.size w ws) (fun _ i _ => LL.length - (intOf i).toNat)
      case atStart => exact ⟨0, rfl, Nat.zero_le _, by simpa [flat] using R0.out, B0.out⟩
      case round =>
        obtain ⟨j, rfl, hj, hr, hb⟩ := hrel
        have HB := hide hb
        have hfl := HF.out j
        obtain ⟨nj, hnj⟩ : ∃ nj, nj = (flat (LL.take j)).length := ⟨_, rfl⟩
        have RJ := hide (show GRow wr w.heap.size 28 2 u6 nj (drs (flat (LL.take j))) by rw [hnj]; exact hr)
        rw [← hnj] at hfl
        have HNJ := hide hnj
        obtain ⟨av, cv, hv, -⟩ := GRow.lies RJ.out
        subst hv
        clear hr hb hnj R0 B0
        by_cases hjl : j < LL.length
        · obtain ⟨b, off, rfl, hbl, hc0⟩ := ent_at HL.out hjl
          have hc : wr.cell? ⟨b, off + j, none⟩ = some (entV LL[j]) := (HB.out.cell (p := ⟨b, off + j, none⟩) hbl).trans hc0
          have hx := HE.out LL[j] (List.getElem_mem hjl)
          have hs := hide (flat_snoc hjl)
          generalize LL[j] = x at *
          obtain ⟨a, cx, l⟩ := x
          have HX := hide hx
          have hx2 := hx.2.1
          simp only [entV] at hc hx2
          obtain ⟨q, hq⟩ : ∃ q, q = l.length := ⟨_, rfl⟩
          rw [← hq] at hc hx2
          have HQ := hide hq
          clear hq hx hc0
          go_wp2_with (at_builtin; refine wpList_appR Try.underlying23 info28 rfl (by decide) (by decide) rfl (.tmp _) (.tmp _) rfl w.heap.size _ nj (drs (flat (LL.take j))) rfl RJ.out a q cx (drs l) rfl (by rw [drs_len, HQ.out]) (HX.out.1.below HB.out) (drs_one _) (fun qq => by have := HX.out.2.2 qq; rw [HQ.out]; exact this) (by omega) HB.out.size ?_; intro vn w2 q1 q2 q3)
          have B2 : Below w.heap.size w w2 := HB.out.trans ((grown_keep q2).below HB.out.size (fun z hz q => by have := (World.ownsRow.lt RJ.out z q).1; omega))
          have R2 := hide (show DRow w2 w.heap.size vn (flat (LL.take (j + 1))) by
            rw [hs.out]
            show GRow w2 w.heap.size 28 2 vn (flat (LL.take j) ++ l).length (drs (flat (LL.take j) ++ l))
            rw [List.length_append, ← HNJ.out, ← HQ.out, drs_append]
            exact q1)
          go_roundw
          case rel => first | exact ⟨j + 1, by go_num, by omega, R2.out, B2⟩ | ((repeat apply Exists.intro); exact ⟨⟨j + 1, by go_num, by omega, R2.out, B2⟩, rfl⟩)
          case measure => simp [intOf]; omega
        · obtain rfl : j = LL.length := by omega
          have RF := hide (show DRow wr w.heap.size (.slice av nj cv) (flat LL) by
            show GRow wr w.heap.size 28 2 (.slice av nj cv) (flat LL).length (drs (flat LL))
            have e := HNJ.out
            have r := RJ.out
            rw [List.take_length] at e r
            rw [← e]
            exact r)
          go_wp2
          go_ret
          exact ⟨_, rfl, RF.out, HB.out⟩
end Go.Proofs.Ythaiagalndcndaa
