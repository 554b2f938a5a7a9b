import Derived.Test.YtakjpljpdlhicaaDoorPg3
namespace Go.Proofs.YtakjpljpdlhicaaDoor
open Go.RowKit Go.QK Go.Pg
set_option maxRecDepth 100000

theorem takeN_take_succ : (ss l : List Nat) → (k : Nat) → k < ss.length → takeN (ss.take (k + 1)) l = takeN (ss.take k) l ++ [QK.fromB ((l.drop (total (ss.take k))).take (ss.getD k 0))]
  | [], _, k, h => by simp at h
  | s :: ss, l, 0, _ => by simp [takeN, total]
  | s :: ss, l, k + 1, h => by
    have := takeN_take_succ ss (l.drop s) k (by simpa using h)
    simp only [List.take_succ_cons, takeN, total, List.getD_cons_succ, List.cons_append] at *
    rw [this, List.drop_drop]
theorem info63 : (Tryd.prog.info? 63).map (fun i => (i.zero, i.size, i.bytes)) = some (some (.int .u64 0), 1, 8) := by kernel_rfl
abbrev OwnU (w : World) (B : Nat) (v : Value) (l : List Nat) : Prop := Owns .u64 63 w B v (ints l)
theorem pushU {w : World} {ops : Array Oper} {rest : List Oper} {o : Oper} {a : Act} {Q : Exit → Act → World → Prop} (hgd : o.guard = none) (s x : Operand)
    (ho : o.op = .call { callee := .builtin .append, args := #[s, x], argTypes := #[86, 86] })
    (B : Nat) (v : Value) (l : List Nat) (hs : a.eval s = v) (ad : Addr) (y : Nat) (hx : a.eval x = .slice (some ad) 1 1) (hown : OwnU w B v l) (hc : w.cell? ad = some (.int .u64 (y : Int)))
    (hl : l.length ≤ 2000000) (hB : B ≤ w.heap.size)
    (h : ∀ v' w', OwnU w' B v' (l ++ [y]) → w.grownBy w' v.ownBlock → (v'.ownBlock = v.ownBlock ∨ v'.ownBlock = some w.heap.size) → wpList Tryd.prog ops Q rest (a.put o.dst v') w') : wpList Tryd.prog ops Q (o :: rest) a w := by
  refine push_own Tryd.underlying86 info63 hgd s x ho B v (ints l) hs ad (y : Int) hx hown hc (by unfold maxLen; simp; omega) (by simp; omega) hB ?_
  intro v' w' h1 h2 h3
  exact h v' w' (by unfold OwnU; rw [ints_append]; exact h1) h2 h3

set_option maxHeartbeats 4000000 in
theorem take_any (a sa : Option Addr) (c sc : Nat) (l ss : List Nat) (w : World) (hs : Bytes w a l) (hb : AllB l) (hl : l.length ≤ 1000000) (hc : l.length ≤ c) (hz : Sizes ss) (hss : Seen .i64 w sa (ints ss)) (hsl : ss.length ≤ 1000) (ht : total ss ≤ l.length) :
    Calls Tryd.prog 45 #[.slice a l.length c, .slice sa ss.length sc] w fun e w' => ∃ v a', e = .returned (.tuple #[v, .slice a' (l.drop (total ss)).length (c - total ss)]) ∧ OwnU w' w.heap.size v (takeN ss l) ∧ (∀ W, Bytes W a l → Bytes W a' (l.drop (total ss))) ∧ Below w.heap.size w w' := by
  have HZ := hide hz
  clear hz
  go_enter Tryd.func45, Tryd.ntmps45
  go_wp2_with fail
  go_loopw [0, 6, 13] (fun b nv i ws => ∃ (k : Nat) (ak : Option Addr) (v : Value), v = nv ∧ i = .int .i64 (k : Int) ∧ k ≤ ss.length ∧ b = .slice ak (l.drop (total (ss.take k))).length (c - total (ss.take k)) ∧ (∀ W, Bytes W a l → Bytes W ak (l.drop (total (ss.take k)))) ∧
     OwnU ws w.heap.size v (takeN (ss.take k) l) ∧ Below w.heap.size w ws) (fun _ _ i _ => ss.length - (intOf i).toNat)
  case atStart => exact ⟨0, a, _, rfl, rfl, Nat.zero_le _, by simp [total], by simp [total], Owns.nil _ _ _ _, Below.refl _ _⟩
  case round =>
    obtain ⟨k, ak, v6, rfl, rfl, hk, rfl, hbk, hown, hbel⟩ := hrel
    have hsz := hbel.size
    by_cases hlt : k < ss.length
    · obtain ⟨b1, off1, rfl, hb1, hc1⟩ := Seen.atN (hss.below hbel) hlt
      have hz1 := HZ.out k hlt
      have hT := total_take_succ ss k hlt
      have hTl := total_take_le ss (k + 1)
      have hN := takeN_take_succ ss l k hlt
      have hkl : (takeN (ss.take k) l).length ≤ 1000 := by rw [takeN_length]; simp; omega
      generalize hT0 : total (ss.take k) = T0 at *
      generalize hT1 : total (ss.take (k + 1)) = T1 at *
      generalize ss.getD k 0 = s at *
      have hab : AllB (l.drop T0) := hb.drop T0
      have hdl : (l.drop T0).length = l.length - T0 := List.length_drop
      have hdd : (l.drop T0).drop s = l.drop T1 := by rw [List.drop_drop, hT]
      have hbn := fun W hW => (hbk W hW).drop (cap := c - T0) s (by omega)
      have hget := get_ok ak (c - T0) 0 s (l.drop T0) wr (hbk wr (hs.below hbel)) hab (by omega) hz1.1 hz1.2 (by omega) (by omega)
      rw [List.drop_zero] at hget
      simp only [Int.natCast_zero] at hget
      have sl := fun w => slice_from (P := Tryd.prog) Tryd.underlying22 (fun _ => rfl) ak (l.drop T0).length (c - T0) s w (by omega) (by omega)
      generalize dropA ak (c - T0) s = an at *
      rw [hdd] at hbn
      generalize QK.fromB ((l.drop T0).take s) = x at *
      obtain ⟨m1, hm1⟩ : ∃ m1, m1 = (l.drop T0).length := ⟨_, rfl⟩
      obtain ⟨m2, hm2⟩ : ∃ m2, m2 = c - T0 := ⟨_, rfl⟩
      rw [← hm1, ← hm2] at hget sl
      rw [← hm1, ← hm2]
      generalize takeN (ss.take k) l = tk at *
      have HN := hide hN
      have HT := hide hT
      have HT1 := hide hT1
      have HM1 := hide hm1
      have HM2 := hide hm2
      have HBN := hide hbn
      have HBE := hide hbel
      have HDD := hide hdd
      have HDL := hide hdl
      have HTT := hide ht
      have HTl := hide hTl
      have HSZ := hide hsz
      clear hN hT hT1 hm1 hm2 hbn hbel hdd hbk hT0 hdl ht hTl hsz
      go_wp2_with fail
      refine hget.mono ?_
      rintro e w1 ⟨rfl, hw⟩
      obtain rfl : wr = w1 := hw.symm
      clear hget hw
      go_wp2_with (at_builtin; refine pushU rfl (.tmp _) (.tmp _) rfl w.heap.size v6 tk rfl ⟨wr.heap.size, 0, none⟩ x rfl (Owns.alloc hown _) (by simp [go_sem]) (by omega) (by have := HSZ.out; simp; omega) ?_; intro v' w' q1 q2 q3)
      go_roundw
      case rel =>
        have g := grown_below (B := w.heap.size) (Owns.alloc hown _) (by have := HSZ.out; simp; omega) q2
        have g1 : Below w.heap.size w w' := (HBE.out.alloc (Nat.le_trans (Nat.le_refl _) HSZ.out) _).trans g
        refine ⟨k + 1, an, v', rfl, by go_num, by omega, ?_, ?_, ?_, g1⟩
        · have e1 : (l.drop T1).length = m1 - s := by rw [HM1.out, ← HDD.out, List.length_drop]
          have e2 : c - T1 = m2 - s := by have := HT.out; have := HM2.out; omega
          rw [HT1.out, e1, e2]
        · rw [HT1.out]; exact HBN.out
        · rw [HN.out]; exact q1
      case measure => simp [intOf]; omega
    · obtain rfl : k = ss.length := by omega
      have e1 : ss.take ss.length = ss := List.take_length
      rw [e1] at hbk hown ⊢
      have HB := hide hbk
      have HO := hide hown
      have HL := hide hbel
      clear hbk hown hbel e1
      go_wp2_with fail
      exact bodyPost_ret (v := .tuple #[v6, .slice ak (l.drop (total ss)).length (c - total ss)]) (by simp [results, Tryd.results45, go_sem]) rfl ⟨_, _, rfl, HO.out, HB.out, HL.out⟩
end Go.Proofs.YtakjpljpdlhicaaDoor
