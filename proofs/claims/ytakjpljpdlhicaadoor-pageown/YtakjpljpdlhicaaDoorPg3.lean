import Derived.Test.YtakjpljpdlhicaaDoorPg2
namespace Go.Proofs.YtakjpljpdlhicaaDoor
open Go.RowKit Go.QK Go.Pg
set_option maxRecDepth 100000

theorem total_take_succ : (ss : List Nat) → (k : Nat) → k < ss.length → total (ss.take (k + 1)) = total (ss.take k) + ss.getD k 0
  | [], k, h => by simp at h
  | s :: ss, 0, _ => by simp [total]
  | s :: ss, k + 1, h => by
    have := total_take_succ ss k (by simpa using h)
    simp only [List.take_succ_cons, total, List.getD_cons_succ] at *
    omega
theorem total_take_le : (ss : List Nat) → (k : Nat) → total (ss.take k) ≤ total ss
  | [], k => by simp
  | s :: ss, 0 => by simp [total]
  | s :: ss, k + 1 => by
    have := total_take_le ss k
    simp only [List.take_succ_cons, total]
    omega
theorem numsB_take_succ : (ss ns : List Nat) → (k : Nat) → k < ss.length → ss.length = ns.length → numsB (ss.take (k + 1)) (ns.take (k + 1)) = numsB (ss.take k) (ns.take k) ++ bytesOf (ss.getD k 0) (ns.getD k 0)
  | [], _, k, h, _ => by simp at h
  | s :: ss, [], _, _, h => by simp at h
  | s :: ss, n :: ns, 0, _, _ => by simp [numsB]
  | s :: ss, n :: ns, k + 1, h, hl => by
    have := numsB_take_succ ss ns k (by simpa using h) (by simpa using hl)
    simp only [List.take_succ_cons, numsB, List.getD_cons_succ] at *
    rw [this, List.append_assoc]
theorem FitN.get : {ss ns : List Nat} → FitN ss ns → (k : Nat) → k < ss.length → ns.getD k 0 < 256 ^ ss.getD k 0
  | s :: ss, n :: ns, h, 0, _ => h.1
  | s :: ss, n :: ns, h, k + 1, hk => by
    have := FitN.get h.2 k (by simpa using hk)
    simpa using this
theorem Seen.atN {k : IntKind} {w : World} {a : Option Addr} {l : List Nat} (h : Seen k w a (ints l)) {i : Nat} (hi : i < l.length) : ∃ b off, a = some ⟨b, off, none⟩ ∧ b < w.heap.size ∧ w.cell? ⟨b, off + i, none⟩ = some (.int k ((l.getD i 0 : Nat) : Int)) := by
  obtain ⟨b, off, h1, h2, h3⟩ := Seen.at h (i := i) (by simpa using hi)
  rw [ints_getD] at h3
  exact ⟨b, off, h1, h2, h3⟩

/-- A size that may be. -/
def Sizes (ss : List Nat) : Prop := ∀ k, k < ss.length → 1 ≤ ss.getD k 0 ∧ ss.getD k 0 ≤ 8
theorem sizesH : Sizes headS := by intro k hk; have : ∀ k : Fin 7, 1 ≤ headS.getD k.1 0 ∧ headS.getD k.1 0 ≤ 8 := by decide
                                   exact this ⟨k, hk⟩
theorem sizesC : Sizes ctrS := by intro k hk; have : ∀ k : Fin 5, 1 ≤ ctrS.getD k.1 0 ∧ ctrS.getD k.1 0 ≤ 8 := by decide
                                  exact this ⟨k, hk⟩
theorem sizesG : Sizes grpS := by intro k hk; have : ∀ k : Fin 2, 1 ≤ grpS.getD k.1 0 ∧ grpS.getD k.1 0 ≤ 8 := by decide
                                  exact this ⟨k, hk⟩

set_option maxHeartbeats 4000000 in
theorem lay_any (g N cN B n c : Nat) (a sa na : Option Addr) (sc nc : Nat) (ss ns pre old post : List Nat) (w : World)
    (ho : OwnB w B (.slice (some ⟨g, 0, none⟩) N cN) (pre ++ old ++ post)) (hnn : n = old.length + post.length) (hn : n ≤ 1000000) (hc : n ≤ c) (ha : 0 < n → a = some ⟨g, pre.length, none⟩)
    (hs : Seen .i64 w sa (ints ss)) (hu : Seen .u64 w na (ints ns)) (hsg : ∀ ad, sa = some ad → ad.block ≠ g) (hug : ∀ ad, na = some ad → ad.block ≠ g) (hf : FitN ss ns) (hz : Sizes ss) (hsl : ss.length ≤ 1000) (ht : old.length = total ss) :
    Calls Tryd.prog 55 #[.slice a n c, .slice sa ss.length sc, .slice na ns.length nc] w fun e w' => ∃ a', e = .returned (.slice a' post.length (c - total ss)) ∧ (0 < post.length → a' = some ⟨g, pre.length + total ss, none⟩) ∧
      OwnB w' B (.slice (some ⟨g, 0, none⟩) N cN) (pre ++ numsB ss ns ++ post) ∧ Keep (fun k => k = g) w w' := by
  have hlen := hf.length
  have hh : ∃ HF : Hid (FitN ss ns), True := ⟨hf, trivial⟩
  obtain ⟨HF, -⟩ := hh
  have HZ := hide hz
  clear hf hz
  rw [← hlen]
  have HLN := hide hlen
  clear hlen
  go_enter Tryd.func55, Tryd.ntmps55
  go_wp2_with fail
  go_loopw [0, 11] (fun b i ws => ∃ (k : Nat) (ak : Option Addr), i = .int .i64 (k : Int) ∧ k ≤ ss.length ∧ b = .slice ak (n - total (ss.take k)) (c - total (ss.take k)) ∧ (0 < n - total (ss.take k) → ak = some ⟨g, pre.length + total (ss.take k), none⟩) ∧
     OwnB ws B (.slice (some ⟨g, 0, none⟩) N cN) (pre ++ (numsB (ss.take k) (ns.take k) ++ old.drop (total (ss.take k))) ++ post) ∧ Keep (fun k => k = g) w ws) (fun _ i _ => ss.length - (intOf i).toNat)
  case atStart => exact ⟨0, a, rfl, Nat.zero_le _, by simp [total], by simpa [total] using ha, by simpa [numsB, total] using ho, Keep.refl _ _⟩
  case round =>
    obtain ⟨k, ak, rfl, hk, rfl, hak, hown, hkeep⟩ := hrel
    have hlen := HLN.out
    by_cases hlt : k < ss.length
    · obtain ⟨b1, off1, rfl, hb1, hc1⟩ := Seen.atN (hs.keep hkeep hsg) hlt
      obtain ⟨b2, off2, rfl, hb2, hc2⟩ := Seen.atN (hu.keep hkeep hug) (i := k) (by omega)
      have hz1 := HZ.out k hlt
      have hx := FitN.get HF.out k hlt
      have hT := total_take_succ ss k hlt
      have hTl := total_take_le ss (k + 1)
      have hN := numsB_take_succ ss ns k hlt hlen
      have hnl : (numsB (ss.take k) (ns.take k)).length = total (ss.take k) := numsB_length _ _ (by simp; omega)
      generalize hT0 : total (ss.take k) = T0 at *
      generalize hT1 : total (ss.take (k + 1)) = T1 at *
      generalize hP0 : numsB (ss.take k) (ns.take k) = P0 at *
      generalize hP1 : numsB (ss.take (k + 1)) (ns.take (k + 1)) = P1 at *
      generalize ss.getD k 0 = s at *
      generalize ns.getD k 0 = x at *
      have hak' := hak (by omega)
      subst hak'
      have hsplit : pre ++ (P0 ++ old.drop T0) ++ post = (pre ++ P0) ++ (old.drop T0).take s ++ ((old.drop T0).drop s ++ post) := by
        conv => lhs; rw [← List.take_append_drop s (old.drop T0)]
        simp
      have hpl : (pre ++ P0).length = pre.length + T0 := by simp [hnl]
      have hol : ((old.drop T0).take s).length = s := by simp; omega
      rw [hsplit] at hown
      have hput := put_at g N cN (pre.length + T0) (n - T0) (c - T0) s x B _ wr hown (by omega) hz1.1 hz1.2 (by omega) (by omega) (by simp [hnl]; omega) hx
      rw [← hpl, wrote_full _ _ _ _ _ hol] at hput
      rw [hpl] at hput
      have sl := fun w => slice_from (P := Tryd.prog) Tryd.underlying22 (fun _ => rfl) (some ⟨g, pre.length + T0, none⟩) (n - T0) (c - T0) s w (by omega) (by omega)
      have hd : 0 < n - T1 → dropA (some ⟨g, pre.length + T0, none⟩) (c - T0) s = some ⟨g, pre.length + T1, none⟩ := by
        intro h
        unfold dropA
        rw [if_neg (by omega), Option.map_some, addr_add]
        congr 2
        omega
      generalize dropA (some ⟨g, pre.length + T0, none⟩) (c - T0) s = an at *
      have HD := hide hd
      have HT := hide hT
      have HN := hide hN
      have HQ := hide hsplit
      have H1 := hide hP1
      have H2 := hide hT1
      have HTl := hide hTl
      have HL := hide hlen
      have HO := hide ht
      have HNN := hide hnn
      obtain ⟨m1, hm1⟩ : ∃ m1, m1 = n - T0 := ⟨_, rfl⟩
      obtain ⟨m2, hm2⟩ : ∃ m2, m2 = c - T0 := ⟨_, rfl⟩
      obtain ⟨o1, ho1⟩ : ∃ o1, o1 = pre.length + T0 := ⟨_, rfl⟩
      rw [← hm1, ← hm2, ← ho1] at hput sl
      rw [← hm1, ← hm2, ← ho1]
      have HM1 := hide hm1
      have HM2 := hide hm2
      have HO1 := hide ho1
      clear hd hT hN hsplit hP1 hT1 hP0 hT0 hTl hpl hol hnl hown hak hm1 hm2 ho1 hlen ht hnn
      go_wp2_with fail
      refine hput.mono ?_
      rintro e w1 ⟨rfl, ho1, k1⟩
      have cs1 := (k1.cell (p := ⟨b1, off1 + k, none⟩) hb1 (hsg ⟨b1, off1, none⟩ rfl)).trans hc1
      have HK := hide (hkeep.trans k1 (fun _ _ h => h))
      have HO' := hide ho1
      clear hput ho1 hkeep k1
      go_wp2_with fail
      go_roundw
      case rel =>
        refine ⟨k + 1, an, by go_num, by omega, ?_, ?_, ?_, HK.out⟩
        · rw [H2.out, HT.out, HM1.out, HM2.out, Nat.sub_sub, Nat.sub_sub]
        · rw [H2.out]; exact HD.out
        · rw [H2.out, H1.out, HN.out, HT.out]
          have := HO'.out
          simpa [List.drop_drop] using this
      case measure => simp [intOf]; omega
    · obtain rfl : k = ss.length := by omega
      have e1 : ss.take ss.length = ss := List.take_length
      have e2 : ns.take ss.length = ns := by rw [hlen]; exact List.take_length
      rw [e1] at hak hown ⊢
      rw [e2] at hown
      have e3 : old.drop (total ss) = [] := List.drop_of_length_le (by omega)
      have e4 : n - total ss = post.length := by omega
      rw [e3, List.append_nil] at hown
      rw [e4] at hak ⊢
      have HK := hide hkeep
      have HO' := hide hown
      clear hkeep hown hnn ht hlen e3 e4 e1 e2
      go_wp2_with fail
      go_ret
      exact ⟨ak, rfl, hak, HO'.out, HK.out⟩
end Go.Proofs.YtakjpljpdlhicaaDoor
