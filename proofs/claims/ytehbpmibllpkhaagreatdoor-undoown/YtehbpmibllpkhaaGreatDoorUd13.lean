import Derived.Test.YtehbpmibllpkhaaGreatDoorUd12
set_option linter.all false
namespace Go.Proofs.YtehbpmibllpkhaaGreatDoor
open Go.RowKit Go.QK Go.Maps Go.QM Go.QU
set_option maxRecDepth 100000
/-- A list of undo records as it stands in memory. -/
structure Lst (w : World) (tx : Int) (D : Prs Hd) (n : Nat) (a : Option Addr) (c : Nat) : Prop where
  len : D.length = n
  cap : n ≤ c
  nil : a = none → c = 0
  lies : Lies w a (rzs (D.map (undZ tx)))
variable {tx : Int} {D : Prs Hd} {n c : Nat} {a : Option Addr}
theorem Lst.below {w w' : World} (h : Lst w tx D n a c) (hk : Below w.heap.size w w') : Lst w' tx D n a c := ⟨h.len, h.cap, h.nil, h.lies.below hk⟩
theorem Lst.keep {S : Nat → Prop} {w w' : World} (h : Lst w tx D n a c) (hk : Keep S w w') (hn : ∀ ad, a = some ad → ¬ S ad.block) : Lst w' tx D n a c := ⟨h.len, h.cap, h.nil, h.lies.keep hk hn⟩
theorem Lst.mlen {w : World} (h : Lst w tx D n a c) : (D.map (undZ tx)).length = n := by rw [List.length_map, h.len]
theorem Lst.of {w : World} {B : Nat} {v : Value} {tx : Int} {D : Prs Hd} {n : Nat} (h : GRow w B 53 17 v n (rzs (D.map (undZ tx)))) (hn : D.length = n) : ∃ a c, v = .slice a n c ∧ Lst w tx D n a c ∧ (∀ ad, a = some ad → B ≤ ad.block) := by
  have hlt := World.ownsRow.lt h
  obtain ⟨a, c, rfl, h1, h2, -, h4, h5⟩ := GRow.lies h
  refine ⟨a, c, rfl, ⟨hn, h2, h4, h1⟩, fun ad e => ?_⟩
  subst e
  obtain ⟨q1, q2⟩ := h5 ad rfl
  obtain ⟨b, o, sp⟩ := ad
  cases q1
  cases q2
  exact (hlt b rfl).1
theorem Lst.open_ {w : World} (h : Lst w tx D n a c) (hn : 0 < n) : ∃ b off, a = some ⟨b, off, none⟩ ∧ b < w.heap.size := by
  obtain ⟨b, off, e, q, -⟩ := rz_at h.lies 0 (by rw [h.mlen]; exact hn)
  exact ⟨b, off, e, q⟩
/-- A record of it, cell by cell. -/
theorem Lst.rec_ {w : World} {b off : Nat} (h : Lst w tx D n (some ⟨b, off, none⟩) c) (k : Nat) (hk : k < D.length) : ∀ wq, Below w.heap.size w wq → ∀ j v, (rzA (undZ tx D[k])).toList[j]? = some v → wq.cell? ⟨b, off + k * 17 + j, none⟩ = some v := by
  obtain ⟨b1, o1, e, l1, c1⟩ := rz_at h.lies k (by rw [h.mlen, ← h.len]; exact hk)
  cases e
  intro wq hq j v hv
  refine (hq.cell (p := ⟨b, off + k * 17 + j, none⟩) l1).trans (c1 j v ?_)
  rw [List.getElem_map]
  exact hv
theorem cutAt_len {α : Type} (D : List α) {i : Nat} (hi : i < D.length) : (cutAt D i).length + 1 = D.length := by
  unfold cutAt
  rw [List.length_append, List.length_take, List.length_drop]
  omega
set_option maxHeartbeats 8000000 in
theorem rising_any (tx : Int) (D L : Prs Hd) (a : Option Addr) (c N : Nat) (w : World) (ls : Lst w tx D N a c) (sm : Sim D L) (up : Up L) (hl : (N + 1) * 168 ≤ 140737488355328) :
    Calls Tryz.prog 22 #[.slice a N c] w fun e w' => ∃ v, e = .returned v ∧ GRow w' w.heap.size 53 17 v L.length (rzs (L.map (undZ tx))) ∧ Below w.heap.size w w' := by
  have hlt0 : ∀ ad, a = some ad → 0 < N → ad.block < w.heap.size := by
    intro ad e hn
    obtain ⟨b, off, e2, q⟩ := ls.open_ hn
    rw [e] at e2
    cases e2
    exact q
  have LS := hide ls
  have SM := hide sm
  have UP := hide up
  have H0 := hide hlt0
  clear ls sm up hlt0
  go_enter Tryz.func22, Tryz.ntmps22
  go_wp2_with fail
  go_loopw [0, 3] (fun v0 v3 wr => ∃ (n m : Nat) (D' L' P : Prs Hd) (a' : Option Addr) (c' : Nat), v0 = .slice a' n c' ∧ L = P ++ L' ∧ P.length = m ∧ n + m = N ∧ Sim D' L' ∧ Up L' ∧ Lst wr tx D' n a' c' ∧ GRow wr w.heap.size 53 17 v3 m (rzs (P.map (undZ tx))) ∧ (∀ ad, a' = some ad → v3.ownBlock ≠ some ad.block) ∧ Below w.heap.size w wr) (fun v0 _ _ => match v0 with | .slice _ n _ => n + 1 | _ => 0)
  case atStart => exact ⟨N, 0, D, L, [], a, c, rfl, rfl, rfl, rfl, SM.out, UP.out, LS.out, World.ownsRow_nil _ _ _ _, (fun _ _ => nofun), Below.refl _ _⟩
  case round =>
    obtain ⟨n, m, D', L', P, a', c', rfl, hL, hP, hnm, sm, up, ls, gr, hap, hb⟩ := hrel
    have SMH := hide sm
    have UPH := hide up
    have LSH := hide ls
    have GR := hide gr
    have AP := hide hap
    have HB := hide hb
    have HL := hide hL
    clear sm up gr hap hb hL
    by_cases hn : 0 < n
    · have d1 : decide ((0 : Int) < (n : Int)) = true := decide_eq_true (by omega)
      have d1' : decide ((n : Int) > 0) = true := decide_eq_true (by omega)
      obtain ⟨b, off, rfl, hbl⟩ := ls.open_ hn
      have hD : D'.length = n := ls.len
      have IDS := hide (show ∀ k (h : k < D'.length) wq, Below wr.heap.size wr wq → wq.cell? ⟨b, off + k * 17 + 9, none⟩ = some (.int .i64 D'[k].1) from fun k h wq hq => ls.rec_ k h wq hq 9 _ rfl)
      have RKS := hide (show ∀ k (h : k < D'.length) wq, Below wr.heap.size wr wq → ∀ j v, (rzA (undZ tx D'[k])).toList[j]? = some v → wq.cell? ⟨b, off + k * 17 + j, none⟩ = some v from fun k h => ls.rec_ k h)
      obtain ⟨wo, hwo⟩ : ∃ x, x = wr := ⟨_, rfl⟩
      subst hwo
      clear ls
      go_wp2_with fail
      go_loopw [4, 5] (fun v4 v5 wz => ∃ k i : Nat, v4 = .int .i64 (k : Int) ∧ v5 = .int .i64 (i : Int) ∧ k < n ∧ i ≤ n ∧ (∀ j (h : j < D'.length) (hk : k < D'.length), j < i → D'[k].1 ≤ D'[j].1) ∧ Below wo.heap.size wo wz) (fun _ v5 _ => n + 1 - (intOf v5).toNat)
      case atStart => exact ⟨0, 0, rfl, rfl, hn, Nat.zero_le _, (fun j h hk q => absurd q (Nat.not_lt_zero _)), Below.refl _ _⟩
      case round =>
        obtain ⟨k, i, rfl, rfl, hk, hi, hmin, hb2⟩ := hrel
        have HB2 := hide hb2
        have HM := hide hmin
        clear hb2 hmin
        by_cases hlt : i < n
        · have e1 : decide ((i : Int) < (n : Int)) = true := decide_eq_true (by omega)
          have e2 : (i : Int) < (n : Int) := by omega
          have e3 : (k : Int) < (n : Int) := by omega
          have c1 := IDS.out i (by omega) _ HB2.out
          have c2 := IDS.out k (by omega) _ HB2.out
          obtain ⟨x, hx⟩ : ∃ z, z = (D'[i]'(by omega)).1 := ⟨_, rfl⟩
          obtain ⟨y, hy⟩ : ∃ z, z = (D'[k]'(by omega)).1 := ⟨_, rfl⟩
          rw [← hx] at c1
          rw [← hy] at c2
          by_cases hxy : x < y
          · have e4 : decide (x < y) = true := decide_eq_true hxy
            have MIN := hide (show ∀ j (h : j < D'.length) (hk : i < D'.length), j < i + 1 → D'[i].1 ≤ D'[j].1 from fun j h hk' q => by
              rw [← hx]
              by_cases e : j = i
              · subst e; rw [← hx]; exact Int.le_refl _
              · have := HM.out j h (by omega) (by omega)
                rw [← hy] at this
                omega)
            clear hx hy
            go_upto_region 7 with fail
            go_quiet (fail)
            go_wp2_with fail
            go_roundw
            case rel => exact ⟨i, i + 1, rfl, by go_num, hlt, by omega, MIN.out, below_drewN HB2.out _⟩
            case measure => simp [intOf]; omega
          · have e4 : decide (x < y) = false := decide_eq_false hxy
            have MIN := hide (show ∀ j (h : j < D'.length) (hk : k < D'.length), j < i + 1 → D'[k].1 ≤ D'[j].1 from fun j h hk' q => by
              by_cases e : j = i
              · subst e; rw [← hx, ← hy]; omega
              · exact HM.out j h hk' (by omega))
            clear hx hy
            go_upto_region 7 with fail
            go_quiet (fail)
            go_wp2_with fail
            go_roundw
            case rel => exact ⟨k, i + 1, rfl, by go_num, hk, by omega, MIN.out, below_drewN HB2.out _⟩
            case measure => simp [intOf]; omega
        · obtain rfl : n = i := by omega
          have e1 : decide ((n : Int) < (n : Int)) = false := decide_eq_false (by omega)
          have hkD : k < D'.length := by omega
          obtain ⟨L2, hL2, sm2, up2⟩ := SMH.out.least UPH.out hkD (fun j hj => HM.out j hj hkD (by omega))
          obtain ⟨r, hr⟩ : ∃ z, z = undZ tx D'[k] := ⟨_, rfl⟩
          have RK := RKS.out k hkD
          rw [← hr] at RK
          have RKH := hide RK
          have HR := hide hr
          have HL2 := hide hL2
          have SM2 := hide sm2
          have UP2 := hide up2
          have LK : k < n := hk
          clear RK hr hL2 sm2 up2 HM IDS RKS
          have B9 := HB2.out.trans ((alloc_below wr (.cells (rzA r) 53)).mono HB2.out.size)
          have G9 := hide ((GR.out.below HB2.out).below (alloc_below wr (.cells (rzA r) 53)))
          have LZ := hide (lies_rz wr r)
          have L9 := hide (LSH.out.below B9)
          have S9 := hide (show w.heap.size ≤ (wr.alloc (.cells (rzA r) 53)).heap.size from Nat.le_trans HB.out.size B9.size)
          have Z9 := hide (show b < (wr.alloc (.cells (rzA r) 53)).heap.size from Nat.lt_of_lt_of_le hbl B9.size)
          have W9 := hide (HB.out.trans (B9.mono HB.out.size))
          clear B9
          go_upto_region 10 with (first
            | refine wpList_ld (cs := rzA r) (RKH.out _ HB2.out) rfl rfl ?_
            | refine wpList_b22 (r := r) rfl ?_
            | (at_builtin; refine wpList_appW Tryz.underlying22 info53 rfl (by decide) (by decide) rfl (.tmp 30) (.tmp 35) rfl w.heap.size _ m _ rfl G9.out _ 1 1 _ rfl (by rfl) LZ.out (rzs_one _) nofun (by omega) S9.out ?_; intro v3' w3 q1 q2 q3; have G3 := hide q1; have Q2 := hide q2; have Q3 := hide q3; clear q1 q2 q3))
          have L3 := hide (L9.out.keep (grown_keep Q2.out) (fun ad e q => AP.out ad e q))
          have W3 := hide (W9.out.trans ((grown_keep Q2.out).below S9.out (fun z hz q => by have := (World.ownsRow.lt G9.out z q).1; omega)))
          have V3 := hide (show ∀ g, v3'.ownBlock = some g → g < w3.heap.size from fun g q => (World.ownsRow.lt G3.out g q).2)
          clear G9 LZ L9 W9 Q3
          have lt := lies_take L3.out.lies k
          have s1 := fun wq => slice22 (a := some ⟨b, off, none⟩) (n := n) (cap := c') k wq (by have := L3.out.cap; omega) nofun
          have LT := hide lt
          have mt : (rzs ((D'.map (undZ tx)).take k)).length = k * 17 := by rw [rzs_len, List.length_take, L3.out.mlen, Nat.min_eq_left (by omega)]
          have MT := hide mt
          clear lt mt
          go_upto_region 12 with (first
            | (at_builtin; refine wpList_appW Tryz.underlying22 info53 rfl (by decide) (by decide) rfl (.tmp 37) (.tmp 40) rfl w3.heap.size (.slice none 0 0) 0 [] rfl (World.ownsRow_nil _ _ _ _) _ k c' _ rfl MT.out LT.out (rzs_one _) nofun (by omega) (Nat.le_refl _) ?_; intro v4 w4 q1 q2 q3; rw [Nat.zero_add, List.nil_append] at q1; obtain ⟨a4, c4, e4, -⟩ := GRow.lies q1; subst e4; have G4 := hide q1; have B4 := hide (show Below w3.heap.size w3 w4 from (Below.refl _ _).grown q2 (Nat.le_refl _) (by nofun)); clear q1 q2 q3))
          clear s1 LT MT
          obtain ⟨M, hM⟩ : ∃ z, z = k + 1 := ⟨_, rfl⟩
          have e9 : IntKind.i64.wrap ((k : Int) + 1) = ((M : Nat) : Int) := by rw [IntKind.wrap_i64]; omega
          have e10 : (k : Int) + 1 = ((M : Nat) : Int) := by omega
          obtain ⟨ad, s2, ead, -⟩ := tail22 (b := b) (off := off) (n := n) (c := c') (k := M) (by omega) (L3.out.cap)
          have L4 := L3.out.below B4.out
          have LT := hide (lies_tail L4.lies (k := M) (ad := ad) (by rw [L4.mlen]; omega) (fun h => ead (by rw [L4.mlen] at h; exact h)))
          have MT := hide (show (rzs ((D'.map (undZ tx)).drop M)).length = (n - M) * 17 by rw [rzs_len, List.length_drop, L4.mlen])
          have HMM := hide hM
          clear L4 ead hM
          go_wp2_with (first
            | (at_builtin; refine wpList_appW Tryz.underlying22 info53 rfl (by decide) (by decide) rfl (.tmp 42) (.tmp 46) rfl w3.heap.size (.slice a4 k c4) k _ rfl G4.out _ (n - M) (c' - M) _ rfl MT.out LT.out (rzs_one _) nofun (by have := HMM.out; omega) B4.out.size ?_; intro v5 w5 q1 q2 q3; have G5 := hide q1; have B5 := hide (B4.out.trans ((grown_keep q2).below B4.out.size (fun z hz q => by have := (World.ownsRow.lt G4.out z q).1; omega))); clear q1 q2 q3)
            | fail)
          have g5 := G5.out
          have en : k + (n - M) = n - 1 := by have := HMM.out; omega
          rw [← rzs_app, HMM.out, cut_map, ← HMM.out, en] at g5
          have lc := cutAt_len D' hkD
          obtain ⟨a5, c5, rfl, ls5, ha5⟩ := Lst.of g5 (by omega)
          have e3 : rzs (P.map (undZ tx)) ++ rzs [r] = rzs ((P ++ [D'[k]]).map (undZ tx)) := by rw [← rzs_app, HR.out, List.map_append]; rfl
          have g3 := G3.out
          rw [e3] at g3
          have LS5 := hide ls5
          have GF := hide (g3.below B5.out)
          have HA5 := hide ha5
          have HLF := hide (show L = (P ++ [D'[k]]) ++ L2 by rw [HL.out, HL2.out, List.append_assoc]; rfl)
          clear g5 g3 ls5 ha5 e3
          go_roundw
          case rel => exact ⟨n - 1, m + 1, cutAt D' k, L2, P ++ [D'[k]], a5, c5, rfl, HLF.out, by rw [List.length_append, hP]; rfl, by omega, SM2.out, UP2.out, LS5.out, GF.out, (fun ad e q => by have := HA5.out ad e; have := V3.out _ q; omega), W3.out.trans (B5.out.mono W3.out.size)⟩
          case measure => simp; omega
    · obtain rfl : n = 0 := by omega
      have e0 : D' = [] := List.eq_nil_of_length_eq_zero LSH.out.len
      have eL : L' = [] := by
        have q := SMH.out
        rw [e0] at q
        exact q.done UPH.out
      have hPL : P = L := by rw [HL.out, eL, List.append_nil]
      clear ls
      go_wp2_with fail
      go_ret
      refine ⟨_, rfl, ?_, HB.out⟩
      have g := GR.out
      rw [hPL] at g
      rw [← hPL, hP, hPL]
      exact g
end Go.Proofs.YtehbpmibllpkhaaGreatDoor
