import Derived.Test.YtaohdmaenplbpaaGreatLdO
import Derived.Sort.OwnSorted
set_option linter.all false
namespace Go.Proofs.YtaohdmaenplbpaaGreat
open Go.RowKit Go.QK Quota Go.Maps Go.QM
set_option maxRecDepth 100000
abbrev Tot := Int × Int × Int
/-- What Groups tells of a group. -/
def gC (p : Int × Tot) : List Value := [.int .i64 p.1, .int .i64 p.2.1]
def qG (p : Int × Tot) : QG2 := (Fin.ofNat 1048577 p.1.toNat, p.2.1)
theorem fin_id {z : Int} (h1 : 1 ≤ z) (h2 : z ≤ 1048576) : (((Fin.ofNat 1048577 z.toNat).val : Nat) : Int) = z := by
  have e : (Fin.ofNat 1048577 z.toNat).val = z.toNat % 1048577 := rfl
  rw [e, Nat.mod_eq_of_lt (by omega)]
  omega
def Ids (L : List (Int × Tot)) : Prop := ∀ p ∈ L, 1 ≤ p.1 ∧ p.1 ≤ 1048576
theorem rowsG {L : List (Int × Tot)} (h : Ids L) : rowsC encG2 (L.map qG) = rowsC gC L := by
  unfold rowsC
  rw [List.flatMap_map]
  induction L with
  | nil => rfl
  | cons p r ih =>
    simp only [List.flatMap_cons]
    rw [ih (fun q hq => h q (List.mem_cons_of_mem _ hq))]
    congr 1
    have := h p (by simp)
    simp only [encG2, qG, gC, fin_id this.1 this.2]
abbrev fG (p : Int × Tot) : Int × Value := (p.1, totV p.2)
theorem perm_fG {l L : List (Int × Tot)} (h : (l.map fG).Perm (L.map fG)) : (l.map qG).Perm (L.map qG) ∧ (∀ p ∈ l, ∃ q ∈ L, q.1 = p.1) := by
  have e : ∀ l : List (Int × Tot), l.map qG = (l.map fG).map (fun p => (Fin.ofNat 1048577 p.1.toNat, match p.2 with | .agg #[.int _ a, .int _ _, .int _ _] => a | _ => 0)) := by
    intro l
    rw [List.map_map]
    rfl
  refine ⟨by rw [e l, e L]; exact h.map _, fun p hp => ?_⟩
  have : fG p ∈ L.map fG := h.mem_iff.1 (List.mem_map.2 ⟨p, hp, rfl⟩)
  obtain ⟨q, hq, e2⟩ := List.mem_map.1 this
  have e3 := congrArg Prod.fst e2
  exact ⟨q, hq, e3⟩
theorem sortedG {L : List (Int × Tot)} {ds : List QG2} (hu : Up L) (hi : Ids L) (hp : ds.Perm (L.map qG)) (hs : ds.Pairwise (fun x y => x.1.val ≤ y.1.val)) : ds = L.map qG := by
  refine List.Perm.eq_of_pairwise ?_ hs ?_ hp
  · intro a b ha hb h1 h2
    obtain ⟨x, hx, rfl⟩ := List.mem_map.1 (hp.mem_iff.1 ha)
    obtain ⟨y, hy, rfl⟩ := List.mem_map.1 hb
    have e1 := fin_id (hi x hx).1 (hi x hx).2
    have e2 := fin_id (hi y hy).1 (hi y hy).2
    simp only [qG] at h1 h2
    have e3 : x.1 = y.1 := by omega
    have g1 := getM_of_mem hu hx
    have g2 := getM_of_mem hu hy
    rw [e3, g2] at g1
    have : x = y := Prod.ext e3 (Option.some.inj g1).symm
    rw [this]
  · rw [List.pairwise_map]
    refine List.Pairwise.imp_of_mem ?_ hu
    intro a b ha hb hab
    have e1 := fin_id (hi a ha).1 (hi a ha).2
    have e2 := fin_id (hi b hb).1 (hi b hb).2
    simp only [qG]
    omega
theorem PL.gids {lab : Nat → Nat} {B : Nat} {w : World} {l : Led} (h : PL lab B w l) : Ids l.G := by
  intro p hp
  have g := getM_of_mem h.gup hp
  rw [h.grp] at g
  cases ht : thereG l.ctrs p.1 with
  | false => rw [ht] at g; simp at g
  | true =>
    obtain ⟨id, c, hc, hg⟩ := (there_iff h.ok.up p.1).1 ht
    have := h.ok.ids _ (getM_mem hc)
    simp only at this
    rw [hg] at this
    exact this.2
theorem info84 : (Tryz.prog.info? 84).map (fun i => (i.zero, i.size, i.bytes)) = some (some (.agg #[.int .i64 0, .int .i64 0]), 2, 16) := by kernel_rfl
theorem gC_one (p : Int × Tot) : ∀ u ∈ gC p, u.oneCell' = true := by
  intro u hu
  simp [gC] at hu
  rcases hu with rfl | rfl <;> rfl
set_option maxHeartbeats 4000000 in
theorem groupsL_any (lab : Nat → Nat) (B : Nat) (l : Led) (w : World) (h : PL lab B w l) : Calls Tryz.prog 31 #[ptr l.lb] w fun e w' => ∃ v, e = .returned v ∧ GRow w' w.heap.size 84 2 v l.G.length (rowsC gC l.G) ∧ v.ownBlock ≠ none ∧ Below w.heap.size w w' := by
  obtain ⟨i0, hi, hz0, hz1, hz2⟩ := info_parts info84
  have hml := World.ownsMap.lt h.gm
  obtain ⟨k0, -⟩ := h.box.get 1 _ rfl
  have MW := hide (show w.ownsMap Tryz.prog 3 anyElem l.mg l.G.length (mapE .held (l.G.map fG)) by have q := h.gm; unfold AnyAt at q; rw [List.length_map] at q; exact q)
  have HSZ := hide (show Maps.size (mapE (H := Value) .held (l.G.map fG)) = l.G.length by rw [mapE_size, List.length_map])
  have HL := hide h.lenG
  have HU := hide ((up_map totV).2 h.gup)
  have HUG := hide h.gup
  have HID := hide h.gids
  have HBX := hide h.box
  have HPL := hide (show (l.G.map fG).length = l.G.length by rw [List.length_map])
  have HGT := hide (fun k => getM_mapV totV l.G k)
  clear h
  go_enter Tryz.func31, Tryz.ntmps31
  go_upto_region 2 with (first
    | (at_len; refine wpList_len_own _ rfl _ 105 rfl 3 125 Tryz.underlying105 _ l.mg _ _ rfl MW.out ?_; rw [HSZ.out])
    | (at_make; refine wpList_make_own _ rfl _ _ 76 rfl w.heap.size 84 i0 (.agg #[.int .i64 0, .int .i64 0]) 2 Tryz.underlying76 hi hz0 hz1 _ _ _ l.G.length rfl rfl rfl (by have := HL.out; rw [hz2]; omega) (by have := HL.out; unfold maxLen; omega) (Nat.le_refl _) ?_; intro w1 hrow1 hg1))
  have kb := hide (((Below.refl w.heap.size w).grown hg1 (Nat.le_refl _) (fun j hj => by cases hj)))
  obtain ⟨k1, -⟩ := (HBX.out.below kb.out).get 1 _ rfl
  go_wp2_with (at_range; refine wpList_range_own _ rfl _ 105 rfl 3 125 lawK Tryz.underlying105 _ l.mg _ _ rfl (MW.out.kept hg1 (by simp)) ?_; intro w0 hrg0 hg0 hs0)
  go_frame
  have hb1 := kb.out
  have s1 := hb1.size
  clear hs0 kb k1
  go_loopw [3] (fun v wr => ∃ (left : Lit → Bool) (cnt : Nat) (ls : List (Int × Tot)), wr.ranges Tryz.prog 3 anyElem l.mg w1.heap.size l.G.length (mapE .held (l.G.map fG)) left cnt ∧ ls.length + cnt ≤ l.G.length ∧ GRow wr w.heap.size 84 2 v ls.length (rowsC gC ls) ∧ v ≠ .slice none 0 0 ∧ (ls.map fG).Perm (metL (l.G.map fG) left) ∧ Below w.heap.size w wr) (fun _ wr => wr.rangeLeft l.mg w1.heap.size)
  case atStart =>
    refine ⟨_, _, [], hrg0, by rw [mapE_size]; simp, World.ownsRow.kept hrow1 hg0 (Or.inr (by simp [Value.ownBlock])), by simp, by rw [met_none]; exact List.Perm.refl _, ?_⟩
    exact hb1.grown hg0 s1 (fun j hj => by cases hj)
  case round =>
    obtain ⟨left, cnt, ls, hrg, hcs, hrow, hnn, hP, hb⟩ := hrel
    go_wp2_with (at_next; refine wpList_next_ranges (α := Int) (β := Value) _ rfl _ rfl 3 lawK anyElem (Value.int .i64) id (fun _ _ hk => by obtain ⟨x, e, _⟩ := Maps.keyOf_int_inv Tryz.underlying3 hk; exact ⟨x, e⟩) (fun v _ _ => ⟨v, rfl⟩) l.mg w1.heap.size _ _ _ _ rfl hrg ?_ ?_)
    · intro _ hl0
      rw [met_all _ _ hl0] at hP
      have hnb : u3.ownBlock ≠ none := by
        rcases hrow.2 with ⟨q, _⟩ | ⟨g, cap, cur, q, _⟩
        · exact absurd q hnn
        · rw [q]; simp [Value.ownBlock]
      obtain ⟨hPq, hid⟩ := perm_fG hP
      have hlen : ls.length = l.G.length := by have := hPq.length_eq; simpa using this
      have hids : Ids ls := fun p hp => by obtain ⟨q, hq, e⟩ := hid p hp; have := HID.out q hq; rw [e] at this; exact this
      rw [← rowsG hids] at hrow
      have KS := hide (sortG2_any w.heap.size u3 (ls.map qG) wr (by simpa using hrow) hnb (by simp; have := HL.out; omega))
      have HLOW := hide (fun g (hg : u3.ownBlock = some g) => (World.ownsRow.lt hrow g hg).1)
      have HNB := hide hnb
      have HBW := hide hb
      have HPQ := hide hPq
      have HLN := hide hlen
      clear hnb hb hcs hP hnn hrow hPq hlen hid hids
      go_wp2_with fail
      refine KS.out.mono ?_
      rintro r w' ⟨rfl, ds, p1, p2, ho, hk⟩
      have ed : ds = l.G.map qG := sortedG HUG.out HID.out (p1.trans HPQ.out) p2
      have HO := hide (show GRow w' w.heap.size 84 2 u3 l.G.length (rowsC gC l.G) by
        rw [ed, rowsG HID.out] at ho
        simpa [HLN.out] using ho)
      have HK := hide hk
      clear p1 p2 ho hk ed
      go_wp2_with fail
      go_ret
      exact ⟨_, rfl, HO.out, HNB.out, HBW.out.trans (HK.out.below HBW.out.size (fun k hk' q => by have := HLOW.out k q; omega))⟩
    · intro x c kl y1 y2 w2 cnt2 hkx hlx hRc hRd hat hrg2 hlt hg2 hs2 hen
      obtain ⟨x', ex, rfl, hwx⟩ := Maps.keyOf_int_inv Tryz.underlying3 hkx
      injection ex with _ ex
      subst ex
      subst hRc hRd
      obtain ⟨c', hc', hd', hperm⟩ := visitE (en := DataW.held (H := Value)) HU.out left hlx hat
      have ec : c = c' := by injection hd'
      subst ec
      have hgt := HGT.out x
      obtain ⟨y, hy⟩ : ∃ y : Tot, c = totV y := by
        rw [hgt] at hc'
        cases hg : getM l.G x with
        | none => rw [hg] at hc'; cases hc'
        | some y => rw [hg] at hc'; exact ⟨y, (Option.some.inj hc').symm⟩
      subst hy
      have hP2 : ((ls ++ [(x, y)]).map fG).Perm (metL (l.G.map fG) (fun z => left z && !z.sameKey (.int .i64 x))) := by
        rw [List.map_append]
        refine (List.perm_append_singleton (fG (x, y)) (ls.map fG)).trans ?_
        exact (List.Perm.cons (fG (x, y)) hP).trans hperm.symm
      have HP2 := hide hP2
      have hrow2 := World.ownsRow.kept hrow hg2 (Or.inr (row_ne_iter hrow hrg).symm)
      have hsz2 := hb.size
      have hg2s := hg2.size
      have hLL := HL.out
      have hPL := HPL.out
      obtain ⟨t1, t2, t3⟩ := y
      simp only [totV, tot] at hen
      clear hs2 hP2 hperm hc' hd' hat hlx hkx hwx hgt
      go_wp2_with (first
        | (at_builtin; refine wpList_appR Tryz.underlying76 info84 rfl (by decide) (by decide) rfl _ _ rfl w.heap.size _ _ _ rfl ((hrow2.alloc _).alloc _) (some ⟨w2.heap.size + 1, 0, none⟩) 1 1 (gC (x, t1, t2, t3)) rfl rfl (by have := lies_lit (w2.alloc (.cells #[.int .i64 t1, .int .i64 t2, .int .i64 t3] 125)) #[.int .i64 x, .int .i64 t1] 84; simpa [gC] using this) (gC_one _) (fun q => by cases q) (by omega) (by simp; omega) ?_; intro v' w3 hown' hg3 hnil3; go_frame)
        | fail)
      have hrg3 := ((hrg2.alloc _).alloc _).kept hg3 (row_ne_low hrow2 hml) (row_ne_iter hrow2 hrg2)
      go_roundw
      case rel =>
        refine ⟨_, cnt2, ls ++ [(x, t1, t2, t3)], hrg3, by simp; omega, by simpa [rowsC] using hown', ?_, HP2.out, ?_⟩
        · rcases hown'.2 with ⟨_, q⟩ | ⟨g, cap, cur, q, _⟩
          · omega
          · rw [q]; simp
        · exact ((((hb.grown hg2 hb.size (fun j hj => by cases hj; exact s1)).alloc (by omega) _).alloc (by simp; omega) _)).grown hg3 (by simp; omega) (fun j hj => (hrow2.lt j hj).1)
      case measure => rw [hrg3.left_eq, hrg.left_eq]; exact hlt
end Go.Proofs.YtaohdmaenplbpaaGreat
