import Derived.Test.YtlloppalagddnaaSr14
import Derived.Test.YtlloppalagddnaaSrS
import Derived.Sort.OwnSorted
set_option linter.all false
namespace Go.Proofs.Ytlloppalagddnaa
open Go.RowKit Go.QK Quota Go.Maps Go.QM Go.QS
set_option maxRecDepth 100000
/-! told: all counters, by number. -/
def qC (x : Cn) : QC5 := (Fin.ofNat 1048577 x.id.toNat, x.grp, x.lo, x.hi, x.val)
theorem fin_id {z : Int} (h1 : 1 ≤ z) (h2 : z ≤ 1048576) : (((Fin.ofNat 1048577 z.toNat).val : Nat) : Int) = z := by
  have e : (Fin.ofNat 1048577 z.toNat).val = z.toNat % 1048577 := rfl
  rw [e, Nat.mod_eq_of_lt (by omega)]
  omega
def IdsC (L : List Cn) : Prop := ∀ p ∈ L, 1 ≤ p.id ∧ p.id ≤ 1048576
theorem rowsCC {L : List Cn} (h : IdsC L) : rowsC encC5 (L.map qC) = cns L := by
  unfold cns rowsC
  rw [List.flatMap_map]
  induction L with
  | nil => rfl
  | cons p r ih =>
    simp only [List.flatMap_cons]
    rw [ih (fun q hq => h q (List.mem_cons_of_mem _ hq))]
    congr 1
    have := h p (by simp)
    simp only [encC5, qC, cnC, fin_id this.1 this.2]
abbrev fC (x : Cn) : Int × Value := (x.id, cnV x)
def unfC (p : Int × Value) : Cn := match p.2 with
  | .agg #[.int _ a, .int _ b, .int _ c, .int _ d, .int _ e] => ⟨a, b, c, d, e⟩
  | _ => ⟨0, 0, 0, 0, 0⟩
theorem perm_fC {l L : List Cn} (h : (l.map fC).Perm (L.map fC)) : l.Perm L := by
  have e : ∀ l : List Cn, l = (l.map fC).map unfC := fun l => by
    rw [List.map_map]
    exact (List.map_id' l).symm
  rw [e l, e L]
  exact h.map _
theorem sortedC {L : List Cn} {ds : List QC5} (hu : L.Pairwise (fun p q => p.id < q.id)) (hi : IdsC L) (hp : ds.Perm (L.map qC)) (hs : ds.Pairwise (fun x y => x.1.val ≤ y.1.val)) : ds = L.map qC := by
  have hu2 : (L.map qC).Pairwise (fun x y => x.1.val < y.1.val) := by
    rw [List.pairwise_map]
    refine List.Pairwise.imp_of_mem ?_ hu
    intro a b ha hb hab
    have e1 := fin_id (hi a ha).1 (hi a ha).2
    have e2 := fin_id (hi b hb).1 (hi b hb).2
    simp only [qC]
    omega
  have hnd : (L.map qC).Pairwise (fun x y => x.1.val ≠ y.1.val) := hu2.imp (fun q => by omega)
  have hnd2 : ds.Pairwise (fun x y => x.1.val ≠ y.1.val) := (hp.symm.pairwise_iff (fun {a b} q => fun r => q r.symm)).1 hnd
  have hs2 : ds.Pairwise (fun x y => x.1.val < y.1.val) := (hs.and hnd2).imp (fun q => by omega)
  exact List.Perm.eq_of_pairwise (le := fun (x y : QC5) => x.1.val < y.1.val) (fun a b _ _ q1 q2 => by omega) hs2 hu2 hp
theorem lies_lit (w : World) (cs : Array Value) (t : TypeId) : Lies (w.alloc (.cells cs t)) (some ⟨w.heap.size, 0, none⟩) cs.toList := by
  have h := Cells.new w cs t
  refine .inr ⟨w.heap.size, 0, rfl, h.1, fun i hi => ?_⟩
  have q := (h.2 i (by simpa using hi)).1
  rw [Nat.zero_add]
  exact q
theorem info_parts {e : TypeId} {z : Value} {s b : Nat} (hin : (Try.prog.info? e).map (fun i => (i.zero, i.size, i.bytes)) = some (some z, s, b)) : ∃ i0, Try.prog.info? e = some i0 ∧ i0.zero = some z ∧ i0.size = s ∧ i0.bytes = b := info_of hin
/-- Counters by number, whatever their values. -/
structure CsW (C : Cs) : Prop where
  up : Up C
  ids : ∀ p ∈ C, p.2.id = p.1 ∧ 1 ≤ p.1 ∧ p.1 ≤ 1048576
theorem CsW.of {C : Cs} (h : CsOk C) : CsW C := ⟨h.up, h.ids⟩
theorem CsW.len {C : Cs} (h : CsW C) : C.length ≤ 1048576 := by
  have := up_len h.up (a := 1) (b := 1048576) (fun p hp => (h.ids p hp).2)
  omega
theorem CsW.add {C : Cs} (h : CsW C) (f : Int → Int) : CsW (addC C f) := by
  refine ⟨(up_mapK (fun k (x : Cn) => x.set (x.val + f k))).2 h.up, fun p hp => ?_⟩
  obtain ⟨q, hq, rfl⟩ := List.mem_map.1 hp
  exact h.ids q hq
/-- The counters, by number. -/
def cnL (C : Cs) : List Cn := C.map (·.2)
theorem cnL_ids {C : Cs} (h : CsW C) : IdsC (cnL C) := fun x hx => by
  obtain ⟨p, hp, rfl⟩ := List.mem_map.1 hx
  have := h.ids p hp
  omega
theorem cnL_up {C : Cs} (h : CsW C) : (cnL C).Pairwise (fun p q => p.id < q.id) := by
  unfold cnL
  rw [List.pairwise_map]
  refine List.Pairwise.imp_of_mem ?_ h.up
  intro a b ha hb hab
  rw [(h.ids a ha).1, (h.ids b hb).1]
  exact hab
theorem mapC_cnL {C : Cs} (h : CsW C) : mapC C = (cnL C).map fC := by
  unfold mapC cnL
  rw [List.map_map]
  refine List.map_congr_left (fun p hp => ?_)
  show (p.1, cnV p.2) = (p.2.id, cnV p.2)
  rw [(h.ids p hp).1]
set_option maxHeartbeats 4000000 in
theorem told_any (w : World) (mc : Nat) (C : Cs) (hC : CsW C) (hm : AnyAt Try.prog 3 w mc (mapC C)) : Calls Try.prog 33 #[.map (some mc)] w fun e w' => ∃ v, e = .returned v ∧ GRow w' w.heap.size 65 5 v (cnL C).length (cns (cnL C)) ∧ v.ownBlock ≠ none ∧ Below w.heap.size w w' := by
  obtain ⟨i0, hi, hz0, hz1, hz2⟩ := info_parts info65
  have hml := World.ownsMap.lt hm
  have elen : (cnL C).length = C.length := by unfold cnL; rw [List.length_map]
  have MW := hide (show w.ownsMap Try.prog 3 anyElem mc (cnL C).length (mapE .held ((cnL C).map fC)) by have q := hm; rw [mapC_cnL hC] at q; unfold AnyAt at q; rw [List.length_map] at q; exact q)
  have HSZ := hide (show Maps.size (mapE (H := Value) .held ((cnL C).map fC)) = (cnL C).length by rw [mapE_size, List.length_map])
  have HL := hide (show (cnL C).length ≤ 1048576 by rw [elen]; exact CsW.len hC)
  have HU := hide (show Up ((cnL C).map fC) by rw [← mapC_cnL hC]; exact (up_map (fun (x : Cn) => cnV x)).2 hC.up)
  have HUG := hide (cnL_up hC)
  have HID := hide (cnL_ids hC)
  have HPL := hide (show ((cnL C).map fC).length = (cnL C).length by rw [List.length_map])
  have HGT := hide (show ∀ k c, getM ((cnL C).map fC) k = some c → ∃ y : Cn, y.id = k ∧ c = cnV y from fun k c hk => by
    obtain ⟨y, hy, e⟩ := List.mem_map.1 (getM_mem hk)
    cases e
    exact ⟨y, rfl, rfl⟩)
  clear hm elen
  go_enter Try.func33, Try.ntmps33
  go_upto_region 2 with (first
    | (at_len; refine wpList_len_own _ rfl _ 83 rfl 3 65 Try.underlying83 _ mc _ _ rfl MW.out ?_; rw [HSZ.out])
    | (at_make; refine wpList_make_own _ rfl _ _ 35 rfl w.heap.size 65 i0 (.agg #[.int .i64 0, .int .i64 0, .int .i64 0, .int .i64 0, .int .i64 0]) 5 Try.underlying35 hi hz0 hz1 _ _ _ (cnL C).length rfl rfl rfl (by have := HL.out; rw [hz2]; omega) (by have := HL.out; unfold maxLen; omega) (Nat.le_refl _) ?_; intro w1 hrow1 hg1))
  have kb := hide (((Below.refl w.heap.size w).grown hg1 (Nat.le_refl _) (fun j hj => by cases hj)))
  go_wp2_with (at_range; refine wpList_range_own _ rfl _ 83 rfl 3 65 lawK Try.underlying83 _ mc _ _ rfl (MW.out.kept hg1 (by simp)) ?_; intro w0 hrg0 hg0 hs0)
  go_frame
  have hb1 := kb.out
  have s1 := hb1.size
  clear hs0 kb
  go_loopw [3] (fun v wr => ∃ (left : Lit → Bool) (cnt : Nat) (ls : List Cn), wr.ranges Try.prog 3 anyElem mc w1.heap.size (cnL C).length (mapE .held ((cnL C).map fC)) left cnt ∧ ls.length + cnt ≤ (cnL C).length ∧ GRow wr w.heap.size 65 5 v ls.length (cns ls) ∧ v ≠ .slice none 0 0 ∧ (ls.map fC).Perm (metL ((cnL C).map fC) left) ∧ Below w.heap.size w wr) (fun _ wr => wr.rangeLeft mc w1.heap.size)
  case atStart =>
    refine ⟨_, _, [], hrg0, by rw [mapE_size]; simp, World.ownsRow.kept hrow1 hg0 (Or.inr (by simp [Value.ownBlock])), by simp, by rw [met_none]; exact List.Perm.refl _, ?_⟩
    exact hb1.grown hg0 s1 (fun j hj => by cases hj)
  case round =>
    obtain ⟨left, cnt, ls, hrg, hcs, hrow, hnn, hP, hb⟩ := hrel
    go_wp2_with (at_next; refine wpList_next_ranges (α := Int) (β := Value) _ rfl _ rfl 3 lawK anyElem (Value.int .i64) id (fun _ _ hk => by obtain ⟨x, e, _⟩ := Maps.keyOf_int_inv Try.underlying3 hk; exact ⟨x, e⟩) (fun v _ _ => ⟨v, rfl⟩) mc w1.heap.size _ _ _ _ rfl hrg ?_ ?_)
    · intro _ hl0
      rw [met_all _ _ hl0] at hP
      have hnb : u3.ownBlock ≠ none := by
        rcases hrow.2 with ⟨q, _⟩ | ⟨g, cap, cur, q, _⟩
        · exact absurd q hnn
        · rw [q]; simp [Value.ownBlock]
      have hP0 := perm_fC hP
      have hPq : (ls.map qC).Perm ((cnL C).map qC) := hP0.map _
      have hlen : ls.length = (cnL C).length := hP0.length_eq
      have hids : IdsC ls := fun p hp => HID.out p (hP0.mem_iff.1 hp)
      rw [← rowsCC hids] at hrow
      have KS := hide (sortC5_any w.heap.size u3 (ls.map qC) wr (by simpa using hrow) hnb (by simp; have := HL.out; omega))
      have HLOW := hide (fun g (hg : u3.ownBlock = some g) => (World.ownsRow.lt hrow g hg).1)
      have HNB := hide hnb
      have HBW := hide hb
      have HPQ := hide hPq
      have HLN := hide hlen
      clear hnb hb hcs hP hnn hrow hPq hlen hP0 hids
      go_wp2_with fail
      refine KS.out.mono ?_
      rintro r w' ⟨rfl, ds, p1, p2, ho, hk⟩
      have ed : ds = (cnL C).map qC := sortedC HUG.out HID.out (p1.trans HPQ.out) p2
      have HO := hide (show GRow w' w.heap.size 65 5 u3 (cnL C).length (cns (cnL C)) by
        rw [ed, rowsCC HID.out] at ho
        simpa [HLN.out] using ho)
      have HK := hide hk
      clear p1 p2 ho hk ed
      go_wp2_with fail
      go_ret
      exact ⟨_, rfl, HO.out, HNB.out, HBW.out.trans (HK.out.below HBW.out.size (fun k hk' q => by have := HLOW.out k q; omega))⟩
    · intro x c kl y1 y2 w2 cnt2 hkx hlx hRc hRd hat hrg2 hlt hg2 hs2 hen
      obtain ⟨x', ex, rfl, hwx⟩ := Maps.keyOf_int_inv Try.underlying3 hkx
      injection ex with _ ex
      subst ex
      subst hRc hRd
      obtain ⟨c', hc', hd', hperm⟩ := visitE (en := DataW.held (H := Value)) HU.out left hlx hat
      have ec : c = c' := by injection hd'
      subst ec
      obtain ⟨y, hyx, hy⟩ := HGT.out x c hc'
      subst hy
      have hP2 : ((ls ++ [y]).map fC).Perm (metL ((cnL C).map fC) (fun z => left z && !z.sameKey (.int .i64 x))) := by
        rw [List.map_append]
        refine (List.perm_append_singleton (fC y) (ls.map fC)).trans ?_
        have e : fC y = (x, cnV y) := by show (y.id, cnV y) = _; rw [hyx]
        rw [e]
        exact (List.Perm.cons (x, cnV y) hP).trans hperm.symm
      have HP2 := hide hP2
      have hrow2 := World.ownsRow.kept hrow hg2 (Or.inr (row_ne_iter hrow hrg).symm)
      have hsz2 := hb.size
      have hg2s := hg2.size
      have hLL := HL.out
      have hPL := HPL.out
      obtain ⟨t0, t1, t2, t3, t4⟩ := y
      simp only at hyx
      have HYX := hide hyx
      clear hs2 hP2 hperm hc' hd' hat hlx hkx hwx hyx
      go_wp2_with (first
        | (at_builtin; refine wpList_appR Try.underlying35 info65 rfl (by decide) (by decide) rfl _ _ rfl w.heap.size _ _ _ rfl ((hrow2.alloc _).alloc _) (some ⟨w2.heap.size + 1, 0, none⟩) 1 1 (cnC ⟨t0, t1, t2, t3, t4⟩) rfl rfl (by have := lies_lit (w2.alloc (.cells #[.int .i64 t0, .int .i64 t1, .int .i64 t2, .int .i64 t3, .int .i64 t4] 65)) #[.int .i64 t0, .int .i64 t1, .int .i64 t2, .int .i64 t3, .int .i64 t4] 65; simpa [cnC] using this) (List.all_eq_true.1 (show (cnC ⟨t0, t1, t2, t3, t4⟩).all (·.oneCell') = true from rfl)) (fun q => by cases q) (by omega) (by simp; omega) ?_; intro v' w3 hown' hg3 hnil3; go_frame)
        | fail)
      have hrg3 := ((hrg2.alloc _).alloc _).kept hg3 (row_ne_low hrow2 hml) (row_ne_iter hrow2 hrg2)
      go_roundw
      case rel =>
        refine ⟨_, cnt2, ls ++ [⟨t0, t1, t2, t3, t4⟩], hrg3, by simp; omega, by simpa [cns, rowsC] using hown', ?_, HP2.out, ?_⟩
        · rcases hown'.2 with ⟨_, q⟩ | ⟨g, cap, cur, q, _⟩
          · omega
          · rw [q]; simp
        · exact ((((hb.grown hg2 hb.size (fun j hj => by cases hj; exact s1)).alloc (by omega) _).alloc (by simp; omega) _)).grown hg3 (by simp; omega) (fun j hj => (hrow2.lt j hj).1)
      case measure => rw [hrg3.left_eq, hrg.left_eq]; exact hlt
end Go.Proofs.Ytlloppalagddnaa
