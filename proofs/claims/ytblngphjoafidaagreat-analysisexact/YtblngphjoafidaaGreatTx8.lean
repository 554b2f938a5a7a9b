import Derived.Test.YtblngphjoafidaaGreatTx7
import Derived.Sort.OwnSorted
namespace Go.Proofs.YtblngphjoafidaaGreat
open Go.RowKit Go.QK Go.Maps Go.QM Go.QT
set_option maxRecDepth 100000
def q4 (x : Lv) : Q4 := (x.tx, x.last, x.com, x.und)
theorem q4_inj {x y : Lv} (h : q4 x = q4 y) : x = y := by
  obtain ⟨a1, a2, a3, a4⟩ := x
  obtain ⟨b1, b2, b3, b4⟩ := y
  simp [q4] at h
  simp [h]
theorem rows4 (ls : List Lv) : rowsC enc4 (ls.map q4) = rowsC lvC ls := by
  unfold rowsC
  rw [List.flatMap_map]
  rfl
theorem rise_uniq {L : List Lv} (hr : Rise L) {a b : Lv} (ha : a ∈ L) (hb : b ∈ L) (h : a.tx = b.tx) : a = b := by
  have e1 := getT_of hr ha
  have e2 := getT_of hr hb
  rw [h, e2] at e1
  exact (Option.some.inj e1).symm
theorem sorted_uniq {L : List Lv} {ds : List Q4} (hr : Rise L) (hp : ds.Perm (L.map q4)) (hs : ds.Pairwise (fun x y => x.1 ≤ y.1)) : ds = L.map q4 := by
  refine List.Perm.eq_of_pairwise ?_ hs ?_ hp
  · intro a b ha hb h1 h2
    have ha' := hp.mem_iff.1 ha
    obtain ⟨x, hx, rfl⟩ := List.mem_map.1 ha'
    obtain ⟨y, hy, rfl⟩ := List.mem_map.1 hb
    have : x.tx = y.tx := by simp [q4] at h1 h2; omega
    rw [rise_uniq hr hx hy this]
  · rw [List.pairwise_map]
    refine hr.imp ?_
    intro a b hab
    simp [q4]
    omega
theorem info26 : (Tryz.prog.info? 58).map (fun i => (i.zero, i.size, i.bytes)) = some (some (.agg #[.int .i64 0, .int .i64 0, .bool false, .bool false]), 4, 24) := by kernel_rfl
abbrev prL (x : Lv) : Int × Value := (x.tx, lvV x)
def metL (L : Prs Value) (left : Lit → Bool) : Prs Value := L.filter (fun p => !left (.int .i64 p.1))
theorem met_all (L : Prs Value) (left : Lit → Bool) (h : ∀ kl, left kl = false) : metL L left = L := by
  unfold metL
  rw [List.filter_eq_self]
  intro p _
  simp [h]
theorem met_none {L : Prs Value} : metL L (Maps.has (mapE (H := Value) .held L)) = [] := by
  unfold metL
  rw [List.filter_eq_nil_iff]
  intro p hp
  rw [mapE_has]
  unfold hasM
  simp
  exact ⟨p.2, hp⟩
theorem prL_inj {a b : Lv} (h : prL a = prL b) : a = b := by
  obtain ⟨a1, a2, a3, a4⟩ := a
  obtain ⟨b1, b2, b3, b4⟩ := b
  simp [prL, lvV] at h
  simp [h]
theorem perm_of_prL {l L : List Lv} (h : (l.map prL).Perm (prT L)) : (l.map q4).Perm (L.map q4) := by
  have e : ∀ l : List Lv, l.map q4 = (l.map prL).map (fun p => match p.2 with | .agg #[.int _ a, .int _ b, .bool c, .bool d] => (a, b, c, d) | _ => (0, 0, false, false)) := by
    intro l
    rw [List.map_map]
    rfl
  rw [e l, e L]
  exact h.map _
theorem lies_new4 (w : World) (x : Lv) (t : TypeId) : Lies (w.alloc (.cells #[.int .i64 x.tx, .int .i64 x.last, .bool x.com, .bool x.und] t)) (some ⟨w.heap.size, 0, none⟩) (lvC x) := by
  have h := Cells.new w #[.int .i64 x.tx, .int .i64 x.last, .bool x.com, .bool x.und] t
  refine .inr ⟨w.heap.size, 0, rfl, h.1, fun i hi => ?_⟩
  have q := (h.2 i (by simpa using hi)).1
  rw [Nat.zero_add]
  exact q
theorem lvC_one (x : Lv) : ∀ u ∈ lvC x, u.oneCell' = true := by
  intro u hu
  simp [lvC] at hu
  rcases hu with rfl | rfl | rfl | rfl <;> rfl
set_option maxHeartbeats 4000000 in
theorem live_any (b m : Nat) (t : TbM) (w : World) (h : PT w b m t) : Calls Tryz.prog 32 #[ptr b] w fun e w' => ∃ v, e = .returned v ∧ GRow w' w.heap.size 58 4 v t.L.length (rowsC lvC t.L) ∧ v.ownBlock ≠ none ∧ Below w.heap.size w w' := by
  obtain ⟨i0, hi, hz0, hz1, hz2⟩ := info_parts info26
  have hl32 := h.ok.few
  have hml := h.lt.2
  obtain ⟨k0, -⟩ := h.box.get 0 _ rfl
  have MW := hide (show w.ownsMap Tryz.prog 3 anyElem m _ (mapE .held (prT t.L)) from h.mp)
  have HSZ := hide (show Maps.size (mapE (H := Value) .held (prT t.L)) = t.L.length by rw [mapE_size, prT_len])
  have HL := hide hl32
  have HU := hide (prT_up h.ok.rise)
  have HR := hide h.ok.rise
  have HBX := hide h.box
  have HPL := hide (prT_len t.L)
  have HGT := hide (getM_prT t.L)
  clear h hl32
  go_enter Tryz.func32, Tryz.ntmps32
  go_upto_region 2 with (first
    | (at_len; refine wpList_len_own _ rfl _ 96 rfl 3 58 Tryz.underlying96 _ m _ _ rfl MW.out ?_; rw [HSZ.out])
    | (at_make; refine wpList_make_own _ rfl _ _ 31 rfl w.heap.size 58 i0 (.agg #[.int .i64 0, .int .i64 0, .bool false, .bool false]) 4 Tryz.underlying31 hi hz0 hz1 _ _ _ t.L.length rfl rfl rfl (by have := HL.out; rw [hz2]; omega) (by have := HL.out; unfold maxLen; omega) (Nat.le_refl _) ?_; intro w1 hrow1 hg1))
  have kb := hide (((Below.refl w.heap.size w).grown hg1 (Nat.le_refl _) (fun j hj => by cases hj)))
  obtain ⟨k1, -⟩ := (HBX.out.below kb.out).get 0 _ rfl
  go_wp2_with (at_range; refine wpList_range_own _ rfl _ 96 rfl 3 58 lawK Tryz.underlying96 _ m _ _ rfl (MW.out.kept hg1 (by simp)) ?_; intro w0 hrg0 hg0 hs0)
  go_frame
  have hb1 := kb.out
  have s1 := hb1.size
  clear hs0 kb k1
  go_loopw [3] (fun v wr => ∃ (left : Lit → Bool) (cnt : Nat) (ls : List Lv), wr.ranges Tryz.prog 3 anyElem m w1.heap.size (prT t.L).length (mapE .held (prT t.L)) left cnt ∧ ls.length + cnt ≤ (prT t.L).length ∧ GRow wr w.heap.size 58 4 v ls.length (rowsC lvC ls) ∧ v ≠ .slice none 0 0 ∧ (ls.map prL).Perm (metL (prT t.L) left) ∧ Below w.heap.size w wr) (fun _ wr => wr.rangeLeft m w1.heap.size)
  case atStart =>
    refine ⟨_, _, [], hrg0, by rw [mapE_size]; simp, World.ownsRow.kept hrow1 hg0 (Or.inr (by simp [Value.ownBlock])), by simp, by rw [met_none]; exact List.Perm.refl _, ?_⟩
    exact hb1.grown hg0 s1 (fun j hj => by cases hj)
  case round =>
    obtain ⟨left, cnt, ls, hrg, hcs, hrow, hnn, hP, hb⟩ := hrel
    go_wp2_with (at_next; refine wpList_next_ranges (α := Int) (β := Value) _ rfl _ rfl 3 lawK anyElem (Value.int .i64) id (fun _ _ hk => by obtain ⟨x, e, _⟩ := Maps.keyOf_int_inv Tryz.underlying3 hk; exact ⟨x, e⟩) (fun v _ _ => ⟨v, rfl⟩) m w1.heap.size _ _ _ _ rfl hrg ?_ ?_)
    · intro _ hl0
      rw [met_all _ _ hl0] at hP
      have hnb : u3.ownBlock ≠ none := by
        rcases hrow.2 with ⟨q, _⟩ | ⟨g, cap, cur, q, _⟩
        · exact absurd q hnn
        · rw [q]; simp [Value.ownBlock]
      have hPq := perm_of_prL hP
      have hlen : ls.length = t.L.length := by have := hPq.length_eq; simpa using this
      rw [← rows4 ls] at hrow
      have KS := hide (sort4_any w.heap.size u3 (ls.map q4) wr (by simpa using hrow) hnb (by simp; have := HL.out; omega))
      have HLOW := hide (fun g (hg : u3.ownBlock = some g) => (World.ownsRow.lt hrow g hg).1)
      have HNB := hide hnb
      have HBW := hide hb
      have HPQ := hide hPq
      have HLN := hide hlen
      clear hnb hb hcs hP hnn hrow hPq hlen
      go_wp2_with fail
      refine KS.out.mono ?_
      rintro r w' ⟨rfl, ds, p1, p2, ho, hk⟩
      have ed : ds = t.L.map q4 := sorted_uniq HR.out (p1.trans HPQ.out) p2
      have HO := hide (show GRow w' w.heap.size 58 4 u3 t.L.length (rowsC lvC t.L) by
        rw [ed, rows4] at ho
        simpa [HLN.out] using ho)
      have HK := hide hk
      clear p1 p2 ho hk ed
      go_wp2_with fail
      go_ret
      exact ⟨_, rfl, HO.out, HNB.out, HBW.out.trans (HK.out.below HBW.out.size (fun k hk' q => by have := HLOW.out k q; omega))⟩
    · intro x c kl y1 y2 w2 cnt2 hkx hlx hRc hRd hat hrg2 hlt hg2 hs2 hen
      obtain ⟨x', ex, rfl, hwx⟩ := Maps.keyOf_int_inv Tryz.underlying3 hkx
      injection ex with _ ex
      subst ex
      subst hRc hRd
      obtain ⟨c', hc', hd', hperm⟩ := visitE (en := DataW.held (H := Value)) HU.out left hlx hat
      have ec : c = c' := by injection hd'
      subst ec
      rw [HGT.out] at hc'
      obtain ⟨y, hy, rfl⟩ : ∃ y, getT t.L x = some y ∧ c = lvV y := by
        cases hg : getT t.L x with
        | none => rw [hg] at hc'; cases hc'
        | some y => rw [hg] at hc'; exact ⟨y, rfl, (Option.some.inj hc').symm⟩
      have htx := (getT_mem hy).2
      have hP2 : ((ls ++ [y]).map prL).Perm (metL (prT t.L) (fun z => left z && !z.sameKey (.int .i64 x))) := by
        rw [List.map_append]
        refine (List.perm_append_singleton (prL y) (ls.map prL)).trans ?_
        refine (List.Perm.cons (prL y) hP).trans ?_
        have : prL y = (x, lvV y) := by rw [← htx]
        rw [this]
        exact hperm.symm
      have HP2 := hide hP2
      have hrow2 := World.ownsRow.kept hrow hg2 (Or.inr (row_ne_iter hrow hrg).symm)
      have hsz2 := hb.size
      have hg2s := hg2.size
      have hLL := HL.out
      have hPL := HPL.out
      simp only [lvV] at hen
      clear hs2 hP2 hperm hc' hd' hat hlx hkx hwx htx hy
      go_wp2_with (first
        | (at_builtin; refine wpList_appR Tryz.underlying31 info26 rfl (by decide) (by decide) rfl _ _ rfl w.heap.size _ _ _ rfl ((hrow2.alloc _).alloc _) (some ⟨w2.heap.size + 1, 0, none⟩) 1 1 (lvC y) rfl rfl (by have := lies_new4 (w2.alloc (.cells #[.int .i64 y.tx, .int .i64 y.last, .bool y.com, .bool y.und] 58)) y 58; simpa using this) (lvC_one y) (fun q => by cases q) (by omega) (by simp; omega) ?_; intro v' w3 hown' hg3 hnil3; go_frame)
        | fail)
      have hrg3 := ((hrg2.alloc _).alloc _).kept hg3 (row_ne_low hrow2 hml) (row_ne_iter hrow2 hrg2)
      go_roundw
      case rel =>
        refine ⟨_, cnt2, ls ++ [y], hrg3, by simp; omega, by simpa [rowsC] using hown', ?_, HP2.out, ?_⟩
        · rcases hown'.2 with ⟨_, q⟩ | ⟨g, cap, cur, q, _⟩
          · omega
          · rw [q]; simp
        · exact ((((hb.grown hg2 hb.size (fun j hj => by cases hj; exact s1)).alloc (by omega) _).alloc (by simp; omega) _)).grown hg3 (by simp; omega) (fun j hj => (hrow2.lt j hj).1)
      case measure => rw [hrg3.left_eq, hrg.left_eq]; exact hlt
end Go.Proofs.YtblngphjoafidaaGreat
