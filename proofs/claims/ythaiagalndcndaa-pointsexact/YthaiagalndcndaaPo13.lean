import Derived.Test.YthaiagalndcndaaPo11
import Derived.Test.YthaiagalndcndaaPo12
namespace Go.Proofs.Ythaiagalndcndaa
open Go.RowKit Go.QK Go.Maps Go.QM Go.QP
set_option maxRecDepth 100000
def resL (la lb : List Dr) : List Dr := if faultE (la ++ lb) = 0 then tidy (la ++ lb) else []
theorem merge_h (a b : Option Addr) (na nb ca cb : Nat) (la lb : List Dr) (R : Int) (res : List Dr) (w : World) (ha : Sl w a na ca la) (hb : Sl w b nb cb lb) (hR : faultE (la ++ lb) = R) (hres : resL la lb = res) :
    Calls Try.prog 19 #[.slice a na ca, .slice b nb cb] w fun e w' => ∃ av nv cv, e = .returned (.tuple #[.slice av nv cv, .int .i64 R]) ∧ Sl w' av nv cv res ∧ Below w.heap.size w w' := by
  obtain ⟨ha, rfl⟩ := ha
  obtain ⟨hb, rfl⟩ := hb
  subst hR hres
  by_cases h : faultE (la ++ lb) = 0
  · have hf := (fault_fine _).1 h
    refine (merge_yes a b ca cb la lb w ha hb h).mono ?_
    rintro e w' ⟨v, rfl, r, hbel⟩
    rw [mergeL_eq (fun d hd => hf d (List.mem_append_left _ hd)) (fun d hd => hf d (List.mem_append_right _ hd))] at r
    obtain ⟨av, cv, rfl, x⟩ := DRow.ent r (by have := tidy_len (la ++ lb); omega)
    refine ⟨av, _, cv, by rw [h], ?_, hbel⟩
    have e : resL la lb = tidy (la ++ lb) := if_pos h
    rw [e]
    exact ⟨x, rfl⟩
  · refine (merge_no a b ca cb la lb w ha hb h).mono ?_
    rintro e w' ⟨rfl, hbel⟩
    refine ⟨none, 0, 0, rfl, ?_, hbel⟩
    have e : resL la lb = [] := if_neg h
    rw [e]
    exact Sl.nil _
theorem rmerge_h (a b : Option Addr) (na nb ca cb : Nat) (la lb : List Dr) (R : Int) (res : List Dr) (w : World) (ha : Sl w a na ca la) (hb : Sl w b nb cb lb) (hR : faultE (la ++ lb) = R) (hres : resL la lb = res) :
    Calls Try.prog 20 #[.slice a na ca, .slice b nb cb] w fun e w' => ∃ av nv cv, e = .returned (.tuple #[.slice av nv cv, .int .i64 R]) ∧ Sl w' av nv cv res ∧ Below w.heap.size w w' := by
  subst hR hres
  refine (rmerge_any a b na nb ca cb la lb w ha hb).mono ?_
  rintro e w' ⟨v, rfl, h1, h2, hbel⟩
  by_cases h : faultE (la ++ lb) = 0
  · obtain ⟨av, cv, rfl, x⟩ := DRow.ent (h2 h) (by have := tidy_len (la ++ lb); omega)
    refine ⟨av, _, cv, rfl, ?_, hbel⟩
    have e : resL la lb = tidy (la ++ lb) := if_pos h
    rw [e]
    exact ⟨x, rfl⟩
  · obtain rfl := h1 h
    refine ⟨none, 0, 0, rfl, ?_, hbel⟩
    have e : resL la lb = [] := if_neg h
    rw [e]
    exact Sl.nil _
def toM (d : Dr) : DirtyM := ⟨d.1, d.2⟩
theorem toM_cs (l : List Dr) : dirtyCs (l.map toM) = drs l := by
  unfold dirtyCs drs rowsC
  rw [List.flatMap_map]
  rfl
theorem pcheck_h (live : List LiveM) (l : List Dr) (la da : Option Addr) (nl nd lc dc : Nat) (next : Int) (E : Nat) (w : World) (hl : Lies w la (liveCs live)) (hn : nl = live.length) (hd : Sl w da nd dc l) (hE : chkE (ptsR live (l.map toM) next) = E) :
    Calls Try.prog 14 #[ptsV (.slice la nl lc) da nd dc next] w fun e w' => e = .returned (.int .i64 (E : Int)) ∧ Below w.heap.size w w' := by
  have K := pcheck_any live (l.map toM) la da lc dc next w hl (by rw [toM_cs]; exact hd.ent.1)
  rw [hE, List.length_map, ← hd.len, ← hn] at K
  exact K
theorem rpcheck_h (live : List LiveM) (l : List Dr) (la da : Option Addr) (nl nd lc dc : Nat) (next : Int) (E : Nat) (w : World) (hl : Lies w la (liveCs live)) (hn : nl = live.length) (hd : Sl w da nd dc l) (hE : chkE (ptsR live (l.map toM) next) = E) :
    Calls Try.prog 15 #[ptsV (.slice la nl lc) da nd dc next] w fun e w' => e = .returned (.int .i64 (E : Int)) ∧ Below w.heap.size w w' := by
  have K := rpcheck_any live (l.map toM) la da lc dc next w hl (by rw [toM_cs]; exact hd.ent.1)
  rw [hE, List.length_map, ← hd.len, ← hn] at K
  exact K
theorem pfrom_h (la : Option Addr) (nl lc : Nat) (a : Option Addr) (n c : Nat) (l : List Dr) (next F : Int) (w : World) (h : Sl w a n c l) (hF : fromL l = F) :
    Calls Try.prog 11 #[ptsV (.slice la nl lc) a n c next] w fun e w' => e = .returned (.int .i64 F) ∧ Below w.heap.size w w' := by
  obtain ⟨h, rfl⟩ := h
  subst hF
  exact from_any la nl lc a c l next w h.1 (by have := h.2.1; simp only at this; omega)
theorem rpfrom_h (la : Option Addr) (nl lc : Nat) (a : Option Addr) (n c : Nat) (l : List Dr) (next F : Int) (w : World) (h : Sl w a n c l) (hF : fromL l = F) :
    Calls Try.prog 16 #[ptsV (.slice la nl lc) a n c next] w fun e w' => e = .returned (.int .i64 F) ∧ Below w.heap.size w w' := by
  obtain ⟨h, rfl⟩ := h
  subst hF
  exact rfrom_any la nl lc a c l next w h.1 (by have := h.2.1; simp only at this; omega)
/-! A number written over in a lent list. -/
theorem drs_set1 (l : List Dr) (i : Nat) (y : Int) (h : i < l.length) : (drs l).set (i * 2 + 1) (.int .i64 y) = drs (l.set i (l[i].1, y)) := by
  induction l generalizing i with
  | nil => cases h
  | cons d r ih =>
    cases i with
    | zero => rfl
    | succ i =>
      have e : ∀ (d : Dr) (r : List Dr), drs (d :: r) = .int .i64 d.1 :: .int .i64 d.2 :: drs r := fun _ _ => rfl
      rw [show (i + 1) * 2 + 1 = i * 2 + 1 + 1 + 1 by omega, e, List.set_cons_succ, List.set_cons_succ, ih i (by simpa using h), List.set_cons_succ, e]
      simp
theorem drs_set0 (l : List Dr) (i : Nat) (y : Int) (h : i < l.length) : (drs l).set (i * 2) (.int .i64 y) = drs (l.set i (y, l[i].2)) := by
  induction l generalizing i with
  | nil => cases h
  | cons d r ih =>
    cases i with
    | zero => rfl
    | succ i =>
      have e : ∀ (d : Dr) (r : List Dr), drs (d :: r) = .int .i64 d.1 :: .int .i64 d.2 :: drs r := fun _ _ => rfl
      rw [show (i + 1) * 2 = i * 2 + 1 + 1 by omega, e, List.set_cons_succ, List.set_cons_succ, ih i (by simpa using h), List.set_cons_succ, e]
      simp
theorem Lent.store {w : World} {B g k cap : Nat} {l : List Dr} (h : Lent w B g k cap l) {i o : Nat} (hi : i < k) (ho : o < 2) (y : Int) : ∃ l', Lent (w.setCell ⟨g, i * 2 + o, none⟩ (.int .i64 y)) B g k cap l' := by
  have r := (World.ownsRow.stored h.row (i * 2 + o) (.int .i64 y)).1
  have hl := h.len
  have hi2 : i < (l ++ [mkD]).length := by simp; omega
  match o, ho with
  | 0, _ =>
    rw [Nat.add_zero, drs_set0 _ _ _ hi2, List.set_append_left _ _ (by omega)] at r
    exact ⟨_, r, by simpa using hl⟩
  | 1, _ =>
    rw [drs_set1 _ _ _ hi2, List.set_append_left _ _ (by omega)] at r
    exact ⟨_, r, by simpa using hl⟩
theorem Lent.at_ {w : World} {B g k cap : Nat} {l : List Dr} (h : Lent w B g k cap l) {i : Nat} (hi : i < k) : (∃ p s, w.cell? ⟨g, i * 2, none⟩ = some (.int .i64 p) ∧ w.cell? ⟨g, i * 2 + 1, none⟩ = some (.int .i64 s)) ∧ ∀ j, w.frozen? ⟨g, j, none⟩ = false := by
  obtain ⟨b, off, e, _, c0, c1⟩ := h.all.1.dr (k := i) (by rw [List.length_append, ← h.len]; simp; omega)
  cases e
  rw [Nat.zero_add] at c0 c1
  exact ⟨⟨_, _, c0, c1⟩, fun j => World.ownsRow.frozenAt h.row j⟩
theorem keep_set (w : World) (g j : Nat) (v : Value) : Keep (fun z => z = g) w (w.setCell ⟨g, j, none⟩ v) := Keep.setCell (S := fun z => z = g) (Keep.refl _ _) (fun _ => rfl) v
theorem info59 : (Try.prog.info? 59).map (fun i => (i.zero, i.size, i.bytes)) = some (some (.agg #[.int .i64 0, .int .i64 0, .bool false, .bool false]), 4, 24) := by kernel_rfl
theorem lv_one (l : List LiveM) : ∀ u ∈ liveCs l, u.oneCell' = true := by
  intro u hu
  simp only [liveCs, List.mem_flatMap] at hu
  obtain ⟨d, _, hu⟩ := hu
  simp [liveC] at hu
  rcases hu with rfl | rfl | rfl | rfl <;> rfl
set_option maxHeartbeats 8000000 in
theorem law_exact (la : Option Addr) (lc : Nat) (da : Option Addr) (dc : Nat) (live : List LiveM) (dl : List Dr) (next : Int) (a1 a2 : Option Addr) (c1 c2 : Nat) (l1 l2 : List Dr) (w : World)
    (hl : Lies w la (liveCs live)) (hd : Lies w da (drs dl)) (hln : la = none → lc = 0 ∧ live.length = 0) (hdn : da = none → dc = 0 ∧ dl.length = 0) (hdc : dl.length ≤ dc) (h1 : Lies w a1 (drs l1)) (h2 : Lies w a2 (drs l2)) (hc1 : l1.length ≤ c1) (hc2 : l2.length ≤ c2) (hn1 : a1 = none → c1 = 0 ∧ l1.length = 0) (hn2 : a2 = none → c2 = 0 ∧ l2.length = 0) (hbig : live.length ≤ 5864062014634) :
    Calls Try.prog 6 #[ptsV (.slice la live.length lc) da dl.length dc next, .slice a1 l1.length c1, .slice a2 l2.length c2] w fun e w' => e = .returned (.bool true) ∧ Below w.heap.size w w' := by
  obtain ⟨nl, enl⟩ : ∃ n, n = live.length := ⟨_, rfl⟩
  obtain ⟨nd, end_⟩ : ∃ n, n = dl.length := ⟨_, rfl⟩
  obtain ⟨n1, en1⟩ : ∃ n, n = l1.length := ⟨_, rfl⟩
  obtain ⟨n2, en2⟩ : ∃ n, n = l2.length := ⟨_, rfl⟩
  rw [← enl] at hln hbig ⊢
  rw [← end_] at hdn hdc ⊢
  rw [← en1] at hc1 hn1 ⊢
  rw [← en2] at hc2 hn2 ⊢
  have HLV := hide hl
  have HLN := hide hln
  have ENL := hide enl
  have KD := hide (fun w' (hb : Below w.heap.size w w') => lent_any da nd dc dl w' (hd.below hb) end_ hdc hdn)
  have KA := hide (fun w' (hb : Below w.heap.size w w') => lent_any a1 n1 c1 l1 w' (h1.below hb) en1 hc1 hn1)
  have KB := hide (fun w' (hb : Below w.heap.size w w') => lent_any a2 n2 c2 l2 w' (h2.below hb) en2 hc2 hn2)
  clear hl hd hln hdn hdc h1 h2 hc1 hc2 hn1 hn2 enl end_ en1 en2
  go_enter Try.func6, Try.ntmps6
  go_upto_region 1 with fail
  refine named (P := Code.wp _ _ _ _) ?_
  intro w0 hw0
  obtain ⟨bx, hbx⟩ : ∃ bx, bx = w.heap.size := ⟨_, rfl⟩
  have C0 := hide (show Cells w0 bx [.slice la nl lc, .slice da nd dc, .int .i64 next] by rw [hw0, hbx]; exact Cells.new _ _ _)
  have B0 := hide (show Below w.heap.size w w0 by rw [hw0]; exact alloc_below _ _)
  have hz0 : bx < w0.heap.size := C0.out.1
  have HBX := hide hbx
  rw [← hbx]
  clear hw0 hbx
  go_wp2_with fail
  refine (awake_any _).mono ?_
  rintro e w1 ⟨rfl, bb⟩
  have C1 := hide (C0.out.below bb)
  have B1 := hide (bnext B0.out bb (Nat.le_refl _))
  obtain ⟨x0, -⟩ := C1.out.get 1 _ rfl
  clear bb C0 B0 hz0
  go_wp2_with fail
  refine (KD.out _ B1.out).mono ?_
  rintro e w2 ⟨g, k, cap, ld, rfl, le, hk, bb⟩
  have C2 := hide (C1.out.below bb)
  have B2 := hide (bnext B1.out bb (Nat.le_refl _))
  have hgne : g ≠ bx := by have := le.all.2.2.2.1; have := C1.out.1; omega
  have hgw := le.all.2.2.2.1
  have HGW := hide (show w.heap.size ≤ g by have := B1.out.size; omega)
  have L2 := hide le
  obtain ⟨y1, z1⟩ := C2.out.get 1 _ rfl
  clear x0 le bb C1 B1 KD hgw
  go_upto_region 4 with fail
  refine named (P := Code.wp _ _ _ _) ?_
  intro w3 hw3
  have kk : Keep (fun z => z = bx) w2 w3 := by rw [hw3]; exact keep_set _ _ _ _
  have C3 := hide (show Cells w3 bx [.slice la nl lc, .slice (some ⟨g, 0, none⟩) k cap, .int .i64 next] by rw [hw3]; exact C2.out.stored (by simp) _)
  have B3 := hide (show Below w.heap.size w w3 from B2.out.trans (kk.below B2.out.size (fun z hz q => by have := HBX.out; omega)))
  have L3 := hide (L2.out.keep kk hgne)
  obtain ⟨y1, -⟩ := C3.out.get 1 _ rfl
  clear hw3 kk C2 B2 L2 z1
  have hkl : k ≤ 100000 := by omega
  have SD3 := hide (L3.out.sl hkl)
  go_upto_region 5 with (at_builtin; refine wpList_appR Try.underlying23 info28 rfl (by decide) (by decide) rfl (.const (.slice none 0 0)) (.tmp _) rfl w3.heap.size (.slice none 0 0) 0 [] rfl (World.ownsRow_nil _ _ _ _) (some ⟨g, 0, none⟩) k cap (drs ld) rfl (by rw [drs_len, ← SD3.out.len]) SD3.out.ent.1 (drs_one _) (by nofun) (by omega) (Nat.le_refl _) ?_; intro v4 w4 q1 q2 q3; rw [Nat.zero_add, List.nil_append] at q1)
  have b4 : Below w3.heap.size w3 w4 := (Below.refl _ _).grown q2 (Nat.le_refl _) (fun j hj => by cases hj)
  obtain ⟨av, cv, hv, hli, -⟩ := GRow.lies q1
  subst hv
  have W4 := hide hli
  have C4 := hide (C3.out.below b4)
  have B4 := hide (bnext B3.out b4 (Nat.le_refl _))
  have L4 := hide (L3.out.below b4)
  obtain ⟨y0, -⟩ := C4.out.get 0 _ rfl
  clear q1 q2 q3 hli b4 C3 B3 L3 SD3 y1
  go_upto_region 6 with (at_builtin; refine wpList_appB Try.underlying30 info59 rfl (by decide) rfl (.const (.slice none 0 0)) (.tmp _) rfl w4.heap.size (.slice none 0 0) 0 [] rfl (World.ownsRow_nil _ _ _ _) la nl lc (liveCs live) rfl (by rw [liveCs_length, ENL.out, Nat.mul_comm]) (HLV.out.below B4.out) (lv_one _) HLN.out (by unfold maxLen; omega) (by omega) (Nat.le_refl _) ?_; intro v5 w5 q1 q2 q3; rw [Nat.zero_add, List.nil_append] at q1)
  have b5 : Below w4.heap.size w4 w5 := (Below.refl _ _).grown q2 (Nat.le_refl _) (fun j hj => by cases hj)
  obtain ⟨au, cu, hu, hli, -⟩ := GRow.lies q1
  subst hu
  have V5 := hide hli
  have W5 := hide (W4.out.below b5)
  have C5 := hide (C4.out.below b5)
  have B5 := hide (bnext B4.out b5 (Nat.le_refl _))
  have L5 := hide (L4.out.below b5)
  have LV5 := hide (HLV.out.below B5.out)
  obtain ⟨E, hE⟩ : ∃ E, chkE (ptsR live (ld.map toM) next) = E := ⟨_, rfl⟩
  obtain ⟨F, hF⟩ : ∃ F, fromL ld = F := ⟨_, rfl⟩
  have HE := hide hE
  have HFF := hide hF
  clear q1 q2 q3 hli b5 W4 C4 B4 L4 y0 hE hF
  go_cut [58] (fun v w' => v = .bool false ∧ Below w5.heap.size w5 w')
  case first =>
    refine wp_region_held_drew (S := fun wq => Below w5.heap.size w5 wq) (by kernel_rfl) (Below.refl _ _).drew (fun hS => ?_)
    refine take_at 0 (some 32) (v := ?_) rfl rfl (by kernel_rfl) (by kernel_rfl) (by kernel_rfl) (fun _ _ _ h => h) ⟨by rfl, ?_⟩ hS ?_
    rotate_left
    · intro wq hSw; have qq := C5.out.below hSw; obtain ⟨q0, _⟩ := qq.get 0 _ rfl; obtain ⟨q1, _⟩ := qq.get 1 _ rfl; obtain ⟨q2, _⟩ := qq.get 2 _ rfl; clear qq; go_simp; try rfl
    simp only [Act.put, List.setIfInBounds_toArray, List.set_cons_zero, List.set_cons_succ]
    refine take_at 3 (some 35) (v := ?_) rfl rfl (by kernel_rfl) (by kernel_rfl) (by kernel_rfl) (fun _ _ _ h => h) ⟨by rfl, ?_⟩ hS ?_
    rotate_left
    · intro wq hSw; have qq := C5.out.below hSw; obtain ⟨q0, _⟩ := qq.get 0 _ rfl; obtain ⟨q1, _⟩ := qq.get 1 _ rfl; obtain ⟨q2, _⟩ := qq.get 2 _ rfl; clear qq; go_simp; try rfl
    simp only [Act.put, List.setIfInBounds_toArray, List.set_cons_zero, List.set_cons_succ]
    refine wpAnyH_ready (rs := [1]) (by kernel_rfl) (by simp) ?_
    refine AllReadyH.cons rfl (fun K hK => ?_) AllReadyH.nil
    go_simp
    go_wp2_with fail
    refine (pcheck_h live ld la (some ⟨g, 0, none⟩) nl k lc cap next E _ (LV5.out.below hS) ENL.out ((L5.out.below hS).sl hkl) HE.out).mono ?_
    rintro e y1 ⟨rfl, hh⟩
    go_wp2_with fail
    refine hK.out _ _ (bnext hS hh (Nat.le_refl _)) (fun hS => ?_)
    clear hK K
    clear hh
    (try simp only [Act.put, List.setIfInBounds_toArray, List.set_cons_zero, List.set_cons_succ])
    refine wpAnyH_ready (rs := [2]) (by kernel_rfl) (by simp) ?_
    refine AllReadyH.cons rfl (fun K hK => ?_) AllReadyH.nil
    go_simp
    go_wp2_with fail
    refine (num_eq _ _).mono ?_
    rintro e wz ⟨rfl, rfl⟩
    go_wp2_with fail
    refine hK.out _ _ hS (fun hS => ?_)
    clear hK K
    (try simp only [Act.put, List.setIfInBounds_toArray, List.set_cons_zero, List.set_cons_succ])
    refine wpAnyH_ready (rs := [4]) (by kernel_rfl) (by simp) ?_
    refine AllReadyH.cons rfl (fun K hK => ?_) AllReadyH.nil
    go_simp
    go_wp2_with fail
    refine (rpcheck_h live ld la (some ⟨g, 0, none⟩) nl k lc cap next E _ (LV5.out.below hS) ENL.out ((L5.out.below hS).sl hkl) HE.out).mono ?_
    rintro e y2 ⟨rfl, hh⟩
    go_wp2_with fail
    refine hK.out _ _ (bnext hS hh (Nat.le_refl _)) (fun hS => ?_)
    clear hK K
    clear hh
    (try simp only [Act.put, List.setIfInBounds_toArray, List.set_cons_zero, List.set_cons_succ])
    refine take_at 5 (some 37) (v := ?_) rfl rfl (by kernel_rfl) (by kernel_rfl) (by kernel_rfl) (fun _ _ _ h => h) ⟨by rfl, ?_⟩ hS ?_
    rotate_left
    · intro wq hSw; go_simp; try rfl
    simp only [Act.put, List.setIfInBounds_toArray, List.set_cons_zero, List.set_cons_succ]
    refine take_at 6 (some 38) (v := ?_) rfl rfl (by kernel_rfl) (by kernel_rfl) (by kernel_rfl) (fun _ _ _ h => h) ⟨by rfl, ?_⟩ hS ?_
    rotate_left
    · intro wq hSw; go_simp; try rfl
    simp only [Act.put, List.setIfInBounds_toArray, List.set_cons_zero, List.set_cons_succ]
    refine take_at 7 (some 39) (v := ?_) rfl rfl (by kernel_rfl) (by kernel_rfl) (by kernel_rfl) (fun _ _ _ h => h) ⟨by rfl, ?_⟩ hS ?_
    rotate_left
    · intro wq hSw; have qq := C5.out.below hSw; obtain ⟨q0, _⟩ := qq.get 0 _ rfl; obtain ⟨q1, _⟩ := qq.get 1 _ rfl; obtain ⟨q2, _⟩ := qq.get 2 _ rfl; clear qq; go_simp; try rfl
    simp only [Act.put, List.setIfInBounds_toArray, List.set_cons_zero, List.set_cons_succ]
    refine take_at 9 (some 41) (v := ?_) rfl rfl (by kernel_rfl) (by kernel_rfl) (by kernel_rfl) (fun _ _ _ h => h) ⟨by rfl, ?_⟩ hS ?_
    rotate_left
    · intro wq hSw; have qq := C5.out.below hSw; obtain ⟨q0, _⟩ := qq.get 0 _ rfl; obtain ⟨q1, _⟩ := qq.get 1 _ rfl; obtain ⟨q2, _⟩ := qq.get 2 _ rfl; clear qq; go_simp; try rfl
    simp only [Act.put, List.setIfInBounds_toArray, List.set_cons_zero, List.set_cons_succ]
    refine wpAnyH_ready (rs := [8]) (by kernel_rfl) (by simp) ?_
    refine AllReadyH.cons rfl (fun K hK => ?_) AllReadyH.nil
    go_simp
    go_wp2_with fail
    refine (pfrom_h la nl lc (some ⟨g, 0, none⟩) k cap ld next F _ ((L5.out.below hS).sl hkl) HFF.out).mono ?_
    rintro e y3 ⟨rfl, hh⟩
    go_wp2_with fail
    refine hK.out _ _ (bnext hS hh (Nat.le_refl _)) (fun hS => ?_)
    clear hK K
    clear hh
    (try simp only [Act.put, List.setIfInBounds_toArray, List.set_cons_zero, List.set_cons_succ])
    refine wpAnyH_ready (rs := [10]) (by kernel_rfl) (by simp) ?_
    refine AllReadyH.cons rfl (fun K hK => ?_) AllReadyH.nil
    go_simp
    go_wp2_with fail
    refine (rpfrom_h la nl lc (some ⟨g, 0, none⟩) k cap ld next F _ ((L5.out.below hS).sl hkl) HFF.out).mono ?_
    rintro e y4 ⟨rfl, hh⟩
    go_wp2_with fail
    refine hK.out _ _ (bnext hS hh (Nat.le_refl _)) (fun hS => ?_)
    clear hK K
    clear hh
    (try simp only [Act.put, List.setIfInBounds_toArray, List.set_cons_zero, List.set_cons_succ])
    refine take_at 11 (some 43) (v := ?_) rfl rfl (by kernel_rfl) (by kernel_rfl) (by kernel_rfl) (fun _ _ _ h => h) ⟨by rfl, ?_⟩ hS ?_
    rotate_left
    · intro wq hSw; go_simp; try rfl
    simp only [Act.put, List.setIfInBounds_toArray, List.set_cons_zero, List.set_cons_succ]
    refine take_at 12 (some 44) (v := ?_) rfl rfl (by kernel_rfl) (by kernel_rfl) (by kernel_rfl) (fun _ _ _ h => h) ⟨by rfl, ?_⟩ hS ?_
    rotate_left
    · intro wq hSw; go_simp; try rfl
    simp only [Act.put, List.setIfInBounds_toArray, List.set_cons_zero, List.set_cons_succ]
    refine take_at 13 (some 45) (v := ?_) rfl rfl (by kernel_rfl) (by kernel_rfl) (by kernel_rfl) (fun _ _ _ h => h) ⟨by rfl, ?_⟩ hS ?_
    rotate_left
    · intro wq hSw; go_simp; try rfl
    simp only [Act.put, List.setIfInBounds_toArray, List.set_cons_zero, List.set_cons_succ]
    refine take_at 14 (some 46) (v := ?_) rfl rfl (by kernel_rfl) (by kernel_rfl) (by kernel_rfl) (fun _ _ _ h => h) ⟨by rfl, ?_⟩ hS ?_
    rotate_left
    · intro wq hSw; go_simp; try rfl
    simp only [Act.put, List.setIfInBounds_toArray, List.set_cons_zero, List.set_cons_succ]
    refine take_at 15 (some 47) (v := ?_) rfl rfl (by kernel_rfl) (by kernel_rfl) (by kernel_rfl) (fun _ _ _ h => h) ⟨by rfl, ?_⟩ hS ?_
    rotate_left
    · intro wq hSw; have qq := C5.out.below hSw; obtain ⟨q0, _⟩ := qq.get 0 _ rfl; obtain ⟨q1, _⟩ := qq.get 1 _ rfl; obtain ⟨q2, _⟩ := qq.get 2 _ rfl; clear qq; go_simp; try rfl
    simp only [Act.put, List.setIfInBounds_toArray, List.set_cons_zero, List.set_cons_succ]
    refine take_at 16 (some 48) (v := ?_) rfl rfl (by kernel_rfl) (by kernel_rfl) (by kernel_rfl) (fun _ _ _ h => h) ⟨by rfl, ?_⟩ hS ?_
    rotate_left
    · intro wq hSw; go_simp; try rfl
    simp only [Act.put, List.setIfInBounds_toArray, List.set_cons_zero, List.set_cons_succ]
    refine wpAnyH_ready (rs := [17]) (by kernel_rfl) (by simp) ?_
    refine AllReadyH.cons rfl (fun K hK => ?_) AllReadyH.nil
    go_simp
    go_wp2_with fail
    refine (kept_true _ g k cap av cv ld _ (L5.out.below hS) (W5.out.below hS) hkl).mono ?_
    rintro e y5 ⟨rfl, hh⟩
    go_wp2_with fail
    refine hK.out _ _ (bnext hS hh (Nat.le_refl _)) (fun hS => ?_)
    clear hK K
    clear hh
    (try simp only [Act.put, List.setIfInBounds_toArray, List.set_cons_zero, List.set_cons_succ])
    refine take_at 18 (some 50) (v := ?_) rfl rfl (by kernel_rfl) (by kernel_rfl) (by kernel_rfl) (fun _ _ _ h => h) ⟨by rfl, ?_⟩ hS ?_
    rotate_left
    · intro wq hSw; go_simp; try rfl
    simp only [Act.put, List.setIfInBounds_toArray, List.set_cons_zero, List.set_cons_succ]
    refine take_at 19 (some 51) (v := ?_) rfl rfl (by kernel_rfl) (by kernel_rfl) (by kernel_rfl) (fun _ _ _ h => h) ⟨by rfl, ?_⟩ hS ?_
    rotate_left
    · intro wq hSw; go_simp; try rfl
    simp only [Act.put, List.setIfInBounds_toArray, List.set_cons_zero, List.set_cons_succ]
    refine take_at 20 (some 52) (v := ?_) rfl rfl (by kernel_rfl) (by kernel_rfl) (by kernel_rfl) (fun _ _ _ h => h) ⟨by rfl, ?_⟩ hS ?_
    rotate_left
    · intro wq hSw; go_simp; try rfl
    simp only [Act.put, List.setIfInBounds_toArray, List.set_cons_zero, List.set_cons_succ]
    refine take_at 21 (some 53) (v := ?_) rfl rfl (by kernel_rfl) (by kernel_rfl) (by kernel_rfl) (fun _ _ _ h => h) ⟨by rfl, ?_⟩ hS ?_
    rotate_left
    · intro wq hSw; go_simp; try rfl
    simp only [Act.put, List.setIfInBounds_toArray, List.set_cons_zero, List.set_cons_succ]
    refine take_at 22 (some 54) (v := ?_) rfl rfl (by kernel_rfl) (by kernel_rfl) (by kernel_rfl) (fun _ _ _ h => h) ⟨by rfl, ?_⟩ hS ?_
    rotate_left
    · intro wq hSw; have qq := C5.out.below hSw; obtain ⟨q0, _⟩ := qq.get 0 _ rfl; obtain ⟨q1, _⟩ := qq.get 1 _ rfl; obtain ⟨q2, _⟩ := qq.get 2 _ rfl; clear qq; go_simp; try rfl
    simp only [Act.put, List.setIfInBounds_toArray, List.set_cons_zero, List.set_cons_succ]
    refine take_at 23 (some 55) (v := ?_) rfl rfl (by kernel_rfl) (by kernel_rfl) (by kernel_rfl) (fun _ _ _ h => h) ⟨by rfl, ?_⟩ hS ?_
    rotate_left
    · intro wq hSw; go_simp; try rfl
    simp only [Act.put, List.setIfInBounds_toArray, List.set_cons_zero, List.set_cons_succ]
    refine wpAnyH_ready (rs := [24]) (by kernel_rfl) (by simp) ?_
    refine AllReadyH.cons rfl (fun K hK => ?_) AllReadyH.nil
    go_simp
    go_wp2_with fail
    refine (sameLive_true live la au nl lc cu _ (LV5.out.below hS) (V5.out.below hS) ENL.out (by omega)).mono ?_
    rintro e y6 ⟨rfl, hh⟩
    go_wp2_with fail
    refine hK.out _ _ (bnext hS hh (Nat.le_refl _)) (fun hS => ?_)
    clear hK K
    clear hh
    (try simp only [Act.put, List.setIfInBounds_toArray, List.set_cons_zero, List.set_cons_succ])
    refine take_at 25 (some 57) (v := ?_) rfl rfl (by kernel_rfl) (by kernel_rfl) (by kernel_rfl) (fun _ _ _ h => h) ⟨by rfl, ?_⟩ hS ?_
    rotate_left
    · intro wq hSw; go_simp; try rfl
    simp only [Act.put, List.setIfInBounds_toArray, List.set_cons_zero, List.set_cons_succ]
    refine take_at 26 (some 58) (v := ?_) rfl rfl (by kernel_rfl) (by kernel_rfl) (by kernel_rfl) (fun _ _ _ h => h) ⟨by rfl, ?_⟩ hS ?_
    rotate_left
    · intro wq hSw; go_simp; try rfl
    simp only [Act.put, List.setIfInBounds_toArray, List.set_cons_zero, List.set_cons_succ]
    have D9 := hide hS
    clear hS
    refine wpAnyH_done (by kernel_rfl) ?_ _
    go_wp2_with fail
    go_meet
    exact ⟨rfl, D9.out⟩
  case rest =>
    obtain ⟨rfl, hbc⟩ := hcut
    have BR := hide (bnext B5.out hbc (Nat.le_refl _))
    clear hbc V5 W5 C5 B5 L5 LV5 HE HFF HLV HLN ENL HGW HBX
    go_wp2_with fail
    go_loopw [9] (fun i wr => ∃ t : Nat, i = .int .i64 (t : Int) ∧ t ≤ 2 ∧ Below w.heap.size w wr) (fun i _ => 2 - (intOf i).toNat)
    case atStart => exact ⟨0, rfl, by omega, BR.out⟩
    case round =>
      obtain ⟨t, rfl, ht, hb⟩ := hrel
      have HB := hide hb
      clear hb BR
      by_cases htt : t < 2
      · go_wp2_with fail
        refine (KA.out _ HB.out).mono ?_
        rintro e w6 ⟨ga, ka, ra, xa, rfl, ea, hka, bb⟩
        have B6 := hide (bnext HB.out bb (Nat.le_refl _))
        have EA := hide (ea.mono HB.out.size)
        have HWR := hide (show wr.heap.size ≤ w6.heap.size from bb.size)
        have A6 := hide (And.intro ea.all.2.2.2.1 ea.all.2.2.2.2)
        have BW6 := hide bb
        clear ea bb
        go_wp2_with fail
        refine (KB.out _ B6.out).mono ?_
        rintro e w7 ⟨gb, kb, rb, xb, rfl, eb, hkb, bb⟩
        have B7 := hide (bnext B6.out bb (Nat.le_refl _))
        have BW7 := hide (bnext BW6.out bb (Nat.le_refl _))
        have EA7 := hide (EA.out.below bb)
        have EB7 := hide (eb.mono B6.out.size)
        have hgg : ga ≠ gb := by have := eb.all.2.2.2.1; have := A6.out.2; omega
        have hgb : w.heap.size ≤ gb := EB7.out.all.2.2.2.1
        have hga : w.heap.size ≤ ga := EA7.out.all.2.2.2.1
        clear eb bb EA B6 BW6 A6 HWR
        have SA7 := hide (EA7.out.sl (by omega))
        go_upto_region 14 with (at_builtin; refine wpList_appR Try.underlying23 info28 rfl (by decide) (by decide) rfl (.const (.slice none 0 0)) (.tmp _) rfl w7.heap.size (.slice none 0 0) 0 [] rfl (World.ownsRow_nil _ _ _ _) (some ⟨ga, 0, none⟩) ka ra (drs xa) rfl (by rw [drs_len, ← SA7.out.len]) SA7.out.ent.1 (drs_one _) (by nofun) (by omega) (Nat.le_refl _) ?_; intro v8 w8 q1 q2 q3; rw [Nat.zero_add, List.nil_append] at q1)
        have bb : Below w7.heap.size w7 w8 := (Below.refl _ _).grown q2 (Nat.le_refl _) (fun j hj => by cases hj)
        obtain ⟨am, cm, hv, hli, -⟩ := GRow.lies q1
        subst hv
        have X8 := hide hli
        have B8 := hide (bnext B7.out bb (Nat.le_refl _))
        have BW8 := hide (bnext BW7.out bb (Nat.le_refl _))
        have EA8 := hide (EA7.out.below bb)
        have EB8 := hide (EB7.out.below bb)
        have SB8 := hide (EB8.out.sl (by omega))
        clear q1 q2 q3 hli bb B7 BW7 EA7 EB7 SA7
        go_upto_region 15 with (at_builtin; refine wpList_appR Try.underlying23 info28 rfl (by decide) (by decide) rfl (.const (.slice none 0 0)) (.tmp _) rfl w8.heap.size (.slice none 0 0) 0 [] rfl (World.ownsRow_nil _ _ _ _) (some ⟨gb, 0, none⟩) kb rb (drs xb) rfl (by rw [drs_len, ← SB8.out.len]) SB8.out.ent.1 (drs_one _) (by nofun) (by omega) (Nat.le_refl _) ?_; intro v9 w9 q1 q2 q3; rw [Nat.zero_add, List.nil_append] at q1)
        have bb : Below w8.heap.size w8 w9 := (Below.refl _ _).grown q2 (Nat.le_refl _) (fun j hj => by cases hj)
        obtain ⟨an, cn, hv, hli, -⟩ := GRow.lies q1
        subst hv
        have Y9 := hide hli
        have X9 := hide (X8.out.below bb)
        have B9 := hide (bnext B8.out bb (Nat.le_refl _))
        have BW9 := hide (bnext BW8.out bb (Nat.le_refl _))
        have EA9 := hide (EA8.out.below bb)
        have EB9 := hide (EB8.out.below bb)
        clear q1 q2 q3 hli bb B8 BW8 EA8 EB8 SB8 X8
        obtain ⟨R, hR⟩ : ∃ R, faultE (xa ++ xb) = R := ⟨_, rfl⟩
        obtain ⟨res, hres⟩ : ∃ res, resL xa xb = res := ⟨_, rfl⟩
        have HR := hide hR
        have HRES := hide hres
        clear hR hres
        go_wp2_with fail
        refine (merge_h (some ⟨ga, 0, none⟩) (some ⟨gb, 0, none⟩) ka kb ra rb xa xb R res _ (EA9.out.sl (by omega)) (EB9.out.sl (by omega)) HR.out HRES.out).mono ?_
        rintro e y1 ⟨ma, mn, mc, rfl, sm, bb⟩
        have M1 := hide sm
        have D1 := hide bb
        clear sm bb
        go_wp2_with fail
        refine (rmerge_h (some ⟨ga, 0, none⟩) (some ⟨gb, 0, none⟩) ka kb ra rb xa xb R res _ ((EA9.out.below D1.out).sl (by omega)) ((EB9.out.below D1.out).sl (by omega)) HR.out HRES.out).mono ?_
        rintro e y2 ⟨oa, on, oc, rfl, so, bb⟩
        have D2 := hide (bnext D1.out bb (Nat.le_refl _))
        have M2 := hide (M1.out.below bb)
        have O2 := hide so
        clear so bb M1 D1
        go_wp2_with fail
        refine (num_eq _ _).mono ?_
        rintro e wz ⟨rfl, rfl⟩
        go_wp2_with fail
        refine (same_h ma oa mn on mc oc res _ M2.out O2.out).mono ?_
        rintro e y3 ⟨rfl, bb⟩
        have D3 := hide (bnext D2.out bb (Nat.le_refl _))
        clear bb D2 M2 O2
        go_wp2_with fail
        refine (kept_true _ ga ka ra am cm xa _ (EA9.out.below D3.out) (X9.out.below D3.out) (by omega)).mono ?_
        rintro e y4 ⟨rfl, bb⟩
        have D4 := hide (bnext D3.out bb (Nat.le_refl _))
        clear bb D3
        go_wp2_with fail
        refine (kept_true _ gb kb rb an cn xb _ (EB9.out.below D4.out) (Y9.out.below D4.out) (by omega)).mono ?_
        rintro e y5 ⟨rfl, bb⟩
        have D5 := hide (bnext D4.out bb (Nat.le_refl _))
        have BW10 := hide (bnext B9.out D5.out (Nat.le_refl _))
        have EA10 := hide (EA9.out.below D5.out)
        have EB10 := hide (EB9.out.below D5.out)
        clear bb D4 D5 BW9 EA9 EB9 X9 Y9 HR HRES B9
        go_wp2_with fail
        go_loopw [18] (fun i ws => ∃ (j : Nat) (x' : List Dr), i = .int .i64 (j : Int) ∧ j ≤ ka ∧ Lent ws w.heap.size ga ka ra x' ∧ Lent ws w.heap.size gb kb rb xb ∧ Below w.heap.size w ws) (fun i _ => ka - (intOf i).toNat)
        case atStart => exact ⟨0, xa, rfl, Nat.zero_le _, EA10.out, EB10.out, BW10.out⟩
        case round =>
          obtain ⟨j, x', rfl, hj, hla, hlb, hbw⟩ := hrel
          have LA := hide hla
          have LB := hide hlb
          have BQ := hide hbw
          clear hla hlb hbw EA10 EB10 BW10
          by_cases hjk : j < ka
          · go_wp2_with fail
            refine (brought_any (j : Int) 9 _ (by omega) (by omega)).mono ?_
            rintro e wz ⟨y, rfl, hy, rfl⟩
            obtain ⟨⟨cp, cs, -, cc⟩, fz⟩ := LA.out.at_ hjk
            have fz1 := fz (j * 2 + 1)
            have ew : IntKind.i64.wrap (1 + (y : Int)) = 1 + (y : Int) := by rw [IntKind.wrap_i64]; omega
            clear fz
            go_wp2_with fail
            go_roundw
            case rel =>
              obtain ⟨x'', hx''⟩ := LA.out.store hjk (show 1 < 2 by omega) (1 + (y : Int))
              have kk := keep_set wr ga (j * 2 + 1) (.int .i64 (1 + (y : Int)))
              exact ⟨j + 1, x'', by go_num, by omega, hx'', LB.out.keep kk (fun q => hgg q.symm), BQ.out.trans (kk.below BQ.out.size (fun z hz q => by omega))⟩
            case measure => simp [intOf]; omega
          · obtain rfl : j = ka := by omega
            go_wp2_with fail
            go_loopw [19] (fun i ws => ∃ (q : Nat) (y' : List Dr), i = .int .i64 (q : Int) ∧ q ≤ kb ∧ Lent ws w.heap.size ga j ra x' ∧ Lent ws w.heap.size gb kb rb y' ∧ Below w.heap.size w ws) (fun i _ => kb - (intOf i).toNat)
            case atStart => exact ⟨0, xb, rfl, Nat.zero_le _, LA.out, LB.out, BQ.out⟩
            case round =>
              obtain ⟨q, y', rfl, hq, hla, hlb, hbw⟩ := hrel
              have MA := hide hla
              have MB := hide hlb
              have BV := hide hbw
              clear hla hlb hbw LA LB BQ
              by_cases hqk : q < kb
              · go_wp2_with fail
                refine (brought_any (q : Int) 64 _ (by omega) (by omega)).mono ?_
                rintro e wz ⟨y, rfl, hy, rfl⟩
                obtain ⟨⟨cp, cs, cc, -⟩, fz⟩ := MB.out.at_ hqk
                have fz1 := fz (q * 2)
                clear fz
                go_wp2_with fail
                go_roundw
                case rel =>
                  obtain ⟨y'', hy''⟩ := MB.out.store hqk (show 0 < 2 by omega) (y : Int)
                  rw [Nat.add_zero] at hy''
                  have kk := keep_set wr gb (q * 2) (.int .i64 (y : Int))
                  have F1 := MA.out.keep kk hgg
                  have F2 := BV.out.trans (kk.below BV.out.size (fun z hz q => by omega))
                  first | exact ⟨q + 1, y'', by go_num, by omega, F1, hy'', F2⟩ | ((repeat apply Exists.intro); exact ⟨⟨q + 1, y'', by go_num, by omega, F1, hy'', F2⟩, rfl⟩)
                case measure => simp [intOf]; omega
              · obtain rfl : q = kb := by omega
                obtain ⟨R, hR⟩ : ∃ R, faultE (x' ++ y') = R := ⟨_, rfl⟩
                obtain ⟨res, hres⟩ : ∃ res, resL x' y' = res := ⟨_, rfl⟩
                have HR := hide hR
                have HRES := hide hres
                clear hR hres
                go_wp2_with fail
                refine (merge_h (some ⟨ga, 0, none⟩) (some ⟨gb, 0, none⟩) j q ra rb x' y' R res _ (MA.out.sl (by omega)) (MB.out.sl (by omega)) HR.out HRES.out).mono ?_
                rintro e y1 ⟨ma, mn, mc, rfl, sm, bb⟩
                have M1 := hide sm
                have D1 := hide bb
                clear sm bb
                go_wp2_with fail
                refine (rmerge_h (some ⟨ga, 0, none⟩) (some ⟨gb, 0, none⟩) j q ra rb x' y' R res _ ((MA.out.below D1.out).sl (by omega)) ((MB.out.below D1.out).sl (by omega)) HR.out HRES.out).mono ?_
                rintro e y2 ⟨oa, on, oc, rfl, so, bb⟩
                have D2 := hide (bnext D1.out bb (Nat.le_refl _))
                have M2 := hide (M1.out.below bb)
                have O2 := hide so
                clear so bb M1 D1
                go_wp2_with fail
                refine (num_eq _ _).mono ?_
                rintro e wz ⟨rfl, rfl⟩
                go_wp2_with fail
                refine (same_h ma oa mn on mc oc res _ M2.out O2.out).mono ?_
                rintro e y3 ⟨rfl, bb⟩
                have D3 := hide (bnext BV.out (bnext D2.out bb (Nat.le_refl _)) (Nat.le_refl _))
                clear bb D2 M2 O2 HR HRES
                go_wp2_with fail
                go_roundw
                case rel => first | exact ⟨t + 1, by go_num, by omega, D3.out⟩ | ((repeat apply Exists.intro); exact ⟨⟨t + 1, by go_num, by omega, D3.out⟩, rfl⟩)
                case measure => simp [intOf]; omega
      · go_wp2_with fail
        go_ret
        exact ⟨rfl, HB.out⟩
end Go.Proofs.Ythaiagalndcndaa
