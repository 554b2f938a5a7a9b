import Derived.Test.YtlloppalagddnaaSr6
set_option linter.all false
namespace Go.Proofs.Ytlloppalagddnaa
open Go.RowKit Go.QK Go.Maps Go.QM Go.QS Quota
set_option maxRecDepth 100000
def RV.rn (r : RV) : Rn := (r.tx, r.l)
/-- One more run. -/
theorem PH.push {lab : Nat → Nat} {B : Nat} {x y : World} {hb mn mh : Nat} {rv rv' : Value} {rs : List RV} {D : Hd} {S : St} {n : Nat} {r : RV} (h : PH lab B x hb mn mh rv rs D S n) (hk : Keep (fun z => z = hb ∨ rv.ownBlock = some z) x y)
    (hb1 : Cells y hb [rv', .map (some mn), .map (some mh)]) (hr : GRow y B 32 2 rv' (rs.length + 1) (rowsC rvC (rs ++ [r]))) (hn : Lies x r.a (hns (ofT r.tx r.l)) ∧ ∀ ad, r.a = some ad → ad.block < x.heap.size ∧ lab ad.block = 5)
    (hv : rv'.ownBlock = rv.ownBlock ∨ ∃ g, rv'.ownBlock = some g ∧ x.heap.size ≤ g) : PH (labT lab x.heap.size 4) B y hb mn mh rv' (rs ++ [r]) D S (n + 1) := by
  obtain ⟨n1, n2, n3, n4, n5⟩ := h.lt
  have lk : ∀ z, z < x.heap.size → labT lab x.heap.size 4 z = lab z := fun z hz => if_pos hz
  have nS : ∀ z, (z = hb ∨ rv.ownBlock = some z) → lab z = 1 ∨ lab z = 4 := by
    rintro z (q | q)
    · left; rw [q]; exact h.l1
    · right; exact h.l4 z q
  have nets : ∀ r' ∈ rs ++ [r], Lies x r'.a (hns (ofT r'.tx r'.l)) ∧ ∀ ad, r'.a = some ad → ad.block < x.heap.size ∧ lab ad.block = 5 := fun r' hr' => by
    rcases List.mem_append.1 hr' with q | q
    · exact h.nets r' q
    · simp at q; rw [q]; exact hn
  refine ⟨hb1, by rw [List.length_append]; exact hr, fun r' hr' => ⟨(nets r' hr').1.keep hk (fun ad ha q => by have a0 := nS _ q; have a1 := ((nets r' hr').2 ad ha).2; omega), fun ad ha => ?_⟩, (h.nm.keep hk (fun q => by have a0 := nS _ q; have := h.l2; omega)).mono (by omega), anyAt_keep h.hm hk (fun q => by have a0 := nS _ q; have := h.l3; omega), fun p hp => (h.own p hp).keep hk (fun g hg q => by have a0 := nS _ q; have := h.l6 p hp g hg; have := (h.rng p hp).1; omega), h.up, h.cov, h.ok, fun p hp => by have := h.rng p hp; exact ⟨this.1, this.2.1, by omega, this.2.2.2⟩, (lk _ n1).trans h.l1, (lk _ n2).trans h.l2, (lk _ n3).trans h.l3, fun g hg => ?_, fun p hp g hg => (lk _ (n5 p hp g hg)).trans (h.l6 p hp g hg), h.low, ?_⟩
  · have := (nets r' hr').2 ad ha
    exact ⟨Nat.lt_of_lt_of_le this.1 hk.size, (lk _ this.1).trans this.2⟩
  · rcases hv with q | ⟨g2, q, q2⟩
    · rw [q] at hg
      exact (lk _ (n4 g hg)).trans (h.l4 g hg)
    · rw [q] at hg
      cases hg
      exact if_neg (by omega)
  · have := h.rlen
    simp
    omega
/-- A run more in their list. -/
theorem run_rn (x : World) (B : Nat) (v : Value) (rs : List RV) (hown : GRow x B 32 2 v rs.length (rowsC rvC rs)) (r : RV) (hl : (rs.length + 1) * 32 ≤ 140737488355328) (hB : B ≤ x.heap.size) :
    ∃ v' x', (Builtin.append_ #[25, 25] 25 #[v, .slice (some ⟨x.heap.size, 0, none⟩) 1 1]).run Try.prog (x.alloc (.cells #[.int .i64 r.tx, .slice r.a r.l.length r.c] 32)) = .ok v' x' ∧ GRow x' B 32 2 v' (rs.length + 1) (rowsC rvC (rs ++ [r])) ∧ Keep (fun z => v.ownBlock = some z) x x' ∧ (v'.ownBlock = v.ownBlock ∨ ∃ g, v'.ownBlock = some g ∧ x.heap.size ≤ g) := by
  obtain ⟨v', x', h1, h2, h3, h4⟩ := run_pushW Try.underlying25 info32 rfl (by decide) 25 (x.alloc (.cells #[.int .i64 r.tx, .slice r.a r.l.length r.c] 32)) B v rs.length (rowsC rvC rs) (GRow.below hown (alloc_below _ _)) ⟨x.heap.size, 0, none⟩ 1 1 (rowsC rvC [r]) rfl (lies_one rvC x r #[.int .i64 r.tx, .slice r.a r.l.length r.c] 32 rfl) (rowsC_one rvC (fun _ => rfl) _) hl (by decide) (by simp; omega)
  refine ⟨v', x', h1, by rw [rowsC_app]; exact h2, ((Keep.refl (fun z => v.ownBlock = some z) x).alloc _).grown h3 (fun g hg _ => hg), ?_⟩
  rcases h4 with h | h
  · exact .inl h
  · exact .inr ⟨_, h, by simp⟩
theorem add_ok (lab : Nat → Nat) (B : Nat) (w : World) (hb mn mh : Nat) (rv : Value) (rs : List RV) (D : Hd) (S : St) (n : Nat) (h : PH lab B w hb mn mh rv rs D S n) (t c d : Int) (ht : 1 ≤ t ∧ t ≤ 2147483647) (hc : 1 ≤ c ∧ c ≤ 1048576) (hd : I64 d) (hn : (n + 1) * 8 ≤ 140737488355328) (hf : fitB (netOf S t c + d) = true) :
    Calls Try.prog 52 #[ptr hb, kV t c, .int .i64 d] w fun e w' => e = .returned (.int .i64 0) ∧ (∃ lab' D', PH lab' B w' hb mn mh rv rs D' (setS S t (putM c (netOf S t c + d) (S t))) (n + 1)) ∧ Below B w w' := by
  cases q : getM (S t) c with
  | none => exact add_new lab B w hb mn mh rv rs D S n h t c d ht hc hd hn hf q
  | some v => exact add_old lab B w hb mn mh rv rs D S n h t c d ht hc hd hn hf (by rw [q]; rfl)
theorem PH.undo {lab : Nat → Nat} {B : Nat} {w w' : World} {hb mn mh : Nat} {rv : Value} {rs : List RV} {D : Hd} {S : St} {n : Nat} (h : PH lab B w hb mn mh rv rs D S n) (t c : Int) (hk : Keep (fun z => z = mn) w w') (h1 : NM w' mn (netV (setS S t (delM (S t) c))) n) : PH lab B w' hb mn mh rv rs D (setS S t (delM (S t) c)) n := by
  refine h.turn (fun _ _ => rfl) hk (fun z _ q => .inl (by rw [q]; exact h.l2)) (Nat.le_refl _) h1 (anyAt_keep h.hm hk (fun q => by have := h.l2; have := h.l3; rw [q] at this; omega)) (fun p hp => (h.own p hp).keep hk (fun g hg q => by have a0 := h.l6 p hp g hg; have := h.l2; rw [q] at a0; have := (h.rng p hp).1; omega)) h.up (fun x y hx => ?_) (h.ok.set ((h.ok.up _).del _) (fun p hp => h.ok.fit _ _ (List.mem_filter.1 hp).1) (fun p hp => h.ok.ids _ _ (List.mem_filter.1 hp).1)) h.rng h.l6
  refine h.cov x y ?_
  unfold setS at hx
  split at hx
  · rename_i q
    rw [getM_del] at hx
    split at hx
    · cases hx
    · rw [q]; exact hx
  · exact hx
set_option maxHeartbeats 8000000 in
theorem note_bad (lab : Nat → Nat) (B : Nat) (w : World) (hb mn mh : Nat) (rv : Value) (rs : List RV) (D : Hd) (S : St) (n : Nat) (h : PH lab B w hb mn mh rv rs D S n) (r : RZ) (hd : I64 r.delta) (hn : (n + 1) * 32 ≤ 140737488355328) (hchk : chkR (roOf r) ≠ 0) :
    Calls Try.prog 29 #[ptr hb, .agg (rzA r)] w fun e w' => e = .returned (.int .i64 (chkR (roOf r))) ∧ Below w.heap.size w w' := by
  have KC := fun w' => chk_any r w'
  have hB : B ≤ w.heap.size := by have := h.low.1; have := h.lt; omega
  obtain ⟨L1, L2, L3, L4, L5⟩ := h.lt
  have bb := alloc_below w (.cells (rzA r) 71)
  have P1 := h.below bb
  have R1 := RBox.new w (rzA r) 71
  generalize hN : w.heap.size = N at *
  have HN := hide hN
  clear hN
  have HR := hide R1
  have hsz : (rzA r).size = 17 := rfl
  have hc2 : (chkR (roOf r) != 0) = true := by simpa using hchk
  generalize chkR (roOf r) = E at *
  generalize hrA : rzA r = A at *
  generalize hx1 : w.alloc (.cells A 71) = x1 at *
  have HX := hide hx1
  clear hx1 hrA hchk hd
  go_enter Try.func29, Try.ntmps29
  go_upto_region 1 with fail
  rw [show w.heap.size = N from HN.out, show w.alloc (.cells A 71) = x1 from HX.out]
  go_wp2_with (refine wpList_lb HR.out hsz rfl ?_)
  refine (KC _).mono ?_
  rintro e x2 ⟨rfl, h2⟩
  have b2 := hide (bb.trans (h2.mono (by have := bb.size; have := HN.out; omega)))
  clear P1 h2 bb R1 HR KC
  go_wp2_with fail
  go_ret
  exact ⟨rfl, b2.out⟩
set_option maxHeartbeats 8000000 in
theorem note_addno (lab : Nat → Nat) (B : Nat) (w : World) (hb mn mh : Nat) (rv : Value) (rs : List RV) (D : Hd) (S : St) (n : Nat) (h : PH lab B w hb mn mh rv rs D S n) (r : RZ) (hd : I64 r.delta) (hn : (n + 1) * 32 ≤ 140737488355328) (hk : r.kind = 3) (hchk : chkR (roOf r) = 0) (hf : fitB (netOf S r.tx r.id + r.delta) = false) :
    Calls Try.prog 29 #[ptr hb, .agg (rzA r)] w fun e w' => e = .returned (.int .i64 10) ∧ Below w.heap.size w w' := by
  have KC := fun w' => chk_any r w'
  have hB : B ≤ w.heap.size := by have := h.low.1; have := h.lt; omega
  obtain ⟨L1, L2, L3, L4, L5⟩ := h.lt
  have bb := alloc_below w (.cells (rzA r) 71)
  have P1 := h.below bb
  have R1 := RBox.new w (rzA r) 71
  generalize hN : w.heap.size = N at *
  have HN := hide hN
  clear hN
  rw [hchk] at KC
  have hcr : 1 ≤ r.tx ∧ r.tx ≤ 2147483647 ∧ 1 ≤ r.id ∧ r.id ≤ 1048576 := by
    unfold chkR roOf isTx isId at hchk
    simp only [hk] at hchk
    simp at hchk
    split at hchk
    · rename_i q
      split at hchk
      · rename_i q2
        omega
      · cases hchk
    · cases hchk
  clear hchk
  have HR := hide R1
  have hsz : (rzA r).size = 17 := rfl
  obtain ⟨c1, c1f⟩ := R1.cells.get 1 _ rfl
  obtain ⟨c2, c2f⟩ := R1.cells.get 2 _ rfl
  obtain ⟨c8, c8f⟩ := R1.cells.get 8 _ rfl
  obtain ⟨c9, c9f⟩ := R1.cells.get 9 _ rfl
  rw [hk] at c1
  clear c1f c2f c8f c9f
  generalize hrA : rzA r = A at *
  generalize r.tx = tx at *
  generalize r.id = id at *
  generalize r.delta = delta at *
  generalize hx1 : w.alloc (.cells A 71) = x1 at *
  have HX := hide hx1
  clear hx1 hrA
  go_enter Try.func29, Try.ntmps29
  go_upto_region 1 with fail
  rw [show w.heap.size = N from HN.out, show w.alloc (.cells A 71) = x1 from HX.out]
  go_wp2_with (refine wpList_lb HR.out hsz rfl ?_)
  refine (KC _).mono ?_
  rintro e x2 ⟨rfl, h2⟩
  have P2 := P1.below h2
  have b2 := bb.trans (h2.mono (by have := bb.size; have := HN.out; omega))
  have lt1 : N < x1.heap.size := R1.lt
  have c1 := (h2.cell (p := ⟨N, 1, none⟩) lt1).trans c1
  have c2 := (h2.cell (p := ⟨N, 2, none⟩) lt1).trans c2
  have c8 := (h2.cell (p := ⟨N, 8, none⟩) lt1).trans c8
  have c9 := (h2.cell (p := ⟨N, 9, none⟩) lt1).trans c9
  have sz2 : N + 1 ≤ x2.heap.size := by have := h2.size; omega
  clear P1 h2 bb R1 HR KC
  have HP := hide P2
  have B2 := hide b2
  obtain ⟨h1, h3, h4, h5⟩ := hcr
  clear P2 b2
  go_wp2_with fail
  refine (add_no lab B _ hb mn mh rv rs D S n HP.out tx id delta ⟨h1, h3⟩ ⟨h4, h5⟩ hd (by omega) hf).mono ?_
  rintro e x3 ⟨rfl, h6⟩
  have B3 := hide (B2.out.trans (h6.mono (by omega)))
  clear h6 HP B2
  go_wp2_with fail
  go_ret
  exact ⟨rfl, B3.out⟩
set_option maxHeartbeats 8000000 in
theorem note_add (lab : Nat → Nat) (B : Nat) (w : World) (hb mn mh : Nat) (rv : Value) (rs : List RV) (D : Hd) (S : St) (n : Nat) (h : PH lab B w hb mn mh rv rs D S n) (r : RZ) (hd : I64 r.delta) (hn : (n + 1) * 32 ≤ 140737488355328) (hk : r.kind = 3) (hchk : chkR (roOf r) = 0) (hf : fitB (netOf S r.tx r.id + r.delta) = true) :
    Calls Try.prog 29 #[ptr hb, .agg (rzA r)] w fun e w' => e = .returned (.int .i64 0) ∧ (∃ lab' rv' rs' D', PH lab' B w' hb mn mh rv' rs' D' (stepS S (roOf r)) (n + 1) ∧ rs'.map RV.rn = rs.map RV.rn ++ stepR S (roOf r)) ∧ Below B w w' := by
  have KC := fun w' => chk_any r w'
  have hB : B ≤ w.heap.size := by have := h.low.1; have := h.lt; omega
  obtain ⟨L1, L2, L3, L4, L5⟩ := h.lt
  have bb := alloc_below w (.cells (rzA r) 71)
  have P1 := h.below bb
  have R1 := RBox.new w (rzA r) 71
  generalize hN : w.heap.size = N at *
  have HN := hide hN
  clear hN
  have hS : stepS S (roOf r) = setS S r.tx (putM r.id (netOf S r.tx r.id + r.delta) (S r.tx)) := by unfold stepS roOf; simp [hk]
  have hR : stepR S (roOf r) = [] := by unfold stepR roOf; simp [hk]
  rw [hS, hR, List.append_nil]
  clear hS hR
  rw [hchk] at KC
  have hcr : 1 ≤ r.tx ∧ r.tx ≤ 2147483647 ∧ 1 ≤ r.id ∧ r.id ≤ 1048576 := by
    unfold chkR roOf isTx isId at hchk
    simp only [hk] at hchk
    simp at hchk
    split at hchk
    · rename_i q
      split at hchk
      · rename_i q2
        omega
      · cases hchk
    · cases hchk
  clear hchk
  have HR := hide R1
  have hsz : (rzA r).size = 17 := rfl
  obtain ⟨c1, c1f⟩ := R1.cells.get 1 _ rfl
  obtain ⟨c2, c2f⟩ := R1.cells.get 2 _ rfl
  obtain ⟨c8, c8f⟩ := R1.cells.get 8 _ rfl
  obtain ⟨c9, c9f⟩ := R1.cells.get 9 _ rfl
  rw [hk] at c1
  clear c1f c2f c8f c9f
  generalize hrA : rzA r = A at *
  generalize r.tx = tx at *
  generalize r.id = id at *
  generalize r.delta = delta at *
  generalize hx1 : w.alloc (.cells A 71) = x1 at *
  have HX := hide hx1
  clear hx1 hrA
  go_enter Try.func29, Try.ntmps29
  go_upto_region 1 with fail
  rw [show w.heap.size = N from HN.out, show w.alloc (.cells A 71) = x1 from HX.out]
  go_wp2_with (refine wpList_lb HR.out hsz rfl ?_)
  refine (KC _).mono ?_
  rintro e x2 ⟨rfl, h2⟩
  have P2 := P1.below h2
  have b2 := bb.trans (h2.mono (by have := bb.size; have := HN.out; omega))
  have lt1 : N < x1.heap.size := R1.lt
  have c1 := (h2.cell (p := ⟨N, 1, none⟩) lt1).trans c1
  have c2 := (h2.cell (p := ⟨N, 2, none⟩) lt1).trans c2
  have c8 := (h2.cell (p := ⟨N, 8, none⟩) lt1).trans c8
  have c9 := (h2.cell (p := ⟨N, 9, none⟩) lt1).trans c9
  have sz2 : N + 1 ≤ x2.heap.size := by have := h2.size; omega
  clear P1 h2 bb R1 HR KC
  have HP := hide P2
  have B2 := hide b2
  obtain ⟨h1, h3, h4, h5⟩ := hcr
  clear P2 b2
  go_wp2_with fail
  refine (add_ok lab B _ hb mn mh rv rs D S n HP.out tx id delta ⟨h1, h3⟩ ⟨h4, h5⟩ hd (by omega) hf).mono ?_
  rintro e x3 ⟨rfl, ⟨lab', D', h6⟩, h7⟩
  have B3 := hide ((B2.out.mono hB).trans h7)
  have H6 := hide h6
  clear h6 h7 HP B2
  go_wp2_with fail
  go_ret
  exact ⟨rfl, ⟨lab', rv, rs, D', H6.out, rfl⟩, B3.out⟩
set_option maxHeartbeats 8000000 in
theorem note_undo (lab : Nat → Nat) (B : Nat) (w : World) (hb mn mh : Nat) (rv : Value) (rs : List RV) (D : Hd) (S : St) (n : Nat) (h : PH lab B w hb mn mh rv rs D S n) (r : RZ) (hd : I64 r.delta) (hn : (n + 1) * 32 ≤ 140737488355328) (hk : r.kind = 4) (hchk : chkR (roOf r) = 0) :
    Calls Try.prog 29 #[ptr hb, .agg (rzA r)] w fun e w' => e = .returned (.int .i64 0) ∧ (∃ lab' rv' rs' D', PH lab' B w' hb mn mh rv' rs' D' (stepS S (roOf r)) (n + 1) ∧ rs'.map RV.rn = rs.map RV.rn ++ stepR S (roOf r)) ∧ Below B w w' := by
  have KC := fun w' => chk_any r w'
  have hB : B ≤ w.heap.size := by have := h.low.1; have := h.lt; omega
  obtain ⟨L1, L2, L3, L4, L5⟩ := h.lt
  have bb := alloc_below w (.cells (rzA r) 71)
  have P1 := h.below bb
  have R1 := RBox.new w (rzA r) 71
  generalize hN : w.heap.size = N at *
  have HN := hide hN
  clear hN
  have hS : stepS S (roOf r) = setS S r.tx (delM (S r.tx) r.id) := by unfold stepS roOf; simp [hk]
  have hR : stepR S (roOf r) = [] := by unfold stepR roOf; simp [hk]
  rw [hS, hR, List.append_nil]
  clear hS hR
  rw [hchk] at KC
  have hcr : 1 ≤ r.tx ∧ r.tx ≤ 2147483647 ∧ 1 ≤ r.id ∧ r.id ≤ 1048576 := by
    unfold chkR roOf isTx isId at hchk
    simp only [hk] at hchk
    simp at hchk
    split at hchk
    · rename_i q
      split at hchk
      · rename_i q2
        omega
      · cases hchk
    · cases hchk
  clear hchk
  have HR := hide R1
  have hsz : (rzA r).size = 17 := rfl
  obtain ⟨c1, c1f⟩ := R1.cells.get 1 _ rfl
  obtain ⟨c2, c2f⟩ := R1.cells.get 2 _ rfl
  obtain ⟨c8, c8f⟩ := R1.cells.get 8 _ rfl
  obtain ⟨c9, c9f⟩ := R1.cells.get 9 _ rfl
  rw [hk] at c1
  clear c1f c2f c8f c9f
  generalize hrA : rzA r = A at *
  generalize r.tx = tx at *
  generalize r.id = id at *
  generalize r.delta = delta at *
  generalize hx1 : w.alloc (.cells A 71) = x1 at *
  have HX := hide hx1
  clear hx1 hrA
  go_enter Try.func29, Try.ntmps29
  go_upto_region 1 with fail
  rw [show w.heap.size = N from HN.out, show w.alloc (.cells A 71) = x1 from HX.out]
  go_wp2_with (refine wpList_lb HR.out hsz rfl ?_)
  refine (KC _).mono ?_
  rintro e x2 ⟨rfl, h2⟩
  have P2 := P1.below h2
  have b2 := bb.trans (h2.mono (by have := bb.size; have := HN.out; omega))
  have lt1 : N < x1.heap.size := R1.lt
  have c1 := (h2.cell (p := ⟨N, 1, none⟩) lt1).trans c1
  have c2 := (h2.cell (p := ⟨N, 2, none⟩) lt1).trans c2
  have c8 := (h2.cell (p := ⟨N, 8, none⟩) lt1).trans c8
  have c9 := (h2.cell (p := ⟨N, 9, none⟩) lt1).trans c9
  have sz2 : N + 1 ≤ x2.heap.size := by have := h2.size; omega
  clear P1 h2 bb R1 HR KC
  have HP := hide P2
  have B2 := hide b2
  obtain ⟨h1, h3, h4, h5⟩ := hcr
  have ht64 : I64 tx := by unfold I64; omega
  have hc64 : I64 id := by unfold I64; omega
  clear P2 b2
  go_upto_region 8 with fail
  refine wp_region_held_drew (S := fun wq => Cells wq hb [rv, .map (some mn), .map (some mh)] ∧ wq.cell? ⟨N, 2, none⟩ = some (.int .i64 tx) ∧ wq.cell? ⟨N, 9, none⟩ = some (.int .i64 id)) (by kernel_rfl) ⟨HP.out.box, c2, c9⟩ (fun hS => ?_)
  have P3 := hide (HP.out.below (Below.refl _ _).drew)
  have B3 := hide B2.out.drew
  have e2 : x2.drew.cell? ⟨N, 2, none⟩ = some (.int .i64 tx) := c2
  have e9 : x2.drew.cell? ⟨N, 9, none⟩ = some (.int .i64 id) := c9
  have sz3 : N + 1 ≤ x2.drew.heap.size := sz2
  clear HP B2 c1 c2 c8 c9 sz2
  generalize x2.drew = x3 at *
  refine take_at 0 (some 27) (v := ?_) rfl rfl (by kernel_rfl) (by kernel_rfl) (by kernel_rfl) (fun _ _ _ h => h) ⟨by rfl, ?_⟩ hS ?_
  rotate_left
  · intro wq hSw; go_simp; try rfl
  simp only [Act.put, List.setIfInBounds_toArray, List.set_cons_zero, List.set_cons_succ]
  refine take_at 1 (some 28) (v := ?_) rfl rfl (by kernel_rfl) (by kernel_rfl) (by kernel_rfl) (fun _ _ _ h => h) ⟨by rfl, ?_⟩ hS ?_
  rotate_left
  · intro wq hSw; go_simp; try rfl
  simp only [Act.put, List.setIfInBounds_toArray, List.set_cons_zero, List.set_cons_succ]
  refine take_at 2 (some 29) (v := ?_) rfl rfl (by kernel_rfl) (by kernel_rfl) (by kernel_rfl) (fun _ _ _ h => h) ⟨by rfl, ?_⟩ hS ?_
  rotate_left
  · intro wq hSw; go_simp; try rfl
  simp only [Act.put, List.setIfInBounds_toArray, List.set_cons_zero, List.set_cons_succ]
  refine take_at 3 (some 30) (v := ?_) rfl rfl (by kernel_rfl) (by kernel_rfl) (by kernel_rfl) (fun _ _ _ h => h) ⟨by rfl, ?_⟩ hS ?_
  rotate_left
  · intro wq hSw; have q := (hSw.1.get 1 _ rfl).1; go_simp; try rfl
  simp only [Act.put, List.setIfInBounds_toArray, List.set_cons_zero, List.set_cons_succ]
  refine take_at 4 (some 31) (v := ?_) rfl rfl (by kernel_rfl) (by kernel_rfl) (by kernel_rfl) (fun _ _ _ h => h) ⟨by rfl, ?_⟩ hS ?_
  rotate_left
  · intro wq hSw; go_simp; try rfl
  simp only [Act.put, List.setIfInBounds_toArray, List.set_cons_zero, List.set_cons_succ]
  refine take_at 5 (some 32) (v := ?_) rfl rfl (by kernel_rfl) (by kernel_rfl) (by kernel_rfl) (fun _ _ _ h => h) ⟨by rfl, ?_⟩ hS ?_
  rotate_left
  · intro wq hSw; have q := hSw.2.1; go_simp; try rfl
  simp only [Act.put, List.setIfInBounds_toArray, List.set_cons_zero, List.set_cons_succ]
  refine take_at 6 (some 33) (v := ?_) rfl rfl (by kernel_rfl) (by kernel_rfl) (by kernel_rfl) (fun _ _ _ h => h) ⟨by rfl, ?_⟩ hS ?_
  rotate_left
  · intro wq hSw; go_simp; try rfl
  simp only [Act.put, List.setIfInBounds_toArray, List.set_cons_zero, List.set_cons_succ]
  refine take_at 7 (some 34) (v := ?_) rfl rfl (by kernel_rfl) (by kernel_rfl) (by kernel_rfl) (fun _ _ _ h => h) ⟨by rfl, ?_⟩ hS ?_
  rotate_left
  · intro wq hSw; go_simp; try rfl
  simp only [Act.put, List.setIfInBounds_toArray, List.set_cons_zero, List.set_cons_succ]
  refine take_at 8 (some 35) (v := ?_) rfl rfl (by kernel_rfl) (by kernel_rfl) (by kernel_rfl) (fun _ _ _ h => h) ⟨by rfl, ?_⟩ hS ?_
  rotate_left
  · intro wq hSw; have q := hSw.2.2; go_simp; try rfl
  simp only [Act.put, List.setIfInBounds_toArray, List.set_cons_zero, List.set_cons_succ]
  refine take_at 9 (some 36) (v := ?_) rfl rfl (by kernel_rfl) (by kernel_rfl) (by kernel_rfl) (fun _ _ _ h => h) ⟨by rfl, ?_⟩ hS ?_
  rotate_left
  · intro wq hSw; go_simp; try rfl
  simp only [Act.put, List.setIfInBounds_toArray, List.set_cons_zero, List.set_cons_succ]
  have nm3 := P3.out.nm
  rw [← set_self S tx] at nm3
  obtain ⟨x4, hd4, nm4, hg4⟩ := nm3.del_run ht64 hc64
  have k34 := grown_m hg4
  have HD4 := hide hd4
  have KK := hide k34
  have dne : hb ≠ mn := fun q => by have a0 := P3.out.l1; have a1 := P3.out.l2; rw [q] at a0; omega
  have s7 : Cells x4 hb [rv, .map (some mn), .map (some mh)] := P3.out.box.keep k34 dne
  have s8 := (k34.cell (p := ⟨N, 2, none⟩) (by show N < _; omega) (by show ¬ N = mn; omega)).trans e2
  have s9 := (k34.cell (p := ⟨N, 9, none⟩) (by show N < _; omega) (by show ¬ N = mn; omega)).trans e9
  clear k34 hd4 hg4
  refine wpAnyH_ready (rs := [10]) (by kernel_rfl) (by simp) ?_
  refine AllReadyH.cons rfl (fun K hK => ?_) AllReadyH.nil
  refine wp_del (.tmp 30) (.tmp 36) rfl rfl rfl rfl (HD4.out _) rfl ?_
  refine hK.out _ _ ⟨s7, s8, s9⟩ (fun hS => ?_)
  clear hK K hS s7 s8 s9 HD4
  (try simp only [Act.put, List.setIfInBounds_toArray, List.set_cons_zero, List.set_cons_succ])
  refine wpAnyH_done (by kernel_rfl) ?_ _
  go_wp2_with fail
  go_ret
  refine ⟨rfl, ⟨lab, rv, rs, D, (P3.out.undo tx id KK.out nm4).mono (by omega), rfl⟩, ?_⟩
  have e1 := B3.out.mono hB
  exact e1.trans (KK.out.below (by have := e1.size; have := HN.out; omega) (fun z hz q => by have := P3.out.low.2.1; omega))
set_option maxHeartbeats 8000000 in
theorem note_commit (lab : Nat → Nat) (B : Nat) (w : World) (hb mn mh : Nat) (rv : Value) (rs : List RV) (D : Hd) (S : St) (n : Nat) (h : PH lab B w hb mn mh rv rs D S n) (r : RZ) (hd : I64 r.delta) (hn : (n + 1) * 32 ≤ 140737488355328) (hk : r.kind = 5) (hchk : chkR (roOf r) = 0) :
    Calls Try.prog 29 #[ptr hb, .agg (rzA r)] w fun e w' => e = .returned (.int .i64 0) ∧ (∃ lab' rv' rs' D', PH lab' B w' hb mn mh rv' rs' D' (stepS S (roOf r)) (n + 1) ∧ rs'.map RV.rn = rs.map RV.rn ++ stepR S (roOf r)) ∧ Below B w w' := by
  have KC := fun w' => chk_any r w'
  have hB : B ≤ w.heap.size := by have := h.low.1; have := h.lt; omega
  obtain ⟨L1, L2, L3, L4, L5⟩ := h.lt
  have bb := alloc_below w (.cells (rzA r) 71)
  have P1 := h.below bb
  have R1 := RBox.new w (rzA r) 71
  generalize hN : w.heap.size = N at *
  have HN := hide hN
  clear hN
  have hS : stepS S (roOf r) = setS S r.tx [] := by unfold stepS roOf; simp [hk]
  have hR : stepR S (roOf r) = [(r.tx, S r.tx)] := by unfold stepR roOf; simp [hk]
  rw [hS, hR]
  clear hS hR
  rw [hchk] at KC
  have hcr : 1 ≤ r.tx ∧ r.tx ≤ 2147483647 := by
    unfold chkR roOf isTx at hchk
    simp only [hk] at hchk
    simp at hchk
    omega
  clear hchk
  have HR := hide R1
  have hsz : (rzA r).size = 17 := rfl
  obtain ⟨c1, c1f⟩ := R1.cells.get 1 _ rfl
  obtain ⟨c2, c2f⟩ := R1.cells.get 2 _ rfl
  obtain ⟨c8, c8f⟩ := R1.cells.get 8 _ rfl
  obtain ⟨c9, c9f⟩ := R1.cells.get 9 _ rfl
  rw [hk] at c1
  clear c1f c2f c8f c9f
  generalize hrA : rzA r = A at *
  generalize r.tx = tx at *
  generalize r.id = id at *
  generalize r.delta = delta at *
  generalize hx1 : w.alloc (.cells A 71) = x1 at *
  have HX := hide hx1
  clear hx1 hrA
  go_enter Try.func29, Try.ntmps29
  go_upto_region 1 with fail
  rw [show w.heap.size = N from HN.out, show w.alloc (.cells A 71) = x1 from HX.out]
  go_wp2_with (refine wpList_lb HR.out hsz rfl ?_)
  refine (KC _).mono ?_
  rintro e x2 ⟨rfl, h2⟩
  have P2 := P1.below h2
  have b2 := bb.trans (h2.mono (by have := bb.size; have := HN.out; omega))
  have lt1 : N < x1.heap.size := R1.lt
  have c1 := (h2.cell (p := ⟨N, 1, none⟩) lt1).trans c1
  have c2 := (h2.cell (p := ⟨N, 2, none⟩) lt1).trans c2
  have c8 := (h2.cell (p := ⟨N, 8, none⟩) lt1).trans c8
  have c9 := (h2.cell (p := ⟨N, 9, none⟩) lt1).trans c9
  have sz2 : N + 1 ≤ x2.heap.size := by have := h2.size; omega
  clear P1 h2 bb R1 HR KC
  have HP := hide P2
  have B2 := hide b2
  obtain ⟨h1, h3⟩ := hcr
  clear P2 b2
  go_upto_region 10 with fail
  refine wp_region_held_drew (S := fun wq => wq.cell? ⟨N, 2, none⟩ = some (.int .i64 tx)) (by kernel_rfl) c2 (fun hS => ?_)
  have P3 := hide (HP.out.below (Below.refl _ _).drew)
  have B3 := hide B2.out.drew
  have e2 : x2.drew.cell? ⟨N, 2, none⟩ = some (.int .i64 tx) := c2
  have sz3 : N + 1 ≤ x2.drew.heap.size := sz2
  clear HP B2 c1 c2 c8 c9 sz2
  generalize x2.drew = x3 at *
  refine take_at 0 (some 39) (v := ?_) rfl rfl (by kernel_rfl) (by kernel_rfl) (by kernel_rfl) (fun _ _ _ h => h) ⟨by rfl, ?_⟩ hS ?_
  rotate_left
  · intro wq hSw; go_simp; try rfl
  simp only [Act.put, List.setIfInBounds_toArray, List.set_cons_zero, List.set_cons_succ]
  refine take_at 1 (some 40) (v := ?_) rfl rfl (by kernel_rfl) (by kernel_rfl) (by kernel_rfl) (fun _ _ _ h => h) ⟨by rfl, ?_⟩ hS ?_
  rotate_left
  · intro wq hSw; go_simp; try rfl
  simp only [Act.put, List.setIfInBounds_toArray, List.set_cons_zero, List.set_cons_succ]
  refine take_at 2 (some 41) (v := ?_) rfl rfl (by kernel_rfl) (by kernel_rfl) (by kernel_rfl) (fun _ _ _ h => h) ⟨by rfl, ?_⟩ hS ?_
  rotate_left
  · intro wq hSw; go_simp; try rfl
  simp only [Act.put, List.setIfInBounds_toArray, List.set_cons_zero, List.set_cons_succ]
  refine take_at 3 (some 42) (v := ?_) rfl rfl (by kernel_rfl) (by kernel_rfl) (by kernel_rfl) (fun _ _ _ h => h) ⟨by rfl, ?_⟩ hS ?_
  rotate_left
  · intro wq hSw; go_simp; try rfl
  simp only [Act.put, List.setIfInBounds_toArray, List.set_cons_zero, List.set_cons_succ]
  refine take_at 5 (some 44) (v := ?_) rfl rfl (by kernel_rfl) (by kernel_rfl) (by kernel_rfl) (fun _ _ _ h => h) ⟨by rfl, ?_⟩ hS ?_
  rotate_left
  · intro wq hSw; go_simp; try rfl
  simp only [Act.put, List.setIfInBounds_toArray, List.set_cons_zero, List.set_cons_succ]
  refine take_at 6 (some 45) (v := ?_) rfl rfl (by kernel_rfl) (by kernel_rfl) (by kernel_rfl) (fun _ _ _ h => h) ⟨by rfl, ?_⟩ hS ?_
  rotate_left
  · intro wq hSw; have q := hSw; go_simp; try rfl
  simp only [Act.put, List.setIfInBounds_toArray, List.set_cons_zero, List.set_cons_succ]
  refine take_at 7 (some 46) (v := ?_) rfl rfl (by kernel_rfl) (by kernel_rfl) (by kernel_rfl) (fun _ _ _ h => h) ⟨by rfl, ?_⟩ hS ?_
  rotate_left
  · intro wq hSw; go_simp; try rfl
  simp only [Act.put, List.setIfInBounds_toArray, List.set_cons_zero, List.set_cons_succ]
  refine take_at 8 (some 47) (v := ?_) rfl rfl (by kernel_rfl) (by kernel_rfl) (by kernel_rfl) (fun _ _ _ h => h) ⟨by rfl, ?_⟩ hS ?_
  rotate_left
  · intro wq hSw; go_simp; try rfl
  simp only [Act.put, List.setIfInBounds_toArray, List.set_cons_zero, List.set_cons_succ]
  refine take_at 9 (some 48) (v := ?_) rfl rfl (by kernel_rfl) (by kernel_rfl) (by kernel_rfl) (fun _ _ _ h => h) ⟨by rfl, ?_⟩ hS ?_
  rotate_left
  · intro wq hSw; have q := hSw; go_simp; try rfl
  simp only [Act.put, List.setIfInBounds_toArray, List.set_cons_zero, List.set_cons_succ]
  refine wpAnyH_ready (rs := [4, 10]) (by kernel_rfl) (by simp) ?_
  refine AllReadyH.cons rfl (fun K hK => ?_) (AllReadyH.cons rfl (fun K hK => ?_) AllReadyH.nil)
  · have b0 := (P3.out.box.get 0 _ rfl).1
    go_simp
    go_wp2_with fail
    refine hK.out _ _ e2 (fun hS => ?_)
    clear hK K b0
    (try simp only [Act.put, List.setIfInBounds_toArray, List.set_cons_zero, List.set_cons_succ])
    refine wpAnyH_ready (rs := [10]) (by kernel_rfl) (by simp) ?_
    refine AllReadyH.cons rfl (fun K hK => ?_) AllReadyH.nil
    go_simp
    go_wp2_with fail
    refine (taken_any lab B x3 hb mn mh rv rs D S n P3.out tx ⟨h1, h3⟩ (by omega)).mono ?_
    rintro e x4 ⟨v, rfl, tk⟩
    have TK := hide tk
    obtain ⟨va, vc, hve, hvl, hvle, _, _, _⟩ := GRow.lies tk.row
    rw [ofT_len] at hve
    have e4 := (tk.keep.cell (p := ⟨N, 2, none⟩) (by show N < _; omega) (by rintro (q | q) <;> (have q : N = _ := q; omega))).trans e2
    have sz4 : N + 1 ≤ x4.heap.size := by have := tk.keep.size; omega
    have HVE := hide hve
    have HVL := hide hvl
    clear tk hvl
    subst hve
    go_wp2_with fail
    refine hK.out _ _ e4 (fun hS => ?_)
    clear hK K
    (try simp only [Act.put, List.setIfInBounds_toArray, List.set_cons_zero, List.set_cons_succ])
    refine take_at 11 (some 50) (v := ?_) rfl rfl (by kernel_rfl) (by kernel_rfl) (by kernel_rfl) (fun _ _ _ h => h) ⟨by rfl, ?_⟩ hS ?_
    rotate_left
    · intro wq hSw; go_simp; try rfl
    simp only [Act.put, List.setIfInBounds_toArray, List.set_cons_zero, List.set_cons_succ]
    have PT := TK.out.ph
    have hB4 : B ≤ x4.heap.size := by have := B3.out.size; have := HN.out; omega
    obtain ⟨rv2, x5, hap, hr5, hk5, hv5⟩ := run_rn x4 B rv rs PT.runs ⟨tx, va, vc, S tx⟩ (by have := PT.rlen; omega) hB4
    obtain ⟨ra, rc, hre, _, _, _, _, _⟩ := GRow.lies hr5
    subst hre
    have HAP := hide hap
    have HR5 := hide hr5
    have HK5 := hide hk5
    have ab4 := alloc_below x4 (.cells #[.int .i64 tx, .slice va (S tx).length vc] 32)
    have e5 := (ab4.cell (p := ⟨N, 2, none⟩) (by show N < _; omega)).trans e4
    have LN : ∀ g, rv.ownBlock = some g → g < N := L4
    have e6 := (hk5.cell (p := ⟨N, 2, none⟩) (by show N < _; omega) (fun q => by have : N < N := LN _ q; omega)).trans e4
    have nrv : rv.ownBlock ≠ some hb := fun q => by have a0 := PT.l4 _ q; have a1 := PT.l1; omega
    have b5 := PT.box.keep hk5 nrv
    obtain ⟨u0, u0f⟩ := b5.get 0 _ rfl
    clear hap hr5 hk5
    refine wpAnyH_ready (rs := [12]) (by kernel_rfl) (by simp) ?_
    refine AllReadyH.cons rfl (fun K hK => ?_) AllReadyH.nil
    go_simp
    go_wp2_with fail
    refine hK.out _ _ e5 (fun hS => ?_)
    clear hK K
    (try simp only [Act.put, List.setIfInBounds_toArray, List.set_cons_zero, List.set_cons_succ])
    refine wpAnyH_ready (rs := [13]) (by kernel_rfl) (by simp) ?_
    refine AllReadyH.cons rfl (fun K hK => ?_) AllReadyH.nil
    refine wp_run 52 (.tmp 43) (.tmp 51) rfl rfl rfl rfl rfl HAP.out ?_
    refine hK.out _ _ e6 (fun hS => ?_)
    clear hK K
    (try simp only [Act.put, List.setIfInBounds_toArray, List.set_cons_zero, List.set_cons_succ])
    refine take_at 14 (some 53) (v := ?_) rfl rfl (by kernel_rfl) (by kernel_rfl) (by kernel_rfl) (fun _ _ _ h => h) ⟨by rfl, ?_⟩ hS ?_
    rotate_left
    · intro wq hSw; go_simp; try rfl
    simp only [Act.put, List.setIfInBounds_toArray, List.set_cons_zero, List.set_cons_succ]
    refine take_at 15 (some 54) (v := ?_) rfl rfl (by kernel_rfl) (by kernel_rfl) (by kernel_rfl) (fun _ _ _ h => h) ⟨by rfl, ?_⟩ hS ?_
    rotate_left
    · intro wq hSw; go_simp; try rfl
    simp only [Act.put, List.setIfInBounds_toArray, List.set_cons_zero, List.set_cons_succ]
    have sz5 : N + 1 ≤ x5.heap.size := Nat.le_trans sz4 HK5.out.size
    have k56 := (Keep.refl (fun z => z = hb) x5).setCell (g := hb) (j := 0) (fun _ => rfl) (.slice ra (rs.length + 1) rc)
    have e7 := hide ((k56.cell (p := ⟨N, 2, none⟩) (by show N < _; omega) (by show ¬ N = hb; omega)).trans e6)
    refine wpAnyH_ready (rs := [16]) (by kernel_rfl) (by simp) ?_
    refine AllReadyH.cons rfl (fun K hK => ?_) AllReadyH.nil
    go_simp
    go_wp2_with fail
    refine hK.out _ _ e7.out (fun hS => ?_)
    clear hK K hS
    (try simp only [Act.put, List.setIfInBounds_toArray, List.set_cons_zero, List.set_cons_succ])
    refine wpAnyH_done (by kernel_rfl) ?_ _
    have bfin := b5.stored (j := 0) (by simp) (.slice ra (rs.length + 1) rc)
    have hr7 : GRow (x5.setCell ⟨hb, 0, none⟩ (.slice ra (rs.length + 1) rc)) B 32 2 (.slice ra (rs.length + 1) rc) (rs.length + 1) (rowsC rvC (rs ++ [⟨tx, va, vc, S tx⟩])) := GRow.keep HR5.out k56 (fun g hg q => ?_)
    rotate_left
    · rcases hv5 with r | ⟨g2, r, r2⟩
      · exact nrv (by rw [← r, ← q]; exact hg)
      · rw [r] at hg; cases hg; omega
    have kk : Keep (fun z => z = hb ∨ rv.ownBlock = some z) x4 (x5.setCell ⟨hb, 0, none⟩ (.slice ra (rs.length + 1) rc)) := (HK5.out.mono (T := fun z => z = hb ∨ rv.ownBlock = some z) (fun _ _ q => .inr q)).trans k56 (fun _ _ q => .inl q)
    have fin := PT.push (r := ⟨tx, va, vc, S tx⟩) kk (by simpa using bfin) hr7 ⟨HVL.out, fun ad ha => ?_⟩ hv5
    rotate_left
    · have e1 : (Value.slice va (S tx).length vc).ownBlock = some ad.block := by rw [show va = some ad from ha]; rfl
      have := World.ownsRow.lt TK.out.row _ e1
      exact ⟨this.2, if_neg (by omega)⟩
    have hbB : B ≤ hb := PT.low.1
    have bfw := (B3.out.mono hB)
    have bfy : Below B x3 (x5.setCell ⟨hb, 0, none⟩ (.slice ra (rs.length + 1) rc)) := ((TK.out.keep.below (B := B) (by omega) (fun z hz q => by rcases q with q | q; have := PT.low.2.1; omega; have := PT.low.2.2; omega))).trans (kk.below hB4 (fun z hz q => by rcases q with q | q; omega; have := (World.ownsRow.lt PT.runs z q).1; omega))
    have FIN := hide fin
    have BW := hide (bfw.trans bfy)
    clear fin bfw bfy kk hr7 bfin k56 e7 e6 e5
    go_wp2_with fail
    go_ret
    exact ⟨rfl, ⟨_, _, _, _, FIN.out, by rw [List.map_append]; rfl⟩, BW.out⟩
  · go_simp
    go_wp2_with fail
    refine (taken_any lab B x3 hb mn mh rv rs D S n P3.out tx ⟨h1, h3⟩ (by omega)).mono ?_
    rintro e x4 ⟨v, rfl, tk⟩
    have TK := hide tk
    obtain ⟨va, vc, hve, hvl, hvle, _, _, _⟩ := GRow.lies tk.row
    rw [ofT_len] at hve
    have e4 := (tk.keep.cell (p := ⟨N, 2, none⟩) (by show N < _; omega) (by rintro (q | q) <;> (have q : N = _ := q; omega))).trans e2
    have sz4 : N + 1 ≤ x4.heap.size := by have := tk.keep.size; omega
    have HVE := hide hve
    have HVL := hide hvl
    clear tk hvl
    subst hve
    go_wp2_with fail
    refine hK.out _ _ e4 (fun hS => ?_)
    clear hK K
    (try simp only [Act.put, List.setIfInBounds_toArray, List.set_cons_zero, List.set_cons_succ])
    refine take_at 11 (some 50) (v := ?_) rfl rfl (by kernel_rfl) (by kernel_rfl) (by kernel_rfl) (fun _ _ _ h => h) ⟨by rfl, ?_⟩ hS ?_
    rotate_left
    · intro wq hSw; go_simp; try rfl
    simp only [Act.put, List.setIfInBounds_toArray, List.set_cons_zero, List.set_cons_succ]
    have PT := TK.out.ph
    have hB4 : B ≤ x4.heap.size := by have := B3.out.size; have := HN.out; omega
    obtain ⟨rv2, x5, hap, hr5, hk5, hv5⟩ := run_rn x4 B rv rs PT.runs ⟨tx, va, vc, S tx⟩ (by have := PT.rlen; omega) hB4
    obtain ⟨ra, rc, hre, _, _, _, _, _⟩ := GRow.lies hr5
    subst hre
    have HAP := hide hap
    have HR5 := hide hr5
    have HK5 := hide hk5
    have ab4 := alloc_below x4 (.cells #[.int .i64 tx, .slice va (S tx).length vc] 32)
    have e5 := (ab4.cell (p := ⟨N, 2, none⟩) (by show N < _; omega)).trans e4
    have LN : ∀ g, rv.ownBlock = some g → g < N := L4
    have e6 := (hk5.cell (p := ⟨N, 2, none⟩) (by show N < _; omega) (fun q => by have : N < N := LN _ q; omega)).trans e4
    have nrv : rv.ownBlock ≠ some hb := fun q => by have a0 := PT.l4 _ q; have a1 := PT.l1; omega
    have b5 := PT.box.keep hk5 nrv
    obtain ⟨u0, u0f⟩ := b5.get 0 _ rfl
    clear hap hr5 hk5
    refine wpAnyH_ready (rs := [4, 12]) (by kernel_rfl) (by simp) ?_
    refine AllReadyH.cons rfl (fun K hK => ?_) (AllReadyH.cons rfl (fun K hK => ?_) AllReadyH.nil)
    · have b0 := (PT.box.get 0 _ rfl).1
      go_simp
      go_wp2_with fail
      refine hK.out _ _ e4 (fun hS => ?_)
      clear hK K b0
      (try simp only [Act.put, List.setIfInBounds_toArray, List.set_cons_zero, List.set_cons_succ])
      refine wpAnyH_ready (rs := [12]) (by kernel_rfl) (by simp) ?_
      refine AllReadyH.cons rfl (fun K hK => ?_) AllReadyH.nil
      go_simp
      go_wp2_with fail
      refine hK.out _ _ e5 (fun hS => ?_)
      clear hK K
      (try simp only [Act.put, List.setIfInBounds_toArray, List.set_cons_zero, List.set_cons_succ])
      refine wpAnyH_ready (rs := [13]) (by kernel_rfl) (by simp) ?_
      refine AllReadyH.cons rfl (fun K hK => ?_) AllReadyH.nil
      refine wp_run 52 (.tmp 43) (.tmp 51) rfl rfl rfl rfl rfl HAP.out ?_
      refine hK.out _ _ e6 (fun hS => ?_)
      clear hK K
      (try simp only [Act.put, List.setIfInBounds_toArray, List.set_cons_zero, List.set_cons_succ])
      refine take_at 14 (some 53) (v := ?_) rfl rfl (by kernel_rfl) (by kernel_rfl) (by kernel_rfl) (fun _ _ _ h => h) ⟨by rfl, ?_⟩ hS ?_
      rotate_left
      · intro wq hSw; go_simp; try rfl
      simp only [Act.put, List.setIfInBounds_toArray, List.set_cons_zero, List.set_cons_succ]
      refine take_at 15 (some 54) (v := ?_) rfl rfl (by kernel_rfl) (by kernel_rfl) (by kernel_rfl) (fun _ _ _ h => h) ⟨by rfl, ?_⟩ hS ?_
      rotate_left
      · intro wq hSw; go_simp; try rfl
      simp only [Act.put, List.setIfInBounds_toArray, List.set_cons_zero, List.set_cons_succ]
      have sz5 : N + 1 ≤ x5.heap.size := Nat.le_trans sz4 HK5.out.size
      have k56 := (Keep.refl (fun z => z = hb) x5).setCell (g := hb) (j := 0) (fun _ => rfl) (.slice ra (rs.length + 1) rc)
      have e7 := hide ((k56.cell (p := ⟨N, 2, none⟩) (by show N < _; omega) (by show ¬ N = hb; omega)).trans e6)
      refine wpAnyH_ready (rs := [16]) (by kernel_rfl) (by simp) ?_
      refine AllReadyH.cons rfl (fun K hK => ?_) AllReadyH.nil
      go_simp
      go_wp2_with fail
      refine hK.out _ _ e7.out (fun hS => ?_)
      clear hK K hS
      (try simp only [Act.put, List.setIfInBounds_toArray, List.set_cons_zero, List.set_cons_succ])
      refine wpAnyH_done (by kernel_rfl) ?_ _
      have bfin := b5.stored (j := 0) (by simp) (.slice ra (rs.length + 1) rc)
      have hr7 : GRow (x5.setCell ⟨hb, 0, none⟩ (.slice ra (rs.length + 1) rc)) B 32 2 (.slice ra (rs.length + 1) rc) (rs.length + 1) (rowsC rvC (rs ++ [⟨tx, va, vc, S tx⟩])) := GRow.keep HR5.out k56 (fun g hg q => ?_)
      rotate_left
      · rcases hv5 with r | ⟨g2, r, r2⟩
        · exact nrv (by rw [← r, ← q]; exact hg)
        · rw [r] at hg; cases hg; omega
      have kk : Keep (fun z => z = hb ∨ rv.ownBlock = some z) x4 (x5.setCell ⟨hb, 0, none⟩ (.slice ra (rs.length + 1) rc)) := (HK5.out.mono (T := fun z => z = hb ∨ rv.ownBlock = some z) (fun _ _ q => .inr q)).trans k56 (fun _ _ q => .inl q)
      have fin := PT.push (r := ⟨tx, va, vc, S tx⟩) kk (by simpa using bfin) hr7 ⟨HVL.out, fun ad ha => ?_⟩ hv5
      rotate_left
      · have e1 : (Value.slice va (S tx).length vc).ownBlock = some ad.block := by rw [show va = some ad from ha]; rfl
        have := World.ownsRow.lt TK.out.row _ e1
        exact ⟨this.2, if_neg (by omega)⟩
      have hbB : B ≤ hb := PT.low.1
      have bfw := (B3.out.mono hB)
      have bfy : Below B x3 (x5.setCell ⟨hb, 0, none⟩ (.slice ra (rs.length + 1) rc)) := ((TK.out.keep.below (B := B) (by omega) (fun z hz q => by rcases q with q | q; have := PT.low.2.1; omega; have := PT.low.2.2; omega))).trans (kk.below hB4 (fun z hz q => by rcases q with q | q; omega; have := (World.ownsRow.lt PT.runs z q).1; omega))
      have FIN := hide fin
      have BW := hide (bfw.trans bfy)
      clear fin bfw bfy kk hr7 bfin k56 e7 e6 e5
      go_wp2_with fail
      go_ret
      exact ⟨rfl, ⟨_, _, _, _, FIN.out, by rw [List.map_append]; rfl⟩, BW.out⟩
    · go_simp
      go_wp2_with fail
      refine hK.out _ _ e5 (fun hS => ?_)
      clear hK K
      (try simp only [Act.put, List.setIfInBounds_toArray, List.set_cons_zero, List.set_cons_succ])
      refine wpAnyH_ready (rs := [4]) (by kernel_rfl) (by simp) ?_
      refine AllReadyH.cons rfl (fun K hK => ?_) AllReadyH.nil
      have b0 := ((PT.below ab4).box.get 0 _ rfl).1
      go_simp
      go_wp2_with fail
      refine hK.out _ _ e5 (fun hS => ?_)
      clear hK K b0
      (try simp only [Act.put, List.setIfInBounds_toArray, List.set_cons_zero, List.set_cons_succ])
      refine wpAnyH_ready (rs := [13]) (by kernel_rfl) (by simp) ?_
      refine AllReadyH.cons rfl (fun K hK => ?_) AllReadyH.nil
      refine wp_run 52 (.tmp 43) (.tmp 51) rfl rfl rfl rfl rfl HAP.out ?_
      refine hK.out _ _ e6 (fun hS => ?_)
      clear hK K
      (try simp only [Act.put, List.setIfInBounds_toArray, List.set_cons_zero, List.set_cons_succ])
      refine take_at 14 (some 53) (v := ?_) rfl rfl (by kernel_rfl) (by kernel_rfl) (by kernel_rfl) (fun _ _ _ h => h) ⟨by rfl, ?_⟩ hS ?_
      rotate_left
      · intro wq hSw; go_simp; try rfl
      simp only [Act.put, List.setIfInBounds_toArray, List.set_cons_zero, List.set_cons_succ]
      refine take_at 15 (some 54) (v := ?_) rfl rfl (by kernel_rfl) (by kernel_rfl) (by kernel_rfl) (fun _ _ _ h => h) ⟨by rfl, ?_⟩ hS ?_
      rotate_left
      · intro wq hSw; go_simp; try rfl
      simp only [Act.put, List.setIfInBounds_toArray, List.set_cons_zero, List.set_cons_succ]
      have sz5 : N + 1 ≤ x5.heap.size := Nat.le_trans sz4 HK5.out.size
      have k56 := (Keep.refl (fun z => z = hb) x5).setCell (g := hb) (j := 0) (fun _ => rfl) (.slice ra (rs.length + 1) rc)
      have e7 := hide ((k56.cell (p := ⟨N, 2, none⟩) (by show N < _; omega) (by show ¬ N = hb; omega)).trans e6)
      refine wpAnyH_ready (rs := [16]) (by kernel_rfl) (by simp) ?_
      refine AllReadyH.cons rfl (fun K hK => ?_) AllReadyH.nil
      go_simp
      go_wp2_with fail
      refine hK.out _ _ e7.out (fun hS => ?_)
      clear hK K hS
      (try simp only [Act.put, List.setIfInBounds_toArray, List.set_cons_zero, List.set_cons_succ])
      refine wpAnyH_done (by kernel_rfl) ?_ _
      have bfin := b5.stored (j := 0) (by simp) (.slice ra (rs.length + 1) rc)
      have hr7 : GRow (x5.setCell ⟨hb, 0, none⟩ (.slice ra (rs.length + 1) rc)) B 32 2 (.slice ra (rs.length + 1) rc) (rs.length + 1) (rowsC rvC (rs ++ [⟨tx, va, vc, S tx⟩])) := GRow.keep HR5.out k56 (fun g hg q => ?_)
      rotate_left
      · rcases hv5 with r | ⟨g2, r, r2⟩
        · exact nrv (by rw [← r, ← q]; exact hg)
        · rw [r] at hg; cases hg; omega
      have kk : Keep (fun z => z = hb ∨ rv.ownBlock = some z) x4 (x5.setCell ⟨hb, 0, none⟩ (.slice ra (rs.length + 1) rc)) := (HK5.out.mono (T := fun z => z = hb ∨ rv.ownBlock = some z) (fun _ _ q => .inr q)).trans k56 (fun _ _ q => .inl q)
      have fin := PT.push (r := ⟨tx, va, vc, S tx⟩) kk (by simpa using bfin) hr7 ⟨HVL.out, fun ad ha => ?_⟩ hv5
      rotate_left
      · have e1 : (Value.slice va (S tx).length vc).ownBlock = some ad.block := by rw [show va = some ad from ha]; rfl
        have := World.ownsRow.lt TK.out.row _ e1
        exact ⟨this.2, if_neg (by omega)⟩
      have hbB : B ≤ hb := PT.low.1
      have bfw := (B3.out.mono hB)
      have bfy : Below B x3 (x5.setCell ⟨hb, 0, none⟩ (.slice ra (rs.length + 1) rc)) := ((TK.out.keep.below (B := B) (by omega) (fun z hz q => by rcases q with q | q; have := PT.low.2.1; omega; have := PT.low.2.2; omega))).trans (kk.below hB4 (fun z hz q => by rcases q with q | q; omega; have := (World.ownsRow.lt PT.runs z q).1; omega))
      have FIN := hide fin
      have BW := hide (bfw.trans bfy)
      clear fin bfw bfy kk hr7 bfin k56 e7 e6 e5
      go_wp2_with fail
      go_ret
      exact ⟨rfl, ⟨_, _, _, _, FIN.out, by rw [List.map_append]; rfl⟩, BW.out⟩
set_option maxHeartbeats 8000000 in
theorem note_other (lab : Nat → Nat) (B : Nat) (w : World) (hb mn mh : Nat) (rv : Value) (rs : List RV) (D : Hd) (S : St) (n : Nat) (h : PH lab B w hb mn mh rv rs D S n) (r : RZ) (hd : I64 r.delta) (hn : (n + 1) * 32 ≤ 140737488355328) (hk3 : r.kind ≠ 3) (hk4 : r.kind ≠ 4) (hk5 : r.kind ≠ 5) :
    Calls Try.prog 29 #[ptr hb, .agg (rzA r)] w fun e w' => e = .returned (.int .i64 0) ∧ (∃ lab' rv' rs' D', PH lab' B w' hb mn mh rv' rs' D' (stepS S (roOf r)) (n + 1) ∧ rs'.map RV.rn = rs.map RV.rn ++ stepR S (roOf r)) ∧ Below B w w' := by
  have KC := fun w' => chk_any r w'
  have hB : B ≤ w.heap.size := by have := h.low.1; have := h.lt; omega
  obtain ⟨L1, L2, L3, L4, L5⟩ := h.lt
  have bb := alloc_below w (.cells (rzA r) 71)
  have P1 := h.below bb
  have R1 := RBox.new w (rzA r) 71
  generalize hN : w.heap.size = N at *
  have HN := hide hN
  clear hN
  have hS : stepS S (roOf r) = S := by unfold stepS roOf; simp [hk3, hk4, hk5]
  have hR : stepR S (roOf r) = [] := by unfold stepR roOf; simp [hk5]
  have hchk : chkR (roOf r) = 0 := by unfold chkR roOf; simp [hk3, hk4, hk5]
  rw [hS, hR, List.append_nil]
  rw [hchk] at KC
  clear hS hR hchk
  obtain ⟨kd, hk⟩ : ∃ kd, r.kind = kd := ⟨_, rfl⟩
  rw [hk] at hk3 hk4 hk5
  have e3 : (kd == 3) = false := by simpa using hk3
  have e4 : (kd == 4) = false := by simpa using hk4
  have e5 : (kd == 5) = false := by simpa using hk5
  have HR := hide R1
  have hsz : (rzA r).size = 17 := rfl
  obtain ⟨c1, c1f⟩ := R1.cells.get 1 _ rfl
  obtain ⟨c2, c2f⟩ := R1.cells.get 2 _ rfl
  obtain ⟨c8, c8f⟩ := R1.cells.get 8 _ rfl
  obtain ⟨c9, c9f⟩ := R1.cells.get 9 _ rfl
  rw [hk] at c1
  clear c1f c2f c8f c9f
  generalize hrA : rzA r = A at *
  generalize r.tx = tx at *
  generalize r.id = id at *
  generalize r.delta = delta at *
  generalize hx1 : w.alloc (.cells A 71) = x1 at *
  have HX := hide hx1
  clear hx1 hrA
  go_enter Try.func29, Try.ntmps29
  go_upto_region 1 with fail
  rw [show w.heap.size = N from HN.out, show w.alloc (.cells A 71) = x1 from HX.out]
  go_wp2_with (refine wpList_lb HR.out hsz rfl ?_)
  refine (KC _).mono ?_
  rintro e x2 ⟨rfl, h2⟩
  have P2 := P1.below h2
  have b2 := bb.trans (h2.mono (by have := bb.size; have := HN.out; omega))
  have lt1 : N < x1.heap.size := R1.lt
  have c1 := (h2.cell (p := ⟨N, 1, none⟩) lt1).trans c1
  have c2 := (h2.cell (p := ⟨N, 2, none⟩) lt1).trans c2
  have c8 := (h2.cell (p := ⟨N, 8, none⟩) lt1).trans c8
  have c9 := (h2.cell (p := ⟨N, 9, none⟩) lt1).trans c9
  have sz2 : N + 1 ≤ x2.heap.size := by have := h2.size; omega
  clear P1 h2 bb R1 HR KC
  have HP := hide P2
  have B2 := hide b2
  clear P2 b2
  go_wp2_with fail
  go_ret
  exact ⟨rfl, ⟨lab, rv, rs, D, HP.out.mono (by omega), rfl⟩, B2.out.mono hB⟩
end Go.Proofs.Ytlloppalagddnaa
