import Derived.Test.YtlloppalagddnaaSr1
set_option linter.all false
namespace Go.Proofs.Ytlloppalagddnaa
open Go.RowKit Go.QK Quota Go.Maps Go.QM Go.QS
set_option maxRecDepth 100000
/-! ledger.Load's check of a counter. -/
structure Lc where
  grp : Int
structure Lm where
  c : Lc
  b : Nat
abbrev entV (x : Lm) : Value := .agg #[.int .i64 x.c.grp, ptr x.b]
theorem zeroE (w : World) : (zeroValue 130).run Try.prog w = .ok (.agg #[.int .i64 0, .pointer none]) w := by kernel_rfl
set_option maxHeartbeats 1000000 in
theorem new_no (lo hi v : Int) (w : World) (h : newE lo hi v ≠ 0) :
    Calls Try.prog 72 #[rng lo hi, .int .i64 v] w fun r w' => r = .returned (.tuple #[.pointer none, .int .i64 (newE lo hi v)]) ∧ Below w.heap.size w w' := by
  by_cases h1 : hi < lo
  · have e1 : newE lo hi v = 11 := by unfold newE; rw [if_pos h1]
    have e2 : chkE lo hi = 11 := by unfold chkE; rw [if_pos h1]
    rw [e1]
    clear h e1 h1
    go_enter Try.func72, Try.ntmps72
    go_wp2_with fail
    refine (check_any lo hi _).mono ?_
    rintro r w1 ⟨rfl, hb⟩
    have HB := hide (below1 hb)
    rw [e2]
    clear hb e2
    go_wp2_with fail
    go_ret2
    exact ⟨rfl, HB.out⟩
  · have e1 : newE lo hi v = 110 := by
      unfold newE at h ⊢
      rw [if_neg h1] at h ⊢
      split at h
      · exact absurd rfl h
      · rename_i h2
        rw [if_neg h2]
    have e2 : chkE lo hi = 0 := by unfold chkE; rw [if_neg h1]
    have e3 : hasB lo hi v = false := by
      unfold newE at h
      rw [if_neg h1] at h
      unfold hasB
      by_cases q : lo ≤ v <;> by_cases q2 : v ≤ hi <;> simp [q, q2] at h ⊢
    rw [e1]
    clear h e1 h1
    go_enter Try.func72, Try.ntmps72
    go_wp2_with fail
    refine (check_any lo hi _).mono ?_
    rintro r w1 ⟨rfl, hb⟩
    have HB := hide (below1 hb)
    obtain ⟨c0, c1, _, _, hz⟩ := keep1 hb
    rw [e2]
    clear hb e2
    go_wp2_with fail
    refine (has_any lo hi v _).mono ?_
    rintro r w2 ⟨rfl, hb⟩
    have HB := hide (HB.out.trans (hb.mono HB.out.size))
    rw [e3]
    clear hb e3 c0 c1
    go_wp2_with fail
    go_ret2
    exact ⟨rfl, HB.out⟩

set_option maxHeartbeats 1000000 in
theorem new_yes (lo hi v : Int) (w : World) (h : newE lo hi v = 0) (i1 : I64 lo) (i2 : I64 hi) :
    Calls Try.prog 72 #[rng lo hi, .int .i64 v] w fun r w' => ∃ b m, r = .returned (.tuple #[ptr b, .int .i64 0]) ∧ Below w.heap.size w w' ∧ w.heap.size ≤ b ∧ w.heap.size ≤ m := by
  have h1 : ¬ hi < lo := by intro q; simp [newE, q] at h
  have h2 : lo ≤ v ∧ v ≤ hi := by
    unfold newE at h
    rw [if_neg h1] at h
    split at h
    · assumption
    · cases h
  have e2 : chkE lo hi = 0 := by unfold chkE; rw [if_neg h1]
  have e3 : hasB lo hi v = true := by simp [hasB, h2.1, h2.2]
  have hmm := @run_makeMap Try.prog
  clear h h1 h2 i1 i2
  go_enter Try.func72, Try.ntmps72
  go_wp2_with fail
  refine (check_any lo hi _).mono ?_
  rintro r w1 ⟨rfl, hb⟩
  have HB := hide (below1 hb)
  obtain ⟨c0, c1, _, _, hz⟩ := keep1 hb
  rw [e2]
  clear e2
  go_wp2_with fail
  refine (has_any lo hi v _).mono ?_
  rintro r w2 ⟨rfl, hb2⟩
  have HB2 := hide (HB.out.trans (hb2.mono HB.out.size))
  obtain ⟨c0, c1, _, _, hz⟩ := keep1 (hb.trans (hb2.mono hb.size))
  rw [e3]
  clear e3 hb hb2 HB
  go_wp2_with fail
  go_ret2
  have s := HB2.out.size
  refine ⟨w2.heap.size + 1, w2.heap.size, by simp, ?_, by omega, s⟩
  · exact (HB2.out.alloc s _).alloc (by simp; omega) _
theorem any_run_ok {P : Program} {t k e : TypeId} (K : Keyed P k) (ht : P.underlying t = some (.map k e)) {z : Value} (hz : ∀ u : World, (zeroValue e).run P u = .ok z u) {w : World} {m : Nat} {L : Prs Value} (h : AnyAt P k w m L) {x : Int} (hk : keyOf P k (.int .i64 x) = some (.int .i64 x)) :
    (Instr.lookup t (.map (some m)) (.int .i64 x) true).run P w = .ok (.tuple #[(getM L x).getD z, .bool (getM L x).isSome]) w := by
  obtain ⟨v, ps, hrun, hv⟩ := World.ownsMap.look_ok h K ht (hz w) (show anyElem z = some (.held z, []) from rfl) hk
  rw [any_look hv, mapE_has, hasM_get] at hrun
  exact hrun
abbrev cV (id grp lo hi v : Int) : Value := .agg #[.int .i64 id, .int .i64 grp, .int .i64 lo, .int .i64 hi, .int .i64 v]
/-- What is wrong with a counter by itself. -/
def chL (K : Prs Lm) (id grp lo hi v : Int) : Int := if id < 1 ∨ 1048576 < id ∨ grp < 1 ∨ 1048576 < grp then 4 else if (getM K id).isSome then 121 else newE lo hi v
set_option maxHeartbeats 4000000 in
theorem check_place (lb : Nat) (id grp lo hi v : Int) (w : World) (h : id < 1 ∨ 1048576 < id ∨ grp < 1 ∨ 1048576 < grp) :
    Calls Try.prog 64 #[ptr lb, cV id grp lo hi v] w fun r w' => r = .returned (.tuple #[.agg #[.int .i64 0, .pointer none], .int .i64 4]) ∧ Below w.heap.size w w' := by
  by_cases n1 : id < 1
  · clear h
    go_enter Try.func64, Try.ntmps64
    go_wp2_with fail
    refine bodyPost_ret (v := .tuple #[.agg #[.int .i64 0, .pointer none], .int .i64 4]) (by simp [results, Try.results64, go_sem]) rfl ⟨rfl, ?_⟩
    exact (alloc_below _ _).alloc (by simp) _
  by_cases n2 : 1048576 < id
  · clear h
    go_enter Try.func64, Try.ntmps64
    go_wp2_with fail
    refine bodyPost_ret (v := .tuple #[.agg #[.int .i64 0, .pointer none], .int .i64 4]) (by simp [results, Try.results64, go_sem]) rfl ⟨rfl, ?_⟩
    exact (alloc_below _ _).alloc (by simp) _
  by_cases n3 : grp < 1
  · clear h
    go_enter Try.func64, Try.ntmps64
    go_wp2_with fail
    refine bodyPost_ret (v := .tuple #[.agg #[.int .i64 0, .pointer none], .int .i64 4]) (by simp [results, Try.results64, go_sem]) rfl ⟨rfl, ?_⟩
    exact (alloc_below _ _).alloc (by simp) _
  have n4 : 1048576 < grp := by omega
  clear h
  go_enter Try.func64, Try.ntmps64
  go_wp2_with fail
  refine bodyPost_ret (v := .tuple #[.agg #[.int .i64 0, .pointer none], .int .i64 4]) (by simp [results, Try.results64, go_sem]) rfl ⟨rfl, ?_⟩
  exact (alloc_below _ _).alloc (by simp) _
set_option maxHeartbeats 4000000 in
theorem check_twice (lb mc : Nat) (KK : Prs Lm) (id grp lo hi v : Int) (w : World) (h : ¬ (id < 1 ∨ 1048576 < id ∨ grp < 1 ∨ 1048576 < grp)) (hlt : lb < w.heap.size) (k1 : w.cell? ⟨lb, 0, none⟩ = some (.map (some mc))) (hm : AnyAt Try.prog 3 w mc (KK.map (fun p => (p.1, entV p.2)))) (hk : (getM KK id).isSome = true) :
    Calls Try.prog 64 #[ptr lb, cV id grp lo hi v] w fun r w' => r = .returned (.tuple #[.agg #[.int .i64 0, .pointer none], .int .i64 121]) ∧ Below w.heap.size w w' := by
  have n1 : ¬ id < 1 := by omega
  have n2 : ¬ 1048576 < id := by omega
  have n3 : ¬ grp < 1 := by omega
  have n4 : ¬ 1048576 < grp := by omega
  have hid : I64 id := by unfold I64; omega
  have lt1 : mc < w.heap.size := World.ownsMap.lt hm
  obtain ⟨xx, hxx⟩ := Option.isSome_iff_exists.1 hk
  have HG := hide hxx
  have HA := hide (getM_map entV KK id)
  clear hk hxx h
  go_enter Try.func64, Try.ntmps64
  go_upto_region 3 with fail
  refine named (P := Code.wp _ _ _ _) ?_
  intro x2 hx2
  have b2 : Below w.heap.size w x2 := by rw [hx2]; exact (alloc_below _ _).alloc (by simp) _
  have cp : Cells x2 w.heap.size [.int .i64 id, .int .i64 grp, .int .i64 lo, .int .i64 hi, .int .i64 v] := by rw [hx2]; exact (Cells.new w _ _).below (alloc_below _ _)
  have cz : Cells x2 (w.heap.size + 1) [.int .i64 0, .pointer none] := by
    rw [hx2]
    have := Cells.new (w.alloc (.cells #[.int .i64 id, .int .i64 grp, .int .i64 lo, .int .i64 hi, .int .i64 v] 65)) #[.int .i64 0, .pointer none] 130
    simpa using this
  have hs2 : x2.heap.size = w.heap.size + 2 := by rw [hx2]; simp
  have k2 := (b2.cell (p := ⟨lb, 0, none⟩) hlt).trans k1
  have m2 : AnyAt Try.prog 3 x2 mc (KK.map (fun p => (p.1, entV p.2))) := anyAt_below hm b2
  clear k1 hm
  refine wp_region_held_drew (S := fun wq => wq.cell? ⟨lb, 0, none⟩ = some (.map (some mc)) ∧ wq.cell? ⟨w.heap.size, 0, none⟩ = some (.int .i64 id) ∧ AnyAt Try.prog 3 wq mc (KK.map (fun (p : Int × Lm) => (p.1, entV p.2)))) (by kernel_rfl) ⟨k2, (cp.get 0 _ rfl).1, m2⟩ (fun hS => ?_)
  have b3 := hide b2.drew
  have cp3 := hide (cp.below (Below.refl _ _).drew)
  have cz3 := hide (cz.below (Below.refl _ _).drew)
  have hs3 : x2.drew.heap.size = w.heap.size + 2 := hs2
  have k3 : x2.drew.cell? ⟨lb, 0, none⟩ = some (.map (some mc)) := k2
  have m3 : AnyAt Try.prog 3 x2.drew mc (KK.map (fun p => (p.1, entV p.2))) := m2
  clear b2 cp cz hs2 hx2 k2 m2
  generalize x2.drew = x3 at *
  refine take_at 0 (some 30) (v := ?_) rfl rfl (by kernel_rfl) (by kernel_rfl) (by kernel_rfl) (fun _ _ _ h => h) ⟨by rfl, ?_⟩ hS ?_
  rotate_left
  · intro wq hSw; go_simp; try rfl
  simp only [Act.put, List.setIfInBounds_toArray, List.set_cons_zero, List.set_cons_succ]
  refine take_at 1 (some 31) (v := ?_) rfl rfl (by kernel_rfl) (by kernel_rfl) (by kernel_rfl) (fun _ _ _ h => h) ⟨by rfl, ?_⟩ hS ?_
  rotate_left
  · intro wq hSw; go_simp; try rfl
  simp only [Act.put, List.setIfInBounds_toArray, List.set_cons_zero, List.set_cons_succ]
  refine take_at 2 (some 32) (v := ?_) rfl rfl (by kernel_rfl) (by kernel_rfl) (by kernel_rfl) (fun _ _ _ h => h) ⟨by rfl, ?_⟩ hS ?_
  rotate_left
  · intro wq hSw; go_simp; try rfl
  simp only [Act.put, List.setIfInBounds_toArray, List.set_cons_zero, List.set_cons_succ]
  refine take_at 3 (some 33) (v := ?_) rfl rfl (by kernel_rfl) (by kernel_rfl) (by kernel_rfl) (fun _ _ _ h => h) ⟨by rfl, ?_⟩ hS ?_
  rotate_left
  · intro wq hSw; obtain ⟨r0, r1, r2⟩ := hSw; go_simp; try rfl
  simp only [Act.put, List.setIfInBounds_toArray, List.set_cons_zero, List.set_cons_succ]
  refine take_at 4 (some 34) (v := ?_) rfl rfl (by kernel_rfl) (by kernel_rfl) (by kernel_rfl) (fun _ _ _ h => h) ⟨by rfl, ?_⟩ hS ?_
  rotate_left
  · intro wq hSw; go_simp; try rfl
  simp only [Act.put, List.setIfInBounds_toArray, List.set_cons_zero, List.set_cons_succ]
  refine take_at 5 (some 35) (v := ?_) rfl rfl (by kernel_rfl) (by kernel_rfl) (by kernel_rfl) (fun _ _ _ h => h) ⟨by rfl, ?_⟩ hS ?_
  rotate_left
  · intro wq hSw; obtain ⟨r0, r1, r2⟩ := hSw; go_simp; try rfl
  simp only [Act.put, List.setIfInBounds_toArray, List.set_cons_zero, List.set_cons_succ]
  refine take_at 6 (some 36) (v := ?_) rfl rfl (by kernel_rfl) (by kernel_rfl) (by kernel_rfl) (fun _ _ _ h => h) ⟨by rfl, ?_⟩ hS ?_
  rotate_left
  · intro wq hSw; obtain ⟨r0, r1, r2⟩ := hSw; have hr := any_run_ok lawK Try.underlying133 zeroE r2 (keyI hid); rw [HA.out, HG.out] at hr; simp only [Option.map_none, Option.map_some, Option.getD_none, Option.getD_some, Option.isSome_none, Option.isSome_some] at hr; go_simp; try rfl
  simp only [Act.put, List.setIfInBounds_toArray, List.set_cons_zero, List.set_cons_succ]
  refine take_at 7 (some 29) (v := ?_) rfl rfl (by kernel_rfl) (by kernel_rfl) (by kernel_rfl) (fun _ _ _ h => h) ⟨by rfl, ?_⟩ hS ?_
  rotate_left
  · intro wq hSw; go_simp; try rfl
  simp only [Act.put, List.setIfInBounds_toArray, List.set_cons_zero, List.set_cons_succ]
  refine take_at 8 (some 37) (v := ?_) rfl rfl (by kernel_rfl) (by kernel_rfl) (by kernel_rfl) (fun _ _ _ h => h) ⟨by rfl, ?_⟩ hS ?_
  rotate_left
  · intro wq hSw; go_simp; try rfl
  simp only [Act.put, List.setIfInBounds_toArray, List.set_cons_zero, List.set_cons_succ]
  refine take_at 9 (some 38) (v := ?_) rfl rfl (by kernel_rfl) (by kernel_rfl) (by kernel_rfl) (fun _ _ _ h => h) ⟨by rfl, ?_⟩ hS ?_
  rotate_left
  · intro wq hSw; go_simp; try rfl
  simp only [Act.put, List.setIfInBounds_toArray, List.set_cons_zero, List.set_cons_succ]
  have B4 := alloc_below x3 (.cells #[.int .i64 0, .pointer none] 130)
  have hs4 : (x3.alloc (.cells #[.int .i64 0, .pointer none] 130)).heap.size = w.heap.size + 3 := by simp [hs3]
  have cn4 := (Cells.new x3 #[.int .i64 0, .pointer none] 130)
  rw [hs3] at cn4
  refine wpAnyH_ready (rs := [10]) (by kernel_rfl) (by simp) ?_
  refine AllReadyH.cons rfl (fun K hK => ?_) AllReadyH.nil
  go_simp
  go_wp2_with fail
  refine hK.out _ _ ⟨(B4.cell (p := ⟨lb, 0, none⟩) (by show lb < _; omega)).trans k3, (B4.cell (p := ⟨w.heap.size, 0, none⟩) (by show w.heap.size < _; omega)).trans (cp3.out.get 0 _ rfl).1, anyAt_below m3 B4⟩ (fun hS => ?_)
  clear hK K
  (try simp only [Act.put, List.setIfInBounds_toArray, List.set_cons_zero, List.set_cons_succ])
  have k4 := (B4.cell (p := ⟨lb, 0, none⟩) (by show lb < _; omega)).trans k3
  have m4 := anyAt_below m3 B4
  have cp4 := hide (cp3.out.below B4)
  have cz4 := hide (cz3.out.below B4)
  have b4 := hide (b3.out.trans (B4.mono (by omega)))
  clear B4 cp3 cz3 b3 k3 m3
  generalize x3.alloc (.cells #[.int .i64 0, .pointer none] 130) = x4 at *
  have K5 := ((Keep.refl (fun z => z = w.heap.size + 2) x4).setCell (g := w.heap.size + 2) (j := 0) (fun _ => rfl) (.int .i64 xx.c.grp)).setCell (g := w.heap.size + 2) (j := 1) (fun _ => rfl) (ptr xx.b)
  obtain ⟨n0, n0f⟩ := cn4.get 0 _ rfl
  obtain ⟨n1, n1f⟩ := cn4.get 1 _ rfl
  have k5 := (K5.cell (p := ⟨lb, 0, none⟩) (by show lb < _; omega) (by show ¬ lb = _; omega)).trans k4
  have p5 := (K5.cell (p := ⟨w.heap.size, 0, none⟩) (by show w.heap.size < _; omega) (by show ¬ w.heap.size = _; omega)).trans (cp4.out.get 0 _ rfl).1
  have m5 := anyAt_keep m4 K5 (by omega)
  have cp5 := hide (cp4.out.keep K5 (by omega))
  have cz5 := hide (cz4.out.keep K5 (by omega))
  have b5 := hide (b4.out.trans (K5.below (by omega) (fun z hz q => by omega)))
  have hs5 : ((x4.setCell ⟨w.heap.size + 2, 0, none⟩ (.int .i64 xx.c.grp)).setCell ⟨w.heap.size + 2, 1, none⟩ (ptr xx.b)).heap.size = w.heap.size + 3 := by simp [hs4]
  refine wpAnyH_ready (rs := [11]) (by kernel_rfl) (by simp) ?_
  refine AllReadyH.cons rfl (fun K hK => ?_) AllReadyH.nil
  go_simp
  go_wp2_with fail
  refine hK.out _ _ ⟨k5, p5, m5⟩ (fun hS => ?_)
  clear hK K
  (try simp only [Act.put, List.setIfInBounds_toArray, List.set_cons_zero, List.set_cons_succ])
  refine take_at 12 (some 7) (v := ?_) rfl rfl (by kernel_rfl) (by kernel_rfl) (by kernel_rfl) (fun _ _ _ h => h) ⟨by rfl, ?_⟩ hS ?_
  rotate_left
  · intro wq hSw; go_simp; try rfl
  simp only [Act.put, List.setIfInBounds_toArray, List.set_cons_zero, List.set_cons_succ]
  refine wpAnyH_done (by kernel_rfl) ?_ _
  clear K5 k4 m4 cp4 cz4 b4 n0 n0f n1 n1f cn4 hS k5 p5 m5 hs4
  generalize (x4.setCell ⟨w.heap.size + 2, 0, none⟩ (.int .i64 xx.c.grp)).setCell ⟨w.heap.size + 2, 1, none⟩ (ptr xx.b) = x5 at *
  obtain ⟨z0, z0f⟩ := cz5.out.get 0 _ rfl
  obtain ⟨z1, z1f⟩ := cz5.out.get 1 _ rfl
  obtain ⟨a1, _⟩ := cp5.out.get 1 _ rfl
  obtain ⟨a2, _⟩ := cp5.out.get 2 _ rfl
  obtain ⟨a3, _⟩ := cp5.out.get 3 _ rfl
  obtain ⟨a4, _⟩ := cp5.out.get 4 _ rfl
  have hne : w.heap.size + 1 ≠ w.heap.size + 2 := by omega
  go_wp2_with fail
  refine bodyPost_ret (v := .tuple #[.agg #[.int .i64 0, .pointer none], .int .i64 121]) (by simp [results, Try.results64, go_sem, z0, z1, z0f, z1f]) rfl ⟨rfl, ?_⟩
  exact b5.out.trans ((((Keep.refl (fun z => z = w.heap.size + 1) x5).setCell (g := w.heap.size + 1) (j := 0) (fun _ => rfl) (.int .i64 0)).setCell (g := w.heap.size + 1) (j := 1) (fun _ => rfl) (.pointer none)).below (by omega) (fun z hz q => by omega))
set_option maxHeartbeats 4000000 in
theorem check_no (lb mc : Nat) (KK : Prs Lm) (id grp lo hi v : Int) (w : World) (h : ¬ (id < 1 ∨ 1048576 < id ∨ grp < 1 ∨ 1048576 < grp)) (hlt : lb < w.heap.size) (k1 : w.cell? ⟨lb, 0, none⟩ = some (.map (some mc))) (hm : AnyAt Try.prog 3 w mc (KK.map (fun p => (p.1, entV p.2)))) (hk : getM KK id = none) (hE : newE lo hi v ≠ 0) :
    Calls Try.prog 64 #[ptr lb, cV id grp lo hi v] w fun r w' => r = .returned (.tuple #[.agg #[.int .i64 0, .pointer none], .int .i64 (newE lo hi v)]) ∧ Below w.heap.size w w' := by
  have n1 : ¬ id < 1 := by omega
  have n2 : ¬ 1048576 < id := by omega
  have n3 : ¬ grp < 1 := by omega
  have n4 : ¬ 1048576 < grp := by omega
  have hid : I64 id := by unfold I64; omega
  have lt1 : mc < w.heap.size := World.ownsMap.lt hm
  have HG := hide hk
  have HA := hide (getM_map entV KK id)
  have KN := fun w' => new_no lo hi v w' hE
  have hE2 : (newE lo hi v != 0) = true := by simpa using hE
  generalize newE lo hi v = EE at *
  clear hk h hE
  go_enter Try.func64, Try.ntmps64
  go_upto_region 3 with fail
  refine named (P := Code.wp _ _ _ _) ?_
  intro x2 hx2
  have b2 : Below w.heap.size w x2 := by rw [hx2]; exact (alloc_below _ _).alloc (by simp) _
  have cp : Cells x2 w.heap.size [.int .i64 id, .int .i64 grp, .int .i64 lo, .int .i64 hi, .int .i64 v] := by rw [hx2]; exact (Cells.new w _ _).below (alloc_below _ _)
  have cz : Cells x2 (w.heap.size + 1) [.int .i64 0, .pointer none] := by
    rw [hx2]
    have := Cells.new (w.alloc (.cells #[.int .i64 id, .int .i64 grp, .int .i64 lo, .int .i64 hi, .int .i64 v] 65)) #[.int .i64 0, .pointer none] 130
    simpa using this
  have hs2 : x2.heap.size = w.heap.size + 2 := by rw [hx2]; simp
  have k2 := (b2.cell (p := ⟨lb, 0, none⟩) hlt).trans k1
  have m2 : AnyAt Try.prog 3 x2 mc (KK.map (fun p => (p.1, entV p.2))) := anyAt_below hm b2
  clear k1 hm
  refine wp_region_held_drew (S := fun wq => wq.cell? ⟨lb, 0, none⟩ = some (.map (some mc)) ∧ wq.cell? ⟨w.heap.size, 0, none⟩ = some (.int .i64 id) ∧ AnyAt Try.prog 3 wq mc (KK.map (fun (p : Int × Lm) => (p.1, entV p.2)))) (by kernel_rfl) ⟨k2, (cp.get 0 _ rfl).1, m2⟩ (fun hS => ?_)
  have b3 := hide b2.drew
  have cp3 := hide (cp.below (Below.refl _ _).drew)
  have cz3 := hide (cz.below (Below.refl _ _).drew)
  have hs3 : x2.drew.heap.size = w.heap.size + 2 := hs2
  have k3 : x2.drew.cell? ⟨lb, 0, none⟩ = some (.map (some mc)) := k2
  have m3 : AnyAt Try.prog 3 x2.drew mc (KK.map (fun p => (p.1, entV p.2))) := m2
  clear b2 cp cz hs2 hx2 k2 m2
  generalize x2.drew = x3 at *
  refine take_at 0 (some 30) (v := ?_) rfl rfl (by kernel_rfl) (by kernel_rfl) (by kernel_rfl) (fun _ _ _ h => h) ⟨by rfl, ?_⟩ hS ?_
  rotate_left
  · intro wq hSw; go_simp; try rfl
  simp only [Act.put, List.setIfInBounds_toArray, List.set_cons_zero, List.set_cons_succ]
  refine take_at 1 (some 31) (v := ?_) rfl rfl (by kernel_rfl) (by kernel_rfl) (by kernel_rfl) (fun _ _ _ h => h) ⟨by rfl, ?_⟩ hS ?_
  rotate_left
  · intro wq hSw; go_simp; try rfl
  simp only [Act.put, List.setIfInBounds_toArray, List.set_cons_zero, List.set_cons_succ]
  refine take_at 2 (some 32) (v := ?_) rfl rfl (by kernel_rfl) (by kernel_rfl) (by kernel_rfl) (fun _ _ _ h => h) ⟨by rfl, ?_⟩ hS ?_
  rotate_left
  · intro wq hSw; go_simp; try rfl
  simp only [Act.put, List.setIfInBounds_toArray, List.set_cons_zero, List.set_cons_succ]
  refine take_at 3 (some 33) (v := ?_) rfl rfl (by kernel_rfl) (by kernel_rfl) (by kernel_rfl) (fun _ _ _ h => h) ⟨by rfl, ?_⟩ hS ?_
  rotate_left
  · intro wq hSw; obtain ⟨r0, r1, r2⟩ := hSw; go_simp; try rfl
  simp only [Act.put, List.setIfInBounds_toArray, List.set_cons_zero, List.set_cons_succ]
  refine take_at 4 (some 34) (v := ?_) rfl rfl (by kernel_rfl) (by kernel_rfl) (by kernel_rfl) (fun _ _ _ h => h) ⟨by rfl, ?_⟩ hS ?_
  rotate_left
  · intro wq hSw; go_simp; try rfl
  simp only [Act.put, List.setIfInBounds_toArray, List.set_cons_zero, List.set_cons_succ]
  refine take_at 5 (some 35) (v := ?_) rfl rfl (by kernel_rfl) (by kernel_rfl) (by kernel_rfl) (fun _ _ _ h => h) ⟨by rfl, ?_⟩ hS ?_
  rotate_left
  · intro wq hSw; obtain ⟨r0, r1, r2⟩ := hSw; go_simp; try rfl
  simp only [Act.put, List.setIfInBounds_toArray, List.set_cons_zero, List.set_cons_succ]
  refine take_at 6 (some 36) (v := ?_) rfl rfl (by kernel_rfl) (by kernel_rfl) (by kernel_rfl) (fun _ _ _ h => h) ⟨by rfl, ?_⟩ hS ?_
  rotate_left
  · intro wq hSw; obtain ⟨r0, r1, r2⟩ := hSw; have hr := any_run_ok lawK Try.underlying133 zeroE r2 (keyI hid); rw [HA.out, HG.out] at hr; simp only [Option.map_none, Option.map_some, Option.getD_none, Option.getD_some, Option.isSome_none, Option.isSome_some] at hr; go_simp; try rfl
  simp only [Act.put, List.setIfInBounds_toArray, List.set_cons_zero, List.set_cons_succ]
  refine take_at 7 (some 29) (v := ?_) rfl rfl (by kernel_rfl) (by kernel_rfl) (by kernel_rfl) (fun _ _ _ h => h) ⟨by rfl, ?_⟩ hS ?_
  rotate_left
  · intro wq hSw; go_simp; try rfl
  simp only [Act.put, List.setIfInBounds_toArray, List.set_cons_zero, List.set_cons_succ]
  refine take_at 8 (some 37) (v := ?_) rfl rfl (by kernel_rfl) (by kernel_rfl) (by kernel_rfl) (fun _ _ _ h => h) ⟨by rfl, ?_⟩ hS ?_
  rotate_left
  · intro wq hSw; go_simp; try rfl
  simp only [Act.put, List.setIfInBounds_toArray, List.set_cons_zero, List.set_cons_succ]
  refine take_at 9 (some 38) (v := ?_) rfl rfl (by kernel_rfl) (by kernel_rfl) (by kernel_rfl) (fun _ _ _ h => h) ⟨by rfl, ?_⟩ hS ?_
  rotate_left
  · intro wq hSw; go_simp; try rfl
  simp only [Act.put, List.setIfInBounds_toArray, List.set_cons_zero, List.set_cons_succ]
  have B4 := alloc_below x3 (.cells #[.int .i64 0, .pointer none] 130)
  have hs4 : (x3.alloc (.cells #[.int .i64 0, .pointer none] 130)).heap.size = w.heap.size + 3 := by simp [hs3]
  have cn4 := (Cells.new x3 #[.int .i64 0, .pointer none] 130)
  rw [hs3] at cn4
  refine wpAnyH_ready (rs := [10]) (by kernel_rfl) (by simp) ?_
  refine AllReadyH.cons rfl (fun K hK => ?_) AllReadyH.nil
  go_simp
  go_wp2_with fail
  refine hK.out _ _ ⟨(B4.cell (p := ⟨lb, 0, none⟩) (by show lb < _; omega)).trans k3, (B4.cell (p := ⟨w.heap.size, 0, none⟩) (by show w.heap.size < _; omega)).trans (cp3.out.get 0 _ rfl).1, anyAt_below m3 B4⟩ (fun hS => ?_)
  clear hK K
  (try simp only [Act.put, List.setIfInBounds_toArray, List.set_cons_zero, List.set_cons_succ])
  have k4 := (B4.cell (p := ⟨lb, 0, none⟩) (by show lb < _; omega)).trans k3
  have m4 := anyAt_below m3 B4
  have cp4 := hide (cp3.out.below B4)
  have cz4 := hide (cz3.out.below B4)
  have b4 := hide (b3.out.trans (B4.mono (by omega)))
  clear B4 cp3 cz3 b3 k3 m3
  generalize x3.alloc (.cells #[.int .i64 0, .pointer none] 130) = x4 at *
  have K5 := ((Keep.refl (fun z => z = w.heap.size + 2) x4).setCell (g := w.heap.size + 2) (j := 0) (fun _ => rfl) (.int .i64 0)).setCell (g := w.heap.size + 2) (j := 1) (fun _ => rfl) (.pointer none)
  obtain ⟨n0, n0f⟩ := cn4.get 0 _ rfl
  obtain ⟨n1, n1f⟩ := cn4.get 1 _ rfl
  have k5 := (K5.cell (p := ⟨lb, 0, none⟩) (by show lb < _; omega) (by show ¬ lb = _; omega)).trans k4
  have p5 := (K5.cell (p := ⟨w.heap.size, 0, none⟩) (by show w.heap.size < _; omega) (by show ¬ w.heap.size = _; omega)).trans (cp4.out.get 0 _ rfl).1
  have m5 := anyAt_keep m4 K5 (by omega)
  have cp5 := hide (cp4.out.keep K5 (by omega))
  have cz5 := hide (cz4.out.keep K5 (by omega))
  have b5 := hide (b4.out.trans (K5.below (by omega) (fun z hz q => by omega)))
  have hs5 : ((x4.setCell ⟨w.heap.size + 2, 0, none⟩ (.int .i64 0)).setCell ⟨w.heap.size + 2, 1, none⟩ (.pointer none)).heap.size = w.heap.size + 3 := by simp [hs4]
  refine wpAnyH_ready (rs := [11]) (by kernel_rfl) (by simp) ?_
  refine AllReadyH.cons rfl (fun K hK => ?_) AllReadyH.nil
  go_simp
  go_wp2_with fail
  refine hK.out _ _ ⟨k5, p5, m5⟩ (fun hS => ?_)
  clear hK K
  (try simp only [Act.put, List.setIfInBounds_toArray, List.set_cons_zero, List.set_cons_succ])
  refine take_at 12 (some 7) (v := ?_) rfl rfl (by kernel_rfl) (by kernel_rfl) (by kernel_rfl) (fun _ _ _ h => h) ⟨by rfl, ?_⟩ hS ?_
  rotate_left
  · intro wq hSw; go_simp; try rfl
  simp only [Act.put, List.setIfInBounds_toArray, List.set_cons_zero, List.set_cons_succ]
  refine wpAnyH_done (by kernel_rfl) ?_ _
  clear K5 k4 m4 cp4 cz4 b4 n0 n0f n1 n1f cn4 hS k5 p5 m5 hs4
  generalize (x4.setCell ⟨w.heap.size + 2, 0, none⟩ (.int .i64 0)).setCell ⟨w.heap.size + 2, 1, none⟩ (.pointer none) = x5 at *
  obtain ⟨z0, z0f⟩ := cz5.out.get 0 _ rfl
  obtain ⟨z1, z1f⟩ := cz5.out.get 1 _ rfl
  obtain ⟨a1, _⟩ := cp5.out.get 1 _ rfl
  obtain ⟨a2, _⟩ := cp5.out.get 2 _ rfl
  obtain ⟨a3, _⟩ := cp5.out.get 3 _ rfl
  obtain ⟨a4, _⟩ := cp5.out.get 4 _ rfl
  have hne : w.heap.size + 1 ≠ w.heap.size + 2 := by omega
  go_wp2_with fail
  refine (KN _).mono ?_
  rintro r x6 ⟨rfl, h6⟩
  have b6 := hide (b5.out.trans (h6.mono (by omega)))
  have cz6 := hide (cz5.out.below h6)
  have hs6 : w.heap.size + 3 ≤ x6.heap.size := by have := h6.size; omega
  clear h6 cz5 b5 cp5 z0 z0f z1 z1f a1 a2 a3 a4 KN
  obtain ⟨z0, z0f⟩ := cz6.out.get 0 _ rfl
  obtain ⟨z1, z1f⟩ := cz6.out.get 1 _ rfl
  go_wp2_with fail
  refine bodyPost_ret (v := .tuple #[.agg #[.int .i64 0, .pointer none], .int .i64 EE]) (by simp [results, Try.results64, go_sem, z0, z1, z0f, z1f]) rfl ⟨rfl, ?_⟩
  exact b6.out.trans ((((Keep.refl (fun z => z = w.heap.size + 1) x6).setCell (g := w.heap.size + 1) (j := 0) (fun _ => rfl) (.int .i64 0)).setCell (g := w.heap.size + 1) (j := 1) (fun _ => rfl) (.pointer none)).below (by omega) (fun z hz q => by omega))
set_option maxHeartbeats 4000000 in
theorem check_yes (lb mc : Nat) (KK : Prs Lm) (id grp lo hi v : Int) (w : World) (h : ¬ (id < 1 ∨ 1048576 < id ∨ grp < 1 ∨ 1048576 < grp)) (hlt : lb < w.heap.size) (k1 : w.cell? ⟨lb, 0, none⟩ = some (.map (some mc))) (hm : AnyAt Try.prog 3 w mc (KK.map (fun p => (p.1, entV p.2)))) (hk : getM KK id = none) (hE : newE lo hi v = 0) (i1 : I64 lo) (i2 : I64 hi) :
    Calls Try.prog 64 #[ptr lb, cV id grp lo hi v] w fun r w' => ∃ b m, r = .returned (.tuple #[.agg #[.int .i64 grp, ptr b], .int .i64 0]) ∧ Below w.heap.size w w' ∧ w.heap.size ≤ b ∧ w.heap.size ≤ m := by
  have n1 : ¬ id < 1 := by omega
  have n2 : ¬ 1048576 < id := by omega
  have n3 : ¬ grp < 1 := by omega
  have n4 : ¬ 1048576 < grp := by omega
  have hid : I64 id := by unfold I64; omega
  have lt1 : mc < w.heap.size := World.ownsMap.lt hm
  have HG := hide hk
  have HA := hide (getM_map entV KK id)
  have KN := fun w' => new_yes lo hi v w' hE i1 i2
  clear hk h hE
  go_enter Try.func64, Try.ntmps64
  go_upto_region 3 with fail
  refine named (P := Code.wp _ _ _ _) ?_
  intro x2 hx2
  have b2 : Below w.heap.size w x2 := by rw [hx2]; exact (alloc_below _ _).alloc (by simp) _
  have cp : Cells x2 w.heap.size [.int .i64 id, .int .i64 grp, .int .i64 lo, .int .i64 hi, .int .i64 v] := by rw [hx2]; exact (Cells.new w _ _).below (alloc_below _ _)
  have cz : Cells x2 (w.heap.size + 1) [.int .i64 0, .pointer none] := by
    rw [hx2]
    have := Cells.new (w.alloc (.cells #[.int .i64 id, .int .i64 grp, .int .i64 lo, .int .i64 hi, .int .i64 v] 65)) #[.int .i64 0, .pointer none] 130
    simpa using this
  have hs2 : x2.heap.size = w.heap.size + 2 := by rw [hx2]; simp
  have k2 := (b2.cell (p := ⟨lb, 0, none⟩) hlt).trans k1
  have m2 : AnyAt Try.prog 3 x2 mc (KK.map (fun p => (p.1, entV p.2))) := anyAt_below hm b2
  clear k1 hm
  refine wp_region_held_drew (S := fun wq => wq.cell? ⟨lb, 0, none⟩ = some (.map (some mc)) ∧ wq.cell? ⟨w.heap.size, 0, none⟩ = some (.int .i64 id) ∧ AnyAt Try.prog 3 wq mc (KK.map (fun (p : Int × Lm) => (p.1, entV p.2)))) (by kernel_rfl) ⟨k2, (cp.get 0 _ rfl).1, m2⟩ (fun hS => ?_)
  have b3 := hide b2.drew
  have cp3 := hide (cp.below (Below.refl _ _).drew)
  have cz3 := hide (cz.below (Below.refl _ _).drew)
  have hs3 : x2.drew.heap.size = w.heap.size + 2 := hs2
  have k3 : x2.drew.cell? ⟨lb, 0, none⟩ = some (.map (some mc)) := k2
  have m3 : AnyAt Try.prog 3 x2.drew mc (KK.map (fun p => (p.1, entV p.2))) := m2
  clear b2 cp cz hs2 hx2 k2 m2
  generalize x2.drew = x3 at *
  refine take_at 0 (some 30) (v := ?_) rfl rfl (by kernel_rfl) (by kernel_rfl) (by kernel_rfl) (fun _ _ _ h => h) ⟨by rfl, ?_⟩ hS ?_
  rotate_left
  · intro wq hSw; go_simp; try rfl
  simp only [Act.put, List.setIfInBounds_toArray, List.set_cons_zero, List.set_cons_succ]
  refine take_at 1 (some 31) (v := ?_) rfl rfl (by kernel_rfl) (by kernel_rfl) (by kernel_rfl) (fun _ _ _ h => h) ⟨by rfl, ?_⟩ hS ?_
  rotate_left
  · intro wq hSw; go_simp; try rfl
  simp only [Act.put, List.setIfInBounds_toArray, List.set_cons_zero, List.set_cons_succ]
  refine take_at 2 (some 32) (v := ?_) rfl rfl (by kernel_rfl) (by kernel_rfl) (by kernel_rfl) (fun _ _ _ h => h) ⟨by rfl, ?_⟩ hS ?_
  rotate_left
  · intro wq hSw; go_simp; try rfl
  simp only [Act.put, List.setIfInBounds_toArray, List.set_cons_zero, List.set_cons_succ]
  refine take_at 3 (some 33) (v := ?_) rfl rfl (by kernel_rfl) (by kernel_rfl) (by kernel_rfl) (fun _ _ _ h => h) ⟨by rfl, ?_⟩ hS ?_
  rotate_left
  · intro wq hSw; obtain ⟨r0, r1, r2⟩ := hSw; go_simp; try rfl
  simp only [Act.put, List.setIfInBounds_toArray, List.set_cons_zero, List.set_cons_succ]
  refine take_at 4 (some 34) (v := ?_) rfl rfl (by kernel_rfl) (by kernel_rfl) (by kernel_rfl) (fun _ _ _ h => h) ⟨by rfl, ?_⟩ hS ?_
  rotate_left
  · intro wq hSw; go_simp; try rfl
  simp only [Act.put, List.setIfInBounds_toArray, List.set_cons_zero, List.set_cons_succ]
  refine take_at 5 (some 35) (v := ?_) rfl rfl (by kernel_rfl) (by kernel_rfl) (by kernel_rfl) (fun _ _ _ h => h) ⟨by rfl, ?_⟩ hS ?_
  rotate_left
  · intro wq hSw; obtain ⟨r0, r1, r2⟩ := hSw; go_simp; try rfl
  simp only [Act.put, List.setIfInBounds_toArray, List.set_cons_zero, List.set_cons_succ]
  refine take_at 6 (some 36) (v := ?_) rfl rfl (by kernel_rfl) (by kernel_rfl) (by kernel_rfl) (fun _ _ _ h => h) ⟨by rfl, ?_⟩ hS ?_
  rotate_left
  · intro wq hSw; obtain ⟨r0, r1, r2⟩ := hSw; have hr := any_run_ok lawK Try.underlying133 zeroE r2 (keyI hid); rw [HA.out, HG.out] at hr; simp only [Option.map_none, Option.map_some, Option.getD_none, Option.getD_some, Option.isSome_none, Option.isSome_some] at hr; go_simp; try rfl
  simp only [Act.put, List.setIfInBounds_toArray, List.set_cons_zero, List.set_cons_succ]
  refine take_at 7 (some 29) (v := ?_) rfl rfl (by kernel_rfl) (by kernel_rfl) (by kernel_rfl) (fun _ _ _ h => h) ⟨by rfl, ?_⟩ hS ?_
  rotate_left
  · intro wq hSw; go_simp; try rfl
  simp only [Act.put, List.setIfInBounds_toArray, List.set_cons_zero, List.set_cons_succ]
  refine take_at 8 (some 37) (v := ?_) rfl rfl (by kernel_rfl) (by kernel_rfl) (by kernel_rfl) (fun _ _ _ h => h) ⟨by rfl, ?_⟩ hS ?_
  rotate_left
  · intro wq hSw; go_simp; try rfl
  simp only [Act.put, List.setIfInBounds_toArray, List.set_cons_zero, List.set_cons_succ]
  refine take_at 9 (some 38) (v := ?_) rfl rfl (by kernel_rfl) (by kernel_rfl) (by kernel_rfl) (fun _ _ _ h => h) ⟨by rfl, ?_⟩ hS ?_
  rotate_left
  · intro wq hSw; go_simp; try rfl
  simp only [Act.put, List.setIfInBounds_toArray, List.set_cons_zero, List.set_cons_succ]
  have B4 := alloc_below x3 (.cells #[.int .i64 0, .pointer none] 130)
  have hs4 : (x3.alloc (.cells #[.int .i64 0, .pointer none] 130)).heap.size = w.heap.size + 3 := by simp [hs3]
  have cn4 := (Cells.new x3 #[.int .i64 0, .pointer none] 130)
  rw [hs3] at cn4
  refine wpAnyH_ready (rs := [10]) (by kernel_rfl) (by simp) ?_
  refine AllReadyH.cons rfl (fun K hK => ?_) AllReadyH.nil
  go_simp
  go_wp2_with fail
  refine hK.out _ _ ⟨(B4.cell (p := ⟨lb, 0, none⟩) (by show lb < _; omega)).trans k3, (B4.cell (p := ⟨w.heap.size, 0, none⟩) (by show w.heap.size < _; omega)).trans (cp3.out.get 0 _ rfl).1, anyAt_below m3 B4⟩ (fun hS => ?_)
  clear hK K
  (try simp only [Act.put, List.setIfInBounds_toArray, List.set_cons_zero, List.set_cons_succ])
  have k4 := (B4.cell (p := ⟨lb, 0, none⟩) (by show lb < _; omega)).trans k3
  have m4 := anyAt_below m3 B4
  have cp4 := hide (cp3.out.below B4)
  have cz4 := hide (cz3.out.below B4)
  have b4 := hide (b3.out.trans (B4.mono (by omega)))
  clear B4 cp3 cz3 b3 k3 m3
  generalize x3.alloc (.cells #[.int .i64 0, .pointer none] 130) = x4 at *
  have K5 := ((Keep.refl (fun z => z = w.heap.size + 2) x4).setCell (g := w.heap.size + 2) (j := 0) (fun _ => rfl) (.int .i64 0)).setCell (g := w.heap.size + 2) (j := 1) (fun _ => rfl) (.pointer none)
  obtain ⟨n0, n0f⟩ := cn4.get 0 _ rfl
  obtain ⟨n1, n1f⟩ := cn4.get 1 _ rfl
  have k5 := (K5.cell (p := ⟨lb, 0, none⟩) (by show lb < _; omega) (by show ¬ lb = _; omega)).trans k4
  have p5 := (K5.cell (p := ⟨w.heap.size, 0, none⟩) (by show w.heap.size < _; omega) (by show ¬ w.heap.size = _; omega)).trans (cp4.out.get 0 _ rfl).1
  have m5 := anyAt_keep m4 K5 (by omega)
  have cp5 := hide (cp4.out.keep K5 (by omega))
  have cz5 := hide (cz4.out.keep K5 (by omega))
  have b5 := hide (b4.out.trans (K5.below (by omega) (fun z hz q => by omega)))
  have hs5 : ((x4.setCell ⟨w.heap.size + 2, 0, none⟩ (.int .i64 0)).setCell ⟨w.heap.size + 2, 1, none⟩ (.pointer none)).heap.size = w.heap.size + 3 := by simp [hs4]
  refine wpAnyH_ready (rs := [11]) (by kernel_rfl) (by simp) ?_
  refine AllReadyH.cons rfl (fun K hK => ?_) AllReadyH.nil
  go_simp
  go_wp2_with fail
  refine hK.out _ _ ⟨k5, p5, m5⟩ (fun hS => ?_)
  clear hK K
  (try simp only [Act.put, List.setIfInBounds_toArray, List.set_cons_zero, List.set_cons_succ])
  refine take_at 12 (some 7) (v := ?_) rfl rfl (by kernel_rfl) (by kernel_rfl) (by kernel_rfl) (fun _ _ _ h => h) ⟨by rfl, ?_⟩ hS ?_
  rotate_left
  · intro wq hSw; go_simp; try rfl
  simp only [Act.put, List.setIfInBounds_toArray, List.set_cons_zero, List.set_cons_succ]
  refine wpAnyH_done (by kernel_rfl) ?_ _
  clear K5 k4 m4 cp4 cz4 b4 n0 n0f n1 n1f cn4 hS k5 p5 m5 hs4
  generalize (x4.setCell ⟨w.heap.size + 2, 0, none⟩ (.int .i64 0)).setCell ⟨w.heap.size + 2, 1, none⟩ (.pointer none) = x5 at *
  obtain ⟨z0, z0f⟩ := cz5.out.get 0 _ rfl
  obtain ⟨z1, z1f⟩ := cz5.out.get 1 _ rfl
  obtain ⟨a1, _⟩ := cp5.out.get 1 _ rfl
  obtain ⟨a2, _⟩ := cp5.out.get 2 _ rfl
  obtain ⟨a3, _⟩ := cp5.out.get 3 _ rfl
  obtain ⟨a4, _⟩ := cp5.out.get 4 _ rfl
  have hne : w.heap.size + 1 ≠ w.heap.size + 2 := by omega
  go_wp2_with fail
  refine (KN _).mono ?_
  rintro r x6 ⟨b, m, rfl, h6, lb6, lm6⟩
  have b6 := hide (b5.out.trans (h6.mono (by omega)))
  have cz6 := hide (cz5.out.below h6)
  have cp6 := hide (cp5.out.below h6)
  have hs6 : w.heap.size + 3 ≤ x6.heap.size := by have := h6.size; omega
  clear h6 cz5 b5 cp5 z0 z0f z1 z1f a1 a2 a3 a4 KN
  obtain ⟨z0, z0f⟩ := cz6.out.get 0 _ rfl
  obtain ⟨z1, z1f⟩ := cz6.out.get 1 _ rfl
  obtain ⟨a1, _⟩ := cp6.out.get 1 _ rfl
  go_wp2_with fail
  have K7 := ((Keep.refl (fun z => z = w.heap.size + 1) x6).setCell (g := w.heap.size + 1) (j := 0) (fun _ => rfl) (.int .i64 grp)).setCell (g := w.heap.size + 1) (j := 1) (fun _ => rfl) (ptr b)
  refine bodyPost_ret (v := .tuple #[.agg #[.int .i64 grp, ptr b], .int .i64 0]) (by simp [results, Try.results64, go_sem, z0, z1, z0f, z1f]) rfl ⟨b, m, rfl, ?_, by omega, by omega⟩
  · exact b6.out.trans (K7.below (by omega) (fun z hz q => by omega))
end Go.Proofs.Ytlloppalagddnaa
