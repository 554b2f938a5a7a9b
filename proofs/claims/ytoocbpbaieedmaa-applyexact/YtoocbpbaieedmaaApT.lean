import Derived.Test.YtoocbpbaieedmaaApM
namespace Go.Proofs.Ytoocbpbaieedmaa
open Go.RowKit Go.QK Quota
/-! P14.4 -/
theorem do_again {p : Pg} {r : Rc} (h : doE p r = 0) : doE (doP p r) r = 0 ∧ didB (doP p r) r = false ∧ doP (doP p r) r = doP p r := by
  obtain ⟨a, b, c⟩ := do_old (doP_lsn h).1
  have e : doE (doP p r) r = 0 := by rw [a, doP_num h]; exact (doE_zero h).1
  exact ⟨e, b, c e⟩
/-! Slots. -/
theorem ctrAt_in {l : List Ctr} {i : Int} (h0 : 0 ≤ i) (h1 : i < l.length) : l[i.toNat]? = some (ctrAt l i) := by
  unfold ctrAt
  rw [List.getD_eq_getElem?_getD, List.getElem?_eq_getElem (by omega)]
  rfl
theorem grpAt_in {l : List Grp} {i : Int} (h0 : 0 ≤ i) (h1 : i < l.length) : l[i.toNat]? = some (grpAt l i) := by
  unfold grpAt
  rw [List.getD_eq_getElem?_getD, List.getElem?_eq_getElem (by omega)]
  rfl
theorem putV_len (l : List Ctr) (i v : Int) : (putV l i v).length = l.length := by simp [putV]
theorem putS_len (l : List Grp) (i v : Int) : (putS l i v).length = l.length := by simp [putS]
theorem ctrAt_put {l : List Ctr} {i v : Int} (h0 : 0 ≤ i) (h1 : i < l.length) : ctrAt (putV l i v) i = ⟨(ctrAt l i).id, (ctrAt l i).grp, (ctrAt l i).lo, (ctrAt l i).hi, v⟩ := by
  have : i.toNat < l.length := by omega
  unfold putV
  rw [ctrAt, List.getD_eq_getElem?_getD, List.getElem?_set_self this]
  rfl
theorem grpAt_put {l : List Grp} {i v : Int} (h0 : 0 ≤ i) (h1 : i < l.length) : grpAt (putS l i v) i = ⟨(grpAt l i).id, v⟩ := by
  have : i.toNat < l.length := by omega
  unfold putS
  rw [grpAt, List.getD_eq_getElem?_getD, List.getElem?_set_self this]
  rfl
theorem ctrAt_ne {l : List Ctr} {i j v : Int} (h0 : 0 ≤ i) (h1 : 0 ≤ j) (h : i ≠ j) : ctrAt (putV l i v) j = ctrAt l j := by
  have : i.toNat ≠ j.toNat := by omega
  unfold putV
  rw [ctrAt, List.getD_eq_getElem?_getD, List.getElem?_set_ne this, ← List.getD_eq_getElem?_getD]
  rfl
theorem grpAt_ne {l : List Grp} {i j v : Int} (h0 : 0 ≤ i) (h1 : 0 ≤ j) (h : i ≠ j) : grpAt (putS l i v) j = grpAt l j := by
  have : i.toNat ≠ j.toNat := by omega
  unfold putS
  rw [grpAt, List.getD_eq_getElem?_getD, List.getElem?_set_ne this, ← List.getD_eq_getElem?_getD]
  rfl
theorem putV_same {l : List Ctr} {i : Int} (h0 : 0 ≤ i) (h1 : i < l.length) : putV l i (ctrAt l i).val = l := by
  have e := ctrAt_in h0 h1
  obtain ⟨hi, e'⟩ := List.getElem?_eq_some_iff.1 e
  unfold putV
  have : (⟨(ctrAt l i).id, (ctrAt l i).grp, (ctrAt l i).lo, (ctrAt l i).hi, (ctrAt l i).val⟩ : Ctr) = l[i.toNat] := by rw [e']
  rw [this]
  exact List.set_getElem_self hi
theorem putS_same {l : List Grp} {i : Int} (h0 : 0 ≤ i) (h1 : i < l.length) : putS l i (grpAt l i).sum = l := by
  have e := grpAt_in h0 h1
  obtain ⟨hi, e'⟩ := List.getElem?_eq_some_iff.1 e
  unfold putS
  have : (⟨(grpAt l i).id, (grpAt l i).sum⟩ : Grp) = l[i.toNat] := by rw [e']
  rw [this]
  exact List.set_getElem_self hi
theorem putV_putV {l : List Ctr} {i v u : Int} (h0 : 0 ≤ i) (h1 : i < l.length) : putV (putV l i v) i u = putV l i u := by
  rw [putV, ctrAt_put h0 h1]
  unfold putV
  rw [List.set_set]
theorem putS_putS {l : List Grp} {i v u : Int} (h0 : 0 ≤ i) (h1 : i < l.length) : putS (putS l i v) i u = putS l i u := by
  rw [putS, grpAt_put h0 h1]
  unfold putS
  rw [List.set_set]
theorem putV_comm {l : List Ctr} {i j v u : Int} (h0 : 0 ≤ i) (h1 : 0 ≤ j) (h : i ≠ j) : putV (putV l i v) j u = putV (putV l j u) i v := by
  have : i.toNat ≠ j.toNat := by omega
  rw [putV, ctrAt_ne h0 h1 h, putV, ← putV, putV.eq_def (putV l j u) i v, ctrAt_ne h1 h0 (fun e => h e.symm), putV.eq_def l j u]
  rw [putV, List.set_comm _ _ this]
theorem putS_comm {l : List Grp} {i j v u : Int} (h0 : 0 ≤ i) (h1 : 0 ≤ j) (h : i ≠ j) : putS (putS l i v) j u = putS (putS l j u) i v := by
  have : i.toNat ≠ j.toNat := by omega
  rw [putS, grpAt_ne h0 h1 h, putS, ← putS, putS.eq_def (putS l j u) i v, grpAt_ne h1 h0 (fun e => h e.symm), putS.eq_def l j u]
  rw [putS, List.set_comm _ _ this]
/-- A record that is no Create. -/
theorem ctr_old {p : Pg} {r : Rc} (hk : r.k ≠ 2) (h : ctrE p r = 0) : p.gs.length = 0 ∧ 0 ≤ r.wi ∧ r.wi < p.cs.length ∧ (ctrAt p.cs r.wi).id = r.c.id ∧ I64 (mv r (ctrAt p.cs r.wi).val) ∧ ctrP p r = ⟨p.num, p.lsn, putV p.cs r.wi (mv r (ctrAt p.cs r.wi).val), p.gs⟩ := by
  unfold ctrE at h
  by_cases hi : isC p r
  · rw [if_pos hi, if_neg hk] at h
    have := hi.2
    rw [if_neg hk] at this
    exact ⟨hi.1, this.1, this.2.1, this.2.2, fitE_zero.1 h, by unfold ctrP; rw [if_neg hk]⟩
  · rw [if_neg hi] at h
    cases h
theorem ctr_new {p : Pg} {r : Rc} (hk : r.k ≠ 2) (h1 : p.gs.length = 0) (h2 : 0 ≤ r.wi) (h3 : r.wi < p.cs.length) (h4 : (ctrAt p.cs r.wi).id = r.c.id) (h5 : I64 (mv r (ctrAt p.cs r.wi).val)) : ctrE p r = 0 := by
  unfold ctrE
  rw [if_pos ⟨h1, by rw [if_neg hk]; exact ⟨h2, h3, h4⟩⟩, if_neg hk]
  exact fitE_zero.2 h5
theorem sum_old {p : Pg} {r : Rc} (hk : r.k ≠ 2) (h : sumE p r = 0) : p.cs.length = 0 ∧ 0 ≤ r.si ∧ r.si < p.gs.length ∧ I64 (mv r (grpAt p.gs r.si).sum) ∧ sumP p r = ⟨p.num, p.lsn, p.cs, putS p.gs r.si (mv r (grpAt p.gs r.si).sum)⟩ := by
  unfold sumE at h
  split at h
  · rename_i hi
    have h2 := hi.2
    split at h2
    · rename_i h3
      have e : grown p.gs r = p.gs := by unfold grown; rw [if_neg (by omega)]
      rw [e] at h
      exact ⟨hi.1, h3.1, h3.2, fitE_zero.1 h, by unfold sumP; rw [e]⟩
    · exact absurd h2.1 hk
  · cases h
theorem sum_new {p : Pg} {r : Rc} (hk : r.k ≠ 2) (h1 : p.cs.length = 0) (h2 : 0 ≤ r.si) (h3 : r.si < p.gs.length) (h5 : I64 (mv r (grpAt p.gs r.si).sum)) : sumE p r = 0 := by
  have e : grown p.gs r = p.gs := by unfold grown; rw [if_neg (by omega)]
  unfold sumE
  rw [if_pos ⟨h1, by rw [if_pos ⟨h2, h3⟩]; exact fun q => absurd q hk⟩, e]
  exact fitE_zero.2 h5
theorem did_chg {p : Pg} {r : Rc} (h : didB p r = true) : ckE p.num r = 0 ∧ p.lsn < r.lsn ∧ chgE p r = 0 ∧ doE p r = 0 ∧ doP p r = setL (chgP p r) r.lsn := by
  have h1 := did_iff.1 h
  have h2 := of_decide_eq_true h
  refine ⟨h2.1, h1.2, h2.2.2, h1.1, ?_⟩
  unfold doP
  rw [if_neg (by simpa using h1.1), if_neg h2.2.1]
theorem did_of {p : Pg} {r : Rc} (h1 : ckE p.num r = 0) (h2 : p.lsn < r.lsn) (h3 : chgE p r = 0) : didB p r = true := decide_eq_true ⟨h1, by omega, h3⟩
theorem ck_zero {n : Int} {r : Rc} (h : ckE n r = 0) : chg r.k = true ∧ 1 ≤ r.lsn ∧ r.lsn ≤ 2147483647 ∧ r.wp ≠ r.sp ∧ (n = r.wp ∨ n = r.sp) := by
  unfold ckE at h
  split at h
  · cases h
  · rename_i a
    split at h
    · cases h
    · rename_i b
      split at h
      · cases h
      · rename_i c
        refine ⟨by simpa using a, by omega, by omega, fun q => b (.inr (.inr q)), ?_⟩
        by_cases q : n = r.wp
        · exact .inl q
        · by_cases q2 : n = r.sp
          · exact .inr q2
          · exact absurd ⟨q, q2⟩ c
theorem ck_of {n : Int} {r : Rc} (h : chg r.k = true) (h1 : 1 ≤ r.lsn) (h2 : r.lsn ≤ 2147483647) (h3 : r.wp ≠ r.sp) (h4 : n = r.wp ∨ n = r.sp) : ckE n r = 0 := by
  unfold ckE
  rw [if_neg (by simp [h]), if_neg (by omega), if_neg (by omega)]
/-! P14.5 -/
def asK (r : Rc) (k n : Int) : Rc := ⟨n, k, r.tx, r.prev, r.wp, r.wi, r.sp, r.si, r.delta, r.c, r.x, r.y, r.z⟩
theorem mv_add {r : Rc} (h : r.k = 3) (n : Int) : mv r n = n + r.delta := by unfold mv; rw [if_neg (by omega), if_pos h]
theorem mv_undo {r : Rc} (m n : Int) : mv (asK r 4 m) n = n - r.delta := by unfold mv; rw [if_neg (by simp [asK]), if_neg (by simp [asK])]; rfl
theorem do_back {p : Pg} {r : Rc} {n : Int} (hf : p.Fit) (hk : r.k = 3) (h : didB p r = true) (h1 : r.lsn < n) (h2 : n ≤ 2147483647) :
    doE (doP p r) (asK r 4 n) = 0 ∧ didB (doP p r) (asK r 4 n) = true ∧ (doP (doP p r) (asK r 4 n)).lsn = n ∧ setL (doP (doP p r) (asK r 4 n)) p.lsn = p := by
  obtain ⟨c1, c2, c3, c4, c5⟩ := did_chg h
  obtain ⟨k1, k2, k3, k4, k5⟩ := ck_zero c1
  have key : chgE (doP p r) (asK r 4 n) = 0 ∧ setL (chgP (doP p r) (asK r 4 n)) p.lsn = p := by
    rw [c5]
    unfold chgE at c3
    have hn : (setL (chgP p r) r.lsn).num = p.num := chgP_num p r
    obtain ⟨q0, hq0⟩ : ∃ q, q = setL (chgP p r) r.lsn := ⟨_, rfl⟩
    rw [← hq0] at hn ⊢
    unfold chgE chgP
    rw [hn]
    by_cases hw : p.num = r.wp
    · rw [if_pos hw] at c3
      obtain ⟨a1, a2, a3, a4, a5, a6⟩ := ctr_old (by omega) c3
      have e : chgP p r = ctrP p r := by unfold chgP; rw [if_pos hw]
      rw [mv_add hk] at a5 a6
      have hw' : p.num = (asK r 4 n).wp := hw
      rw [if_pos hw', if_pos hw', hq0, e, a6]
      have q : ctrAt (putV p.cs r.wi ((ctrAt p.cs r.wi).val + r.delta)) r.wi = _ := ctrAt_put a2 a3
      have hv : I64 (ctrAt p.cs r.wi).val := hf.c _ (List.mem_of_getElem? (ctrAt_in a2 a3))
      constructor
      · refine ctr_new (by simp [asK]) a1 a2 (by rw [show (setL (⟨p.num, p.lsn, putV p.cs r.wi ((ctrAt p.cs r.wi).val + r.delta), p.gs⟩ : Pg) r.lsn).cs = putV p.cs r.wi ((ctrAt p.cs r.wi).val + r.delta) from rfl, putV_len]; exact a3) ?_ ?_
        · show (ctrAt (putV p.cs r.wi ((ctrAt p.cs r.wi).val + r.delta)) r.wi).id = r.c.id
          rw [q]; exact a4
        · rw [mv_undo]
          show I64 ((ctrAt (putV p.cs r.wi ((ctrAt p.cs r.wi).val + r.delta)) r.wi).val - r.delta)
          rw [q]
          show I64 ((ctrAt p.cs r.wi).val + r.delta - r.delta)
          rw [Int.add_sub_cancel]
          exact hv
      · unfold ctrP
        rw [if_neg (by simp [asK]), mv_undo]
        show (⟨p.num, p.lsn, putV (putV p.cs r.wi ((ctrAt p.cs r.wi).val + r.delta)) r.wi ((ctrAt (putV p.cs r.wi ((ctrAt p.cs r.wi).val + r.delta)) r.wi).val - r.delta), p.gs⟩ : Pg) = p
        rw [q, putV_putV a2 a3]
        show (⟨p.num, p.lsn, putV p.cs r.wi ((ctrAt p.cs r.wi).val + r.delta - r.delta), p.gs⟩ : Pg) = p
        rw [Int.add_sub_cancel, putV_same a2 a3]
    · rw [if_neg hw] at c3
      obtain ⟨a1, a2, a3, a5, a6⟩ := sum_old (by omega) c3
      have e : chgP p r = sumP p r := by unfold chgP; rw [if_neg hw]
      rw [mv_add hk] at a5 a6
      have hw' : ¬ p.num = (asK r 4 n).wp := hw
      rw [if_neg hw', if_neg hw', hq0, e, a6]
      have q : grpAt (putS p.gs r.si ((grpAt p.gs r.si).sum + r.delta)) r.si = _ := grpAt_put a2 a3
      have hv : I64 (grpAt p.gs r.si).sum := hf.g _ (List.mem_of_getElem? (grpAt_in a2 a3))
      have hlen : r.si < (putS p.gs r.si ((grpAt p.gs r.si).sum + r.delta)).length := by rw [putS_len]; exact a3
      constructor
      · refine sum_new (by simp [asK]) a1 a2 hlen ?_
        rw [mv_undo]
        show I64 ((grpAt (putS p.gs r.si ((grpAt p.gs r.si).sum + r.delta)) r.si).sum - r.delta)
        rw [q]
        show I64 ((grpAt p.gs r.si).sum + r.delta - r.delta)
        rw [Int.add_sub_cancel]
        exact hv
      · have hg : grown (putS p.gs r.si ((grpAt p.gs r.si).sum + r.delta)) (asK r 4 n) = putS p.gs r.si ((grpAt p.gs r.si).sum + r.delta) := by
          unfold grown
          rw [if_neg (by show ¬ r.si = _; omega)]
        unfold sumP
        rw [mv_undo]
        show (⟨p.num, p.lsn, p.cs, putS (grown (putS p.gs r.si ((grpAt p.gs r.si).sum + r.delta)) (asK r 4 n)) r.si ((grpAt (grown (putS p.gs r.si ((grpAt p.gs r.si).sum + r.delta)) (asK r 4 n)) r.si).sum - r.delta)⟩ : Pg) = p
        rw [hg, q, putS_putS a2 a3]
        show (⟨p.num, p.lsn, p.cs, putS p.gs r.si ((grpAt p.gs r.si).sum + r.delta - r.delta)⟩ : Pg) = p
        rw [Int.add_sub_cancel, putS_same a2 a3]
  have hd : didB (doP p r) (asK r 4 n) = true := by
    refine did_of ?_ ?_ key.1
    · rw [doP_num c4]
      exact ck_of rfl (by show 1 ≤ n; omega) h2 k4 k5
    · rw [(doP_lsn c4).2.2 h]; exact h1
  obtain ⟨d1, d2, d3, d4, d5⟩ := did_chg hd
  exact ⟨d4, hd, (doP_lsn d4).2.2 hd, by rw [d5]; exact key.2⟩
/-! P14.6 -/
theorem chg_setL (p : Pg) (r : Rc) (n : Int) : chgP (setL p n) r = setL (chgP p r) n ∧ chgE (setL p n) r = chgE p r := by
  constructor
  · unfold chgP ctrP sumP
    show (if p.num = r.wp then _ else _) = _
    split
    · split <;> rfl
    · rfl
  · rfl
theorem setL_setL (p : Pg) (n m : Int) : setL (setL p n) m = setL p m := rfl
theorem chg_lsn (p : Pg) (r : Rc) (n : Int) : chgP p (asK r r.k n) = chgP p r ∧ chgE p (asK r r.k n) = chgE p r := ⟨rfl, rfl⟩
theorem chg_comm {p : Pg} {a b : Rc} (ka : a.k = 3) (kb : b.k = 3) (h1 : chgE p a = 0) (h2 : chgE (chgP p a) b = 0) (h3 : chgE p b = 0) (h4 : chgE (chgP p b) a = 0) : chgP (chgP p a) b = chgP (chgP p b) a := by
  have na := chgP_num p a
  have nb := chgP_num p b
  unfold chgE at h1 h2 h3 h4
  rw [na] at h2
  rw [nb] at h4
  by_cases qa : p.num = a.wp
  · have ea : chgP p a = ctrP p a := by unfold chgP; rw [if_pos qa]
    rw [if_pos qa] at h1 h4
    obtain ⟨a1, a2, a3, a4, a5, a6⟩ := ctr_old (by omega) h1
    by_cases qb : p.num = b.wp
    · have eb : chgP p b = ctrP p b := by unfold chgP; rw [if_pos qb]
      rw [if_pos qb] at h2 h3
      obtain ⟨b1, b2, b3, b4, b5, b6⟩ := ctr_old (by omega) h3
      have e1 : chgP (chgP p a) b = ctrP (chgP p a) b := by rw [chgP, na, if_pos qb]
      have e2 : chgP (chgP p b) a = ctrP (chgP p b) a := by rw [chgP, nb, if_pos qa]
      obtain ⟨_, _, _, _, _, c6⟩ := ctr_old (by omega) h2
      obtain ⟨_, _, _, _, _, d6⟩ := ctr_old (by omega) h4
      rw [e1, e2, c6, d6, ea, eb, a6, b6]
      simp only [mv_add ka, mv_add kb]
      by_cases hij : a.wi = b.wi
      · rw [hij]
        rw [hij] at a2 a3
        rw [ctrAt_put a2 a3, ctrAt_put a2 a3, putV_putV a2 a3, putV_putV a2 a3]
        show (⟨_, _, putV p.cs b.wi ((ctrAt p.cs b.wi).val + a.delta + b.delta), _⟩ : Pg) = ⟨_, _, putV p.cs b.wi ((ctrAt p.cs b.wi).val + b.delta + a.delta), _⟩
        rw [show (ctrAt p.cs b.wi).val + a.delta + b.delta = (ctrAt p.cs b.wi).val + b.delta + a.delta by omega]
      · rw [ctrAt_ne a2 b2 hij, ctrAt_ne b2 a2 (fun e => hij e.symm), putV_comm a2 b2 hij]
    · rw [if_neg qb] at h2 h3
      obtain ⟨b1, b2, b3, -, -⟩ := sum_old (by omega) h3
      omega
  · have ea : chgP p a = sumP p a := by unfold chgP; rw [if_neg qa]
    rw [if_neg qa] at h1 h4
    obtain ⟨a1, a2, a3, a5, a6⟩ := sum_old (by omega) h1
    by_cases qb : p.num = b.wp
    · rw [if_pos qb] at h2 h3
      obtain ⟨b1, b2, b3, b4, b5, b6⟩ := ctr_old (by omega) h3
      omega
    · have eb : chgP p b = sumP p b := by unfold chgP; rw [if_neg qb]
      rw [if_neg qb] at h2 h3
      obtain ⟨b1, b2, b3, b5, b6⟩ := sum_old (by omega) h3
      have e1 : chgP (chgP p a) b = sumP (chgP p a) b := by rw [chgP, na, if_neg qb]
      have e2 : chgP (chgP p b) a = sumP (chgP p b) a := by rw [chgP, nb, if_neg qa]
      obtain ⟨_, _, _, _, c6⟩ := sum_old (by omega) h2
      obtain ⟨_, _, _, _, d6⟩ := sum_old (by omega) h4
      rw [e1, e2, c6, d6, ea, eb, a6, b6]
      simp only [mv_add ka, mv_add kb]
      by_cases hij : a.si = b.si
      · rw [hij]
        rw [hij] at a2 a3
        rw [grpAt_put a2 a3, grpAt_put a2 a3, putS_putS a2 a3, putS_putS a2 a3]
        show (⟨_, _, _, putS p.gs b.si ((grpAt p.gs b.si).sum + a.delta + b.delta)⟩ : Pg) = ⟨_, _, _, putS p.gs b.si ((grpAt p.gs b.si).sum + b.delta + a.delta)⟩
        rw [show (grpAt p.gs b.si).sum + a.delta + b.delta = (grpAt p.gs b.si).sum + b.delta + a.delta by omega]
      · rw [grpAt_ne a2 b2 hij, grpAt_ne b2 a2 (fun e => hij e.symm), putS_comm a2 b2 hij]
theorem do_order {p : Pg} {a b a' b' : Rc} {l : Int} (ka : a.k = 3) (kb : b.k = 3) (la : a.lsn = l) (lb : b.lsn = l + 1) (ea : a' = asK a 3 (l + 1)) (eb : b' = asK b 3 l)
    (h1 : didB p a = true) (h2 : didB (doP p a) b = true) (h3 : doE p b' = 0) (h4 : doE (doP p b') a' = 0) : didB p b' = true ∧ didB (doP p b') a' = true ∧ doP (doP p b') a' = doP (doP p a) b := by
  obtain ⟨c1, c2, c3, c4, c5⟩ := did_chg h1
  obtain ⟨d1, d2, d3, d4, d5⟩ := did_chg h2
  have lb' : b'.lsn = l := by rw [eb]; rfl
  have la' : a'.lsn = l + 1 := by rw [ea]; rfl
  have f1 : didB p b' = true := did_iff.2 ⟨h3, by omega⟩
  have f2 : didB (doP p b') a' = true := did_iff.2 ⟨h4, by rw [(doP_lsn h3).2.2 f1]; omega⟩
  obtain ⟨g1, g2, g3, g4, g5⟩ := did_chg f1
  obtain ⟨i1, i2, i3, i4, i5⟩ := did_chg f2
  refine ⟨f1, f2, ?_⟩
  have ea' : a' = asK a a.k (l + 1) := by rw [ea, ka]
  have eb' : b' = asK b b.k l := by rw [eb, kb]
  rw [c5, (chg_setL _ _ _).2] at d3
  rw [g5, (chg_setL _ _ _).2] at i3
  rw [eb', (chg_lsn _ _ _).2] at g3
  rw [ea', (chg_lsn _ _ _).2, eb', (chg_lsn _ _ _).1] at i3
  rw [i5, d5, c5, g5, (chg_setL _ _ _).1, (chg_setL _ _ _).1, setL_setL, setL_setL, la', lb, ea', eb', (chg_lsn _ _ _).1, (chg_lsn _ _ _).1, chg_comm ka kb c3 d3 g3 i3]
/-! P14.7 -/
def stepP (p : Pg) (r : Rc) : Pg := if doE p r = 0 then doP p r else p
def runP (p : Pg) (l : List Rc) : Pg := l.foldl stepP p
theorem step_old {p : Pg} {r : Rc} (h : r.lsn ≤ p.lsn) : stepP p r = p := by
  unfold stepP
  split
  · rename_i e; exact (do_old h).2.2 e
  · rfl
theorem step_again (p : Pg) (r : Rc) : stepP (stepP p r) r = stepP p r := by
  by_cases e : doE p r = 0
  · have : stepP p r = doP p r := by unfold stepP; rw [if_pos e]
    rw [this]
    exact step_old (doP_lsn e).1
  · have : stepP p r = p := by unfold stepP; rw [if_neg e]
    rw [this, this]
theorem step_cases (p : Pg) (r : Rc) : stepP p r = p ∨ (stepP p r).lsn = r.lsn := by
  by_cases e : doE p r = 0
  · have q : stepP p r = doP p r := by unfold stepP; rw [if_pos e]
    rw [q]
    cases hd : didB p r with
    | true => exact .inr ((doP_lsn e).2.2 hd)
    | false => exact .inl (doP_not e hd)
  · exact .inl (by unfold stepP; rw [if_neg e])
theorem run_still (l : List Rc) : ∀ (p : Pg) (D : List Rc), (∀ d ∈ D, stepP p d = p) → (∀ d ∈ D, ∀ r ∈ l, d.lsn < r.lsn) → l.Pairwise (fun a b => a.lsn < b.lsn) → (∀ d ∈ D, stepP (runP p l) d = runP p l) ∧ (∀ d ∈ l, stepP (runP p l) d = runP p l) := by
  induction l with
  | nil => exact fun p D h _ _ => ⟨h, fun d hd => by cases hd⟩
  | cons s l ih =>
    intro p D h hd hl
    have hl' := List.pairwise_cons.1 hl
    have key := ih (stepP p s) (s :: D) (by
      intro d hm
      rcases List.mem_cons.1 hm with rfl | hm
      · exact step_again p d
      · rcases step_cases p s with e | e
        · rw [e]; exact h d hm
        · exact step_old (by have := hd d hm s List.mem_cons_self; omega)) (by
      intro d hm r hr
      rcases List.mem_cons.1 hm with rfl | hm
      · exact hl'.1 r hr
      · exact hd d hm r (List.mem_cons_of_mem _ hr)) hl'.2
    refine ⟨fun d hm => key.1 d (List.mem_cons_of_mem _ hm), fun d hm => ?_⟩
    rcases List.mem_cons.1 hm with rfl | hm
    · exact key.1 d List.mem_cons_self
    · exact key.2 d hm
theorem run_stays {p : Pg} : (l : List Rc) → (∀ d ∈ l, stepP p d = p) → runP p l = p
  | [], _ => rfl
  | d :: l, h => by
    show runP (stepP p d) l = p
    rw [h d List.mem_cons_self]
    exact run_stays l (fun e he => h e (List.mem_cons_of_mem _ he))
theorem run_app (p : Pg) (l m : List Rc) : runP p (l ++ m) = runP (runP p l) m := List.foldl_append
theorem do_chain (p : Pg) (l : List Rc) (k : Nat) (hl : l.Pairwise (fun a b => a.lsn < b.lsn)) : runP (runP (runP p l) (l.take k)) l = runP p l ∧ runP (runP p (l.take k)) l = runP p l := by
  have h := (run_still l p [] (fun d hd => by cases hd) (fun d hd => by cases hd) hl).2
  constructor
  · rw [run_stays (l.take k) (fun d hd => h d (List.mem_of_mem_take hd)), run_stays l h]
  · have h2 := (run_still (l.take k) p [] (fun d hd => by cases hd) (fun d hd => by cases hd) (hl.sublist (List.take_sublist k l))).2
    have e : runP (runP p (l.take k)) l = runP (runP p (l.take k)) (l.take k ++ l.drop k) := by rw [List.take_append_drop]
    rw [e, run_app, run_stays _ h2, ← run_app, List.take_append_drop]
theorem step_fit {p : Pg} {r : Rc} (h : p.Fit) (hr : r.Fit) : (stepP p r).Fit := by
  unfold stepP
  split
  · exact h.do_ hr
  · exact h
end Go.Proofs.Ytoocbpbaieedmaa
