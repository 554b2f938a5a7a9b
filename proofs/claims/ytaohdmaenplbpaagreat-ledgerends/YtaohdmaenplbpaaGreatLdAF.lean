import Derived.Test.YtaohdmaenplbpaaGreatLdAE
set_option linter.all false
namespace Go.Proofs.YtaohdmaenplbpaaGreat
open Go.RowKit Go.QK Quota Go.Maps Go.QM
set_option maxRecDepth 100000
/-! at (25): the place of a counter. -/
set_option maxHeartbeats 4000000 in
theorem at_any (es : List SE) (sb lb : Nat) (a : Option Addr) (n cp : Nat) (ve : Value) (k : Int) (w : World) (hb : Cells w sb [ptr lb, .slice a n cp, ve]) (hr : Lies w a (rowsC seC es)) (hn : n = es.length) (h8 : n ≤ 8) :
    Calls Tryz.prog 25 #[ptr sb, .int .i64 k] w fun r w' => ((∃ i, ∃ h : i < es.length, r = .returned (.int .i64 (i : Int)) ∧ es[i].id = k) ∨ (r = .returned (.int .i64 (-1)) ∧ ∀ x ∈ es, x.id ≠ k)) ∧ w = w' := by
  have HN := hide hn
  clear hn
  have c1 := (hb.get 1 _ rfl).1
  clear hb
  go_enter Tryz.func25, Tryz.ntmps25
  go_wp2_with fail
  go_loopw [5] (fun v wr => ∃ j : Nat, v = .int .i64 (j : Int) ∧ j ≤ n ∧ (∀ m (hm : m < es.length), m < j → es[m].id ≠ k) ∧ w = wr) (fun v _ => n - (intOf v).toNat)
  case atStart => exact ⟨0, rfl, Nat.zero_le _, fun m hm q => absurd q (Nat.not_lt_zero _), rfl⟩
  case round =>
    obtain ⟨j, rfl, hj, hT, rfl⟩ := hrel
    by_cases hlt : j < n
    · have hjl : j < es.length := by rw [← HN.out]; exact hlt
      obtain ⟨b, off, rfl, hbl, sel⟩ := hr.rowAt seC 5 seC_len j hjl (by decide)
      have p0 := sel 0 _ rfl
      simp only [Nat.add_zero] at p0
      have H2 := hide hT
      clear hT sel
      obtain ⟨z, hz⟩ : ∃ z, z = es[j].id := ⟨_, rfl⟩
      rw [← hz] at p0
      by_cases hp : z = k
      · have e1 : (z == k) = true := by simpa using hp
        have HF := hide (show es[j].id = k by rw [← hz]; exact hp)
        clear hp hz
        go_wp2_with fail
        go_ret
        exact ⟨.inl ⟨j, hjl, rfl, HF.out⟩, rfl⟩
      · have e1 : (z == k) = false := by simpa using hp
        have HF := hide (show es[j].id ≠ k by rw [← hz]; exact hp)
        clear hp hz
        go_wp2_with fail
        go_roundw
        case rel => exact ⟨j + 1, by go_num, by omega, fun m hm q => by
          by_cases e : m = j
          · subst e; exact HF.out
          · exact H2.out m hm (by omega), trivial⟩
        case measure => simp [intOf]; omega
    · have HF := hide (show ∀ x ∈ es, x.id ≠ k from fun x hx => by
        obtain ⟨m, hm, rfl⟩ := List.getElem_of_mem hx
        exact hT m hm (by rw [← HN.out] at hm; omega))
      clear hT
      go_wp2_with fail
      go_ret
      exact ⟨.inr ⟨rfl, HF.out⟩, rfl⟩
/-! A transaction ends at the escrows one behind the other. -/
def mixS (one : Esc → Int → Esc) (t : Int) (i : Nat) (es : List SE) : List SE := (es.take i).map (fun x => x.turn (one x.e t)) ++ es.drop i
theorem mix_zero (one : Esc → Int → Esc) (t : Int) (es : List SE) : mixS one t 0 es = es := by simp [mixS]
theorem mix_all (one : Esc → Int → Esc) (t : Int) (es : List SE) : mixS one t es.length es = es.map (fun x => x.turn (one x.e t)) := by simp [mixS]
theorem mix_len (one : Esc → Int → Esc) (t : Int) {i : Nat} {es : List SE} (hi : i ≤ es.length) : (mixS one t i es).length = es.length := by simp [mixS]; omega
theorem mix_at (one : Esc → Int → Esc) (t : Int) {i : Nat} {es : List SE} (hi : i < es.length) : ∃ h : i < (mixS one t i es).length, (mixS one t i es)[i] = es[i] := by
  refine ⟨by rw [mix_len one t (Nat.le_of_lt hi)]; exact hi, ?_⟩
  unfold mixS
  rw [List.getElem_append_right (by simp; omega)]
  simp [Nat.min_eq_left (Nat.le_of_lt hi)]
theorem mix_next (one : Esc → Int → Esc) (t : Int) {i : Nat} {es : List SE} (hi : i < es.length) : (mixS one t i es).set i (es[i].turn (one es[i].e t)) = mixS one t (i + 1) es := by
  unfold mixS
  have e0 : i - ((es.take i).map (fun x => x.turn (one x.e t))).length = 0 := by simp; omega
  rw [List.set_append_right _ _ (by simp; omega), e0, List.drop_eq_getElem_cons hi, List.set_cons_zero, List.take_succ_eq_append_getElem hi, List.map_append, List.append_assoc]
  rfl
def cntS (t : Int) (i : Nat) (es : List SE) : Nat := ((es.take i).filter (fun x => holdB x.e.nets t)).length
theorem cnt_next (t : Int) {i : Nat} {es : List SE} (hi : i < es.length) : cntS t (i + 1) es = cntS t i es + (if holdB es[i].e.nets t then 1 else 0) := by
  unfold cntS
  rw [List.take_succ_eq_append_getElem hi, List.filter_append, List.length_append]
  cases q : holdB es[i].e.nets t <;> simp [q]
theorem cnt_le (t : Int) (i : Nat) (es : List SE) : cntS t i es ≤ i := by
  unfold cntS
  have := List.length_filter_le (fun x : SE => holdB x.e.nets t) (es.take i)
  have := List.length_take_le i es
  omega
theorem ctrs_end (one : Esc → Int → Esc) (t : Int) (es : List SE) : ctrsOf (es.map (fun x => x.turn (one x.e t))) = endL one (ctrsOf es) t := by
  simp only [ctrsOf, endL, List.map_map]
  rfl
theorem getM_ctrs {es : List SE} (hu : Up (ctrsOf es)) {x : SE} (hx : x ∈ es) : getM (ctrsOf es) x.id = some ⟨x.grp, x.e⟩ := getM_of_mem hu (p := x.ctr) (List.mem_map_of_mem hx)
theorem getM_ctrs_none {es : List SE} {k : Int} (h : ∀ x ∈ es, x.id ≠ k) : getM (ctrsOf es) k = none := by
  refine getM_none (fun q hq => ?_)
  obtain ⟨x, hx, rfl⟩ := List.mem_map.1 hq
  exact h x hx
theorem mem_of_get {es : List SE} {k : Int} {c : Ctr} (h : getM (ctrsOf es) k = some c) : ∃ x ∈ es, x.id = k ∧ c = ⟨x.grp, x.e⟩ := by
  obtain ⟨x, hx, e⟩ := List.mem_map.1 (getM_mem h)
  cases e
  exact ⟨x, hx, rfl, rfl⟩
theorem ids_nodup {es : List SE} (hu : Up (ctrsOf es)) : (es.map SE.id).Nodup := by
  have : (ctrsOf es).Pairwise (fun p q => p.1 < q.1) := hu
  rw [List.pairwise_map] at this
  unfold List.Nodup
  rw [List.pairwise_map]
  exact this.imp (fun h q => by simp [SE.ctr] at h; omega)
/-- So many hold something as the ledger has put down. -/
theorem cnt_held {es : List SE} {H : Helds} (hu : Up (ctrsOf es)) (hok : HOk (ctrsOf es) H) (t : Int) : (idsOf H t).length = cntS t es.length es := by
  unfold cntS
  rw [List.take_length]
  have n2 : ((es.filter (fun x => holdB x.e.nets t)).map SE.id).Nodup := (ids_nodup hu).sublist (List.Sublist.map _ List.filter_sublist)
  have p : (idsOf H t).Perm ((es.filter (fun x => holdB x.e.nets t)).map SE.id) := by
    refine (List.perm_ext_iff_of_nodup (hok.nodup t) n2).2 (fun id => ?_)
    rw [hok.iff]
    constructor
    · rintro ⟨c, hc, hh⟩
      obtain ⟨x, hx, rfl, rfl⟩ := mem_of_get hc
      exact List.mem_map.2 ⟨x, List.mem_filter.2 ⟨hx, hh⟩, rfl⟩
    · intro hm
      obtain ⟨x, hx, rfl⟩ := List.mem_map.1 hm
      obtain ⟨hx, hh⟩ := List.mem_filter.1 hx
      exact ⟨_, getM_ctrs hu hx, hh⟩
  rw [p.length_eq, List.length_map]
theorem ends_ok {es : List SE} {H : Helds} (h : SOk es H) (one : Esc → Int → Esc) (t : Int) (ho : ∀ e, ∀ p ∈ (one e t).nets, p ∈ e.nets) : SOk (es.map (fun x => x.turn (one x.e t))) (delM H t) := by
  refine ⟨by simpa using h.few, fun x hx => ?_, fun x hx p hp => ?_, fun p hp => h.held p (List.mem_filter.1 hp).1⟩
  · obtain ⟨y, hy, rfl⟩ := List.mem_map.1 hx
    exact h.ids y hy
  · obtain ⟨y, hy, rfl⟩ := List.mem_map.1 hx
    exact h.nets y hy p (ho _ p hp)
theorem setN_nets (e : Esc) (t : Int) : ∀ p ∈ (setN e t).nets, p ∈ e.nets := by
  intro p hp
  cases q : holdB e.nets t
  · rw [setN_no q] at hp; exact hp
  · rw [setN_yes q] at hp; exact (List.mem_filter.1 hp).1
theorem relN_nets (e : Esc) (t : Int) : ∀ p ∈ (relN e t).nets, p ∈ e.nets := by
  intro p hp
  cases q : holdB e.nets t
  · rw [relN_no q] at hp; exact hp
  · rw [relN_yes q] at hp; exact (List.mem_filter.1 hp).1
theorem setN_ends (e : Esc) (t : Int) : (setN e t).lo = e.lo ∧ (setN e t).hi = e.hi := by
  cases q : holdB e.nets t
  · rw [setN_no q]; exact ⟨rfl, rfl⟩
  · rw [setN_yes q]; exact ⟨rfl, rfl⟩
theorem relN_ends (e : Esc) (t : Int) : (relN e t).lo = e.lo ∧ (relN e t).hi = e.hi := by
  cases q : holdB e.nets t
  · rw [relN_no q]; exact ⟨rfl, rfl⟩
  · rw [relN_yes q]; exact ⟨rfl, rfl⟩
theorem addN_ends (e : Esc) (t d : Int) : (addN e t d).lo = e.lo ∧ (addN e t d).hi = e.hi := by
  by_cases q : mayE e t d = 0
  · rw [addN_yes q]; exact ⟨rfl, rfl⟩
  · rw [addN_no q]; exact ⟨rfl, rfl⟩
/-- An add at the place i. -/
theorem ctrs_add {es : List SE} (hu : Up (ctrsOf es)) {i : Nat} (hi : i < es.length) {t d : Int} (h0 : mayL (ctrsOf es) t es[i].id d = 0) : ctrsOf (es.set i (es[i].turn (addN es[i].e t d))) = addL (ctrsOf es) t es[i].id d := by
  have hg := getM_ctrs hu (List.getElem_mem hi)
  have e1 : addL (ctrsOf es) t es[i].id d = putM es[i].id ⟨es[i].grp, addN es[i].e t d⟩ (ctrsOf es) := by
    unfold addL
    rw [hg]
    simp only
    rw [if_pos h0]
  rw [e1]
  have key : ctrsOf (es.set i (es[i].turn (addN es[i].e t d))) = (ctrsOf es).set i (es[i].id, ⟨es[i].grp, addN es[i].e t d⟩) := by
    unfold ctrsOf
    rw [List.map_set]
    rfl
  have up' : Up ((ctrsOf es).set i (es[i].id, ⟨es[i].grp, addN es[i].e t d⟩)) := by
    unfold Up
    rw [List.pairwise_iff_getElem]
    intro a b ha hb hab
    have hp := List.pairwise_iff_getElem.1 hu a b (by simpa using ha) (by simpa using hb) hab
    have el : ∀ c (hc : c < ((ctrsOf es).set i (es[i].id, ⟨es[i].grp, addN es[i].e t d⟩)).length), (((ctrsOf es).set i (es[i].id, ⟨es[i].grp, addN es[i].e t d⟩))[c]).1 = ((ctrsOf es)[c]'(by simpa using hc)).1 := by
      intro c hc
      rw [List.getElem_set]
      split
      · rename_i q
        subst q
        simp [ctrsOf, SE.ctr]
      · rfl
    rw [el a ha, el b hb]
    exact hp
  rw [key]
  refine up_ext up' (hu.put _ _) (fun k => ?_)
  rw [getM_put hu]
  by_cases e : k = es[i].id
  · subst e
    rw [if_pos rfl]
    refine getM_of_mem up' (p := (es[i].id, ⟨es[i].grp, addN es[i].e t d⟩)) ?_
    have hl : i < ((ctrsOf es).set i (es[i].id, ⟨es[i].grp, addN es[i].e t d⟩)).length := by simpa using hi
    have := List.getElem_mem hl
    rwa [List.getElem_set_self] at this
  · rw [if_neg e]
    cases q : getM (ctrsOf es) k with
    | none =>
      refine getM_none (fun p hp hk => ?_)
      obtain ⟨c, hc, rfl⟩ := List.getElem_of_mem hp
      rw [List.getElem_set] at hk
      split at hk
      · exact e hk.symm
      · have hc' : c < (ctrsOf es).length := by simpa using hc
        have := getM_of_mem hu (List.getElem_mem hc')
        rw [hk, q] at this
        cases this
    | some c =>
      obtain ⟨j, hj, hjc⟩ := List.getElem_of_mem (getM_mem q)
      have hne : i ≠ j := by
        intro z
        subst z
        have : (ctrsOf es)[i].1 = k := by rw [hjc]
        simp [ctrsOf, SE.ctr] at this
        exact e this.symm
      refine getM_of_mem up' (p := (k, c)) ?_
      have hl : j < ((ctrsOf es).set i (es[i].id, ⟨es[i].grp, addN es[i].e t d⟩)).length := by simpa using hj
      have hm := List.getElem_mem hl
      rw [List.getElem_set_ne hne, hjc] at hm
      exact hm
theorem add_ok {es : List SE} {H : Helds} (h : SOk es H) {i : Nat} (hi : i < es.length) {t d : Int} (ht : 1 ≤ t ∧ t ≤ 6) (H' : Helds) (hH : ∀ p ∈ H', 1 ≤ p.1 ∧ p.1 ≤ 6) : SOk (es.set i (es[i].turn (addN es[i].e t d))) H' := by
  have cases' : ∀ x ∈ es.set i (es[i].turn (addN es[i].e t d)), x ∈ es ∨ x = es[i].turn (addN es[i].e t d) := fun x hx => List.mem_or_eq_of_mem_set hx
  refine ⟨by simpa using h.few, fun x hx => ?_, fun x hx p hp => ?_, hH⟩
  · rcases cases' x hx with q | rfl
    · exact h.ids x q
    · exact h.ids es[i] (List.getElem_mem hi)
  · rcases cases' x hx with q | rfl
    · exact h.nets x q p hp
    · have hp : p ∈ (addN es[i].e t d).nets := hp
      by_cases q : mayE es[i].e t d = 0
      · rw [addN_yes q] at hp
        rcases mem_putN hp with rfl | z
        · exact ht
        · exact h.nets _ (List.getElem_mem hi) p z
      · rw [addN_no q] at hp
        exact h.nets _ (List.getElem_mem hi) p hp
theorem held_ok {C : Ctrs} {H : Helds} (h : ∀ p ∈ H, 1 ≤ p.1 ∧ p.1 ≤ 6) {t : Int} (ht : 1 ≤ t ∧ t ≤ 6) (id d : Int) : ∀ p ∈ heldA C H t id d, 1 ≤ p.1 ∧ p.1 ≤ 6 := by
  intro p hp
  unfold heldA at hp
  split at hp
  · unfold heldL at hp
    split at hp
    · split at hp
      · exact h p hp
      · rcases mem_putM hp with rfl | q
        · exact ht
        · exact h p q
    · exact h p hp
  · exact h p hp
theorem nets_few {es : List SE} {H : Helds} (h : SOk es H) {x : SE} (hx : x ∈ es) (ok : x.e.Ok) : x.e.nets.length ≤ 6 := by
  have := up_len (L := x.e.nets) ok.rise (a := 1) (b := 6) (h.nets x hx)
  simpa using this
theorem helds_few {es : List SE} {H : Helds} (h : SOk es H) (hok : HOk (ctrsOf es) H) : H.length ≤ 6 := by
  have := up_len (L := H) hok.up (a := 1) (b := 6) h.held
  simpa using this
end Go.Proofs.YtaohdmaenplbpaaGreat
