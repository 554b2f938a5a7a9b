import Derived.Test.YtokcocmenndlmaaTx11
namespace Go.Proofs.Ytokcocmenndlmaa
open Go.RowKit Go.QK Go.Maps Go.QM Go.QT
set_option maxRecDepth 100000
theorem isLsn_of {n : Int} (h1 : 1 ≤ n) (h2 : n ≤ 2147483647) : isLsn n = true := by unfold isLsn; simp [h1, h2]
/-! What the law's four records are answered. -/
theorem nE_bad {t : TbM} {x : Lv} {lsn k : Int} (hg : getT t.L x.tx = some x) (hl : isLsn lsn = true) (hlt : x.last < lsn) (hk : KindOk x false k) : t.noteE lsn k x.tx x.last = 70 ∧ t.noteT lsn k x.tx x.last = t := by
  obtain ⟨h1, h2, h3⟩ := hk
  have e : t.noteE lsn k x.tx x.last = 70 := by
    rw [note_pass hl h1 h2]
    unfold TbM.chainE
    rw [hg]
    simp [h3, hlt]
  exact ⟨e, note_stay (by rw [e]; decide)⟩
theorem nE_late {t : TbM} {x : Lv} {k : Int} (hg : getT t.L x.tx = some x) (hl : isLsn x.last = true) (h1 : 3 ≤ k) (h2 : k ≤ 7) : t.noteE x.last k x.tx x.last = 4 ∧ t.noteT x.last k x.tx x.last = t := by
  have e : t.noteE x.last k x.tx x.last = 4 := by
    rw [note_pass hl h1 h2]
    unfold TbM.chainE
    rw [hg]
    simp
  exact ⟨e, note_stay (by rw [e]; decide)⟩
theorem nE_far {t : TbM} {x : Lv} {lsn k : Int} (hg : getT t.L x.tx = some x) (hl : isLsn lsn = true) (h1 : 3 ≤ k) (h2 : k ≤ 7) : t.noteE lsn k x.tx (x.last + 1) = 4 ∧ t.noteT lsn k x.tx (x.last + 1) = t := by
  have e : t.noteE lsn k x.tx (x.last + 1) = 4 := by
    rw [note_pass hl h1 h2]
    unfold TbM.chainE
    rw [hg]
    simp only
    rw [if_neg (by omega)]
  exact ⟨e, note_stay (by rw [e]; decide)⟩
theorem nE_ok {t : TbM} {x : Lv} {lsn k : Int} (hg : getT t.L x.tx = some x) (hl : isLsn lsn = true) (hlt : x.last < lsn) (hk : KindOk x true k) : t.noteE lsn k x.tx x.last = 0 ∧ (k = 7 → t.noteT lsn k x.tx x.last = ⟨delT t.L x.tx, t.next⟩) ∧ (k ≠ 7 → t.noteT lsn k x.tx x.last = ⟨setT t.L (gone k lsn x), t.next⟩) := by
  obtain ⟨h1, h2, h3⟩ := hk
  have e : t.noteE lsn k x.tx x.last = 0 := by
    rw [note_pass hl h1 h2]
    unfold TbM.chainE
    rw [hg]
    simp [h3, hlt]
  refine ⟨e, fun q => ?_, fun q => ?_⟩
  · rw [note_go e, q]
    rfl
  · rw [note_go e]
    exact went_chain hg h1 (by omega)
theorem nE_dead {t : TbM} {tx lsn k prev : Int} (hg : getT t.L tx = none) (hl : isLsn lsn = true) (h1 : 3 ≤ k) (h2 : k ≤ 7) : t.noteE lsn k tx prev = 130 ∧ t.noteT lsn k tx prev = t := by
  have e : t.noteE lsn k tx prev = 130 := by
    rw [note_pass hl h1 h2]
    unfold TbM.chainE
    rw [hg]
  exact ⟨e, note_stay (by rw [e]; decide)⟩
theorem getT_del (L : List Lv) (k : Int) : getT (delT L k) k = none := by
  unfold getT delT
  rw [List.find?_eq_none]
  intro x hx
  have := (List.mem_filter.1 hx).2
  simpa using this
theorem set_setT {L : List Lv} (hr : Rise L) {k : Nat} (hk : k < L.length) {v : Lv} (hv : v.tx = L[k].tx) : L.set k v = setT L v := by
  unfold setT
  apply List.ext_getElem (by simp)
  intro i h1 h2
  simp only [List.getElem_map]
  rw [List.getElem_set]
  simp only [List.length_set] at h1
  by_cases e : k = i
  · subst e
    rw [if_pos rfl, if_pos hv.symm]
  · rw [if_neg e, if_neg]
    intro hq
    have hq : L[i].tx = L[k].tx := hq.trans hv
    rcases Nat.lt_or_gt_of_ne e with q | q
    · have := List.pairwise_iff_getElem.1 hr k i hk h1 q; omega
    · have := List.pairwise_iff_getElem.1 hr i k h1 hk q; omega
theorem take_drop_del {L : List Lv} (hr : Rise L) {k : Nat} (hk : k < L.length) : L.take k ++ L.drop (k + 1) = delT L L[k].tx := by
  induction L generalizing k with
  | nil => simp at hk
  | cons x r ih =>
    obtain ⟨h1, h2⟩ := List.pairwise_cons.1 hr
    unfold delT at ih ⊢
    cases k with
    | zero =>
      simp
      rw [List.filter_eq_self.2]
      intro y hy
      have := h1 y hy
      simp
      omega
    | succ k =>
      have hk' : k < r.length := by simpa using hk
      have i := ih h2 hk'
      have := h1 r[k] (List.getElem_mem hk')
      have e : (x.tx == r[k].tx) = false := by simp; omega
      simp only [List.take_succ_cons, List.drop_succ_cons, List.cons_append, List.getElem_cons_succ, List.filter_cons, e]
      rw [i]
      rfl
theorem bE {t : TbM} {lsn : Int} (hl : isLsn lsn = true) (hn : t.next ≤ 1000) : (32 ≤ t.L.length → t.full = true ∧ t.beginE lsn = 131 ∧ t.beginT lsn = t ∧ t.beginN lsn = 0) ∧ (t.L.length < 32 → t.full = false ∧ t.beginE lsn = 0 ∧ t.beginT lsn = t.begun lsn ∧ t.beginN lsn = t.next) := by
  have h2 : decide (2147483647 < t.next) = false := by simp; omega
  constructor
  · intro h
    have e : t.full = true := by unfold TbM.full; simp [h]
    have e2 : t.beginE lsn = 131 := by unfold TbM.beginE; rw [hl, e]; rfl
    refine ⟨e, e2, ?_, ?_⟩
    · unfold TbM.beginT; rw [e2]; rfl
    · unfold TbM.beginN; rw [e2]; rfl
  · intro h
    have e : t.full = false := by unfold TbM.full; rw [h2]; simp; omega
    have e2 : t.beginE lsn = 0 := by unfold TbM.beginE; rw [hl, e]; rfl
    refine ⟨e, e2, ?_, ?_⟩
    · unfold TbM.beginT; rw [e2]; rfl
    · unfold TbM.beginN; rw [e2]; rfl
theorem nB {t : TbM} {lsn : Int} (hl : isLsn lsn = true) : t.noteE lsn 1 t.next 0 = (if t.full then 131 else 0) ∧ (t.full = true → t.noteT lsn 1 t.next 0 = t) ∧ (t.full = false → t.noteT lsn 1 t.next 0 = t.begun lsn) := by
  have e : t.noteE lsn 1 t.next 0 = (if t.full then 131 else 0) := by unfold TbM.noteE TbM.nextE; simp [hl]
  refine ⟨e, fun q => ?_, fun q => ?_⟩
  · refine note_stay ?_
    rw [e, q]
    decide
  · rw [note_go (by rw [e, q]; rfl)]
    rfl
theorem nB3 {t : TbM} {lsn tx : Int} (hl : isLsn lsn = true) (h : tx ≠ t.next) : t.noteE lsn 1 tx 0 = 130 ∧ t.noteT lsn 1 tx 0 = t := by
  have e : t.noteE lsn 1 tx 0 = 130 := by unfold TbM.noteE TbM.nextE; simp [hl, h]
  exact ⟨e, note_stay (by rw [e]; decide)⟩
/-- How the law stands ahead of move k. -/
structure LSt (w wr : World) (b m : Nat) (t : TbM) (v : Value) (k : Nat) : Prop where
  pt : PT wr b m t
  row : GRow wr w.heap.size 58 4 v t.L.length (rowsC lvC t.L)
  ap : ∀ g, v.ownBlock = some g → g ≠ b ∧ g ≠ m
  nx : t.next ≤ (k : Int) + 1
  la : ∀ x ∈ t.L, x.last < 2 * (k : Int) + 1
  be : Below w.heap.size w wr
  lo : w.heap.size ≤ b ∧ w.heap.size ≤ m
theorem LSt.below {w wr w' : World} {b m : Nat} {t : TbM} {v : Value} {k : Nat} (h : LSt w wr b m t v k) (hb : Below wr.heap.size wr w') : LSt w w' b m t v k :=
  ⟨h.pt.below hb, GRow.below h.row hb, h.ap, h.nx, h.la, h.be.trans (hb.mono h.be.size), h.lo⟩
theorem LSt.keepB {w wr w' : World} {b m : Nat} {t : TbM} {v : Value} {k : Nat} (h : LSt w wr b m t v k) (hk : Keep (fun z => z = b ∨ z = m) wr w') : Below w.heap.size w w' := h.be.trans (hk.below h.be.size (fun z hz q => by have := h.lo; omega))
/-- The table goes on, the list stays for now. -/
theorem LSt.rowK {w wr w' : World} {b m : Nat} {t : TbM} {v : Value} {k : Nat} (h : LSt w wr b m t v k) (hk : Keep (fun z => z = b ∨ z = m) wr w') : GRow w' w.heap.size 58 4 v t.L.length (rowsC lvC t.L) := GRow.keep h.row hk (fun g hg q => by have := h.ap g hg; omega)
theorem LSt.noted {w wr w' : World} {b m : Nat} {t : TbM} {v : Value} {k : Nat} (h : LSt w wr b m t v k) (hp : PT w' b m t) (hk : Keep (fun z => z = b ∨ z = m) wr w') : LSt w w' b m t v k := ⟨hp, h.rowK hk, h.ap, h.nx, h.la, h.keepB hk, h.lo⟩
theorem LSt.nextK {w wr : World} {b m : Nat} {t : TbM} {v : Value} {k : Nat} (h : LSt w wr b m t v k) : LSt w wr b m t v (k + 1) := ⟨h.pt, h.row, h.ap, by have := h.nx; omega, fun x hx => by have := h.la x hx; omega, h.be, h.lo⟩
theorem info58 : (Try.prog.info? 58).map (fun i => (i.zero, i.size, i.bytes)) = some (some (.agg #[.int .i64 0, .int .i64 0, .bool false, .bool false]), 4, 24) := by kernel_rfl
/-- One more has begun, and lies in the list. -/
theorem LSt.pushed {w wr w2 w3 : World} {b m : Nat} {t : TbM} {v v' : Value} {k : Nat} (h : LSt w wr b m t v k) (hp : PT w2 b m (t.begun (2 * (k : Int) + 1))) (hk : Keep (fun z => z = b ∨ z = m) wr w2) {w2' : World} (h2 : Below w2.heap.size w2 w2')
    (hr : GRow w3 w.heap.size 58 4 v' (t.L.length + 1) (rowsC lvC t.L ++ lvC ⟨t.next, 2 * (k : Int) + 1, false, false⟩)) (hg : w2'.grownBy w3 v.ownBlock) (hn : v'.ownBlock = v.ownBlock ∨ v'.ownBlock = some w2'.heap.size) : LSt w w3 b m (t.begun (2 * (k : Int) + 1)) v' (k + 1) := by
  have kg : Keep (fun z => v.ownBlock = some z) w2' w3 := (Keep.refl _ w2').grown hg (fun _ e _ => e)
  have lt2 := (hp.below h2).lt
  refine ⟨(hp.below h2).keep kg (fun q => (h.ap _ q).1 rfl) (fun q => (h.ap _ q).2 rfl), by simpa [TbM.begun, rowsC] using hr, ?_, ?_, ?_, ?_, h.lo⟩
  · intro g hg'
    rcases hn with e | e
    · rw [e] at hg'; exact h.ap g hg'
    · rw [e] at hg'; cases hg'; omega
  · show t.next + 1 ≤ _
    have := h.nx
    omega
  · intro x hx
    have hx : x ∈ t.L ++ [⟨t.next, 2 * (k : Int) + 1, false, false⟩] := hx
    rcases List.mem_append.1 hx with hx | hx
    · have := h.la x hx; omega
    · simp at hx; subst hx; simp; omega
  · have := h.keepB hk
    have b2 := this.trans (h2.mono this.size)
    exact b2.trans (kg.below b2.size (fun z hz q => by have := (World.ownsRow.lt (h.rowK hk) z q).1; omega))
end Go.Proofs.Ytokcocmenndlmaa
