import Derived.Test.YtaohdmaenplbpaaGreatLdAN
import Derived.BigQuiet
import Derived.Deep.QuietTactic
import Derived.Deep.DeepCutAuto
set_option linter.all false
namespace Go.Proofs.YtaohdmaenplbpaaGreat
open Go.RowKit Go.QK Quota Go.Maps Go.QM
set_option maxRecDepth 100000
/-! LedgerEnds: what becomes of the counters while one transaction ends behind the other. -/
def endE (s : Bool) (e : Esc) (t : Int) : Esc := if s then setN e t else relN e t
def endF (s : Bool) (t : Int) (fs : List SE) : List SE := fs.map (fun x => x.turn (endE s x.e t))
theorem endF_ctrs (s : Bool) (t : Int) (fs : List SE) : ctrsOf (endF s t fs) = endL (endE s) (ctrsOf fs) t := ctrs_end (endE s) t fs
theorem end_in {e : Esc} (ok : e.Ok) (s : Bool) (t : Int) : e.low ≤ (endE s e t).low ∧ (endE s e t).high ≤ e.high := by
  cases s with
  | true => exact settle_in ok t
  | false =>
    show e.low ≤ (relN e t).low ∧ (relN e t).high ≤ e.high
    cases h : holdB e.nets t with
    | false => rw [relN_no h]; exact ⟨Int.le_refl _, Int.le_refl _⟩
    | true =>
      obtain ⟨a, b⟩ := relN_low ok h
      rw [a, b]
      unfold neg0 pos0
      omega
/-- Later states of the same counters. -/
def Lat : List SE → List SE → Prop
  | [], [] => True
  | x :: xs, y :: ys => (y.id = x.id ∧ y.grp = x.grp ∧ x.e.low ≤ y.e.low ∧ y.e.high ≤ x.e.high) ∧ Lat xs ys
  | _, _ => False
theorem Lat.refl : ∀ es : List SE, Lat es es
  | [] => trivial
  | x :: xs => ⟨⟨rfl, rfl, Int.le_refl _, Int.le_refl _⟩, Lat.refl xs⟩
theorem Lat.ends {es fs : List SE} (h : Lat es fs) (ok : ∀ x ∈ fs, x.e.Ok) (s : Bool) (t : Int) : Lat es (endF s t fs) := by
  induction es generalizing fs with
  | nil =>
    cases fs with
    | nil => trivial
    | cons y ys => exact h.elim
  | cons x xs ih =>
    cases fs with
    | nil => exact h.elim
    | cons y ys =>
      obtain ⟨⟨h1, h2, h3, h4⟩, h5⟩ := h
      obtain ⟨a, b⟩ := end_in (ok y List.mem_cons_self) s t
      exact ⟨⟨h1, h2, Int.le_trans h3 a, Int.le_trans b h4⟩, ih h5 (fun z hz => ok z (List.mem_cons_of_mem _ hz))⟩
theorem Lat.len {es fs : List SE} (h : Lat es fs) : fs.length = es.length := by
  induction es generalizing fs with
  | nil =>
    cases fs with
    | nil => rfl
    | cons y ys => exact h.elim
  | cons x xs ih =>
    cases fs with
    | nil => exact h.elim
    | cons y ys => simp [ih h.2]
theorem Lat.get {es fs : List SE} (h : Lat es fs) (i : Nat) (h1 : i < es.length) (h2 : i < fs.length) : fs[i].id = es[i].id ∧ fs[i].grp = es[i].grp ∧ es[i].e.low ≤ fs[i].e.low ∧ fs[i].e.high ≤ es[i].e.high := by
  induction es generalizing fs i with
  | nil => simp at h1
  | cons x xs ih =>
    cases fs with
    | nil => exact h.elim
    | cons y ys =>
      cases i with
      | zero => exact h.1
      | succ i => exact ih h.2 i (by simpa using h1) (by simpa using h2)
theorem Lat.sum {es fs : List SE} (h : Lat es fs) (g : Int) : gS Esc.low g es ≤ gS Esc.low g fs ∧ gS Esc.high g fs ≤ gS Esc.high g es ∧ thB g fs = thB g es := by
  induction es generalizing fs with
  | nil =>
    cases fs with
    | nil => exact ⟨Int.le_refl _, Int.le_refl _, rfl⟩
    | cons y ys => exact h.elim
  | cons x xs ih =>
    cases fs with
    | nil => exact h.elim
    | cons y ys =>
      obtain ⟨⟨h1, h2, h3, h4⟩, h5⟩ := h
      obtain ⟨a, b, c⟩ := ih h5
      unfold thB at c ⊢
      simp only [gS, List.any_cons, h2, c]
      refine ⟨?_, ?_, trivial⟩
      · split <;> omega
      · split <;> omega
theorem Lat.low {es fs : List SE} (h : Lat es fs) (g : Int) : lowG (ctrsOf es) g ≤ lowG (ctrsOf fs) g ∧ highG (ctrsOf fs) g ≤ highG (ctrsOf es) g ∧ thereG (ctrsOf fs) g = thereG (ctrsOf es) g := by
  obtain ⟨a, b, c⟩ := h.sum g
  rw [(sum_three g).2.1, (sum_three g).2.1] at a
  rw [(sum_three g).2.2, (sum_three g).2.2] at b
  rw [thB_there, thB_there] at c
  exact ⟨a, b, c⟩
/-! A transaction's holdings, taken back one by one. -/
def dS (g t : Int) : List SE → Int
  | [] => 0
  | x :: r => (if x.grp = g then netV x.e.nets t else 0) + dS g t r
abbrev hldr (t : Int) (fs : List SE) : List SE := fs.filter (fun x => holdB x.e.nets t)
theorem less_in {e : Esc} (ok : e.Ok) {t : Int} (h : holdB e.nets t = true) : e.low ≤ e.val - netV e.nets t ∧ e.val - netV e.nets t ≤ e.high := by
  have a := val_in2 (e := relN e t)
  rw [rel_val ok h] at a
  have b := end_in ok false t
  exact ⟨Int.le_trans b.1 a.1, Int.le_trans a.2 b.2⟩
theorem gS_le (g : Int) (fs : List SE) : gS Esc.low g fs ≤ gS Esc.val g fs ∧ gS Esc.val g fs ≤ gS Esc.high g fs := by
  induction fs with
  | nil => exact ⟨Int.le_refl _, Int.le_refl _⟩
  | cons x r ih =>
    have := val_in2 (e := x.e)
    simp only [gS]
    split <;> omega
theorem part_in (g t : Int) (fs : List SE) (ok : ∀ x ∈ fs, x.e.Ok) (k : Nat) : gS Esc.low g fs ≤ gS Esc.val g fs - dS g t ((hldr t fs).take k) ∧ gS Esc.val g fs - dS g t ((hldr t fs).take k) ≤ gS Esc.high g fs := by
  induction fs generalizing k with
  | nil => simp [dS, gS, hldr]
  | cons x r ih =>
    have hr := fun j => ih (fun y hy => ok y (List.mem_cons_of_mem _ hy)) j
    have v := val_in2 (e := x.e)
    cases h : holdB x.e.nets t with
    | false =>
      have e : hldr t (x :: r) = hldr t r := by unfold hldr; rw [List.filter_cons, if_neg (by rw [h]; simp)]
      rw [e]
      have := hr k
      simp only [gS]
      split <;> omega
    | true =>
      have e : hldr t (x :: r) = x :: hldr t r := by unfold hldr; rw [List.filter_cons, if_pos h]
      rw [e]
      cases k with
      | zero =>
        have := gS_le g (x :: r)
        simp only [List.take_zero, dS]
        omega
      | succ k =>
        have q := hr k
        have l := less_in (ok x List.mem_cons_self) h
        simp only [List.take_succ_cons, dS, gS]
        split <;> omega
theorem dS_take (g t : Int) {l : List SE} {k : Nat} (hk : k < l.length) : dS g t (l.take (k + 1)) = dS g t (l.take k) + (if l[k].grp = g then netV l[k].e.nets t else 0) := by
  have app : ∀ a b : List SE, dS g t (a ++ b) = dS g t a + dS g t b := by
    intro a b
    induction a with
    | nil => simp [dS]
    | cons x r ih => simp only [List.cons_append, dS, ih]; omega
  rw [List.take_add_one, List.getElem?_eq_getElem hk, app]
  simp [dS]
/-! Which counter a holding is of. -/
theorem id_inj {es : List SE} (hu : Up (ctrsOf es)) {i j : Nat} (hi : i < es.length) (hj : j < es.length) (h : es[i].id = es[j].id) : i = j := by
  have n := ids_nodup hu
  rw [List.nodup_iff_pairwise_ne] at n
  have p := List.pairwise_iff_getElem.1 n
  rcases Nat.lt_trichotomy i j with q | q | q
  · exact absurd (by rw [List.getElem_map, List.getElem_map]; exact h) (p i j (by simpa using hi) (by simpa using hj) q)
  · exact q
  · exact absurd (by rw [List.getElem_map, List.getElem_map]; exact h.symm) (p j i (by simpa using hj) (by simpa using hi) q)
theorem at_hold {es fs : List SE} (hu : Up (ctrsOf es)) (hl : Lat es fs) {y : SE} (hy : y ∈ fs) : (∃ x ∈ es, x.id = y.id) ∧ ∀ i (hi : i < es.length), es[i].id = y.id → es[i].grp = y.grp ∧ ∃ h : i < fs.length, fs[i] = y := by
  obtain ⟨j, hj, rfl⟩ := List.getElem_of_mem hy
  have hj' : j < es.length := by rw [← hl.len]; exact hj
  obtain ⟨a, b, -, -⟩ := hl.get j hj' hj
  refine ⟨⟨es[j], List.getElem_mem hj', a.symm⟩, fun i hi h => ?_⟩
  have e : i = j := id_inj hu hi hj' (by rw [h, a])
  subst e
  exact ⟨b.symm, hj, rfl⟩
/-! What is wanted in the end: the settled values as they come. -/
def wnt (s : Bool) (t : Int) (l : List SE) (x : SE) : Int := x.e.base + (if s = true ∧ (∃ y ∈ l, y.id = x.id) then netV x.e.nets t else 0)
theorem wnt_nil (s : Bool) (t : Int) (x : SE) : wnt s t [] x = x.e.base := by simp [wnt]
theorem wnt_off (t : Int) (l : List SE) (x : SE) : wnt false t l x = x.e.base := by simp [wnt]
theorem wnt_same (s : Bool) (t : Int) {l : List SE} {k : Nat} (hk : k < l.length) {x : SE} (h : l[k].id ≠ x.id) : wnt s t (l.take (k + 1)) x = wnt s t (l.take k) x := by
  have e : (∃ y ∈ l.take (k + 1), y.id = x.id) ↔ (∃ y ∈ l.take k, y.id = x.id) := by
    rw [List.take_add_one, List.getElem?_eq_getElem hk]
    simp only [Option.toList_some, List.mem_append, List.mem_singleton]
    constructor
    · rintro ⟨y, q | q, hy⟩
      · exact ⟨y, q, hy⟩
      · subst q; exact absurd hy h
    · rintro ⟨y, q, hy⟩
      exact ⟨y, .inl q, hy⟩
  unfold wnt
  simp only [e]
theorem wnt_next (t : Int) {l : List SE} {k : Nat} (hk : k < l.length) {x : SE} (h : l[k].id = x.id) (n : (l.map SE.id).Nodup) : wnt true t (l.take (k + 1)) x = wnt true t (l.take k) x + netV x.e.nets t := by
  have a : ∃ y ∈ l.take (k + 1), y.id = x.id := ⟨l[k], List.mem_take_iff_getElem.2 ⟨k, by omega, rfl⟩, h⟩
  have b : ¬ ∃ y ∈ l.take k, y.id = x.id := by
    rintro ⟨y, hy, e⟩
    obtain ⟨j, hj, rfl⟩ := List.getElem_of_mem hy
    rw [List.length_take] at hj
    rw [List.getElem_take] at e
    rw [List.nodup_iff_pairwise_ne] at n
    have p := List.pairwise_iff_getElem.1 n j k (by simp; omega) (by simpa using hk) (by omega)
    simp at p
    exact p (by rw [e, h])
  unfold wnt
  rw [if_pos ⟨rfl, a⟩, if_neg (fun q => b q.2)]
  omega
theorem wnt_all {fs : List SE} (hu : Up (ctrsOf fs)) (s : Bool) (t : Int) {x : SE} (hx : x ∈ fs) : wnt s t (hldr t fs) x = (endE s x.e t).base := by
  have key : (∃ y ∈ hldr t fs, y.id = x.id) ↔ holdB x.e.nets t = true := by
    constructor
    · rintro ⟨y, hy, e⟩
      obtain ⟨hy, hh⟩ := List.mem_filter.1 hy
      obtain ⟨i, hi, rfl⟩ := List.getElem_of_mem hx
      obtain ⟨j, hj, rfl⟩ := List.getElem_of_mem hy
      have := id_inj hu hj hi e
      subst this
      exact hh
    · intro h
      exact ⟨x, List.mem_filter.2 ⟨hx, h⟩, rfl⟩
  unfold wnt
  simp only [key]
  cases s with
  | false =>
    show x.e.base + (if false = true ∧ _ then _ else _) = (relN x.e t).base
    rw [if_neg (by simp)]
    unfold relN
    split <;> simp
  | true =>
    show _ = (setN x.e t).base
    unfold setN
    cases h : holdB x.e.nets t <;> simp
/-! All six end. -/
def Still (c n : Int) (fs : List SE) : Prop := ∀ x ∈ fs, ∀ p ∈ x.e.nets, ∃ m : Int, n ≤ m ∧ m < 6 ∧ p.1 = 1 + (m + c) % 6
theorem Still.first {es : List SE} {H : Helds} (ok : SOk es H) (c : Int) : Still c 0 es := fun x hx p hp => by
  have h := ok.nets x hx p hp
  exact ⟨(p.1 - 1 - c) % 6, by omega, by omega, by omega⟩
theorem end_nets {e : Esc} {s : Bool} {t : Int} {p : Int × Int} (hp : p ∈ (endE s e t).nets) : p ∈ e.nets ∧ p.1 ≠ t := by
  have key : ∀ e' : Esc, (holdB e.nets t = true → e'.nets = delN e.nets t) → (holdB e.nets t = false → e' = e) → p ∈ e'.nets → p ∈ e.nets ∧ p.1 ≠ t := by
    intro e' h1 h2 hp
    cases h : holdB e.nets t with
    | true =>
      rw [h1 h] at hp
      obtain ⟨q1, q2⟩ := List.mem_filter.1 hp
      exact ⟨q1, by simpa using q2⟩
    | false =>
      rw [h2 h] at hp
      exact ⟨hp, holdB_false h p hp⟩
  cases s with
  | true => exact key (setN e t) (fun h => by rw [setN_yes h]) (fun h => setN_no h) hp
  | false => exact key (relN e t) (fun h => by rw [relN_yes h]) (fun h => relN_no h) hp
theorem Still.next {c n : Int} {fs : List SE} (h : Still c n fs) (s : Bool) : Still c (n + 1) (endF s (1 + (n + c) % 6) fs) := fun x hx p hp => by
  obtain ⟨y, hy, rfl⟩ := List.mem_map.1 hx
  obtain ⟨h1, h2⟩ := end_nets hp
  obtain ⟨m, a, b, d⟩ := h y hy p h1
  refine ⟨m, ?_, b, d⟩
  rcases Int.lt_or_eq_of_le a with q | q
  · omega
  · subst q; exact absurd d h2
theorem Still.last {c : Int} {fs : List SE} (h : Still c 6 fs) {x : SE} (hx : x ∈ fs) : x.e.nets = [] := by
  cases e : x.e.nets with
  | nil => rfl
  | cons p r =>
    obtain ⟨m, a, b, -⟩ := h x hx p (by rw [e]; exact List.mem_cons_self)
    omega
theorem bare_esc {e : Esc} (h : e.nets = []) : e.low = e.base ∧ e.high = e.base ∧ e.val = e.base := by
  unfold Esc.low Esc.high Esc.val
  rw [h]
  simp [sumF]
theorem end_again {e : Esc} {s s' : Bool} {t : Int} : endE s' (endE s e t) t = endE s e t := by
  have h : holdB (endE s e t).nets t = false := by
    cases q : holdB (endE s e t).nets t with
    | false => rfl
    | true => exact absurd rfl (end_nets (netV_mem q)).2
  cases s' with
  | true => exact setN_no h
  | false => exact relN_no h
theorem endF_again (s s' : Bool) (t : Int) (fs : List SE) : endF s' t (endF s t fs) = endF s t fs := by
  unfold endF
  rw [List.map_map]
  refine List.map_congr_left (fun x _ => ?_)
  show (x.turn (endE s x.e t)).turn (endE s' (x.turn (endE s x.e t)).e t) = x.turn (endE s x.e t)
  have : (x.turn (endE s x.e t)).e = endE s x.e t := rfl
  rw [this, end_again]
  rfl
theorem del_again {α : Type} (G : Prs α) (t : Int) : delM (delM G t) t = delM G t := by
  unfold delM
  rw [List.filter_filter]
  simp
theorem ids_gone (H : Helds) (t : Int) : idsOf (delM H t) t = [] := by
  unfold idsOf
  rw [getM_none (fun q hq => by
    have := (List.mem_filter.1 hq).2
    simpa using this)]
  rfl
theorem held_len {fs : List SE} {H : Helds} (hu : Up (ctrsOf fs)) (hok : HOk (ctrsOf fs) H) (t : Int) : (idsOf H t).length = (hldr t fs).length := by
  rw [(held_perm hu hok t).length_eq, List.length_map]
/-- The row of the holdings, by holders. -/
def hdF (t : Int) (x : SE) : List Value := [.int .i64 t, .int .i64 x.id, .int .i64 (netV x.e.nets t)]
theorem held_rows {fs : List SE} {H : Helds} (hu : Up (ctrsOf fs)) (hok : HOk (ctrsOf fs) H) (t : Int) : rowsC (hdR (ctrsOf fs) t) (heldR H t) = rowsC (hdF t) (hldr t fs) ∧ (heldR H t).length = (hldr t fs).length := by
  rw [held_row hu hok t]
  refine ⟨?_, by rw [List.length_map]⟩
  unfold rowsC
  rw [List.flatMap_map]
  have : ∀ x ∈ hldr t fs, hdR (ctrsOf fs) t x.id = hdF t x := fun x hx => by
    have hx' := (List.mem_filter.1 hx).1
    unfold hdR hdF netC
    rw [getM_ctrs hu hx']
  rw [List.flatMap_def, List.flatMap_def]
  exact congrArg List.flatten (List.map_congr_left this)
end Go.Proofs.YtaohdmaenplbpaaGreat

set_option linter.all false
namespace Go.Proofs.YtaohdmaenplbpaaGreat
open Go.RowKit Go.QK Quota Go.Maps Go.QM
set_option maxRecDepth 100000
set_option maxHeartbeats 2000000 in
theorem minus_w (z v : Int) (w : World) (hz : I64 z) (hv : I64 v) : Calls Tryz.prog 72 #[wd z, .int .i64 v] w fun r w' => r = .returned (wd (z - v)) ∧ Below w.heap.size w w' := by
  have bz : Bd z := by unfold I64 at hz; unfold Bd; omega
  by_cases hq : v = -9223372036854775808
  · subst hq
    have KP := hide (fun w' => plus_w z 9223372036854775807 w' bz (by unfold I64; omega))
    have KQ := hide (fun w' => plus_w (z + 9223372036854775807) 1 w' (by unfold I64 at hz; unfold Bd; omega) (by unfold I64; omega))
    have e : z + 9223372036854775807 + 1 = z - -9223372036854775808 := by omega
    rw [e] at KQ
    obtain ⟨y, hy⟩ : ∃ y, y = z + 9223372036854775807 := ⟨_, rfl⟩
    obtain ⟨x, hx⟩ : ∃ x, x = z - -9223372036854775808 := ⟨_, rfl⟩
    rw [← hy] at KP KQ
    rw [← hx] at KQ ⊢
    clear hy hx e bz hz hv
    go_enter Tryz.func72, Tryz.ntmps72
    go_upto_region 1 with fail
    refine named (P := Code.wp _ _ _ _) ?_
    intro w1 hw1
    obtain ⟨b, hb⟩ : ∃ b, b = w.heap.size := ⟨_, rfl⟩
    have C0 := hide (show Cells w1 b [.int .i64 (wh z), .int .i64 (wl z)] by rw [hw1, hb]; exact (Cells.new w #[.int .i64 (wh z), .int .i64 (wl z)] 59).below (alloc_below _ _))
    have C1 := hide (show Cells w1 (b + 1) [.int .i64 0, .int .i64 0] by
      rw [hw1, hb]
      have := Cells.new (w.alloc (.cells #[.int .i64 (wh z), .int .i64 (wl z)] 59)) #[.int .i64 0, .int .i64 0] 59
      simpa using this)
    have BE := hide (show Below w.heap.size w w1 by rw [hw1]; exact (alloc_below _ _).alloc (by simp) _)
    have LO := hide (show w.heap.size ≤ b by omega)
    rw [← hb]
    clear hw1 hb
    obtain ⟨q0, -⟩ := C0.out.get 0 _ rfl
    obtain ⟨q1, -⟩ := C0.out.get 1 _ rfl
    go_wp2_with fail
    refine (KP.out _).mono ?_
    rintro r w2 ⟨rfl, hb2⟩
    go_wp2_with fail
    refine (KQ.out _).mono ?_
    rintro r w3 ⟨rfl, hb3⟩
    have b23 := hb2.trans (hb3.mono hb2.size)
    have C3 := C1.out.below b23
    obtain ⟨s0, t0⟩ := C3.get 0 _ rfl
    obtain ⟨s1, t1⟩ := C3.get 1 _ rfl
    have B3 := hide (BE.out.trans (b23.mono BE.out.size))
    clear hb2 hb3 b23 q0 q1 C3
    go_wp2_with fail
    refine bodyPost_ret (v := wd x) (by simp [results, Tryz.results72, go_sem, s0, s1]) rfl ⟨rfl, ?_⟩
    exact (B3.out.setCell (by have := LO.out; show w.heap.size ≤ b + 1; omega) _).setCell (by have := LO.out; show w.heap.size ≤ b + 1; omega) _
  · have en : wrap64 (-v) = -v := by unfold I64 at hv; unfold wrap64; omega
    have en2 : IntKind.i64.wrap (-v) = -v := by rw [IntKind.wrap_i64]; unfold I64 at hv; omega
    have e1 : (v == -9223372036854775808) = false := by simpa using hq
    have KP := hide (fun w' => plus_w z (-v) w' bz (by unfold I64 at hv ⊢; omega))
    have e : z + -v = z - v := by omega
    rw [e] at KP
    obtain ⟨x, hx⟩ : ∃ x, x = z - v := ⟨_, rfl⟩
    rw [← hx] at KP ⊢
    clear hx e bz hz hv hq
    go_enter Tryz.func72, Tryz.ntmps72
    go_upto_region 1 with fail
    refine named (P := Code.wp _ _ _ _) ?_
    intro w1 hw1
    obtain ⟨b, hb⟩ : ∃ b, b = w.heap.size := ⟨_, rfl⟩
    have C0 := hide (show Cells w1 b [.int .i64 (wh z), .int .i64 (wl z)] by rw [hw1, hb]; exact (Cells.new w #[.int .i64 (wh z), .int .i64 (wl z)] 59).below (alloc_below _ _))
    have C1 := hide (show Cells w1 (b + 1) [.int .i64 0, .int .i64 0] by
      rw [hw1, hb]
      have := Cells.new (w.alloc (.cells #[.int .i64 (wh z), .int .i64 (wl z)] 59)) #[.int .i64 0, .int .i64 0] 59
      simpa using this)
    have BE := hide (show Below w.heap.size w w1 by rw [hw1]; exact (alloc_below _ _).alloc (by simp) _)
    have LO := hide (show w.heap.size ≤ b by omega)
    rw [← hb]
    clear hw1 hb
    obtain ⟨q0, -⟩ := C0.out.get 0 _ rfl
    obtain ⟨q1, -⟩ := C0.out.get 1 _ rfl
    go_wp2_with fail
    refine (KP.out _).mono ?_
    rintro r w2 ⟨rfl, hb2⟩
    have C3 := C1.out.below hb2
    obtain ⟨s0, t0⟩ := C3.get 0 _ rfl
    obtain ⟨s1, t1⟩ := C3.get 1 _ rfl
    have B3 := hide (BE.out.trans (hb2.mono BE.out.size))
    clear hb2 q0 q1 C3
    go_wp2_with fail
    refine bodyPost_ret (v := wd x) (by simp [results, Tryz.results72, go_sem, s0, s1]) rfl ⟨rfl, ?_⟩
    exact (B3.out.setCell (by have := LO.out; show w.heap.size ≤ b + 1; omega) _).setCell (by have := LO.out; show w.heap.size ≤ b + 1; omega) _
end Go.Proofs.YtaohdmaenplbpaaGreat

set_option linter.all false
namespace Go.Proofs.YtaohdmaenplbpaaGreat
open Go.RowKit Go.QK Quota Go.Maps Go.QM
set_option maxRecDepth 100000
/-! oneByOne (41). -/
def aheadC (A : Nat → Int × Int) : List Value := [.int .i64 (A 0).1, .int .i64 (A 0).2, .int .i64 (A 1).1, .int .i64 (A 1).2, .int .i64 (A 2).1, .int .i64 (A 2).2, .int .i64 (A 3).1, .int .i64 (A 3).2]
abbrev aheadA (A : Nat → Int × Int) : Array Value := #[.int .i64 (A 0).1, .int .i64 (A 0).2, .int .i64 (A 1).1, .int .i64 (A 1).2, .int .i64 (A 2).1, .int .i64 (A 2).2, .int .i64 (A 3).1, .int .i64 (A 3).2]
def Ahead (A : Nat → Int × Int) (es : List SE) : Prop := ∀ g : Nat, 1 ≤ g → g ≤ 3 → thereG (ctrsOf es) (g : Int) = true → A g = (lowG (ctrsOf es) (g : Int), highG (ctrsOf es) (g : Int))
theorem ahead_at {w : World} {b : Nat} {A : Nat → Int × Int} (h : Cells w b (aheadC A)) {g : Nat} (hg : g ≤ 3) : w.cell? ⟨b, g * 2, none⟩ = some (.int .i64 (A g).1) ∧ w.cell? ⟨b, g * 2 + 1, none⟩ = some (.int .i64 (A g).2) := by
  obtain rfl | rfl | rfl | rfl : g = 0 ∨ g = 1 ∨ g = 2 ∨ g = 3 := by omega
  · exact ⟨(h.get 0 _ rfl).1, (h.get 1 _ rfl).1⟩
  · exact ⟨(h.get 2 _ rfl).1, (h.get 3 _ rfl).1⟩
  · exact ⟨(h.get 4 _ rfl).1, (h.get 5 _ rfl).1⟩
  · exact ⟨(h.get 6 _ rfl).1, (h.get 7 _ rfl).1⟩
set_option maxHeartbeats 20000000 in
theorem one_any {lab : Nat → Nat} {T : Nat → Prop} {w : World} {sb lb : Nat} {vc ve : Value} {es fs : List SE} {H H0 : Helds} (hst : St lab T w sb lb vc ve es (ctrsOf fs) H) (ok : SOk es H0) (hu : Up (ctrsOf es)) (hlat : Lat es fs) (A : Nat → Int × Int) (hA : Ahead A es) (t : Int) (ha : Option Addr) (m c : Nat) (hh : Lies w ha (rowsC (hdF t) (hldr t fs))) (hm : m = (hldr t fs).length) : Calls Tryz.prog 41 #[ptr sb, .slice ha m c, .agg (aheadA A)] w fun r w' => r = .returned (.bool true) ∧ Below w.heap.size w w' := by
  obtain ⟨a1, c1, a2, c2, rfl, rfl⟩ := hst.form
  obtain ⟨n, hn⟩ : ∃ n, n = es.length := ⟨_, rfl⟩
  rw [← hn] at hst
  have n8 : n ≤ 8 := by rw [hn]; exact ok.few
  have NE := hide hn
  obtain ⟨S0, hl⟩ := hst.lg
  have LOK := hide hl.ok
  have FOK := hide (show ∀ x ∈ fs, x.e.Ok from fun x hx => hl.ok.1.all _ (List.mem_map_of_mem hx))
  have m8 : m ≤ 8 := by rw [hm]; exact Nat.le_trans (List.length_filter_le _ _) (by rw [hlat.len]; exact ok.few)
  have HM := hide hm
  have HH := hide hh
  have HLT := hide hlat
  have HU := hide hu
  have HA := hide hA
  have HS := hide hst
  have HL := hide hl
  clear ok hst hn hm hh hlat hu hA hl
  go_enter Tryz.func41, Tryz.ntmps41
  go_upto_region 1 with fail
  refine named (P := Code.wp _ _ _ _) ?_
  intro w1 hw1
  obtain ⟨ab, hab⟩ : ∃ z, z = w.heap.size := ⟨_, rfl⟩
  have A1 := hide (show Cells w1 ab (aheadC A) by rw [hw1, hab]; exact Cells.new _ _ _)
  have b1 : Below w.heap.size w w1 := by rw [hw1]; exact alloc_below _ _
  have B1 := hide b1
  have S1 := hide (HS.out.below b1)
  have L1 := hide (HL.out.below b1)
  have H1 := hide (HH.out.below b1)
  rw [← hab]
  clear hw1 hab b1 HS HL HH
  go_wp2_with fail
  go_loopw [7] (fun v wr => ∃ g : Nat, v = .int .i64 (g : Int) ∧ 1 ≤ g ∧ g ≤ 4 ∧ Below w1.heap.size w1 wr) (fun v _ => 5 - (intOf v).toNat)
  case atStart => exact ⟨1, rfl, Nat.le_refl _, by omega, Below.refl _ _⟩
  case round =>
    obtain ⟨g, rfl, hg1, hg4, hbr⟩ := hrel
    by_cases hg : g ≤ 3
    · have gi : I64 (g : Int) := by unfold I64; omega
      have KS := hide (lg_sum (L1.out.below hbr) (g := (g : Int)) gi)
      have f0 := ((S1.out.below hbr).box.get 0 _ rfl).1
      have BR := hide hbr
      obtain ⟨lt1, lt2, lt3⟩ := HLT.out.low (g : Int)
      cases hq : thereG (ctrsOf fs) (g : Int) with
      | false =>
        obtain ⟨z1, z2⟩ := sumA_not hq
        rw [z1, z2] at KS
        clear z1 z2 hq hbr lt1 lt2 lt3
        go_wp2_with (go_at_call 36; refine KS.out.mono ?_; rintro r w2 ⟨rfl, hb2⟩)
        go_roundw
        case rel => exact ⟨g + 1, by go_num, by omega, by omega, BR.out.trans (hb2.mono BR.out.size)⟩
        case measure => simp [intOf]; omega
      | true =>
        obtain ⟨z1, z2⟩ := sumA_there hq
        rw [z1, z2] at KS
        rw [lt3] at hq
        have ea := HA.out g hg1 hg hq
        have PI := hide (fun k => part_in (g : Int) t fs FOK.out k)
        have LI := hide (LOK.out.1.lo (g : Int))
        have UI := hide (LOK.out.1.hi (g : Int))
        obtain ⟨e1, e2, e3⟩ := sum_three (es := fs) (g : Int)
        rw [e1, e2, e3] at PI
        obtain ⟨sv, hsv⟩ : ∃ z, z = sumG (ctrsOf fs) (g : Int) := ⟨_, rfl⟩
        obtain ⟨lv, hlv⟩ : ∃ z, z = lowG (ctrsOf fs) (g : Int) := ⟨_, rfl⟩
        obtain ⟨uv, huv⟩ : ∃ z, z = highG (ctrsOf fs) (g : Int) := ⟨_, rfl⟩
        rw [← hsv] at KS PI
        rw [← hlv] at LI PI lt1
        rw [← huv] at UI PI lt2
        have AL := hide (show (A g).1 ≤ lv by rw [ea]; exact lt1)
        have AU := hide (show uv ≤ (A g).2 by rw [ea]; exact lt2)
        obtain ⟨al, hal⟩ : ∃ z, z = (A g).1 := ⟨_, rfl⟩
        obtain ⟨au, hau⟩ : ∃ z, z = (A g).2 := ⟨_, rfl⟩
        have AC := hide (fun wz (h : Below w1.heap.size w1 wz) => (show wz.cell? ⟨ab, g * 2, none⟩ = some (.int .i64 al) ∧ wz.cell? ⟨ab, g * 2 + 1, none⟩ = some (.int .i64 au) by rw [hal, hau]; exact ahead_at (A1.out.below h) hg))
        rw [← hal] at AL
        rw [← hau] at AU
        have KO := hide (fun wz => of_any sv wz)
        clear z1 z2 hq hbr lt1 lt2 lt3 ea e1 e2 e3 hsv hlv huv hal hau
        simp only at KS
        go_upto_region 6 with (go_at_call 36; refine KS.out.mono ?_; rintro r w2 ⟨rfl, hb2⟩)
        clear KS f0
        go_upto_region 7 with (go_at_call 39; refine (KO.out _).mono ?_; rintro r w3 ⟨rfl, hb3⟩)
        refine named (P := Code.wp _ _ _ _) ?_
        intro w4 hw4
        obtain ⟨q, hq⟩ : ∃ z, z = w3.heap.size := ⟨_, rfl⟩
        have Q4 := hide (show Cells w4 q [.int .i64 (wh sv), .int .i64 (wl sv)] by rw [hw4, hq]; exact Cells.new _ _ _)
        have b34 : Below w3.heap.size w3 w4 := by rw [hw4]; exact alloc_below _ _
        have b23 := hb2.trans (hb3.mono hb2.size)
        have b24 := b23.trans (b34.mono b23.size)
        have B4 := hide (BR.out.trans (b24.mono BR.out.size))
        have QL := hide (show w1.heap.size ≤ q by have := BR.out.size; have := b23.size; omega)
        rw [← hq]
        clear hw4 hq b34 b23 b24 hb2 hb3 KO
        go_wp2_with fail
        go_loopw [11] (fun v wz => ∃ k : Nat, v = .int .i64 (k : Int) ∧ k ≤ m ∧ Below w1.heap.size w1 wz ∧ Cells wz q [.int .i64 (wh (sv - dS (g : Int) t ((hldr t fs).take k))), .int .i64 (wl (sv - dS (g : Int) t ((hldr t fs).take k)))]) (fun v _ => m + 1 - (intOf v).toNat)
        case atStart => exact ⟨0, rfl, Nat.zero_le _, B4.out, by simpa [dS] using Q4.out⟩
        case round =>
          clear B4 Q4
          obtain ⟨k, rfl, hk, hbk, hqk⟩ := hrel
          have BK := hide hbk
          by_cases hkm : k < m
          · have hkl : k < (hldr t fs).length := by rw [← HM.out]; exact hkm
            obtain ⟨hb, ho, rfl, -, -⟩ := H1.out.rowAt (hdF t) 3 (fun _ => rfl) k hkl (by decide)
            have hyf : (hldr t fs)[k] ∈ fs := (List.mem_filter.1 (List.getElem_mem hkl)).1
            have hyok := FOK.out _ hyf
            have hyh : holdB (hldr t fs)[k].e.nets t = true := (List.mem_filter.1 (List.getElem_mem hkl)).2
            obtain ⟨ex, uni⟩ := at_hold HU.out HLT.out hyf
            have DT := hide (dS_take (g : Int) t hkl)
            have PK := hide (PI.out k)
            have PK1 := hide (PI.out (k + 1))
            have HC := hide (fun wz (h : Below w1.heap.size w1 wz) => (show wz.cell? ⟨hb, ho + k * 3 + 1, none⟩ = some (.int .i64 (hldr t fs)[k].id) ∧ wz.cell? ⟨hb, ho + k * 3 + 2, none⟩ = some (.int .i64 (netV (hldr t fs)[k].e.nets t)) by
              obtain ⟨hb', ho', e, -, sel⟩ := (H1.out.below h).rowAt (hdF t) 3 (fun _ => rfl) k hkl (by decide)
              cases e
              exact ⟨sel 1 _ rfl, sel 2 _ rfl⟩))
            have NV := hide (show I64 (netV (hldr t fs)[k].e.nets t) from hyok.all _ (netV_mem hyh))
            obtain ⟨z, hz⟩ : ∃ z, z = sv - dS (g : Int) t ((hldr t fs).take k) := ⟨_, rfl⟩
            obtain ⟨z', hz'⟩ : ∃ z, z = sv - dS (g : Int) t ((hldr t fs).take (k + 1)) := ⟨_, rfl⟩
            rw [← hz] at hqk PK
            rw [← hz'] at PK1
            have EX := hide ex
            have UNI := hide uni
            have HZ := hide hz'
            have HZ0 := hide hz
            generalize (hldr t fs)[k] = y at *
            obtain ⟨yid, ygrp, yv0, yb, ym, ye⟩ := y
            simp only at DT HC NV EX UNI
            obtain ⟨nv, hnv⟩ : ∃ z, z = netV ye.nets t := ⟨_, rfl⟩
            rw [← hnv] at DT HC NV
            clear hnv hz hz' ex uni hyf hyok hyh
            have QK := hide hqk
            clear hqk hbk
            have ZI := hide (show I64 z by have := PK.out; have := LI.out; have := UI.out; unfold I64 at *; omega)
            go_upto_region 10 with fail
            have DR := show Below wr.heap.size wr wr.drew from (Below.refl _ _).drew
            refine wp_region_held_drew (S := fun wz => Below w1.heap.size w1 wz ∧ Cells wz q [.int .i64 (wh z), .int .i64 (wl z)]) (by kernel_rfl) ⟨BK.out.drew, QK.out.below DR⟩ (fun hS => ?_)
            clear DR
            generalize wr.drew = y5 at *
            refine take_at 0 (some 35) (v := ?_) rfl rfl (by kernel_rfl) (by kernel_rfl) (by kernel_rfl) (fun _ _ _ h => h) ⟨by rfl, ?_⟩ hS ?_
            rotate_left
            · intro wz hSw; go_simp; try rfl
            simp only [Act.put, List.setIfInBounds_toArray, List.set_cons_zero, List.set_cons_succ]
            refine take_at 1 (some 36) (v := ?_) rfl rfl (by kernel_rfl) (by kernel_rfl) (by kernel_rfl) (fun _ _ _ h => h) ⟨by rfl, ?_⟩ hS ?_
            rotate_left
            · intro wz hSw; go_simp; try rfl
            simp only [Act.put, List.setIfInBounds_toArray, List.set_cons_zero, List.set_cons_succ]
            refine take_at 2 (some 37) (v := ?_) rfl rfl (by kernel_rfl) (by kernel_rfl) (by kernel_rfl) (fun _ _ _ h => h) ⟨by rfl, ?_⟩ hS ?_
            rotate_left
            · intro wz hSw; go_simp; try rfl
            simp only [Act.put, List.setIfInBounds_toArray, List.set_cons_zero, List.set_cons_succ]
            refine take_at 3 (some 38) (v := ?_) rfl rfl (by kernel_rfl) (by kernel_rfl) (by kernel_rfl) (fun _ _ _ h => h) ⟨by rfl, ?_⟩ hS ?_
            rotate_left
            · intro wz hSw; have m1 := ((S1.out.below hSw.1).box.get 1 _ rfl).1; go_simp; try rfl
            simp only [Act.put, List.setIfInBounds_toArray, List.set_cons_zero, List.set_cons_succ]
            refine take_at 4 (some 39) (v := ?_) rfl rfl (by kernel_rfl) (by kernel_rfl) (by kernel_rfl) (fun _ _ _ h => h) ⟨by rfl, ?_⟩ hS ?_
            rotate_left
            · intro wz hSw; go_simp; try rfl
            simp only [Act.put, List.setIfInBounds_toArray, List.set_cons_zero, List.set_cons_succ]
            refine take_at 5 (some 40) (v := ?_) rfl rfl (by kernel_rfl) (by kernel_rfl) (by kernel_rfl) (fun _ _ _ h => h) ⟨by rfl, ?_⟩ hS ?_
            rotate_left
            · intro wz hSw; go_simp; try rfl
            simp only [Act.put, List.setIfInBounds_toArray, List.set_cons_zero, List.set_cons_succ]
            refine take_at 6 (some 41) (v := ?_) rfl rfl (by kernel_rfl) (by kernel_rfl) (by kernel_rfl) (fun _ _ _ h => h) ⟨by rfl, ?_⟩ hS ?_
            rotate_left
            · intro wz hSw; go_simp; try rfl
            simp only [Act.put, List.setIfInBounds_toArray, List.set_cons_zero, List.set_cons_succ]
            refine take_at 7 (some 42) (v := ?_) rfl rfl (by kernel_rfl) (by kernel_rfl) (by kernel_rfl) (fun _ _ _ h => h) ⟨by rfl, ?_⟩ hS ?_
            rotate_left
            · intro wz hSw; go_simp; try rfl
            simp only [Act.put, List.setIfInBounds_toArray, List.set_cons_zero, List.set_cons_succ]
            refine take_at 8 (some 43) (v := ?_) rfl rfl (by kernel_rfl) (by kernel_rfl) (by kernel_rfl) (fun _ _ _ h => h) ⟨by rfl, ?_⟩ hS ?_
            rotate_left
            · intro wz hSw; go_simp; try rfl
            simp only [Act.put, List.setIfInBounds_toArray, List.set_cons_zero, List.set_cons_succ]
            refine take_at 9 (some 44) (v := ?_) rfl rfl (by kernel_rfl) (by kernel_rfl) (by kernel_rfl) (fun _ _ _ h => h) ⟨by rfl, ?_⟩ hS ?_
            rotate_left
            · intro wz hSw; obtain ⟨h1, h2⟩ := HC.out _ hSw.1; go_simp; try rfl
            simp only [Act.put, List.setIfInBounds_toArray, List.set_cons_zero, List.set_cons_succ]
            refine take_at 14 (some 49) (v := ?_) rfl rfl (by kernel_rfl) (by kernel_rfl) (by kernel_rfl) (fun _ _ _ h => h) ⟨by rfl, ?_⟩ hS ?_
            rotate_left
            · intro wz hSw; go_simp; try rfl
            simp only [Act.put, List.setIfInBounds_toArray, List.set_cons_zero, List.set_cons_succ]
            obtain ⟨a', c', e', hlc, -⟩ := GRow.lies (S1.out.below hS.1).rc
            simp only [Value.slice.injEq] at e'
            obtain ⟨rfl, -, -⟩ := e'
            have KX := at_any es sb lb a1 n c1 (.slice a2 n c2) yid _ (S1.out.below hS.1).box hlc NE.out n8
            clear hlc
            refine wpAnyH_ready (rs := [10]) (by kernel_rfl) (by simp) ?_
            refine AllReadyH.cons rfl (fun K hK => ?_) AllReadyH.nil
            go_simp
            go_wp2_with fail
            refine KX.mono ?_
            rintro e x6 ⟨hat, rfl⟩
            obtain ⟨i, hi, rfl, hid⟩ : ∃ i, ∃ h : i < es.length, e = .returned (.int .i64 (i : Int)) ∧ es[i].id = yid := by
              rcases hat with q | ⟨-, q⟩
              · exact q
              · obtain ⟨x, hx, hq⟩ := EX.out; exact absurd hq (q x hx)
            have ig := (UNI.out i hi hid).1
            clear hat KX hid
            obtain ⟨cb, co, eb, eo, rfl, rfl, sees⟩ := S1.out.see hi
            have XC := hide (fun wz (h : Below w1.heap.size w1 wz) => (show wz.cell? ⟨cb, co + i * 5 + 1, none⟩ = some (.int .i64 ygrp) by rw [← ig]; exact (sees wz h).x1))
            have hin : i < n := by rw [NE.out]; exact hi
            clear sees ig
            go_wp2_with fail
            refine hK.out _ _ hS (fun hS => ?_)
            clear hK K
            (try simp only [Act.put, List.setIfInBounds_toArray, List.set_cons_zero, List.set_cons_succ])
            refine take_at 11 (some 46) (v := ?_) rfl rfl (by kernel_rfl) (by kernel_rfl) (by kernel_rfl) (fun _ _ _ h => h) ⟨by rfl, ?_⟩ hS ?_
            rotate_left
            · intro wz hSw; go_simp; try rfl
            simp only [Act.put, List.setIfInBounds_toArray, List.set_cons_zero, List.set_cons_succ]
            refine take_at 12 (some 47) (v := ?_) rfl rfl (by kernel_rfl) (by kernel_rfl) (by kernel_rfl) (fun _ _ _ h => h) ⟨by rfl, ?_⟩ hS ?_
            rotate_left
            · intro wz hSw; go_simp; try rfl
            simp only [Act.put, List.setIfInBounds_toArray, List.set_cons_zero, List.set_cons_succ]
            refine take_at 13 (some 48) (v := ?_) rfl rfl (by kernel_rfl) (by kernel_rfl) (by kernel_rfl) (fun _ _ _ h => h) ⟨by rfl, ?_⟩ hS ?_
            rotate_left
            · intro wz hSw; have x1 := XC.out _ hSw.1; go_simp; try rfl
            simp only [Act.put, List.setIfInBounds_toArray, List.set_cons_zero, List.set_cons_succ]
            refine take_at 15 (some 50) (v := ?_) rfl rfl (by kernel_rfl) (by kernel_rfl) (by kernel_rfl) (fun _ _ _ h => h) ⟨by rfl, ?_⟩ hS ?_
            rotate_left
            · intro wz hSw; go_simp; try rfl
            simp only [Act.put, List.setIfInBounds_toArray, List.set_cons_zero, List.set_cons_succ]
            refine wpAnyH_done (by kernel_rfl) ?_ _
            have B7 := hide hS.1
            have Q7 := hide hS.2
            clear hS QK BK hin XC
            by_cases hgr : ygrp = (g : Int)
            · have e1 : (ygrp != (g : Int)) = false := by simpa using hgr
              have ZZ := hide (show z' = z - nv by rw [HZ.out, HZ0.out, DT.out, if_pos hgr]; omega)
              have KM := hide (fun wz => minus_w z nv wz ZI.out NV.out)
              rw [← ZZ.out] at KM
              have bl0 : decide (z' < al) = false := by rw [decide_eq_false_iff_not]; have := PK1.out; have := AL.out; omega
              have bu0 : decide (au < z') = false := by rw [decide_eq_false_iff_not]; have := PK1.out; have := AU.out; omega
              have KB := hide (fun wz => below_w z' al wz)
              have KA := hide (fun wz => above_w z' au wz)
              rw [bl0] at KB
              rw [bu0] at KA
              clear hgr bl0 bu0
              have g4 : (g : Int) < 4 := by omega
              go_upto_region 11 with fail
              have DR := show Below y5.heap.size y5 y5.drew from (Below.refl _ _).drew
              refine wp_region_held_drew (S := fun wz => Below w1.heap.size w1 wz) (by kernel_rfl) B7.out.drew (fun hS => ?_)
              have Q8 := hide (Q7.out.below DR)
              clear DR Q7 B7
              generalize y5.drew = y8 at *
              refine take_at 1 (some 52) (v := ?_) rfl rfl (by kernel_rfl) (by kernel_rfl) (by kernel_rfl) (fun _ _ _ h => h) ⟨by rfl, ?_⟩ hS ?_
              rotate_left
              · intro wz hSw; go_simp; try rfl
              simp only [Act.put, List.setIfInBounds_toArray, List.set_cons_zero, List.set_cons_succ]
              refine take_at 2 (some 53) (v := ?_) rfl rfl (by kernel_rfl) (by kernel_rfl) (by kernel_rfl) (fun _ _ _ h => h) ⟨by rfl, ?_⟩ hS ?_
              rotate_left
              · intro wz hSw; go_simp; try rfl
              simp only [Act.put, List.setIfInBounds_toArray, List.set_cons_zero, List.set_cons_succ]
              refine take_at 3 (some 54) (v := ?_) rfl rfl (by kernel_rfl) (by kernel_rfl) (by kernel_rfl) (fun _ _ _ h => h) ⟨by rfl, ?_⟩ hS ?_
              rotate_left
              · intro wz hSw; go_simp; try rfl
              simp only [Act.put, List.setIfInBounds_toArray, List.set_cons_zero, List.set_cons_succ]
              refine take_at 4 (some 55) (v := ?_) rfl rfl (by kernel_rfl) (by kernel_rfl) (by kernel_rfl) (fun _ _ _ h => h) ⟨by rfl, ?_⟩ hS ?_
              rotate_left
              · intro wz hSw; go_simp; try rfl
              simp only [Act.put, List.setIfInBounds_toArray, List.set_cons_zero, List.set_cons_succ]
              refine take_at 5 (some 56) (v := ?_) rfl rfl (by kernel_rfl) (by kernel_rfl) (by kernel_rfl) (fun _ _ _ h => h) ⟨by rfl, ?_⟩ hS ?_
              rotate_left
              · intro wz hSw; obtain ⟨h1, h2⟩ := HC.out _ hSw; go_simp; try rfl
              simp only [Act.put, List.setIfInBounds_toArray, List.set_cons_zero, List.set_cons_succ]
              refine wpAnyH_ready (rs := [0]) (by kernel_rfl) (by simp) ?_
              refine AllReadyH.cons rfl (fun K hK => ?_) AllReadyH.nil
              obtain ⟨k0, _⟩ := Q8.out.get 0 _ rfl
              obtain ⟨k1, _⟩ := Q8.out.get 1 _ rfl
              go_simp
              go_wp2_with fail
              refine hK.out _ _ hS (fun hS => ?_)
              clear hK K k0 k1
              (try simp only [Act.put, List.setIfInBounds_toArray, List.set_cons_zero, List.set_cons_succ])
              refine wpAnyH_ready (rs := [6]) (by kernel_rfl) (by simp) ?_
              refine AllReadyH.cons rfl (fun K hK => ?_) AllReadyH.nil
              go_simp
              go_wp2_with fail
              refine (KM.out _).mono ?_
              rintro e x9 ⟨rfl, hh9⟩
              have Q8' := hide (Q8.out.below hh9)
              have s9 : Below w1.heap.size w1 x9 := hS.trans (hh9.mono hS.size)
              clear hh9 hS Q8
              go_wp2_with fail
              refine hK.out _ _ s9 (fun hS => ?_)
              clear hK K s9
              (try simp only [Act.put, List.setIfInBounds_toArray, List.set_cons_zero, List.set_cons_succ])
              have KK := ((Keep.refl (fun i => i = q) x9).setCell (g := q) (j := 0) (fun _ => rfl) (.int .i64 (wh z'))).setCell (g := q) (j := 1) (fun _ => rfl) (.int .i64 (wl z'))
              have CC := (Q8'.out.stored (j := 0) (by simp) (.int .i64 (wh z'))).stored (j := 1) (by simp) (.int .i64 (wl z'))
              have S8 := hide (hS.trans (KK.below hS.size (fun i hi q => by have := QL.out; omega)))
              have C8 := hide CC
              obtain ⟨k0, l0⟩ := Q8'.out.get 0 _ rfl
              obtain ⟨k1, l1⟩ := Q8'.out.get 1 _ rfl
              clear hS KK CC
              refine wpAnyH_ready (rs := [7]) (by kernel_rfl) (by simp) ?_
              refine AllReadyH.cons rfl (fun K hK => ?_) AllReadyH.nil
              go_simp
              go_wp2_with fail
              refine hK.out _ _ S8.out (fun hS => ?_)
              clear hK K hS k0 l0 k1 l1 Q8'
              (try simp only [Act.put, List.setIfInBounds_toArray, List.set_cons_zero, List.set_cons_succ])
              refine wpAnyH_done (by kernel_rfl) ?_ _
              go_upto_region 12 with fail
              refine named (P := Code.wp _ _ _ _) ?_
              intro w8 hw8
              have B8 := hide S8.out
              have Q8 := hide (show Cells _ q [.int .i64 (wh z'), .int .i64 (wl z')] by simpa using C8.out)
              rw [← hw8] at B8 Q8
              clear hw8 S8 C8 KM
              have DR := show Below w8.heap.size w8 w8.drew from (Below.refl _ _).drew
              refine wp_region_held_drew (S := fun wz => Below w1.heap.size w1 wz ∧ Cells wz q [.int .i64 (wh z'), .int .i64 (wl z')]) (by kernel_rfl) ⟨B8.out.drew, Q8.out.below DR⟩ (fun hS => ?_)
              clear DR B8 Q8
              generalize w8.drew = y9 at *
              refine take_at 0 (some 58) (v := ?_) rfl rfl (by kernel_rfl) (by kernel_rfl) (by kernel_rfl) (fun _ _ _ h => h) ⟨by rfl, ?_⟩ hS ?_
              rotate_left
              · intro wz hSw; obtain ⟨k0, _⟩ := hSw.2.get 0 _ rfl; obtain ⟨k1, _⟩ := hSw.2.get 1 _ rfl; go_simp; try rfl
              simp only [Act.put, List.setIfInBounds_toArray, List.set_cons_zero, List.set_cons_succ]
              refine take_at 1 (some 59) (v := ?_) rfl rfl (by kernel_rfl) (by kernel_rfl) (by kernel_rfl) (fun _ _ _ h => h) ⟨by rfl, ?_⟩ hS ?_
              rotate_left
              · intro wz hSw; go_simp; try rfl
              simp only [Act.put, List.setIfInBounds_toArray, List.set_cons_zero, List.set_cons_succ]
              refine take_at 2 (some 60) (v := ?_) rfl rfl (by kernel_rfl) (by kernel_rfl) (by kernel_rfl) (fun _ _ _ h => h) ⟨by rfl, ?_⟩ hS ?_
              rotate_left
              · intro wz hSw; go_simp; try rfl
              simp only [Act.put, List.setIfInBounds_toArray, List.set_cons_zero, List.set_cons_succ]
              refine take_at 3 (some 61) (v := ?_) rfl rfl (by kernel_rfl) (by kernel_rfl) (by kernel_rfl) (fun _ _ _ h => h) ⟨by rfl, ?_⟩ hS ?_
              rotate_left
              · intro wz hSw; go_simp; try rfl
              simp only [Act.put, List.setIfInBounds_toArray, List.set_cons_zero, List.set_cons_succ]
              refine take_at 4 (some 62) (v := ?_) rfl rfl (by kernel_rfl) (by kernel_rfl) (by kernel_rfl) (fun _ _ _ h => h) ⟨by rfl, ?_⟩ hS ?_
              rotate_left
              · intro wz hSw; obtain ⟨u0, u1⟩ := AC.out _ hSw.1; go_simp; try rfl
              simp only [Act.put, List.setIfInBounds_toArray, List.set_cons_zero, List.set_cons_succ]
              refine wpAnyH_ready (rs := [5]) (by kernel_rfl) (by simp) ?_
              refine AllReadyH.cons rfl (fun K hK => ?_) AllReadyH.nil
              go_simp
              go_wp2_with fail
              refine (KB.out _).mono ?_
              rintro e x10 ⟨rfl, hh⟩
              have s_x10 := And.intro (hS.1.trans (hh.mono hS.1.size)) (hS.2.below hh)
              clear hh hS
              go_wp2_with fail
              refine hK.out _ _ s_x10 (fun hS => ?_)
              clear hK K s_x10
              (try simp only [Act.put, List.setIfInBounds_toArray, List.set_cons_zero, List.set_cons_succ])
              refine take_at 6 (some 64) (v := ?_) rfl rfl (by kernel_rfl) (by kernel_rfl) (by kernel_rfl) (fun _ _ _ h => h) ⟨by rfl, ?_⟩ hS ?_
              rotate_left
              · intro wz hSw; go_simp; try rfl
              simp only [Act.put, List.setIfInBounds_toArray, List.set_cons_zero, List.set_cons_succ]
              refine take_at 7 (some 65) (v := ?_) rfl rfl (by kernel_rfl) (by kernel_rfl) (by kernel_rfl) (fun _ _ _ h => h) ⟨by rfl, ?_⟩ hS ?_
              rotate_left
              · intro wz hSw; obtain ⟨k0, _⟩ := hSw.2.get 0 _ rfl; obtain ⟨k1, _⟩ := hSw.2.get 1 _ rfl; go_simp; try rfl
              simp only [Act.put, List.setIfInBounds_toArray, List.set_cons_zero, List.set_cons_succ]
              refine take_at 8 (some 66) (v := ?_) rfl rfl (by kernel_rfl) (by kernel_rfl) (by kernel_rfl) (fun _ _ _ h => h) ⟨by rfl, ?_⟩ hS ?_
              rotate_left
              · intro wz hSw; go_simp; try rfl
              simp only [Act.put, List.setIfInBounds_toArray, List.set_cons_zero, List.set_cons_succ]
              refine take_at 9 (some 67) (v := ?_) rfl rfl (by kernel_rfl) (by kernel_rfl) (by kernel_rfl) (fun _ _ _ h => h) ⟨by rfl, ?_⟩ hS ?_
              rotate_left
              · intro wz hSw; go_simp; try rfl
              simp only [Act.put, List.setIfInBounds_toArray, List.set_cons_zero, List.set_cons_succ]
              refine take_at 10 (some 68) (v := ?_) rfl rfl (by kernel_rfl) (by kernel_rfl) (by kernel_rfl) (fun _ _ _ h => h) ⟨by rfl, ?_⟩ hS ?_
              rotate_left
              · intro wz hSw; go_simp; try rfl
              simp only [Act.put, List.setIfInBounds_toArray, List.set_cons_zero, List.set_cons_succ]
              refine take_at 11 (some 69) (v := ?_) rfl rfl (by kernel_rfl) (by kernel_rfl) (by kernel_rfl) (fun _ _ _ h => h) ⟨by rfl, ?_⟩ hS ?_
              rotate_left
              · intro wz hSw; obtain ⟨u0, u1⟩ := AC.out _ hSw.1; go_simp; try rfl
              simp only [Act.put, List.setIfInBounds_toArray, List.set_cons_zero, List.set_cons_succ]
              refine wpAnyH_ready (rs := [12]) (by kernel_rfl) (by simp) ?_
              refine AllReadyH.cons rfl (fun K hK => ?_) AllReadyH.nil
              go_simp
              go_wp2_with fail
              refine (KA.out _).mono ?_
              rintro e x11 ⟨rfl, hh⟩
              have s_x11 := And.intro (hS.1.trans (hh.mono hS.1.size)) (hS.2.below hh)
              clear hh hS
              go_wp2_with fail
              refine hK.out _ _ s_x11 (fun hS => ?_)
              clear hK K s_x11
              (try simp only [Act.put, List.setIfInBounds_toArray, List.set_cons_zero, List.set_cons_succ])
              refine take_at 13 (some 71) (v := ?_) rfl rfl (by kernel_rfl) (by kernel_rfl) (by kernel_rfl) (fun _ _ _ h => h) ⟨by rfl, ?_⟩ hS ?_
              rotate_left
              · intro wz hSw; go_simp; try rfl
              simp only [Act.put, List.setIfInBounds_toArray, List.set_cons_zero, List.set_cons_succ]
              refine wpAnyH_done (by kernel_rfl) ?_ _
              have B9 := hide hS.1
              have Q9 := hide hS.2
              clear hS KB KA
              go_wp2_with fail
              go_roundw
              case rel => exact ⟨k + 1, by go_num, by omega, B9.out, by rw [← HZ.out]; exact Q9.out⟩
              case measure => simp [intOf]; omega
            · have e1 : (ygrp != (g : Int)) = true := by simpa using hgr
              have ZZ := hide (show z' = z by rw [HZ.out, HZ0.out, DT.out, if_neg hgr]; omega)
              clear hgr
              go_wp2_with fail
              go_roundw
              case rel => exact ⟨k + 1, by go_num, by omega, B7.out, by rw [← HZ.out, ZZ.out]; exact Q7.out⟩
              case measure => simp [intOf]; omega
          · obtain rfl : k = m := by omega
            clear hqk
            go_wp2_with fail
            go_roundw
            case rel => exact ⟨g + 1, by go_num, by omega, by omega, BK.out⟩
            case measure => simp [intOf]; omega
    · obtain rfl : g = 4 := by omega
      go_wp2_with fail
      go_ret
      exact ⟨rfl, B1.out.trans (hbr.mono B1.out.size)⟩
end Go.Proofs.YtaohdmaenplbpaaGreat

set_option linter.all false
namespace Go.Proofs.YtaohdmaenplbpaaGreat
open Go.RowKit Go.QK Quota Go.Maps Go.QM
set_option maxRecDepth 100000
/-! within (43). -/
def rgC (x : SE) : List Value := [.int .i64 x.e.low, .int .i64 x.e.high]
set_option maxHeartbeats 20000000 in
theorem within_st {lab : Nat → Nat} {T : Nat → Prop} {w : World} {sb lb : Nat} {vc ve : Value} {es fs : List SE} {H H0 : Helds} (hst : St lab T w sb lb vc ve es (ctrsOf fs) H) (ok : SOk es H0) (hlat : Lat es fs) (A : Nat → Int × Int) (hA : Ahead A es) (ra : Option Addr) (m c : Nat) (hh : Lies w ra (rowsC rgC es)) (hm : m = es.length) : Calls Tryz.prog 43 #[ptr sb, .agg (aheadA A), .slice ra m c] w fun r w' => r = .returned (.bool true) ∧ Below w.heap.size w w' := by
  obtain ⟨a1, c1, a2, c2, rfl, rfl⟩ := hst.form
  obtain ⟨n, hn⟩ : ∃ n, n = es.length := ⟨_, rfl⟩
  rw [← hn] at hst
  have n8 : n ≤ 8 := by rw [hn]; exact ok.few
  obtain rfl : m = n := by rw [hm, hn]
  have NE := hide hn
  obtain ⟨S0, hl⟩ := hst.lg
  have LOK := hide hl.ok
  have OK := hide ok
  have HH := hide hh
  have HLT := hide hlat
  have HA := hide hA
  have HS := hide hst
  have HL := hide hl
  clear ok hst hn hm hh hlat hA hl
  go_enter Tryz.func43, Tryz.ntmps43
  go_upto_region 1 with fail
  refine named (P := Code.wp _ _ _ _) ?_
  intro w1 hw1
  obtain ⟨ab, hab⟩ : ∃ z, z = w.heap.size := ⟨_, rfl⟩
  have A1 := hide (show Cells w1 ab (aheadC A) by rw [hw1, hab]; exact Cells.new _ _ _)
  have b1 : Below w.heap.size w w1 := by rw [hw1]; exact alloc_below _ _
  have B1 := hide b1
  have S1 := hide (HS.out.below b1)
  have L1 := hide (HL.out.below b1)
  have H1 := hide (HH.out.below b1)
  rw [← hab]
  clear hw1 hab b1 HS HL HH
  go_wp2_with fail
  go_loopw [7] (fun v wr => ∃ g : Nat, v = .int .i64 (g : Int) ∧ 1 ≤ g ∧ g ≤ 4 ∧ Below w1.heap.size w1 wr) (fun v _ => 5 - (intOf v).toNat)
  case atStart => exact ⟨1, rfl, Nat.le_refl _, by omega, Below.refl _ _⟩
  case round =>
    obtain ⟨g, rfl, hg1, hg4, hbr⟩ := hrel
    by_cases hg : g ≤ 3
    · have gi : I64 (g : Int) := by unfold I64; omega
      have KS := hide (fun (wz : World) (h : Below w1.heap.size w1 wz) => lg_sum (L1.out.below h) (g := (g : Int)) gi)
      have KW := hide (fun (wz : World) (h : Below w1.heap.size w1 wz) => lg_worst (L1.out.below h) (g := (g : Int)) gi)
      have f0 := ((S1.out.below hbr).box.get 0 _ rfl).1
      have BR := hide hbr
      obtain ⟨lt1, lt2, lt3⟩ := HLT.out.low (g : Int)
      cases hq : thereG (ctrsOf fs) (g : Int) with
      | false =>
        obtain ⟨z1, z2⟩ := sumA_not hq
        rw [z1, z2] at KS KW
        clear z1 z2 hq hbr lt1 lt2 lt3
        go_upto_region 5 with (go_at_call 36; refine (KS.out _ BR.out).mono ?_; rintro r w2 ⟨rfl, hb2⟩; have B2 := hide (BR.out.trans (hb2.mono BR.out.size)); clear f0 hb2)
        have f0 := ((S1.out.below B2.out).box.get 0 _ rfl).1
        go_upto_region 6 with (go_at_call 37; refine (KW.out _ B2.out).mono ?_; rintro r w3 ⟨rfl, hb3⟩; have B3 := hide (B2.out.trans (hb3.mono B2.out.size)); clear f0 hb3)
        refine named (P := Code.wp _ _ _ _) ?_
        intro w4 hw4
        have B4 := hide (show Below w1.heap.size w1 w4 by rw [hw4]; exact B3.out.alloc B3.out.size _)
        clear hw4 KS KW
        go_quiet (fail)
        go_wp2_with fail
        go_roundw
        case rel => exact ⟨g + 1, by go_num, by omega, by omega, below_drewN B4.out _⟩
        case measure => simp [intOf]; omega
      | true =>
        obtain ⟨z1, z2⟩ := sumA_there hq
        rw [z1, z2] at KS KW
        rw [lt3] at hq
        have ea := HA.out g hg1 hg hq
        have si := sumG_in (ctrsOf fs) (g : Int)
        obtain ⟨sv, hsv⟩ : ∃ z, z = sumG (ctrsOf fs) (g : Int) := ⟨_, rfl⟩
        obtain ⟨lv, hlv⟩ : ∃ z, z = lowG (ctrsOf fs) (g : Int) := ⟨_, rfl⟩
        obtain ⟨uv, huv⟩ : ∃ z, z = highG (ctrsOf fs) (g : Int) := ⟨_, rfl⟩
        rw [← hsv] at KS si
        rw [← hlv] at KW lt1 si
        rw [← huv] at KW lt2 si
        have AL := hide (show (A g).1 ≤ lv by rw [ea]; exact lt1)
        have AU := hide (show uv ≤ (A g).2 by rw [ea]; exact lt2)
        obtain ⟨al, hal⟩ : ∃ z, z = (A g).1 := ⟨_, rfl⟩
        obtain ⟨au, hau⟩ : ∃ z, z = (A g).2 := ⟨_, rfl⟩
        have AC := hide (fun wz (h : Below w1.heap.size w1 wz) => (show wz.cell? ⟨ab, g * 2, none⟩ = some (.int .i64 al) ∧ wz.cell? ⟨ab, g * 2 + 1, none⟩ = some (.int .i64 au) by rw [hal, hau]; exact ahead_at (A1.out.below h) hg))
        rw [← hal] at AL
        rw [← hau] at AU
        have d1 : decide (sv < al) = false := by rw [decide_eq_false_iff_not]; have := AL.out; omega
        have d2 : decide (au < sv) = false := by rw [decide_eq_false_iff_not]; have := AU.out; omega
        have d3 : decide (lv < al) = false := by rw [decide_eq_false_iff_not]; have := AL.out; omega
        have d4 : decide (au < uv) = false := by rw [decide_eq_false_iff_not]; have := AU.out; omega
        clear z1 z2 hq hbr lt1 lt2 lt3 ea si hsv hlv huv hal hau AL AU
        simp only at KS KW
        go_upto_region 5 with (go_at_call 36; refine (KS.out _ BR.out).mono ?_; rintro r w2 ⟨rfl, hb2⟩; have B2 := hide (BR.out.trans (hb2.mono BR.out.size)); clear f0 hb2)
        have f0 := ((S1.out.below B2.out).box.get 0 _ rfl).1
        go_upto_region 6 with (go_at_call 37; refine (KW.out _ B2.out).mono ?_; rintro r w3 ⟨rfl, hb3⟩; have B3 := hide (B2.out.trans (hb3.mono B2.out.size)); clear f0 hb3)
        refine named (P := Code.wp _ _ _ _) ?_
        intro w4 hw4
        obtain ⟨rb, hrb⟩ : ∃ z, z = w3.heap.size := ⟨_, rfl⟩
        have B4 := hide (show Below w1.heap.size w1 w4 by rw [hw4]; exact B3.out.alloc B3.out.size _)
        have R4 : Cells w4 rb [.int .i64 lv, .int .i64 uv] := by rw [hw4, hrb]; exact Cells.new _ _ _
        rw [← hrb]
        clear hw4 hrb KS KW
        obtain ⟨u0, u1⟩ := AC.out _ B4.out
        obtain ⟨r0, -⟩ := R4.get 0 _ rfl
        obtain ⟨r1, -⟩ := R4.get 1 _ rfl
        clear R4
        go_quiet (fail)
        go_wp2_with fail
        go_roundw
        case rel => exact ⟨g + 1, by go_num, by omega, by omega, below_drewN B4.out _⟩
        case measure => simp [intOf]; omega
    · obtain rfl : g = 4 := by omega
      have B2 := hide hbr
      clear hbr
      go_wp2_with fail
      go_loopw [12] (fun v wz => ∃ k : Nat, v = .int .i64 (k : Int) ∧ k ≤ m ∧ Below w1.heap.size w1 wz) (fun v _ => m + 1 - (intOf v).toNat)
      case atStart => exact ⟨0, rfl, Nat.zero_le _, B2.out⟩
      case round =>
        clear B2
        obtain ⟨k, rfl, hk, hbk⟩ := hrel
        have BK := hide hbk
        have g1 := ((S1.out.below hbk).box.get 1 _ rfl).1
        by_cases hkm : k < m
        · have hke : k < es.length := by rw [← NE.out]; exact hkm
          have hkf : k < fs.length := by rw [HLT.out.len]; exact hke
          obtain ⟨cb, co, eb, eo, rfl, rfl, sees⟩ := S1.out.see hke
          obtain ⟨li, -, ll, lu⟩ := HLT.out.get k hke hkf
          obtain ⟨rb0, ro0, rfl, -, -⟩ := H1.out.rowAt rgC 2 (fun _ => rfl) k hke (by decide)
          have RC := hide (fun wz (h : Below w1.heap.size w1 wz) => (show wz.cell? ⟨rb0, ro0 + k * 2, none⟩ = some (.int .i64 es[k].e.low) ∧ wz.cell? ⟨rb0, ro0 + k * 2 + 1, none⟩ = some (.int .i64 es[k].e.high) by
            obtain ⟨hb', ho', e, -, sel⟩ := (H1.out.below h).rowAt rgC 2 (fun _ => rfl) k hke (by decide)
            cases e
            exact ⟨sel 0 _ rfl, sel 1 _ rfl⟩))
          have XC := hide sees
          obtain ⟨hR1, hR2⟩ := read_at LOK.out.1.up hkf
          have KR := hide (fun (wz : World) (h : Below w1.heap.size w1 wz) => lg_read (L1.out.below h) (id := es[k].id) (by have := (OK.out.ids _ (List.getElem_mem hke)).1; unfold I64; omega))
          rw [← li, hR1, hR2] at KR
          rw [li] at KR
          clear sees hR1 hR2 li hbk
          obtain ⟨lo, hlo⟩ : ∃ z, z = fs[k].e.low := ⟨_, rfl⟩
          obtain ⟨hi', hhi⟩ : ∃ z, z = fs[k].e.high := ⟨_, rfl⟩
          obtain ⟨el, hel⟩ : ∃ z, z = es[k].e.low := ⟨_, rfl⟩
          obtain ⟨eu, heu⟩ : ∃ z, z = es[k].e.high := ⟨_, rfl⟩
          rw [← hlo, ← hhi] at KR
          rw [← hel, ← heu] at RC
          have d1 : decide (lo < el) = false := by rw [decide_eq_false_iff_not]; omega
          have d2 : decide (eu < hi') = false := by rw [decide_eq_false_iff_not]; omega
          generalize es[k] = x at *
          obtain ⟨id, grp, v0, xb, xm, e⟩ := x
          simp only at KR XC
          clear hlo hhi hel heu ll lu
          go_upto_region 11 with fail
          go_cut [13, 14] from 77 to 123 (fun p q w' => ∃ rb, p = ptr rb ∧ q = .int .i64 0 ∧ Cells w' rb [.int .i64 lo, .int .i64 hi'] ∧ Below w1.heap.size w1 w')
          case first =>
            refine wp_region_held_drew (S := fun wz => Below wr.heap.size wr wz) (by kernel_rfl) (Below.refl _ _).drew (fun hS => ?_)
            generalize wr.drew = y0 at *
            refine take_at 0 (some 87) (v := ?_) rfl rfl (by kernel_rfl) (by kernel_rfl) (by kernel_rfl) (fun _ _ _ h => h) ⟨by rfl, ?_⟩ hS ?_
            rotate_left
            · intro wz hSw; obtain ⟨m0, m1, m2, x0, x1, x2, x3, x4, xe⟩ := XC.out _ (BK.out.trans (hSw.mono BK.out.size)); go_simp; try rfl
            simp only [Act.put, List.setIfInBounds_toArray, List.set_cons_zero, List.set_cons_succ]
            refine take_at 1 (some 88) (v := ?_) rfl rfl (by kernel_rfl) (by kernel_rfl) (by kernel_rfl) (fun _ _ _ h => h) ⟨by rfl, ?_⟩ hS ?_
            rotate_left
            · intro wz hSw; obtain ⟨m0, m1, m2, x0, x1, x2, x3, x4, xe⟩ := XC.out _ (BK.out.trans (hSw.mono BK.out.size)); go_simp; try rfl
            simp only [Act.put, List.setIfInBounds_toArray, List.set_cons_zero, List.set_cons_succ]
            refine take_at 2 (some 89) (v := ?_) rfl rfl (by kernel_rfl) (by kernel_rfl) (by kernel_rfl) (fun _ _ _ h => h) ⟨by rfl, ?_⟩ hS ?_
            rotate_left
            · intro wz hSw; obtain ⟨m0, m1, m2, x0, x1, x2, x3, x4, xe⟩ := XC.out _ (BK.out.trans (hSw.mono BK.out.size)); go_simp; try rfl
            simp only [Act.put, List.setIfInBounds_toArray, List.set_cons_zero, List.set_cons_succ]
            refine take_at 3 (some 90) (v := ?_) rfl rfl (by kernel_rfl) (by kernel_rfl) (by kernel_rfl) (fun _ _ _ h => h) ⟨by rfl, ?_⟩ hS ?_
            rotate_left
            · intro wz hSw; obtain ⟨m0, m1, m2, x0, x1, x2, x3, x4, xe⟩ := XC.out _ (BK.out.trans (hSw.mono BK.out.size)); go_simp; try rfl
            simp only [Act.put, List.setIfInBounds_toArray, List.set_cons_zero, List.set_cons_succ]
            refine take_at 4 (some 91) (v := ?_) rfl rfl (by kernel_rfl) (by kernel_rfl) (by kernel_rfl) (fun _ _ _ h => h) ⟨by rfl, ?_⟩ hS ?_
            rotate_left
            · intro wz hSw; obtain ⟨m0, m1, m2, x0, x1, x2, x3, x4, xe⟩ := XC.out _ (BK.out.trans (hSw.mono BK.out.size)); go_simp; try rfl
            simp only [Act.put, List.setIfInBounds_toArray, List.set_cons_zero, List.set_cons_succ]
            refine take_at 5 (some 92) (v := ?_) rfl rfl (by kernel_rfl) (by kernel_rfl) (by kernel_rfl) (fun _ _ _ h => h) ⟨by rfl, ?_⟩ hS ?_
            rotate_left
            · intro wz hSw; obtain ⟨m0, m1, m2, x0, x1, x2, x3, x4, xe⟩ := XC.out _ (BK.out.trans (hSw.mono BK.out.size)); go_simp; try rfl
            simp only [Act.put, List.setIfInBounds_toArray, List.set_cons_zero, List.set_cons_succ]
            refine take_at 6 (some 93) (v := ?_) rfl rfl (by kernel_rfl) (by kernel_rfl) (by kernel_rfl) (fun _ _ _ h => h) ⟨by rfl, ?_⟩ hS ?_
            rotate_left
            · intro wz hSw; obtain ⟨m0, m1, m2, x0, x1, x2, x3, x4, xe⟩ := XC.out _ (BK.out.trans (hSw.mono BK.out.size)); go_simp; try rfl
            simp only [Act.put, List.setIfInBounds_toArray, List.set_cons_zero, List.set_cons_succ]
            refine take_at 7 (some 94) (v := ?_) rfl rfl (by kernel_rfl) (by kernel_rfl) (by kernel_rfl) (fun _ _ _ h => h) ⟨by rfl, ?_⟩ hS ?_
            rotate_left
            · intro wz hSw; obtain ⟨m0, m1, m2, x0, x1, x2, x3, x4, xe⟩ := XC.out _ (BK.out.trans (hSw.mono BK.out.size)); go_simp; try rfl
            simp only [Act.put, List.setIfInBounds_toArray, List.set_cons_zero, List.set_cons_succ]
            refine take_at 8 (some 95) (v := ?_) rfl rfl (by kernel_rfl) (by kernel_rfl) (by kernel_rfl) (fun _ _ _ h => h) ⟨by rfl, ?_⟩ hS ?_
            rotate_left
            · intro wz hSw; obtain ⟨m0, m1, m2, x0, x1, x2, x3, x4, xe⟩ := XC.out _ (BK.out.trans (hSw.mono BK.out.size)); go_simp; try rfl
            simp only [Act.put, List.setIfInBounds_toArray, List.set_cons_zero, List.set_cons_succ]
            refine take_at 9 (some 96) (v := ?_) rfl rfl (by kernel_rfl) (by kernel_rfl) (by kernel_rfl) (fun _ _ _ h => h) ⟨by rfl, ?_⟩ hS ?_
            rotate_left
            · intro wz hSw; obtain ⟨m0, m1, m2, x0, x1, x2, x3, x4, xe⟩ := XC.out _ (BK.out.trans (hSw.mono BK.out.size)); go_simp; try rfl
            simp only [Act.put, List.setIfInBounds_toArray, List.set_cons_zero, List.set_cons_succ]
            refine take_at 10 (some 97) (v := ?_) rfl rfl (by kernel_rfl) (by kernel_rfl) (by kernel_rfl) (fun _ _ _ h => h) ⟨by rfl, ?_⟩ hS ?_
            rotate_left
            · intro wz hSw; obtain ⟨m0, m1, m2, x0, x1, x2, x3, x4, xe⟩ := XC.out _ (BK.out.trans (hSw.mono BK.out.size)); go_simp; try rfl
            simp only [Act.put, List.setIfInBounds_toArray, List.set_cons_zero, List.set_cons_succ]
            refine take_at 11 (some 98) (v := ?_) rfl rfl (by kernel_rfl) (by kernel_rfl) (by kernel_rfl) (fun _ _ _ h => h) ⟨by rfl, ?_⟩ hS ?_
            rotate_left
            · intro wz hSw; obtain ⟨m0, m1, m2, x0, x1, x2, x3, x4, xe⟩ := XC.out _ (BK.out.trans (hSw.mono BK.out.size)); go_simp; try rfl
            simp only [Act.put, List.setIfInBounds_toArray, List.set_cons_zero, List.set_cons_succ]
            refine wpAnyH_ready (rs := [12, 16]) (by kernel_rfl) (by simp) ?_
            refine AllReadyH.cons rfl (fun K hK => ?_) (AllReadyH.cons rfl (fun K hK => ?_) AllReadyH.nil)
            · go_simp
              go_wp2_with fail
              refine (KR.out _ (BK.out.trans (hS.mono BK.out.size))).mono ?_
              rintro e x3 ⟨rfl, hh⟩
              have s_x3 : Below wr.heap.size wr x3 := hS.trans (hh.mono hS.size)
              clear hh hS
              go_wp2_with fail
              refine hK.out _ _ s_x3 (fun hS => ?_)
              clear hK K s_x3
              (try simp only [Act.put, List.setIfInBounds_toArray, List.set_cons_zero, List.set_cons_succ])
              refine take_at 13 (some 86) (v := ?_) rfl rfl (by kernel_rfl) (by kernel_rfl) (by kernel_rfl) (fun _ _ _ h => h) ⟨by rfl, ?_⟩ hS ?_
              rotate_left
              · intro wz hSw; go_simp; try rfl
              simp only [Act.put, List.setIfInBounds_toArray, List.set_cons_zero, List.set_cons_succ]
              refine take_at 14 (some 100) (v := ?_) rfl rfl (by kernel_rfl) (by kernel_rfl) (by kernel_rfl) (fun _ _ _ h => h) ⟨by rfl, ?_⟩ hS ?_
              rotate_left
              · intro wz hSw; go_simp; try rfl
              simp only [Act.put, List.setIfInBounds_toArray, List.set_cons_zero, List.set_cons_succ]
              refine take_at 15 (some 101) (v := ?_) rfl rfl (by kernel_rfl) (by kernel_rfl) (by kernel_rfl) (fun _ _ _ h => h) ⟨by rfl, ?_⟩ hS ?_
              rotate_left
              · intro wz hSw; go_simp; try rfl
              simp only [Act.put, List.setIfInBounds_toArray, List.set_cons_zero, List.set_cons_succ]
              refine wpAnyH_ready (rs := [16]) (by kernel_rfl) (by simp) ?_
              refine AllReadyH.cons rfl (fun K hK => ?_) AllReadyH.nil
              have LO := hide hS.size
              go_simp
              go_wp2_with fail
              refine hK.out _ _ (hS.alloc hS.size _) (fun hS => ?_)
              clear hK K
              (try simp only [Act.put, List.setIfInBounds_toArray, List.set_cons_zero, List.set_cons_succ])
              refine named (P := wpAnyH _ _ _ _ _ _ _ _) ?_
              intro xa hxa
              rw [← hxa] at hS
              obtain ⟨qb, hqb⟩ : ∃ qb, qb = x3.heap.size := ⟨_, rfl⟩
              have Z := hide (show Cells xa qb [.int .i64 0, .int .i64 0] by rw [hxa, hqb]; exact Cells.new _ _ _)
              have QB := hide (show wr.heap.size ≤ qb by rw [hqb]; exact LO.out)
              rw [← hqb]
              clear hxa hqb LO
              have K8 := hide (((Keep.refl (fun i => i = qb) xa).setCell (g := qb) (j := 0) (fun _ => rfl) (.int .i64 lo)).setCell (g := qb) (j := 1) (fun _ => rfl) (.int .i64 hi'))
              have C8 := hide ((Z.out.stored (j := 0) (by simp) (.int .i64 lo)).stored (j := 1) (by simp) (.int .i64 hi'))
              obtain ⟨y0, z0⟩ := Z.out.get 0 _ rfl
              obtain ⟨y1, z1⟩ := Z.out.get 1 _ rfl
              have S8 := hide (hS.trans (K8.out.below hS.size (fun i hi q => by have := QB.out; omega)))
              clear hS
              refine wpAnyH_ready (rs := [17]) (by kernel_rfl) (by simp) ?_
              refine AllReadyH.cons rfl (fun K hK => ?_) AllReadyH.nil
              go_simp
              go_wp2_with fail
              refine hK.out _ _ S8.out (fun hS => ?_)
              clear hK K
              (try simp only [Act.put, List.setIfInBounds_toArray, List.set_cons_zero, List.set_cons_succ])
              clear y0 z0 y1 z1
              refine take_at 18 (some 14) (v := ?_) rfl rfl (by kernel_rfl) (by kernel_rfl) (by kernel_rfl) (fun _ _ _ h => h) ⟨by rfl, ?_⟩ hS ?_
              rotate_left
              · intro wz hSw; go_simp; try rfl
              simp only [Act.put, List.setIfInBounds_toArray, List.set_cons_zero, List.set_cons_succ]
              refine wpAnyH_done (by kernel_rfl) ?_ _
              clear hS
              go_wp2_with fail
              go_meet
              exact ⟨qb, rfl, rfl, C8.out, BK.out.trans (S8.out.mono BK.out.size)⟩
            · have LO := hide hS.size
              go_simp
              go_wp2_with fail
              refine hK.out _ _ (hS.alloc hS.size _) (fun hS => ?_)
              clear hK K
              (try simp only [Act.put, List.setIfInBounds_toArray, List.set_cons_zero, List.set_cons_succ])
              refine named (P := wpAnyH _ _ _ _ _ _ _ _) ?_
              intro xa hxa
              rw [← hxa] at hS
              obtain ⟨qb, hqb⟩ : ∃ qb, qb = y0.heap.size := ⟨_, rfl⟩
              have Z := hide (show Cells xa qb [.int .i64 0, .int .i64 0] by rw [hxa, hqb]; exact Cells.new _ _ _)
              have QB := hide (show wr.heap.size ≤ qb by rw [hqb]; exact LO.out)
              rw [← hqb]
              clear hxa hqb LO
              refine wpAnyH_ready (rs := [12]) (by kernel_rfl) (by simp) ?_
              refine AllReadyH.cons rfl (fun K hK => ?_) AllReadyH.nil
              go_simp
              go_wp2_with fail
              refine (KR.out _ (BK.out.trans (hS.mono BK.out.size))).mono ?_
              rintro e x3 ⟨rfl, hh⟩
              have s_x3 : Below wr.heap.size wr x3 := hS.trans (hh.mono hS.size)
              have Z1 := hide (Z.out.below hh)
              clear Z
              have Z := Z1
              clear Z1
              clear hh hS
              go_wp2_with fail
              refine hK.out _ _ s_x3 (fun hS => ?_)
              clear hK K s_x3
              (try simp only [Act.put, List.setIfInBounds_toArray, List.set_cons_zero, List.set_cons_succ])
              refine take_at 13 (some 86) (v := ?_) rfl rfl (by kernel_rfl) (by kernel_rfl) (by kernel_rfl) (fun _ _ _ h => h) ⟨by rfl, ?_⟩ hS ?_
              rotate_left
              · intro wz hSw; go_simp; try rfl
              simp only [Act.put, List.setIfInBounds_toArray, List.set_cons_zero, List.set_cons_succ]
              refine take_at 14 (some 100) (v := ?_) rfl rfl (by kernel_rfl) (by kernel_rfl) (by kernel_rfl) (fun _ _ _ h => h) ⟨by rfl, ?_⟩ hS ?_
              rotate_left
              · intro wz hSw; go_simp; try rfl
              simp only [Act.put, List.setIfInBounds_toArray, List.set_cons_zero, List.set_cons_succ]
              refine take_at 15 (some 101) (v := ?_) rfl rfl (by kernel_rfl) (by kernel_rfl) (by kernel_rfl) (fun _ _ _ h => h) ⟨by rfl, ?_⟩ hS ?_
              rotate_left
              · intro wz hSw; go_simp; try rfl
              simp only [Act.put, List.setIfInBounds_toArray, List.set_cons_zero, List.set_cons_succ]
              have K8 := hide (((Keep.refl (fun i => i = qb) x3).setCell (g := qb) (j := 0) (fun _ => rfl) (.int .i64 lo)).setCell (g := qb) (j := 1) (fun _ => rfl) (.int .i64 hi'))
              have C8 := hide ((Z.out.stored (j := 0) (by simp) (.int .i64 lo)).stored (j := 1) (by simp) (.int .i64 hi'))
              obtain ⟨y0, z0⟩ := Z.out.get 0 _ rfl
              obtain ⟨y1, z1⟩ := Z.out.get 1 _ rfl
              have S8 := hide (hS.trans (K8.out.below hS.size (fun i hi q => by have := QB.out; omega)))
              clear hS
              refine wpAnyH_ready (rs := [17]) (by kernel_rfl) (by simp) ?_
              refine AllReadyH.cons rfl (fun K hK => ?_) AllReadyH.nil
              go_simp
              go_wp2_with fail
              refine hK.out _ _ S8.out (fun hS => ?_)
              clear hK K
              (try simp only [Act.put, List.setIfInBounds_toArray, List.set_cons_zero, List.set_cons_succ])
              clear y0 z0 y1 z1
              refine take_at 18 (some 14) (v := ?_) rfl rfl (by kernel_rfl) (by kernel_rfl) (by kernel_rfl) (fun _ _ _ h => h) ⟨by rfl, ?_⟩ hS ?_
              rotate_left
              · intro wz hSw; go_simp; try rfl
              simp only [Act.put, List.setIfInBounds_toArray, List.set_cons_zero, List.set_cons_succ]
              refine wpAnyH_done (by kernel_rfl) ?_ _
              clear hS
              go_wp2_with fail
              go_meet
              exact ⟨qb, rfl, rfl, C8.out, BK.out.trans (S8.out.mono BK.out.size)⟩
          case rest =>
            obtain ⟨rb, rfl, rfl, hrb, hb4⟩ := hcut
            obtain ⟨u0, u1⟩ := RC.out _ hb4
            obtain ⟨r0, -⟩ := hrb.get 0 _ rfl
            obtain ⟨r1, -⟩ := hrb.get 1 _ rfl
            have B4 := hide hb4
            clear hrb hb4
            go_upto_region 12 with fail
            go_quiet (fail)
            go_wp2_with fail
            go_roundw
            case rel => exact ⟨k + 1, by go_num, by omega, below_drewN B4.out _⟩
            case measure => simp [intOf]; omega
        · obtain rfl : k = m := by omega
          go_wp2_with fail
          go_ret
          exact ⟨rfl, B1.out.trans (BK.out.mono B1.out.size)⟩
end Go.Proofs.YtaohdmaenplbpaaGreat

set_option linter.all false
namespace Go.Proofs.YtaohdmaenplbpaaGreat
open Go.RowKit Go.QK Quota Go.Maps Go.QM
set_option maxRecDepth 100000
/-! LedgerEnds: what lies beside the store. -/
theorem row_pos2 {w : World} {B n e : Nat} {v : Value} {xs : List Value} (h : GRow w B e 2 v n xs) (hn : 0 < n) : ∃ g cap, v = .slice (some ⟨g, 0, none⟩) n cap ∧ B ≤ g ∧ g < w.heap.size := by
  obtain ⟨a, c, ea, hl, h1, h2, -⟩ := GRow.lies h
  have hlt := World.ownsRow.lt h
  rcases h.2 with ⟨_, q⟩ | ⟨g, cap, cur, q, _⟩
  · omega
  · rw [q] at ea
    cases ea
    exact ⟨g, c, q, (hlt g (by rw [q]; rfl)).1, (hlt g (by rw [q]; rfl)).2⟩
theorem rows_set2 (L : List Int) (r : Nat) (y : Int) (hr : r < L.length) : ((rowsC wdC L).set (r * 2) (.int .i64 (wh y))).set (r * 2 + 1) (.int .i64 (wl y)) = rowsC wdC (L.set r y) := by
  induction L generalizing r with
  | nil => simp at hr
  | cons x l ih =>
    have e : ∀ z : Int, ∀ l : List Int, rowsC wdC (z :: l) = .int .i64 (wh z) :: .int .i64 (wl z) :: rowsC wdC l := fun z l => rfl
    cases r with
    | zero => simp [e]
    | succ r =>
      have := ih r (by simpa using hr)
      rw [e, show (r + 1) * 2 = r * 2 + 1 + 1 by omega]
      simp only [List.set_cons_succ]
      rw [this, e]
theorem row_set2 {w : World} {B e g n c : Nat} {L : List Int} {r : Nat} (h : GRow w B e 2 (.slice (some ⟨g, 0, none⟩) n c) n (rowsC wdC L)) (hr : r < L.length) (y : Int) :
    GRow ((w.setCell ⟨g, r * 2, none⟩ (.int .i64 (wh y))).setCell ⟨g, r * 2 + 1, none⟩ (.int .i64 (wl y))) B e 2 (.slice (some ⟨g, 0, none⟩) n c) n (rowsC wdC (L.set r y)) := by
  have h1 := (World.ownsRow.stored h (r * 2) (.int .i64 (wh y))).1
  have h2 := (World.ownsRow.stored h1 (r * 2 + 1) (.int .i64 (wl y))).1
  rw [rows_set2 L r y hr] at h2
  exact h2
structure Ends (w wr : World) (sb ab : Nat) (rv wv : Value) (A : Nat → Int × Int) (T : Nat → Prop) (es fs : List SE) (ws : List Int) (H : Helds) : Prop where
  st : ∃ lab lb vc ve, St lab T wr sb lb vc ve es (ctrsOf fs) H
  low : ∀ z, T z → w.heap.size ≤ z
  bel : Below w.heap.size w wr
  lat : Lat es fs
  ac : Cells wr ab (aheadC A)
  rr : GRow wr w.heap.size 38 2 rv es.length (rowsC rgC es)
  ww : GRow wr w.heap.size 59 2 wv es.length (rowsC wdC ws)
  na : ¬ T ab
  nr : ∀ g, rv.ownBlock = some g → ¬ T g ∧ g ≠ ab
  nw : ∀ g, wv.ownBlock = some g → ¬ T g ∧ g ≠ ab ∧ rv.ownBlock ≠ some g
theorem Ends.below {w wr wz : World} {sb ab : Nat} {rv wv : Value} {A : Nat → Int × Int} {T : Nat → Prop} {es fs : List SE} {ws : List Int} {H : Helds} (h : Ends w wr sb ab rv wv A T es fs ws H) (k : Below wr.heap.size wr wz) : Ends w wz sb ab rv wv A T es fs ws H := by
  obtain ⟨lab, lb, vc, ve, hs⟩ := h.st
  exact ⟨⟨lab, lb, vc, ve, hs.below k⟩, h.low, h.bel.trans (k.mono h.bel.size), h.lat, h.ac.below k, GRow.below h.rr k, GRow.below h.ww k, h.na, h.nr, h.nw⟩
/-- A call that changes the ledger. -/
theorem Ends.ledger {w wr : World} {sb ab : Nat} {rv wv : Value} {A : Nat → Int × Int} {T : Nat → Prop} {es fs : List SE} {ws : List Int} {H : Helds} (h : Ends w wr sb ab rv wv A T es fs ws H) : ∃ lb S, LG S wr lb (ctrsOf fs) H ∧ wr.cell? ⟨sb, 0, none⟩ = some (ptr lb) ∧ ∀ w' fs' H', Lat es fs' → Left S wr w' lb (ctrsOf fs') H' → ∃ T', Ends w w' sb ab rv wv A T' es fs' ws H' := by
  obtain ⟨lab, lb, vc, ve, hs⟩ := h.st
  obtain ⟨S, hl, hnx⟩ := hs.ledger
  refine ⟨lb, S, hl, (hs.box.get 0 _ rfl).1, fun w' fs' H' hlat hL => ?_⟩
  obtain ⟨lab', T', hs', hg⟩ := hnx _ _ _ hL
  obtain ⟨b1, b2⟩ := hg.below h.bel.size h.low
  have ha := h.ac.1
  have hr := World.ownsRow.lt h.rr
  have hw := World.ownsRow.lt h.ww
  have off : ∀ z, z < wr.heap.size → ¬ T z → ¬ T' z := fun z hz q q' => by
    rcases hg.n z q' with p | p
    · exact q p
    · omega
  exact ⟨T', ⟨lab', lb, vc, ve, hs'⟩, b2, h.bel.trans b1, hlat, h.ac.keep hg.k h.na, GRow.keep h.rr hg.k (fun g q => (h.nr g q).1), GRow.keep h.ww hg.k (fun g q => (h.nw g q).1), off _ ha h.na, fun g q => ⟨off _ (hr g q).2 (h.nr g q).1, (h.nr g q).2⟩, fun g q => ⟨off _ (hw g q).2 (h.nw g q).1, (h.nw g q).2⟩⟩
/-- One of what is wanted is stored. -/
theorem Ends.want {w wr : World} {sb ab g n c : Nat} {rv : Value} {A : Nat → Int × Int} {T : Nat → Prop} {es fs : List SE} {ws : List Int} {H : Helds} (h : Ends w wr sb ab rv (.slice (some ⟨g, 0, none⟩) n c) A T es fs ws H) (hn : n = es.length) {r : Nat} (hr : r < ws.length) (y : Int) :
    Ends w ((wr.setCell ⟨g, r * 2, none⟩ (.int .i64 (wh y))).setCell ⟨g, r * 2 + 1, none⟩ (.int .i64 (wl y))) sb ab rv (.slice (some ⟨g, 0, none⟩) n c) A T es fs (ws.set r y) H ∧ Keep (fun z => z = g) wr ((wr.setCell ⟨g, r * 2, none⟩ (.int .i64 (wh y))).setCell ⟨g, r * 2 + 1, none⟩ (.int .i64 (wl y))) := by
  have k := ((Keep.refl (fun z => z = g) wr).setCell (g := g) (j := r * 2) (fun _ => rfl) (.int .i64 (wh y))).setCell (g := g) (j := r * 2 + 1) (fun _ => rfl) (.int .i64 (wl y))
  obtain ⟨n1, n2, n3⟩ := h.nw g rfl
  have hw := World.ownsRow.lt h.ww g rfl
  obtain ⟨lab, lb, vc, ve, hs⟩ := h.st
  have ww := h.ww
  rw [← hn] at ww
  have ww' := row_set2 ww hr y
  rw [hn] at ww'
  refine ⟨⟨⟨lab, lb, vc, ve, hs.keep k (fun z hz q => n1 (by rw [← q]; exact hz))⟩, h.low, h.bel.trans (k.below h.bel.size (fun z hz q => by omega)), h.lat, h.ac.keep k (fun q => n2 q.symm), GRow.keep h.rr k (fun z hz q => n3 (by rw [← q]; exact hz)), by rw [hn]; exact ww', h.na, h.nr, h.nw⟩, k⟩
theorem Ends.ok {w wr : World} {sb ab : Nat} {rv wv : Value} {A : Nat → Int × Int} {T : Nat → Prop} {es fs : List SE} {ws : List Int} {H : Helds} (h : Ends w wr sb ab rv wv A T es fs ws H) : LOk (ctrsOf fs) ∧ HOk (ctrsOf fs) H := by
  obtain ⟨lab, lb, vc, ve, hs⟩ := h.st
  obtain ⟨S, hl⟩ := hs.lg
  exact hl.ok
theorem Ends.eok {w wr : World} {sb ab : Nat} {rv wv : Value} {A : Nat → Int × Int} {T : Nat → Prop} {es fs : List SE} {ws : List Int} {H : Helds} (h : Ends w wr sb ab rv wv A T es fs ws H) : ∀ x ∈ fs, x.e.Ok := fun x hx => h.ok.1.all _ (List.mem_map_of_mem hx)
/-- The wanted ones behind one holding more. -/
theorem wnt_set {es fs : List SE} (hlat : Lat es fs) (hu : Up (ctrsOf fs)) (t : Int) {k i : Nat} (hk : k < (hldr t fs).length) (hi : i < fs.length) (hid : fs[i] = (hldr t fs)[k]) : fs.map (wnt true t ((hldr t fs).take (k + 1))) = (fs.map (wnt true t ((hldr t fs).take k))).set i (wnt true t ((hldr t fs).take k) fs[i] + netV (hldr t fs)[k].e.nets t) := by
  refine List.ext_getElem (by simp) (fun j h1 h2 => ?_)
  have hj : j < fs.length := by simpa using h1
  rw [List.getElem_map, List.getElem_set]
  split
  · rename_i e
    subst e
    rw [wnt_next t hk (by rw [hid]) ((ids_nodup hu).sublist (List.Sublist.map _ List.filter_sublist)), hid]
  · rename_i e
    rw [List.getElem_map]
    exact wnt_same true t hk (fun q => e (id_inj hu hi hj (by rw [hid, q])))
theorem wnt_base (s : Bool) (t : Int) (fs : List SE) : fs.map (wnt s t []) = fs.map (fun x => x.e.base) := List.map_congr_left (fun x _ => wnt_nil s t x)
theorem wnt_off2 (t : Int) (l : List SE) (fs : List SE) : fs.map (wnt false t l) = fs.map (fun x => x.e.base) := List.map_congr_left (fun x _ => wnt_off t l x)
theorem wnt_end {fs : List SE} (hu : Up (ctrsOf fs)) (s : Bool) (t : Int) : fs.map (wnt s t (hldr t fs)) = (endF s t fs).map (fun x => x.e.base) := by
  unfold endF
  rw [List.map_map]
  exact List.map_congr_left (fun x hx => wnt_all hu s t hx)
theorem ahead_set {A : Nat → Int × Int} {g : Nat} (h1 : 1 ≤ g) (h3 : g ≤ 3) (a b : Int) : ((aheadC A).set (g * 2) (.int .i64 a)).set (g * 2 + 1) (.int .i64 b) = aheadC (fun j => if j = g then (a, b) else A j) := by
  obtain rfl | rfl | rfl : g = 1 ∨ g = 2 ∨ g = 3 := by omega
  · rfl
  · rfl
  · rfl
end Go.Proofs.YtaohdmaenplbpaaGreat
