import Derived.Test.YtimakfnlcgedkaaRg10
namespace Go.Proofs.Ytimakfnlcgedkaa
open Go.RowKit Go.QK Go.Maps Go.QM Go.QR
set_option maxRecDepth 100000
theorem num_eq (e : Int) (w : World) : Calls Try.prog 10 #[.int .i64 e] w fun r w' => r = .returned (.int .i64 e) ∧ w = w' := (num_any e w).mono (fun _ _ h => ⟨h.1, h.2.symm⟩)
/-! A registry that has taken these, one behind the other. -/
def build (P : Nat) (own : List (Int × Int)) : Reg := own.foldl (fun r p => r.more p.1 p.2) ⟨P, [], []⟩
theorem build_snoc (P : Nat) (own : List (Int × Int)) (p : Int × Int) : build P (own ++ [p]) = (build P own).more p.1 p.2 := by unfold build; rw [List.foldl_append]; rfl
theorem build_C (P : Nat) (own : List (Int × Int)) : (build P own).C = own ∧ (build P own).P = P := by
  obtain ⟨l, hl⟩ : ∃ l, l = own.reverse := ⟨_, rfl⟩
  have e : own = l.reverse := by rw [hl, List.reverse_reverse]
  rw [e]
  clear hl e
  induction l with
  | nil => exact ⟨rfl, rfl⟩
  | cons p r ih =>
    rw [List.reverse_cons, build_snoc]
    exact ⟨by show (build P r.reverse).C ++ [(p.1, p.2)] = _; rw [ih.1], ih.2⟩
structure Hist (P : Nat) (own : List (Int × Int)) (wh su : List SlotN) : Prop where
  l1 : wh.length = own.length
  l2 : su.length = own.length
  each : ∀ i p, own[i]? = some p → (build P (own.take i)).planE p.1 p.2 = 0 ∧ wh[i]? = some ((build P (own.take i)).planW p.1 p.2) ∧ su[i]? = some ((build P (own.take i)).planS p.1 p.2)
theorem Hist.nil (P : Nat) : Hist P [] [] [] := ⟨rfl, rfl, fun i p h => by simp at h⟩
theorem Hist.push {P : Nat} {own : List (Int × Int)} {wh su : List SlotN} (h : Hist P own wh su) {p : Int × Int} (hz : (build P own).planE p.1 p.2 = 0) :
    Hist P (own ++ [p]) (wh ++ [(build P own).planW p.1 p.2]) (su ++ [(build P own).planS p.1 p.2]) := by
  refine ⟨by simp [h.l1], by simp [h.l2], fun i q hq => ?_⟩
  have hi := (List.getElem?_eq_some_iff.1 hq).1
  simp at hi
  by_cases hl : i < own.length
  · rw [List.getElem?_append_left hl] at hq
    have := h.each i q hq
    rw [List.take_append_of_le_length (by omega), List.getElem?_append_left (by rw [h.l1]; exact hl), List.getElem?_append_left (by rw [h.l2]; exact hl)]
    exact this
  · obtain rfl : i = own.length := by omega
    rw [List.getElem?_append_right (Nat.le_refl _)] at hq
    simp at hq
    subst hq
    rw [List.take_left' rfl, List.getElem?_append_right (by rw [h.l1]; exact Nat.le_refl _), List.getElem?_append_right (by rw [h.l2]; exact Nat.le_refl _)]
    refine ⟨hz, ?_, ?_⟩
    · simp [h.l1]
    · simp [h.l2]

abbrev c2 (p : Int × Int) : List Value := [.int .i64 p.1, .int .i64 p.2]
structure Tk (w : World) (B b m g : Nat) (r : Reg) (v1 v2 v3 : Value) (own wh su : List (Int × Int)) : Prop where
  pr : PR w b m g r
  r1 : GRow w B 44 2 v1 own.length (rowsC c2 own)
  r2 : GRow w B 30 2 v2 wh.length (rowsC c2 wh)
  r3 : GRow w B 30 2 v3 su.length (rowsC c2 su)
  a12 : ∀ x, v1.ownBlock = some x → v2.ownBlock ≠ some x
  a13 : ∀ x, v1.ownBlock = some x → v3.ownBlock ≠ some x
  a23 : ∀ x, v2.ownBlock = some x → v3.ownBlock ≠ some x
  o1 : ∀ x, v1.ownBlock = some x → x ≠ b ∧ x ≠ m ∧ x ≠ g
  o2 : ∀ x, v2.ownBlock = some x → x ≠ b ∧ x ≠ m ∧ x ≠ g
  o3 : ∀ x, v3.ownBlock = some x → x ≠ b ∧ x ≠ m ∧ x ≠ g
  low : B ≤ b ∧ B ≤ m ∧ B ≤ g
theorem Tk.below {w w' : World} {B b m g : Nat} {r : Reg} {v1 v2 v3 : Value} {own wh su : List (Int × Int)} (h : Tk w B b m g r v1 v2 v3 own wh su) (hb : Below w.heap.size w w') : Tk w' B b m g r v1 v2 v3 own wh su :=
  ⟨h.pr.below hb, GRow.below h.r1 hb, GRow.below h.r2 hb, GRow.below h.r3 hb, h.a12, h.a13, h.a23, h.o1, h.o2, h.o3, h.low⟩
theorem Tk.took {w w' : World} {B b m g : Nat} {r r' : Reg} {v1 v2 v3 : Value} {own wh su : List (Int × Int)} (h : Tk w B b m g r v1 v2 v3 own wh su) (hp : PR w' b m g r') (hk : Keep (fun z => z = m ∨ z = g) w w') : Tk w' B b m g r' v1 v2 v3 own wh su :=
  ⟨hp, GRow.keep h.r1 hk (fun x hx q => by have := h.o1 x hx; omega), GRow.keep h.r2 hk (fun x hx q => by have := h.o2 x hx; omega), GRow.keep h.r3 hk (fun x hx q => by have := h.o3 x hx; omega), h.a12, h.a13, h.a23, h.o1, h.o2, h.o3, h.low⟩
theorem own_lt {w : World} {B e sz n : Nat} {v : Value} {xs : List Value} (h : GRow w B e sz v n xs) {x : Nat} (hx : v.ownBlock = some x) : x < w.heap.size := (World.ownsRow.lt h x hx).2
theorem grown_keep {w w' : World} {v : Value} (h : w.grownBy w' v.ownBlock) : Keep (fun z => v.ownBlock = some z) w w' := (Keep.refl _ w).grown h (fun _ hg _ => hg)
theorem Tk.push1 {w w' : World} {B b m g : Nat} {r : Reg} {v1 v2 v3 v' : Value} {own wh su : List (Int × Int)} (h : Tk w B b m g r v1 v2 v3 own wh su) {p : Int × Int} (hr : GRow w' B 44 2 v' (own.length + 1) (rowsC c2 own ++ c2 p)) (hg : w.grownBy w' v1.ownBlock) (hn : v'.ownBlock = v1.ownBlock ∨ v'.ownBlock = some w.heap.size) :
    Tk w' B b m g r v' v2 v3 (own ++ [p]) wh su := by
  have hk := grown_keep hg
  have hlt := h.pr.lt
  have l2 := fun x (hx : v2.ownBlock = some x) => own_lt h.r2 hx
  have l3 := fun x (hx : v3.ownBlock = some x) => own_lt h.r3 hx
  refine ⟨h.pr.keep hk (fun q => (h.o1 _ q).1 rfl) (fun q => (h.o1 _ q).2.1 rfl) (fun q => (h.o1 _ q).2.2 rfl), by simpa [rowsC] using hr, GRow.keep h.r2 hk (fun x hx q => h.a12 x q hx), GRow.keep h.r3 hk (fun x hx q => h.a13 x q hx), ?_, ?_, h.a23, ?_, h.o2, h.o3, h.low⟩
  · intro x hx q
    rcases hn with e | e
    · rw [e] at hx; exact h.a12 x hx q
    · rw [e] at hx; cases hx; have := l2 _ q; omega
  · intro x hx q
    rcases hn with e | e
    · rw [e] at hx; exact h.a13 x hx q
    · rw [e] at hx; cases hx; have := l3 _ q; omega
  · intro x hx
    rcases hn with e | e
    · rw [e] at hx; exact h.o1 x hx
    · rw [e] at hx; cases hx; omega
theorem Tk.push2 {w w' : World} {B b m g : Nat} {r : Reg} {v1 v2 v3 v' : Value} {own wh su : List (Int × Int)} (h : Tk w B b m g r v1 v2 v3 own wh su) {p : Int × Int} (hr : GRow w' B 30 2 v' (wh.length + 1) (rowsC c2 wh ++ c2 p)) (hg : w.grownBy w' v2.ownBlock) (hn : v'.ownBlock = v2.ownBlock ∨ v'.ownBlock = some w.heap.size) :
    Tk w' B b m g r v1 v' v3 own (wh ++ [p]) su := by
  have hk := grown_keep hg
  have hlt := h.pr.lt
  have l1 := fun x (hx : v1.ownBlock = some x) => own_lt h.r1 hx
  have l3 := fun x (hx : v3.ownBlock = some x) => own_lt h.r3 hx
  refine ⟨h.pr.keep hk (fun q => (h.o2 _ q).1 rfl) (fun q => (h.o2 _ q).2.1 rfl) (fun q => (h.o2 _ q).2.2 rfl), GRow.keep h.r1 hk (fun x hx q => h.a12 x hx q), by simpa [rowsC] using hr, GRow.keep h.r3 hk (fun x hx q => h.a23 x q hx), ?_, h.a13, ?_, h.o1, ?_, h.o3, h.low⟩
  · intro x hx q
    rcases hn with e | e
    · rw [e] at q; exact h.a12 x hx q
    · rw [e] at q; cases q; have := l1 _ hx; omega
  · intro x hx q
    rcases hn with e | e
    · rw [e] at hx; exact h.a23 x hx q
    · rw [e] at hx; cases hx; have := l3 _ q; omega
  · intro x hx
    rcases hn with e | e
    · rw [e] at hx; exact h.o2 x hx
    · rw [e] at hx; cases hx; omega
theorem Tk.push3 {w w' : World} {B b m g : Nat} {r : Reg} {v1 v2 v3 v' : Value} {own wh su : List (Int × Int)} (h : Tk w B b m g r v1 v2 v3 own wh su) {p : Int × Int} (hr : GRow w' B 30 2 v' (su.length + 1) (rowsC c2 su ++ c2 p)) (hg : w.grownBy w' v3.ownBlock) (hn : v'.ownBlock = v3.ownBlock ∨ v'.ownBlock = some w.heap.size) :
    Tk w' B b m g r v1 v2 v' own wh (su ++ [p]) := by
  have hk := grown_keep hg
  have hlt := h.pr.lt
  have l1 := fun x (hx : v1.ownBlock = some x) => own_lt h.r1 hx
  have l2 := fun x (hx : v2.ownBlock = some x) => own_lt h.r2 hx
  refine ⟨h.pr.keep hk (fun q => (h.o3 _ q).1 rfl) (fun q => (h.o3 _ q).2.1 rfl) (fun q => (h.o3 _ q).2.2 rfl), GRow.keep h.r1 hk (fun x hx q => h.a13 x hx q), GRow.keep h.r2 hk (fun x hx q => h.a23 x hx q), by simpa [rowsC] using hr, h.a12, ?_, ?_, h.o1, h.o2, ?_, h.low⟩
  · intro x hx q
    rcases hn with e | e
    · rw [e] at q; exact h.a13 x hx q
    · rw [e] at q; cases q; have := l1 _ hx; omega
  · intro x hx q
    rcases hn with e | e
    · rw [e] at q; exact h.a23 x hx q
    · rw [e] at q; cases q; have := l2 _ hx; omega
  · intro x hx
    rcases hn with e | e
    · rw [e] at hx; exact h.o3 x hx
    · rw [e] at hx; cases hx; omega
def Under (F b m g : Nat) (v1 v2 v3 : Value) : Prop := (b < F ∧ m < F ∧ g < F) ∧ (∀ x, v1.ownBlock = some x → x < F) ∧ (∀ x, v2.ownBlock = some x → x < F) ∧ (∀ x, v3.ownBlock = some x → x < F)
theorem Tk.under {w : World} {B b m g : Nat} {r : Reg} {v1 v2 v3 : Value} {own wh su : List (Int × Int)} (h : Tk w B b m g r v1 v2 v3 own wh su) : Under w.heap.size b m g v1 v2 v3 :=
  ⟨h.pr.lt, fun _ hx => own_lt h.r1 hx, fun _ hx => own_lt h.r2 hx, fun _ hx => own_lt h.r3 hx⟩
theorem info44 : (Try.prog.info? 44).map (fun i => (i.zero, i.size, i.bytes)) = some (some (.agg #[.int .i64 0, .int .i64 0]), 2, 16) := by kernel_rfl
theorem info30 : (Try.prog.info? 30).map (fun i => (i.zero, i.size, i.bytes)) = some (some (.agg #[.int .i64 0, .int .i64 0]), 2, 16) := by kernel_rfl
theorem lies_new (w : World) (p : Int × Int) (t : TypeId) : Lies (w.alloc (.cells #[.int .i64 p.1, .int .i64 p.2] t)) (some ⟨w.heap.size, 0, none⟩) (c2 p) := by
  have h := Cells.new w #[.int .i64 p.1, .int .i64 p.2] t
  refine .inr ⟨w.heap.size, 0, rfl, h.1, fun i hi => ?_⟩
  have q := (h.2 i (by simpa using hi)).1
  rw [Nat.zero_add]
  exact q
end Go.Proofs.Ytimakfnlcgedkaa
