import Derived.Test.YtimakfnlcgedkaaRg12
namespace Go.Proofs.Ytimakfnlcgedkaa
open Go.RowKit Go.QK Go.Maps Go.QM Go.QR
set_option maxRecDepth 100000
theorem gslot_stays {r : Reg} {c d x : Int} {s : SlotN} (h : r.gslot x = some s) : (r.more c d).gslot x = some s := by
  rw [gslot_more]
  split
  · rename_i e
    subst e
    unfold Reg.gslot at h
    unfold Reg.gAt
    cases hp : place r.G x with
    | none => rw [hp] at h; cases h
    | some k => rw [hp] at h; simpa using h
  · exact h
theorem entry_stays {r : Reg} {c d x : Int} {e : SlotN × Int} (hz : r.planE c d = 0) (h : r.entry x = some e) : (r.more c d).entry x = some e := by
  rw [entry_more hz]
  split
  · rename_i q
    subst q
    have := (planE_zero hz).2.1
    unfold Reg.entry at h
    rw [this] at h
    cases h
  · exact h
theorem take_next {own : List (Int × Int)} {i : Nat} {p : Int × Int} (h : own[i]? = some p) : own.take (i + 1) = own.take i ++ [p] := by
  obtain ⟨hi, e⟩ := List.getElem?_eq_some_iff.1 h
  rw [List.take_succ_eq_append_getElem hi, e]
theorem Hist.next {P : Nat} {own : List (Int × Int)} {wh su : List SlotN} (_h : Hist P own wh su) {i : Nat} {p : Int × Int} (hp : own[i]? = some p) : build P (own.take (i + 1)) = (build P (own.take i)).more p.1 p.2 := by
  rw [take_next hp, build_snoc]
theorem Hist.ok {P : Nat} {own : List (Int × Int)} {wh su : List SlotN} (h : Hist P own wh su) (h1 : 2 ≤ P) (h2 : P ≤ 64) (i : Nat) : (build P (own.take i)).Ok := by
  induction i with
  | zero => exact Reg.Ok.new h1 h2
  | succ i ih =>
    cases hp : own[i]? with
    | none =>
      have : own.length ≤ i := by simpa using hp
      rw [List.take_of_length_le (by omega)]
      rw [List.take_of_length_le (by omega)] at ih
      exact ih
    | some p =>
      rw [h.next hp]
      exact ih.more (h.each i p hp).1
theorem Hist.stays {P : Nat} {own : List (Int × Int)} {wh su : List SlotN} (h : Hist P own wh su) {i : Nat} (j : Nat) {x : Int} :
    (∀ s, (build P (own.take i)).gslot x = some s → (build P (own.take (i + j))).gslot x = some s) ∧ (∀ e, (build P (own.take i)).entry x = some e → (build P (own.take (i + j))).entry x = some e) := by
  induction j with
  | zero => exact ⟨fun _ h => h, fun _ h => h⟩
  | succ j ih =>
    cases hp : own[i + j]? with
    | none =>
      have : own.length ≤ i + j := by simpa using hp
      rw [List.take_of_length_le (show own.length ≤ i + (j + 1) by omega)]
      rw [List.take_of_length_le (show own.length ≤ i + j by omega)] at ih
      exact ih
    | some p =>
      rw [show i + (j + 1) = i + j + 1 by omega, h.next hp]
      exact ⟨fun s q => gslot_stays (ih.1 s q), fun e q => entry_stays (h.each _ p hp).1 (ih.2 e q)⟩
theorem take_len (P : Nat) {own : List (Int × Int)} {i : Nat} (hi : i ≤ own.length) : (build P (own.take i)).C.length = i := by
  rw [(build_C P (own.take i)).1]
  simp
  omega
/-- What the lists tell of the i-th. -/
theorem Hist.at {P : Nat} {own : List (Int × Int)} {wh su : List SlotN} (h : Hist P own wh su) {i : Nat} {p : Int × Int} (hp : own[i]? = some p) :
    wh[i]? = some (low i) ∧ su[i]? = some (high P ((build P (own.take i)).gAt p.2)) := by
  obtain ⟨h0, h1, h2⟩ := h.each i p hp
  obtain ⟨p1, p2, p3⟩ := planE_zero h0
  obtain ⟨q1, q2, q3⟩ := planE_ok p1 p2 p3
  rw [h1, h2, q2, q3, (build_C P (own.take i)).2, take_len P (by have := (List.getElem?_eq_some_iff.1 hp).1; omega)]
  exact ⟨rfl, rfl⟩
/-- What the registry tells of it in the end. -/
theorem Hist.tells {P : Nat} {own : List (Int × Int)} {wh su : List SlotN} (h : Hist P own wh su) {i : Nat} {p : Int × Int} (hp : own[i]? = some p) :
    (build P own).entry p.1 = some (low i, p.2) ∧ (build P own).gslot p.2 = some (high P ((build P (own.take i)).gAt p.2)) := by
  have hi := (List.getElem?_eq_some_iff.1 hp).1
  have h0 := (h.each i p hp).1
  have e1 : (build P (own.take (i + 1))).entry p.1 = some (low i, p.2) := by
    rw [h.next hp, entry_more h0, if_pos rfl, take_len P (by omega)]
  have e2 : (build P (own.take (i + 1))).gslot p.2 = some (high P ((build P (own.take i)).gAt p.2)) := by
    rw [h.next hp, gslot_more, if_pos rfl, (build_C P (own.take i)).2]
  have s := h.stays (i := i + 1) (own.length - (i + 1)) (x := p.1)
  have s' := h.stays (i := i + 1) (own.length - (i + 1)) (x := p.2)
  rw [show i + 1 + (own.length - (i + 1)) = own.length by omega, List.take_length] at s s'
  exact ⟨s.2 _ e1, s'.1 _ e2⟩
theorem find_of {r : Reg} {c g : Int} {a s : SlotN} (h1 : r.entry c = some (a, g)) (h2 : r.gslot g = some s) : r.findW c = a ∧ r.findG c = g ∧ r.findS c = s ∧ r.findE c = 0 := by
  refine ⟨?_, ?_, ?_, ?_⟩
  · unfold Reg.findW; rw [h1]; rfl
  · unfold Reg.findG; rw [h1]; rfl
  · unfold Reg.findS; rw [h1]; simp [h2]
  · unfold Reg.findE
    unfold Reg.entry at h1
    cases hp : place r.nums c with
    | none => rw [hp] at h1; cases h1
    | some k => rfl
theorem group_of {r : Reg} {g : Int} {s : SlotN} (h2 : r.gslot g = some s) : r.groupS g = s ∧ r.groupE g = 0 := by
  refine ⟨?_, ?_⟩
  · unfold Reg.groupS; rw [h2]; rfl
  · unfold Reg.groupE
    unfold Reg.gslot at h2
    cases hp : place r.G g with
    | none => rw [hp] at h2; cases h2
    | some k => rfl
/-- The page that the groups have come down to. -/
theorem down_step (P : Nat) (r : Reg) (c d : Int) : min ((P : Int) - (needs r.G.length 84 : Nat)) (high P (r.gAt d)).1 = (P : Int) - (needs (r.more c d).G.length 84 : Nat) := by
  unfold Reg.gAt Reg.more high needs
  cases hp : place r.G d with
  | none => simp; omega
  | some k =>
    have := place_lt hp
    simp
    omega
theorem up_step (i : Nat) : (low i).1 = ((needs (i + 1) 31 : Nat) : Int) - 1 := by
  unfold low needs
  simp only
  omega
theorem ends {r : Reg} (ok : r.Ok) : ((needs r.C.length 31 : Nat) : Int) - 1 < (r.P : Int) - (needs r.G.length 84 : Nat) ∧ 0 ≤ (r.P : Int) - (needs r.G.length 84 : Nat) := by
  have := ok.fits
  omega
theorem Tk.keep {S : Nat → Prop} {w w' : World} {B b m g : Nat} {r : Reg} {v1 v2 v3 : Value} {own wh su : List (Int × Int)} (h : Tk w B b m g r v1 v2 v3 own wh su) (hk : Keep S w w') (hS : ∀ x, S x → ¬ x < w.heap.size ∨ (x ≠ b ∧ x ≠ m ∧ x ≠ g ∧ v1.ownBlock ≠ some x ∧ v2.ownBlock ≠ some x ∧ v3.ownBlock ≠ some x)) : Tk w' B b m g r v1 v2 v3 own wh su := by
  have hlt := h.pr.lt
  refine ⟨h.pr.keep hk (fun q => ?_) (fun q => ?_) (fun q => ?_), GRow.keep h.r1 hk (fun x hx q => ?_), GRow.keep h.r2 hk (fun x hx q => ?_), GRow.keep h.r3 hk (fun x hx q => ?_), h.a12, h.a13, h.a23, h.o1, h.o2, h.o3, h.low⟩
  · rcases hS _ q with e | e
    · omega
    · exact e.1 rfl
  · rcases hS _ q with e | e
    · omega
    · exact e.2.1 rfl
  · rcases hS _ q with e | e
    · omega
    · exact e.2.2.1 rfl
  · rcases hS _ q with e | e
    · exact e (own_lt h.r1 hx)
    · exact e.2.2.2.1 hx
  · rcases hS _ q with e | e
    · exact e (own_lt h.r2 hx)
    · exact e.2.2.2.2.1 hx
  · rcases hS _ q with e | e
    · exact e (own_lt h.r3 hx)
    · exact e.2.2.2.2.2 hx
theorem Under.off {F b m g : Nat} {v1 v2 v3 : Value} (h : Under F b m g v1 v2 v3) {x : Nat} (hx : F ≤ x) : x ≠ b ∧ x ≠ m ∧ x ≠ g ∧ v1.ownBlock ≠ some x ∧ v2.ownBlock ≠ some x ∧ v3.ownBlock ≠ some x := by
  obtain ⟨h1, h2, h3, h4⟩ := h
  exact ⟨by omega, by omega, by omega, fun q => by have := h2 _ q; omega, fun q => by have := h3 _ q; omega, fun q => by have := h4 _ q; omega⟩
theorem wpList_len_cm {w : World} {m : Nat} {f : Int → Option Value} {ks : List Int} (h : CM w m f ks) {t e : TypeId} (ht : Try.prog.underlying t = some (.map 3 e))
    {ops : Array Oper} {rest : List Oper} {o : Oper} {a : Act} {Q : Exit → Act → World → Prop} (hg : o.guard = none) (mo : Operand) (ho : o.op = .call { callee := .builtin .len, args := #[mo], argTypes := #[t] }) (hm : a.eval mo = .map (some m))
    (k : wpList Try.prog ops Q rest (a.put o.dst (.int .i64 (ks.length : Int))) w) : wpList Try.prog ops Q (o :: rest) a w := by
  obtain ⟨L, h1, h2, h3, h4⟩ := h
  refine wpList_len_own w hg mo t ho 3 e ht anyElem m _ _ hm h2 ?_
  have e1 : Maps.size (mapE (H := Value) .held L) = ks.length := by
    rw [mapE_size]
    have := h4.length_eq
    simpa using this
  rw [e1]
  exact k
/-- The cells of the i-th in a row. -/
theorem rowc {w : World} {B e : Nat} {v : Value} {xs : List (Int × Int)} (h : GRow w B e 2 v xs.length (rowsC c2 xs)) {i : Nat} {p : Int × Int} (hp : xs[i]? = some p) :
    ∃ bl off c, v = .slice (some ⟨bl, off, none⟩) xs.length c ∧ bl < w.heap.size ∧ w.cell? ⟨bl, off + i * 2, none⟩ = some (.int .i64 p.1) ∧ w.cell? ⟨bl, off + i * 2 + 1, none⟩ = some (.int .i64 p.2) ∧ v.ownBlock = some bl := by
  obtain ⟨hi, he⟩ := List.getElem?_eq_some_iff.1 hp
  obtain ⟨a, c, rfl, hl, -⟩ := GRow.lies h
  obtain ⟨bl, off, rfl, hlt, hc⟩ := Lies.rowAt c2 2 (fun _ => rfl) hl i hi (by omega)
  refine ⟨bl, off, c, rfl, hlt, ?_, ?_, ?_⟩
  · have := hc 0 _ (by rw [he]; rfl)
    exact this
  · exact hc 1 _ (by rw [he]; rfl)
  · rfl
end Go.Proofs.Ytimakfnlcgedkaa
