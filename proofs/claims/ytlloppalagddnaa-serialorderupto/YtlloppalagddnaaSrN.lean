import Derived.Test.YtlloppalagddnaaSrR
import Derived.Test.YtlloppalagddnaaSrM
import Derived.Maps.Views
import Derived.DeepKeys4
set_option linter.all false
namespace Go.Proofs.Ytlloppalagddnaa
open Go.RowKit Go.QK Go.Maps Go.QM Go.QS Quota
set_option maxRecDepth 100000

/-! A map whose keys are structs of two numbers: what each key has. -/
theorem laid : laidOutB Try.prog = true := by kernel_rfl
theorem row110 : (110 : TypeId) < Try.prog.types.size := of_decide_eq_true (by kernel_rfl)
theorem wide110 : (match Try.prog.underlying 110 with | some (.array _ _) | some (.struct _) => true | _ => false) = true := by kernel_rfl
theorem law110 : Keyed Try.prog 110 := Keyed.of_law (deep_law_laid laid (m := 3) (by omega) row110 (by kernel_rfl) wide110)
abbrev kV (t c : Int) : Value := .agg #[.int .i64 t, .int .i64 c]
def kl (t c : Int) : Lit := .string (keyBytes [.int .i64 t, .int .i64 c])
theorem deep110 : Try.prog.keyType 110 = true := by kernel_rfl
theorem formed110 (a b : Value) : (Value.agg #[a, b]).formed Try.prog 110 = true := by
  have hc : Try.prog.cellsOf 110 = 2 := by kernel_rfl
  unfold Value.formed
  rw [Try.underlying110]
  show (2 == Try.prog.cellsOf 110) = true
  rw [hc]
  rfl
theorem keyP {t c : Int} (ht : I64 t) (hc : I64 c) : keyOf Try.prog 110 (kV t c) = some (kl t c) := by
  have w1 := wf64 ht
  have w2 := wf64 hc
  have e1 : (Try.prog.keyLits (Try.prog.types.size + 1) 110 (kV t c).cells.toList) = some [.int .i64 t, .int .i64 c] := by
    have hsz : ∃ m, Try.prog.types.size = m + 1 := ⟨Try.prog.types.size - 1, by have h : (110 : Nat) < Try.prog.types.size := row110; omega⟩
    obtain ⟨m, hm⟩ := hsz
    have c3 : Try.prog.cellsOf 3 = 1 := by kernel_rfl
    have c110 : Try.prog.cellsOf 110 = 2 := by kernel_rfl
    rw [hm]
    simp [Program.keyLits, Try.underlying110, Try.underlying3, Value.cells, w1, w2, c3, c110]
  unfold keyOf
  rw [Try.underlying110]
  simp only
  rw [deep110, formed110, e1]
  rfl
theorem kl_inj {t c t' c' : Int} (ht : I64 t) (hc : I64 c) (ht' : I64 t') (hc' : I64 c') (h : kl t c = kl t' c') : t = t' ∧ c = c' := by
  have k1 := keyP ht hc
  have k2 := keyP ht' hc'
  rw [← h] at k2
  have := law110.inj k1 k2
  simp at this
  exact this
def NM (w : World) (m : Nat) (f : Int → Int → Option Value) (n : Nat) : Prop :=
  ∃ D : DataW Value, w.ownsMap Try.prog 110 anyElem m n D ∧ ∀ t c, I64 t → I64 c → (has D (kl t c) = (f t c).isSome ∧ ∀ z, D.atKey (kl t c) (.held z) = .held ((f t c).getD z))
section
variable {w w' : World} {m n : Nat} {f : Int → Int → Option Value} {S : Nat → Prop}
theorem NM.lt (h : NM w m f n) : m < w.heap.size := by
  obtain ⟨D, h1, _⟩ := h
  exact World.ownsMap.lt h1
theorem NM.keep (h : NM w m f n) (hk : Keep S w w') (hn : ¬ S m) : NM w' m f n := by
  have hlt := h.lt
  obtain ⟨D, ⟨es, clock, hb, F, hs, hD⟩, h2⟩ := h
  exact ⟨D, ⟨es, clock, (hk.block m hlt hn).trans hb, F, hs, hD⟩, h2⟩
theorem NM.below (h : NM w m f n) (hk : Below w.heap.size w w') : NM w' m f n := h.keep (Keep.of_below (S := fun _ => False) hk) id
theorem NM.mono {n' : Nat} (h : NM w m f n) (hn : n ≤ n') : NM w m f n' := by
  obtain ⟨D, h1, h2⟩ := h
  exact ⟨D, h1.mono hn, h2⟩
theorem NM.congr {g : Int → Int → Option Value} (h : NM w m f n) (hg : ∀ t c, I64 t → I64 c → f t c = g t c) : NM w m g n := by
  obtain ⟨D, h1, h2⟩ := h
  exact ⟨D, h1, fun t c ht hc => by rw [← hg t c ht hc]; exact h2 t c ht hc⟩
theorem NM.made (w : World) : NM (w.alloc (.map #[] 0)) w.heap.size (fun _ _ => none) 0 :=
  ⟨.map [], World.ownsMap_made w _ _ _, fun t c _ _ => ⟨rfl, fun _ => rfl⟩⟩
theorem NM.look (h : NM w m f n) {t c : Int} (ht : I64 t) (hc : I64 c) : (Instr.lookup 78 (.map (some m)) (kV t c) true).run Try.prog w = .ok (.tuple #[(f t c).getD (.int .i64 0), .bool (f t c).isSome]) w := by
  obtain ⟨D, h1, h2⟩ := h
  obtain ⟨v, ps, hr, hv⟩ := World.ownsMap.look_ok h1 law110 Try.underlying78 (show (zeroValue 2).run Try.prog w = .ok (.int .i64 0) w by kernel_rfl) (show anyElem (.int .i64 0) = some (.held (.int .i64 0), []) from rfl) (keyP ht hc)
  obtain ⟨q1, q2⟩ := h2 t c ht hc
  rw [q1] at hr
  rw [q2] at hv
  simp only [Option.some.injEq, Prod.mk.injEq, DataW.held.injEq] at hv
  rw [hv.1] at hr
  exact hr
theorem NM.put (h : NM w m f n) (hn : n < maxLen) {t c : Int} (ht : I64 t) (hc : I64 c) (v : Value) :
    ∃ w', (Instr.mapUpdate 78 (.map (some m)) (kV t c) v).run Try.prog w = .ok () w' ∧ NM w' m (fun x y => if x = t ∧ y = c then some v else f x y) (n + 1) ∧ w.grownBy w' (some m) := by
  obtain ⟨D, h1, h2⟩ := h
  have hm := World.ownsMap.isMap h1
  obtain ⟨w', hr, h3, h4⟩ := World.ownsMap.update h1 law110 Try.underlying78 hn (keyP ht hc) (show anyElem v = some (.held v, []) from rfl)
  refine ⟨w', hr, ⟨_, h3, fun x y hx hy => ?_⟩, h4⟩
  have hK : WideAt.IsKeyLit (kl t c) := law110.key (keyP ht hc)
  by_cases q : x = t ∧ y = c
  · obtain ⟨rfl, rfl⟩ := q
    simp only [and_self, if_true]
    exact ⟨has_put_same hm hK _, fun z => atKey_put_same hm hK _ _⟩
  · simp only [if_neg q]
    have hne : kl x y ≠ kl t c := fun e => q (kl_inj hx hy ht hc e)
    rw [has_put_other hne]
    refine ⟨(h2 x y hx hy).1, fun z => ?_⟩
    rw [atKey_put_other hne]
    exact (h2 x y hx hy).2 z
theorem NM.del (h : NM w m f n) {t c : Int} (ht : I64 t) (hc : I64 c) (ty : TypeId) :
    ∃ w', (Builtin.delete_ #[78, 110] ty #[.map (some m), kV t c]).run Try.prog w = .ok (.tuple #[]) w' ∧ NM w' m (fun x y => if x = t ∧ y = c then none else f x y) n ∧ w.grownBy w' (some m) := by
  obtain ⟨D, h1, h2⟩ := h
  obtain ⟨w', hr, h3, h4⟩ := World.ownsMap.drop h1 law110 Try.underlying78 (keyP ht hc) ty
  refine ⟨w', hr, ⟨_, h3, fun x y hx hy => ?_⟩, h4.grown⟩
  by_cases q : x = t ∧ y = c
  · obtain ⟨rfl, rfl⟩ := q
    simp only [and_self, if_true]
    exact ⟨has_del_same, fun z => atKey_del_same _⟩
  · simp only [if_neg q]
    have hne : kl x y ≠ kl t c := fun e => q (kl_inj hx hy ht hc e)
    rw [has_del_other hne]
    refine ⟨(h2 x y hx hy).1, fun z => ?_⟩
    rw [atKey_del_other hne]
    exact (h2 x y hx hy).2 z
end
end Go.Proofs.Ytlloppalagddnaa
