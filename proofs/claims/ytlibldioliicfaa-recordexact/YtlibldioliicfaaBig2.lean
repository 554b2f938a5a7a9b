import Derived.Test.YtlibldioliicfaaVal
namespace Go.Proofs.Ytlibldioliicfaa
open Go.RowKit Go.QK
set_option maxRecDepth 100000
variable {ops : Array Oper} {rest : List Oper} {a : Act} {w : World} {Q : Exit → Act → World → Prop} {d : Option Tmp} {ty : TypeId} {ps : String} {af : Array Edge} {x y : Operand} {b : Nat} {cs cs' : Array Value}
/-- The same where a test that was taken ahead lets it by. -/
theorem wpList_load36g {g : Option (Nat × Bool)} (hb : RBox w b 36 cs) (hs : cs.size = 17) (hx : a.eval x = .pointer (some ⟨b, 0, none⟩)) (hw : Region.wanted { dst := d, op := .load 36 x, type := ty, pos := ps, after := af, guard := g } (yielded ops a.tmps) = true) (h : wpList Try.prog ops Q rest (a.put d (.agg cs)) w) :
    wpList Try.prog ops Q ({ dst := d, op := .load 36 x, type := ty, pos := ps, after := af, guard := g } :: rest) a w :=
  wpList_step fun _ hK => by
    rw [if_pos hw]
    exact wp_load_row 36 x rfl b hx 36 cs (0, 0) _ hb Try.underlying36 rfl (size36' hs) (hK _ _ h)
theorem newBox {w w' : World} {o : Obj} (h : Keep (fun k => k = w.heap.size) (w.alloc o) w') : Below w.heap.size w w' := by
  have h1 := alloc_below w o
  exact h1.trans (h.below h1.size (fun k hk q => by omega))
theorem RecOut.lies {B : Nat} {w : World} {v : Value} {r : RecM} (h : RecOut B w v r) : ∃ (la da : Option Addr) (lc dc : Nat), v = .agg (recC r la lc da dc) ∧ Lies w la (liveCs r.live) ∧ Lies w da (dirtyCs r.dirty) := by
  obtain ⟨la, da, lc, dc, e, h1, h2, _⟩ := h
  obtain ⟨a1, c1, e1, l1, _⟩ := GRow.lies h1
  obtain ⟨a2, c2, e2, l2, _⟩ := GRow.lies h2
  cases e1
  cases e2
  exact ⟨la, da, lc, dc, e, l1, l2⟩
/-- A record in a variable of its own. -/
def RVar (w : World) (b : Nat) (r : RecM) : Prop := ∃ (la da : Option Addr) (lc dc : Nat), RBox w b 36 (recC r la lc da dc) ∧ Lies w la (liveCs r.live) ∧ Lies w da (dirtyCs r.dirty)
theorem RVar.below {w w' : World} {b : Nat} {r : RecM} (h : RVar w b r) (k : Below w.heap.size w w') : RVar w' b r := by
  obtain ⟨la, da, lc, dc, h1, h2, h3⟩ := h
  exact ⟨la, da, lc, dc, h1.below k, h2.below k, h3.below k⟩
theorem RVar.lt {w : World} {b : Nat} {r : RecM} (h : RVar w b r) : b < w.heap.size := by
  obtain ⟨la, da, lc, dc, h1, h2, h3⟩ := h
  exact h1.lt
/-- Bytes that are the program's own. -/
theorem ownB_form {w : World} {B : Nat} {v : Value} {l : List Nat} (h : OwnB w B v l) : ∃ a c, v = .slice a l.length c ∧ Bytes w a l ∧ (a = none → c = 0) ∧ l.length ≤ c ∧ c ≤ maxLen := by
  obtain ⟨a, c, e, s, h1, h2, h3⟩ := h.seen
  rw [ints_length] at e h2
  exact ⟨a, c, e, s, h1, h2, h3⟩
end Go.Proofs.Ytlibldioliicfaa
