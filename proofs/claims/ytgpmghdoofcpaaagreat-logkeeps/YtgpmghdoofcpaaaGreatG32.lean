import Derived.Test.YtgpmghdoofcpaaaGreatG25
import Derived.Test.YtgpmghdoofcpaaaGreatG31
import Derived.Test.YtgpmghdoofcpaaaGreatG28
namespace Go.Proofs.YtgpmghdoofcpaaaGreat
open Go.RowKit Go.QK
/-! Values that the first lines of every statement ask for. -/
def rA : RecM := ⟨301, 5, 5, 300, 0, 0, 0, 0, 0, 0, 0, 0, 0, 0, [], [], 0⟩
def rA0 : RecM := ⟨0, 5, 5, 300, 0, 0, 0, 0, 0, 0, 0, 0, 0, 0, [], [], 0⟩
def rP : RecM := ⟨0, 8, 0, 0, 0, 0, 0, 0, 0, 0, 0, 0, 0, 0, [⟨5, 9, false, true⟩], [⟨0, 4⟩], 6⟩
def rZ1 : RecM := ⟨0, 1, 0, 0, 0, 0, 0, 0, 0, 0, 0, 0, 0, 0, [], [], 0⟩
set_option maxRecDepth 100000
theorem vA1 : chkE rA = 0 := by decide +kernel
theorem vA2 : chkE rA0 = 0 := by decide +kernel
theorem vP1 : chkE rP = 0 := by decide +kernel
theorem vZ : chkE zeroR = 70 := by decide +kernel
theorem vZ1 : chkE rZ1 = 23 := by decide +kernel
theorem vA3 : encB rA = [5, 5, 172, 2] := by decide +kernel
theorem vP3 : encB rP = [8, 6, 1, 5, 9, 2, 1, 0, 4] := by decide +kernel
theorem vA4 : decM [5, 5, 172, 2] = (rA0, 0) := by kernel_rfl
theorem vP4 : decM [8, 6, 1, 5, 9, 2, 1, 0, 4] = (rP, 0) := by kernel_rfl
theorem fitsA : Fits rA := by unfold Fits rA; simp
theorem fitsP : Fits rP := by unfold Fits rP; simp
end Go.Proofs.YtgpmghdoofcpaaaGreat

namespace Go.Proofs.YtgpmghdoofcpaaaGreat
open Go.RowKit Go.QK
set_option maxRecDepth 100000
variable {ops : Array Oper} {rest : List Oper} {a : Act} {w : World} {Q : Exit → Act → World → Prop} {d : Option Tmp} {ty : TypeId} {ps : String} {af : Array Edge} {x y : Operand} {b : Nat} {cs cs' : Array Value}
/-- The same where a test that was taken ahead lets it by. -/
theorem wpList_load36g {g : Option (Nat × Bool)} (hb : RBox w b 44 cs) (hs : cs.size = 17) (hx : a.eval x = .pointer (some ⟨b, 0, none⟩)) (hw : Region.wanted { dst := d, op := .load 44 x, type := ty, pos := ps, after := af, guard := g } (yielded ops a.tmps) = true) (h : wpList Tryz.prog ops Q rest (a.put d (.agg cs)) w) :
    wpList Tryz.prog ops Q ({ dst := d, op := .load 44 x, type := ty, pos := ps, after := af, guard := g } :: rest) a w :=
  wpList_step fun _ hK => by
    rw [if_pos hw]
    exact wp_load_row 44 x rfl b hx 44 cs (0, 0) _ hb Tryz.underlying44 rfl (size36' hs) (hK _ _ h)
theorem newBox {w w' : World} {o : Obj} (h : Keep (fun k => k = w.heap.size) (w.alloc o) w') : Below w.heap.size w w' := by
  have h1 := alloc_below w o
  exact h1.trans (h.below h1.size (fun k hk q => by omega))
theorem RecOut.lies {B : Nat} {w : World} {v : Value} {r : RecM} (h : RecOut B w v r) : ∃ (la da : Option Addr) (lc dc : Nat), v = .agg (recC r la lc da dc) ∧ Lies w la (liveCs r.live) ∧ Lies w da (dirtyCs r.dirty) := by
  obtain ⟨la, da, lc, dc, e, h1, h2, _⟩ := h
  obtain ⟨a1, c1, e1, l1, _⟩ := GRow.lies h1
  obtain ⟨a2, c2, e2, l2, _⟩ := GRow.lies h2
  cases e1
  cases e2
  exact ⟨la, da, lc, dc, e, l1, l2⟩
/-- A record in a variable of its own. -/
def RVar (w : World) (b : Nat) (r : RecM) : Prop := ∃ (la da : Option Addr) (lc dc : Nat), RBox w b 44 (recC r la lc da dc) ∧ Lies w la (liveCs r.live) ∧ Lies w da (dirtyCs r.dirty)
theorem RVar.below {w w' : World} {b : Nat} {r : RecM} (h : RVar w b r) (k : Below w.heap.size w w') : RVar w' b r := by
  obtain ⟨la, da, lc, dc, h1, h2, h3⟩ := h
  exact ⟨la, da, lc, dc, h1.below k, h2.below k, h3.below k⟩
theorem RVar.lt {w : World} {b : Nat} {r : RecM} (h : RVar w b r) : b < w.heap.size := by
  obtain ⟨la, da, lc, dc, h1, h2, h3⟩ := h
  exact h1.lt
/-- Bytes that are the program's own. -/
theorem ownB_form {w : World} {B : Nat} {v : Value} {l : List Nat} (h : OwnB w B v l) : ∃ a c, v = .slice a l.length c ∧ Bytes w a l ∧ (a = none → c = 0) ∧ l.length ≤ c ∧ c ≤ maxLen := by
  obtain ⟨a, c, e, s, h1, h2, h3⟩ := h.seen
  rw [ints_length] at e h2
  exact ⟨a, c, e, s, h1, h2, h3⟩
end Go.Proofs.YtgpmghdoofcpaaaGreat

namespace Go.Proofs.YtgpmghdoofcpaaaGreat.Lg
open Go.RowKit Go.QK
open Dv (hide bnext alloc_below load_arr store_arr slice_arr wp_load_arr wp_store_arr neq_arr info91)

set_option maxRecDepth 100000 in
set_option maxHeartbeats 4000000 in
theorem apart_any (s : Nat) (a0 : Option Addr) (l : List Nat) (cap : Nat) (w : World) (hs : Bytes w a0 l) (hc : l.length ≤ cap) (ha : a0 = none → cap = 0) (hl : l.length ≤ 100000) (hb : AllB l) :
    Calls Tryz.prog 49 #[.int .i64 (s : Int), .slice a0 l.length cap] w fun e w' => ∃ v, e = .returned (.tuple #[v, .int .i64 ((apE s l : Nat) : Int)]) ∧ RecOut w.heap.size w' v (apR s l) ∧ Below w.heap.size w w' := by
  have B0 := alloc_below w (.cells #[.int .i64 0, .int .i64 0, .int .i64 0, .int .i64 0, .int .i64 0, .int .i64 0, .int .i64 0, .int .i64 0, .int .i64 0, .int .i64 0, .int .i64 0, .int .i64 0, .int .i64 0, .int .i64 0, .slice none 0 0, .slice none 0 0, .int .i64 0] 44)
  have X0 := RBox.new w #[.int .i64 0, .int .i64 0, .int .i64 0, .int .i64 0, .int .i64 0, .int .i64 0, .int .i64 0, .int .i64 0, .int .i64 0, .int .i64 0, .int .i64 0, .int .i64 0, .int .i64 0, .int .i64 0, .slice none 0 0, .slice none 0 0, .int .i64 0] 44
  have hs0 := Seen.below hs B0
  generalize hw0 : w.alloc (.cells #[.int .i64 0, .int .i64 0, .int .i64 0, .int .i64 0, .int .i64 0, .int .i64 0, .int .i64 0, .int .i64 0, .int .i64 0, .int .i64 0, .int .i64 0, .int .i64 0, .int .i64 0, .int .i64 0, .slice none 0 0, .slice none 0 0, .int .i64 0] 44) = w0 at *
  have F1 := hide (decode_any a0 l cap w0 hs0 hc ha (by omega) hb)
  obtain ⟨ae, hae⟩ : ∃ q, q = apE s l := ⟨_, rfl⟩
  obtain ⟨ar, har⟩ : ∃ q, q = apR s l := ⟨_, rfl⟩
  rw [← hae, ← har]
  unfold apR at har
  rw [← hae] at har
  unfold apE at hae
  generalize decM l = dm at *
  obtain ⟨r, de⟩ := dm
  simp only at hae har F1
  have HAE := hide hae
  have HAR := hide har
  have lt0 := X0.lt
  have HX0 := hide X0
  have HB0 := hide B0
  clear hs hs0 hc ha hl hb hae har X0 B0
  go_enter Tryz.func49, Tryz.ntmps49
  go_wp2_with fail
  clear hw0
  refine F1.out.mono ?_
  rintro e w1 ⟨v1, rfl, o1, b1⟩
  have B1 := bnext HB0.out b1 (Nat.le_refl _)
  have X1 := HX0.out.below b1
  obtain ⟨la, da, lc, dc, rfl, l1, d1, ld1⟩ := o1
  have LL := fun g q => (World.ownsRow.lt l1 g q)
  have DL := fun g q => (World.ownsRow.lt d1 g q)
  have sz1 := HB0.out.size
  have l1 := GRow.mono l1 sz1
  have d1 := GRow.mono d1 sz1
  have l2 := GRow.below l1 (alloc_below w1 (.cells #[.int .i64 0, .int .i64 0, .int .i64 0, .int .i64 0, .int .i64 0, .int .i64 0, .int .i64 0, .int .i64 0, .int .i64 0, .int .i64 0, .int .i64 0, .int .i64 0, .int .i64 0, .int .i64 0, .slice none 0 0, .slice none 0 0, .int .i64 0] 44))
  have d2 := GRow.below d1 (alloc_below w1 (.cells #[.int .i64 0, .int .i64 0, .int .i64 0, .int .i64 0, .int .i64 0, .int .i64 0, .int .i64 0, .int .i64 0, .int .i64 0, .int .i64 0, .int .i64 0, .int .i64 0, .int .i64 0, .int .i64 0, .slice none 0 0, .slice none 0 0, .int .i64 0] 44))
  have B2 := bnext B1 (alloc_below w1 (.cells #[.int .i64 0, .int .i64 0, .int .i64 0, .int .i64 0, .int .i64 0, .int .i64 0, .int .i64 0, .int .i64 0, .int .i64 0, .int .i64 0, .int .i64 0, .int .i64 0, .int .i64 0, .int .i64 0, .slice none 0 0, .slice none 0 0, .int .i64 0] 44)) (Nat.le_refl _)
  have X2 := X1.below (alloc_below w1 (.cells #[.int .i64 0, .int .i64 0, .int .i64 0, .int .i64 0, .int .i64 0, .int .i64 0, .int .i64 0, .int .i64 0, .int .i64 0, .int .i64 0, .int .i64 0, .int .i64 0, .int .i64 0, .int .i64 0, .slice none 0 0, .slice none 0 0, .int .i64 0] 44))
  have lt1 : w.heap.size < w1.heap.size := X1.lt
  have sz2 : (w1.alloc (.cells #[.int .i64 0, .int .i64 0, .int .i64 0, .int .i64 0, .int .i64 0, .int .i64 0, .int .i64 0, .int .i64 0, .int .i64 0, .int .i64 0, .int .i64 0, .int .i64 0, .int .i64 0, .int .i64 0, .slice none 0 0, .slice none 0 0, .int .i64 0] 44)).heap.size = w1.heap.size + 1 := by simp
  have C1 := fun w' a b => check_any (wl s r) la da lc dc w' a b
  obtain ⟨q0, q1, q2, q3, q4, q5, q6, q7, q8, q9, q10, q11, q12, q13, q14, q15, q16⟩ := r
  simp only [wl] at *
  generalize chkE ⟨(s : Int), q1, q2, q3, q4, q5, q6, q7, q8, q9, q10, q11, q12, q13, q14, q15, q16⟩ = ce at *
  simp only [recC] at *
  clear F1 HX0 HB0 b1 B1 X1
  go_upto_region 2 with (refine wpList_store36 (RBox.new _ _ _) rfl rfl rfl rfl rfl ?_; intro w4 R4 hk4)
  have B4 := hide (B2.trans (hk4.below B2.size (fun k hk q => by omega)))
  have X4 := hide (X2.keep hk4 (by omega))
  have L4 := hide (GRow.keep l2 hk4 (fun g q e => by have := (LL g q).2; omega))
  have D4 := hide (GRow.keep d2 hk4 (fun g q e => by have := (DL g q).2; omega))
  have NL := hide (show ∀ g, (Value.slice la q14.length lc).ownBlock = some g → ¬ g = w1.heap.size from fun g q e => by have := (LL g q).2; omega)
  have ND := hide (show ∀ g, (Value.slice da q15.length dc).ownBlock = some g → ¬ g = w1.heap.size from fun g q e => by have := (DL g q).2; omega)
  have NL2 := hide (show ∀ g, (Value.slice la q14.length lc).ownBlock = some g → ¬ g = w.heap.size from fun g q e => by have := (LL g q).1; omega)
  have ND2 := hide (show ∀ g, (Value.slice da q15.length dc).ownBlock = some g → ¬ g = w.heap.size from fun g q e => by have := (DL g q).1; omega)
  have LD := hide ld1
  have R4 := hide R4
  have hne : Hid (¬ w1.heap.size = w.heap.size) := by show ¬ _; omega
  have hle : Hid (w.heap.size ≤ w1.heap.size) := by show _ ≤ _; omega
  generalize w1.heap.size = b3 at *
  clear l1 d1 l2 d2 B2 X2 LL DL hk4 ld1 sz2 sz1
  by_cases hde : de = 0
  · subst hde
    have hae := HAE.out
    rw [if_neg (by simp)] at hae
    have R5 := R4.out.setCell 0 (.int .i64 (s : Int))
    have c0 := (R4.out.cells.get 0 _ rfl)
    obtain ⟨c0, f0⟩ := c0
    have k5 : Keep (fun k => k = b3) w4 (w4.setCell ⟨b3, 0, none⟩ (.int .i64 (s : Int))) := (Keep.refl (fun k => k = b3) w4).setCell (fun _ => rfl) _
    have B5 := hide (B4.out.trans (k5.below B4.out.size (fun k hk q => by have := hle.out; omega)))
    have X5 := hide (X4.out.keep k5 (fun q => hne.out q.symm))
    have L5 := hide (GRow.keep L4.out k5 NL.out)
    have D5 := hide (GRow.keep D4.out k5 ND.out)
    obtain ⟨aL, cL, eL, lies1, _⟩ := GRow.lies L5.out
    obtain ⟨aD, cD, eD, lies2, _⟩ := GRow.lies D5.out
    cases eL
    cases eD
    have C1 := hide (C1 _ lies1 lies2)
    have R5 := hide (show RBox _ b3 44 #[.int .i64 (s : Int), .int .i64 q1, .int .i64 q2, .int .i64 q3, .int .i64 q4, .int .i64 q5, .int .i64 q6, .int .i64 q7, .int .i64 q8, .int .i64 q9, .int .i64 q10, .int .i64 q11, .int .i64 q12, .int .i64 q13, .slice la q14.length lc, .slice da q15.length dc, .int .i64 q16] from R5)
    have HAE := hide hae
    clear lies1 lies2 k5 B4 X4 L4 D4 R4 hae
    go_wp2_with (refine wpList_load36 R5.out rfl rfl ?_)
    refine C1.out.mono ?_
    rintro e w7 ⟨rfl, b7⟩
    have B7 := hide (bnext B5.out b7 (Nat.le_refl _))
    have X7 := hide (X5.out.below b7)
    have R7 := hide (R5.out.below b7)
    have L7 := hide (GRow.below L5.out b7)
    have D7 := hide (GRow.below D5.out b7)
    clear b7 B5 X5 R5 L5 D5 C1 c0 f0
    by_cases hce : ce = 0
    · subst hce
      have hae : ae = 0 := HAE.out
      subst hae
      have har := HAR.out
      rw [if_pos rfl] at har
      subst har
      clear HAE HAR
      go_wp2_with (first | refine wpList_load36 R7.out rfl rfl ?_ | (refine wpList_store36 X7.out rfl rfl rfl rfl rfl ?_; intro wf hbf hkf))
      exact bodyPost_ret (results_box2 rfl _ _ rfl hbf rfl) rfl ⟨_, rfl, ⟨la, da, lc, dc, rfl, GRow.keep L7.out hkf NL2.out, GRow.keep D7.out hkf ND2.out, LD.out⟩, B7.out.trans (hkf.below B7.out.size (fun k hk q => by omega))⟩
    · have hae : ce = ae := HAE.out.symm
      subst hae
      have har := HAR.out
      rw [if_neg hce] at har
      subst har
      have hce1 : ¬ ((ce : Int) = 0) := by omega
      clear HAE HAR
      go_wp2_with (refine wpList_store36 X7.out rfl rfl rfl rfl rfl ?_; intro wf hbf hkf)
      exact bodyPost_ret (results_box2 rfl _ _ rfl hbf rfl) rfl ⟨_, rfl, RecOut.zero _ _, B7.out.trans (hkf.below B7.out.size (fun k hk q => by omega))⟩
  · have hae := HAE.out
    rw [if_pos hde] at hae
    subst hae
    have har := HAR.out
    rw [if_neg hde] at har
    subst har
    have hde1 : ¬ ((ae : Int) = 0) := by omega
    clear HAE HAR
    go_wp2_with (refine wpList_store36 X4.out rfl rfl rfl rfl rfl ?_; intro wf hbf hkf)
    exact bodyPost_ret (results_box2 rfl _ _ rfl hbf rfl) rfl ⟨_, rfl, RecOut.zero _ _, B4.out.trans (hkf.below B4.out.size (fun k hk q => by omega))⟩
end Go.Proofs.YtgpmghdoofcpaaaGreat.Lg
