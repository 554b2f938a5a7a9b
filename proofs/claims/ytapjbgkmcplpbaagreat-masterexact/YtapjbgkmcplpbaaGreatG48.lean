import Derived.Test.YtapjbgkmcplpbaaGreatG45
import Derived.Test.YtapjbgkmcplpbaaGreatDisks
import Derived.Test.YtapjbgkmcplpbaaGreatAlike
import Derived.Test.YtapjbgkmcplpbaaGreatRows
import Derived.Test.YtapjbgkmcplpbaaGreatSect3
import Derived.ProofKit
import Derived.OpenShut
import Derived.ChangeOld
import Derived.LaidMore
import Derived.SizedLaws
import Derived.Deep.Slices
import Derived.Lib.SmallJoins
import Derived.Test.YtapjbgkmcplpbaaGreatG12
namespace Go.Proofs.YtapjbgkmcplpbaaGreat
open Go.RowKit Go.QK

/-- A step of a script lies at block b from off on. -/
def OpAt (B : Nat) (w : World) (b off : Nat) : Prop :=
  ∃ (o : OpM) (la : Option Addr) (lc : Nat) (ba : Option Addr) (bc : Nat), OpOk w o la lc ba bc ∧ (o.l.keep ≠ [] → ∀ ad, la = some ad → ad.block < B) ∧ ∀ j v, (o.v la lc ba bc)[j]? = some v → w.cell? ⟨b, off + j, none⟩ = some v
theorem OpAt.below {B : Nat} {w w' : World} {b off : Nat} (h : OpAt B w b off) (hlt : b < w.heap.size) (hb : Below w.heap.size w w') : OpAt B w' b off := by
  obtain ⟨o, la, lc, ba, bc, h1, h2, h3⟩ := h
  exact ⟨o, la, lc, ba, bc, h1.below hb, h2, fun j v hv => (hb.cell (p := ⟨b, off + j, none⟩) hlt).trans (h3 j v hv)⟩
def ScriptAt (w : World) (a : Option Addr) (n : Nat) : Prop := ∀ i, i < n → ∃ b off, a = some ⟨b, off, none⟩ ∧ b < w.heap.size ∧ OpAt w.heap.size w b (off + i * 10)

/-- What the rounds keep. -/
structure ExL (w0 w : World) (pb d c p q r j : Nat) : Prop where
  ex : ∃ (S T : Nat → Prop) (g : Dev), Duet w S d g T c g pb p q r ∧ (∀ b, S b ∨ T b → w0.heap.size ≤ b) ∧ Below w0.heap.size w0 w ∧ g.n = 5 + 2 * p + q ∧ g.pend.length ≤ 2 * j ∧ g.calls ≤ 4 * j

set_option maxHeartbeats 8000000 in
set_option maxRecDepth 100000 in
theorem exact_walk (p0 l0 f0 : Int) (a : Option Addr) (len cap : Nat) (w : World) (hs : ScriptAt w a len) (_hm : len ≤ maxLen) :
    Calls Tryz.prog 3 #[.agg (shC p0 l0 f0), .slice a len cap] w fun e w' => e = .returned (.bool true) ∧ Below w.heap.size w w' := by
  obtain ⟨w1, hw1⟩ : ∃ w1, w1 = w.alloc (.cells #[.int .i64 p0, .int .i64 l0, .int .i64 f0] 23) := ⟨_, rfl⟩
  have b1 : Below w.heap.size w w1 := by rw [hw1]; exact alloc_below _ _
  have C1 : cell3 w1 w.heap.size p0 l0 f0 := by rw [hw1]; exact cell3.new w p0 l0 f0
  have KA := hide (awake_any w1)
  have sl := small_lt p0 l0 f0
  have sm := small_may p0 l0 f0
  have KS := fun w' => small_any p0 l0 f0 w'
  obtain ⟨p, hp⟩ : ∃ p : Nat, smP p0 = (p : Int) := ⟨(smP p0).toNat, by omega⟩
  obtain ⟨q, hq⟩ : ∃ q : Nat, smL l0 = (q : Int) := ⟨(smL l0).toNat, by omega⟩
  obtain ⟨r, hr⟩ : ∃ r : Nat, smF f0 = (r : Int) := ⟨(smF f0).toNat, by omega⟩
  simp only [hp, hq, hr] at KS sm
  have KD := fun w' => disks_any p q r sm w'
  unfold shC at KS KD ⊢
  have KS := hide KS
  have KD := hide KD
  have SM := hide sm
  have HW := hide hw1
  have B1 := hide b1
  have C1 := hide C1
  have HS := hide hs
  unfold maxLen at _hm
  clear hw1 b1 sl sm hp hq hr hs
  go_enter Tryz.func3, Tryz.ntmps3
  go_wp2_with fail
  rw [← HW.out]
  clear HW
  refine KA.out.mono ?_
  rintro e w2 ⟨rfl, b2⟩
  have C2 := C1.out.below b2
  have B2 := hide (bnext B1.out b2 (Nat.le_refl _))
  have c0 := C2.c0
  have c1 := C2.c1
  have c2 := C2.c2
  clear b2 C1 B1 KA C2
  go_wp2_with fail
  refine (KS.out w2).mono ?_
  rintro e w3 ⟨rfl, b3⟩
  have B3 := hide (bnext B2.out b3 (Nat.le_refl _))
  clear b3 B2 KS c0 c1 c2
  go_wp2_with fail
  refine (KD.out w3).mono ?_
  rintro e w4 ⟨pb, d, S, c, T, rfl, D4, far4, b4⟩
  have O0 := hide (show ExL w w4 pb d c p q r 0 from ⟨S, T, _, D4, fun b hb => Nat.le_trans B3.out.size (far4 b (hb.elim .inl (fun x => .inr (.inl x)))), bnext B3.out b4 (Nat.le_refl _), by unfold Dev.n Dev.new; simp, by simp [Dev.new], by simp [Dev.new]⟩)
  clear D4 far4 b4 B3 KD
  go_wp2_with fail
  go_loopw [7] (fun i wr => ∃ j : Nat, i = .int .i64 (j : Int) ∧ j ≤ len ∧ j ≤ 120 ∧ ExL w wr pb d c p q r j) (fun i _ => 120 - (intOf i).toNat)
  case atStart => exact ⟨0, rfl, by omega, by omega, O0.out⟩
  case round =>
    obtain ⟨j, rfl, hj1, hj2, ⟨S', T', g, hD, hfar, hbel, hgn, hpl, hcl⟩⟩ := hrel
    have hD := hide hD
    have hfar := hide hfar
    have hbel := hide hbel
    have hgn := hide hgn
    clear O0
    by_cases q1 : j < len
    · by_cases q2 : j < 120
      · have q1' : (j : Int) < (len : Int) := by omega
        have q2' : (j : Int) < 120 := by omega
        obtain ⟨b, off, rfl, hbl, hop⟩ := HS.out j q1
        obtain ⟨o, la, lc, ba, bc, hok, hlow, hcells⟩ := hop.below hbl hbel.out
        have c0 := hcells 0 _ rfl
        have c1 := hcells 1 _ rfl
        have c2 := hcells 2 _ rfl
        have c3 := hcells 3 _ rfl
        have c4 := hcells 4 _ rfl
        have c5 := hcells 5 _ rfl
        have c6 := hcells 6 _ rfl
        have c7 := hcells 7 _ rfl
        have c8 := hcells 8 _ rfl
        have c9 := hcells 9 _ rfl
        have KP := plays_any hD.out SM.out (by rw [hgn.out]; omega) o la lc ba bc hok (fun hx ad had => ⟨fun z => by have := hlow hx ad had; have := hfar.out _ (.inl z); omega, fun z => by have := hlow hx ad had; have := hfar.out _ (.inr z); omega⟩) (by omega) (by omega)
        unfold OpM.v at KP
        have KP := hide KP
        rw [Nat.add_zero] at c0
        clear hcells hok hlow hop
        go_wp2_with fail
        refine KP.out.mono ?_
        rintro e w5 ⟨g5, S5, T5, rfl, D5, G5, st5⟩
        have far5 : ∀ b, S5 b ∨ T5 b → w.heap.size ≤ b := fun b hb => (st5.2 b hb).elim (hfar.out b) (fun z => Nat.le_trans hbel.out.size z)
        have bel5 : Below w.heap.size w w5 := hbel.out.trans (st5.1.below hbel.out.size (fun k hk z => by have := hfar.out k z; omega))
        have pl5 := G5.pend
        have cl5 := G5.calls
        have gn5 := hide (G5.n.trans hgn.out)
        have FAR5 := hide far5
        have BEL5 := hide bel5
        have D5 := hide D5
        have KL := hide (alike_any D5.out (by omega))
        clear KP far5 bel5 G5 st5 hD hfar hbel hgn c0 c1 c2 c3 c4 c5 c6 c7 c8 c9
        go_wp2_with fail
        refine KL.out.mono ?_
        rintro e w6 ⟨rfl, b6⟩
        have OO := hide (show ExL w w6 pb d c p q r (j + 1) from ⟨S5, T5, g5, D5.out.below b6, FAR5.out, bnext BEL5.out b6 (Nat.le_refl _), gn5.out, by omega, by omega⟩)
        clear b6 KL D5 FAR5 BEL5 gn5
        go_wp2_with fail
        go_roundw
        case rel => exact ⟨j + 1, by go_num, by omega, by omega, OO.out⟩
        case measure => simp [intOf]; omega
      · have q1' : (j : Int) < (len : Int) := by omega
        have q2' : ¬ (j : Int) < 120 := by omega
        go_wp2_with fail
        go_ret
        exact ⟨rfl, hbel.out⟩
    · have q1' : ¬ (j : Int) < (len : Int) := by omega
      go_wp2_with fail
      go_ret
      exact ⟨rfl, hbel.out⟩
end Go.Proofs.YtapjbgkmcplpbaaGreat

namespace Go.Proofs.YtapjbgkmcplpbaaGreat
open Go.ChangeShapes Go.WideShapes Go.ChangeAt Go.RowKit Go.Deep Go.QK Go.Joins

theorem own : ownKnob Tryz.prog.godebug = none := by kernel_rfl
theorem laidOut : laidOutB Tryz.prog = true := by kernel_rfl
theorem cells23 : Tryz.prog.cellsOf 23 = 3 := by kernel_rfl
theorem rng_i64 {n : Int} (h : (Lit.int .i64 n).wf = true) : -9223372036854775808 ≤ n ∧ n ≤ 9223372036854775807 := by
  have h1 : IntKind.i64.min ≤ n ∧ n ≤ IntKind.i64.max := by simpa [Lit.wf] using h
  have e1 : IntKind.i64.min = -9223372036854775808 := rfl
  have e2 : IntKind.i64.max = 9223372036854775807 := rfl
  omega
set_option maxRecDepth 100000 in
/-- A shape that is handed in. -/
theorem open_shape {H : Type} {enc : TypeId × Value → H} {W : World} {b0 : Nat} {v : Value} {d : DataW H} {p : List MemPlace} (hv : Value.okWide Tryz.prog W .any b0 23 v) (h : DataW.Trod enc Tryz.prog W 0 (fun _ => true) true 23 v d p) : ∃ a b c, v = .agg (shC a b c) := by
  obtain ⟨c0, c1, c2, y0, y1, y2, m, rfl, _, _, hy0, hy1, hy2⟩ := open_agg3 Tryz.underlying23 (by kernel_rfl) cells23 hv h
  obtain ⟨a, e0, _, _⟩ := DataW.trod_int Tryz.underlying3 hy0
  obtain ⟨b, e1, _, _⟩ := DataW.trod_int Tryz.underlying3 hy1
  obtain ⟨c, e2, _, _⟩ := DataW.trod_int Tryz.underlying3 hy2
  simp at e0 e1 e2
  subst e0 e1 e2
  exact ⟨a, b, c, rfl⟩
end Go.Proofs.YtapjbgkmcplpbaaGreat

namespace Go.Proofs.YtapjbgkmcplpbaaGreat
open Go.ChangeShapes Go.WideShapes Go.ChangeAt Go.RowKit Go.Deep Go.QK

theorem cells26 : Tryz.prog.cellsOf 33 = 3 := by kernel_rfl
theorem cells24 : Tryz.prog.cellsOf 31 = 1 := by kernel_rfl
theorem cells3 : Tryz.prog.cellsOf 3 = 1 := by kernel_rfl
theorem bytes79 : Tryz.prog.bytesOf 80 = 8 := by kernel_rfl
theorem nat_u64 {n : Int} (h : (Lit.int .u64 n).wf = true) : ∃ k : Nat, n = (k : Int) ∧ k < 18446744073709551616 := by
  have h1 : IntKind.u64.min ≤ n ∧ n ≤ IntKind.u64.max := by simpa [Lit.wf] using h
  have e1 : IntKind.u64.min = 0 := rfl
  have e2 : IntKind.u64.max = 18446744073709551615 := rfl
  exact ⟨n.toNat, by omega, by omega⟩
theorem words_of {zs : List Int} (h : ∀ y ∈ zs, (Lit.int .u64 y).wf = true) : ∃ l : List Nat, zs = ints l ∧ ∀ x ∈ l, x < 18446744073709551616 := by
  induction zs with
  | nil => exact ⟨[], rfl, nofun⟩
  | cons z zs ih =>
    obtain ⟨l, rfl, hl⟩ := ih (fun y hy => h y (by simp [hy]))
    obtain ⟨k, rfl, hk⟩ := nat_u64 (h z (by simp))
    refine ⟨k :: l, rfl, fun y hy => ?_⟩
    rcases List.mem_cons.1 hy with rfl | hy
    · exact hk
    · exact hl y hy
theorem list3 {α : Type} {l : List α} (h : l.length = 3) : ∃ a b c, l = [a, b, c] := by
  match l, h with
  | [a, b, c], _ => exact ⟨a, b, c, rfl⟩
variable {H : Type} {enc : TypeId × Value → H} {W : World}
/-- Words that came in. -/
theorem open_words {fuel : Nat} {v : Value} {x : DataW H × List MemPlace} (hf : DataW.trod enc Tryz.prog W 0 (fun _ => true) true fuel 31 [v] = some x) :
    ∃ (a : Option Addr) (l : List Nat) (cap : Nat), v = .slice a l.length cap ∧ Seen .u64 W a (ints l) ∧ (∀ y ∈ l, y < 18446744073709551616) ∧ (a = none → cap = 0) ∧ l.length ≤ cap ∧ cap ≤ maxLen ∧ ((∀ n ∈ x.1.weights Tryz.prog 31, n ≤ reachBytes) → l.length ≤ 17592186044415) := by
  rcases open_ints Tryz.underlying31 Tryz.underlying80 (by kernel_rfl) hf with ⟨hcs, rfl⟩ | ⟨x, len, c, zs, hcs, _, hl, hm, hz, rfl, hcell, hwz⟩
  · simp at hcs
    exact ⟨none, [], 0, hcs, .inl rfl, nofun, fun _ => rfl, Nat.le_refl _, by unfold maxLen; omega, fun _ => by decide⟩
  · simp at hcs
    obtain ⟨l, rfl, hlb⟩ := words_of hwz
    have hz' : l.length = c := by simpa using hz
    refine ⟨some x, l.take len, c, by rw [hcs]; simp; omega, ?_, fun y hy => hlb y (List.mem_of_mem_take hy), nofun, by simp; omega, hm, fun hw => ?_⟩
    · by_cases h0 : len = 0
      · exact .inl (by simp [h0])
      · obtain ⟨b, off, spot⟩ := x
        have hc := hcell 0 (by simp; omega)
        have hspot : spot = none := by simpa [Addr.add] using World.cell?_spot hc
        subst hspot
        rw [ints_take]
        refine .inr ⟨b, off, rfl, World.block_lt_of_cell? _ _ hc, fun i hi => ?_⟩
        have h1 := hcell i (by simp at hi ⊢; omega)
        rw [addr_add] at h1
        rw [h1]
        have h2 : i < (ints l).length := by simp at hi ⊢; omega
        simp [List.getD_eq_getElem?_getD, List.getElem?_eq_getElem h2]
    · have := hw (((lits (H := H) .u64 ((ints l).take len)).length + (lits (H := H) .u64 ((ints l).drop len)).length) * Tryz.prog.bytesOf 80) (by simp [DataW.weights, Tryz.underlying31])
      rw [bytes79] at this
      have e : (lits (H := H) .u64 ((ints l).take len)).length + (lits (H := H) .u64 ((ints l).drop len)).length = l.length := by
        simp [lits]; omega
      rw [e] at this
      unfold reachBytes at this
      simp
      omega

theorem open_loss {fuel : Nat} {cs : List Value} {x : DataW H × List MemPlace} (h : DataW.trod enc Tryz.prog W 0 (fun _ => true) true fuel 33 cs = some x) :
    ∃ (a : Option Addr) (c : Nat) (l : Loss), cs = [.slice a l.keep.length c, .int .i64 l.torn, .int .i64 l.off] ∧ LossAt W l a c ∧ ((∀ n ∈ x.1.weights Tryz.prog 33, n ≤ reachBytes) → l.keep.length ≤ 17592186044415) := by
  obtain ⟨ys, n, _, rfl, hl, hlen, hf⟩ := DataW.trod_struct Tryz.underlying33 h
  rw [cells26] at hl
  obtain ⟨c0, c1, c2, rfl⟩ := list3 hl
  have hlen' : ys.length = 3 := by simpa using hlen
  obtain ⟨y0, y1, y2, rfl⟩ := list3 hlen'
  have f0 := hf 0 _ rfl
  have f1 := hf 1 _ rfl
  have f2 := hf 2 _ rfl
  simp [cells3, cells24] at f0 f1 f2
  obtain ⟨a, l, cap, rfl, q1, q2, q3, q4, q5, q6⟩ := open_words f0
  obtain ⟨tn, e1, _, w1⟩ := DataW.trod_int Tryz.underlying3 f1
  obtain ⟨off, e2, _, w2⟩ := DataW.trod_int Tryz.underlying3 f2
  simp at e1 e2
  subst e1 e2
  refine ⟨a, cap, ⟨l, tn, off⟩, rfl, ⟨q1, q3, q4, ⟨q2, rng_i64 w1, rng_i64 w2⟩⟩, fun hw => q6 (fun n hn => hw n ?_)⟩
  simp only [DataW.weights, Tryz.underlying33]
  exact DataW.weights_mem_each (j := 0) (t := 31) rfl rfl n hn


set_option maxRecDepth 100000 in
/-- A loss that is handed in is laid out so. -/
theorem okWide_loss {W : World} {base : Nat} {v : Value} (h : Value.okWide Tryz.prog W .any base 33 v) : ∃ cs, v = .agg cs := by
  obtain ⟨cs, e, _⟩ := okWide_struct Tryz.underlying33 h
  exact ⟨cs, e⟩
end Go.Proofs.YtapjbgkmcplpbaaGreat
