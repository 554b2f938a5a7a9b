import Derived.Test.YtgpmghdoofcpaaaGreatRows
import Derived.Test.YtgpmghdoofcpaaaGreatG32
import Derived.ProofKit
import Derived.OpenShut
import Derived.ChangeOld
import Derived.LaidMore
import Derived.SizedLaws
import Derived.Deep.Slices
import Derived.Lib.SmallJoins
namespace Go.Proofs.YtgpmghdoofcpaaaGreat
open Go.ChangeShapes Go.WideShapes Go.ChangeAt Go.RowKit Go.Deep Go.QK Go.Joins

theorem own : ownKnob Tryz.prog.godebug = none := by kernel_rfl
theorem laidOut : laidOutB Tryz.prog = true := by kernel_rfl
theorem rng_i64 {n : Int} (h : (Lit.int .i64 n).wf = true) : -9223372036854775808 ≤ n ∧ n ≤ 9223372036854775807 := by
  have h1 : IntKind.i64.min ≤ n ∧ n ≤ IntKind.i64.max := by simpa [Lit.wf] using h
  have e1 : IntKind.i64.min = -9223372036854775808 := rfl
  have e2 : IntKind.i64.max = 9223372036854775807 := rfl
  omega
theorem nat_u8 {n : Int} (h : (Lit.int .u8 n).wf = true) : ∃ k : Nat, n = (k : Int) ∧ k < 256 := by
  have h1 : IntKind.u8.min ≤ n ∧ n ≤ IntKind.u8.max := by simpa [Lit.wf] using h
  have e1 : IntKind.u8.min = 0 := rfl
  have e2 : IntKind.u8.max = 255 := rfl
  exact ⟨n.toNat, by omega, by omega⟩
theorem bytes_of {zs : List Int} (h : ∀ y ∈ zs, (Lit.int .u8 y).wf = true) : ∃ l : List Nat, zs = ints l ∧ AllB l := by
  induction zs with
  | nil => exact ⟨[], rfl, nofun⟩
  | cons z zs ih =>
    obtain ⟨l, rfl, hl⟩ := ih (fun y hy => h y (by simp [hy]))
    obtain ⟨k, rfl, hk⟩ := nat_u8 (h z (by simp))
    refine ⟨k :: l, rfl, fun y hy => ?_⟩
    rcases List.mem_cons.1 hy with rfl | hy
    · exact hk
    · exact hl y hy
variable {H : Type} {enc : TypeId × Value → H} {W : World}
/-- Bytes that came in. -/
theorem open_bytes {fuel : Nat} {v : Value} {x : DataW H × List MemPlace} (hf : DataW.trod enc Tryz.prog W 0 (fun _ => true) true fuel 80 [v] = some x) :
    ∃ (a : Option Addr) (l : List Nat) (cap : Nat), v = .slice a l.length cap ∧ Bytes W a l ∧ AllB l ∧ (a = none → cap = 0) ∧ l.length ≤ cap ∧ cap ≤ maxLen := by
  rcases open_ints Tryz.underlying80 Tryz.underlying5 (by kernel_rfl) hf with ⟨hcs, rfl⟩ | ⟨x, len, c, zs, hcs, _, hl, hm, hz, rfl, hcell, hwz⟩
  · simp at hcs
    exact ⟨none, [], 0, hcs, .inl rfl, nofun, fun _ => rfl, Nat.le_refl _, by unfold maxLen; omega⟩
  · simp at hcs
    obtain ⟨l, rfl, hlb⟩ := bytes_of hwz
    have hz' : l.length = c := by simpa using hz
    refine ⟨some x, l.take len, c, by rw [hcs]; simp; omega, ?_, hlb.take len, nofun, by simp; omega, hm⟩
    by_cases h0 : len = 0
    · exact .inl (by simp [h0])
    · obtain ⟨b, off, spot⟩ := x
      have hc := hcell 0 (by simp; omega)
      have hspot : spot = none := by simpa [Addr.add] using World.cell?_spot hc
      subst hspot
      show Seen .u8 W _ (ints (l.take len))
      rw [ints_take]
      refine .inr ⟨b, off, rfl, World.block_lt_of_cell? _ _ hc, fun i hi => ?_⟩
      have h1 := hcell i (by simp at hi ⊢; omega)
      rw [addr_add] at h1
      rw [h1]
      have h2 : i < (ints l).length := by simp at hi ⊢; omega
      simp [List.getD_eq_getElem?_getD, List.getElem?_eq_getElem h2]

end Go.Proofs.YtgpmghdoofcpaaaGreat

namespace Go.Proofs.YtgpmghdoofcpaaaGreat
open Go.ChangeShapes Go.WideShapes Go.ChangeAt Go.RowKit Go.Deep Go.QK Go.Joins

theorem cells3 : Tryz.prog.cellsOf 3 = 1 := by kernel_rfl
theorem cells2 : Tryz.prog.cellsOf 2 = 1 := by kernel_rfl
theorem cells4 : Tryz.prog.cellsOf 4 = 1 := by kernel_rfl
theorem cells24 : Tryz.prog.cellsOf 32 = 1 := by kernel_rfl
theorem cells26 : Tryz.prog.cellsOf 34 = 2 := by kernel_rfl
theorem cells28 : Tryz.prog.cellsOf 36 = 2 := by kernel_rfl
theorem cells30 : Tryz.prog.cellsOf 38 = 5 := by kernel_rfl
theorem cells34 : Tryz.prog.cellsOf 42 = 3 := by kernel_rfl
theorem cells31 : Tryz.prog.cellsOf 39 = 1 := by kernel_rfl
theorem cells32 : Tryz.prog.cellsOf 40 = 1 := by kernel_rfl
theorem cells36 : Tryz.prog.cellsOf 44 = 17 := by kernel_rfl
theorem cells63 : Tryz.prog.cellsOf 55 = 4 := by kernel_rfl
theorem cells65 : Tryz.prog.cellsOf 57 = 2 := by kernel_rfl
theorem list2 {α : Type} {l : List α} (h : l.length = 2) : ∃ a b, l = [a, b] := by
  match l, h with
  | [a, b], _ => exact ⟨a, b, rfl⟩
theorem list3 {α : Type} {l : List α} (h : l.length = 3) : ∃ a b c, l = [a, b, c] := by
  match l, h with
  | [a, b, c], _ => exact ⟨a, b, c, rfl⟩
theorem list4 {α : Type} {l : List α} (h : l.length = 4) : ∃ a b c d, l = [a, b, c, d] := by
  match l, h with
  | [a, b, c, d], _ => exact ⟨a, b, c, d, rfl⟩
theorem list5 {α : Type} {l : List α} (h : l.length = 5) : ∃ a b c d e, l = [a, b, c, d, e] := by
  match l, h with
  | [a, b, c, d, e], _ => exact ⟨a, b, c, d, e, rfl⟩
theorem list9 {α : Type} {l : List α} (h : l.length = 9) : ∃ a b c d e f g i j, l = [a, b, c, d, e, f, g, i, j] := by
  match l, h with
  | [a, b, c, d, e, f, g, i, j], _ => exact ⟨a, b, c, d, e, f, g, i, j, rfl⟩
theorem list17 {α : Type} {l : List α} (h : l.length = 17) : ∃ a b c d e f g i j k m n o p q r s, l = [a, b, c, d, e, f, g, i, j, k, m, n, o, p, q, r, s] := by
  match l, h with
  | [a, b, c, d, e, f, g, i, j, k, m, n, o, p, q, r, s], _ => exact ⟨a, b, c, d, e, f, g, i, j, k, m, n, o, p, q, r, s, rfl⟩
theorem choose_list {α : Type} (P : Nat → α → Prop) : (n : Nat) → (∀ i, i < n → ∃ l, P i l) → ∃ ls : List α, ls.length = n ∧ ∀ i (h : i < ls.length), P i ls[i]
  | 0, _ => ⟨[], rfl, nofun⟩
  | n + 1, h => by
    obtain ⟨ls, e, q⟩ := choose_list P n (fun i hi => h i (by omega))
    obtain ⟨x, hx⟩ := h n (by omega)
    refine ⟨ls ++ [x], by simp [e], fun i hi => ?_⟩
    by_cases hlt : i < ls.length
    · rw [List.getElem_append_left hlt]; exact q i hlt
    · have : i = ls.length := by rw [List.length_append] at hi; simp at hi; omega
      subst this
      rw [List.getElem_append_right (Nat.le_refl _)]
      simp
      rw [e]
      exact hx
variable {H : Type} {enc : TypeId × Value → H} {W : World}
set_option maxRecDepth 100000
theorem open_live {fuel : Nat} {cs : List Value} {x : DataW H × List MemPlace} (h : DataW.trod enc Tryz.prog W 0 (fun _ => true) true fuel 55 cs = some x) : ∃ l : LiveM, cs = liveC l := by
  obtain ⟨ys, n, _, rfl, hl, hlen, hf⟩ := DataW.trod_struct Tryz.underlying55 h
  rw [cells63] at hl
  obtain ⟨c0, c1, c2, c3, rfl⟩ := list4 hl
  have hlen' : ys.length = 4 := by simpa using hlen
  obtain ⟨y0, y1, y2, y3, rfl⟩ := list4 hlen'
  have f0 := hf 0 _ rfl
  have f1 := hf 1 _ rfl
  have f2 := hf 2 _ rfl
  have f3 := hf 3 _ rfl
  simp [cells3, cells4] at f0 f1 f2 f3
  obtain ⟨a, e0, _, _⟩ := DataW.trod_int Tryz.underlying3 f0
  obtain ⟨b, e1, _, _⟩ := DataW.trod_int Tryz.underlying3 f1
  obtain ⟨c, e2, _⟩ := DataW.trod_bool Tryz.underlying4 f2
  obtain ⟨d, e3, _⟩ := DataW.trod_bool Tryz.underlying4 f3
  simp at e0 e1 e2 e3
  subst e0 e1 e2 e3
  exact ⟨⟨a, b, c, d⟩, rfl⟩
theorem open_dirty {fuel : Nat} {cs : List Value} {x : DataW H × List MemPlace} (h : DataW.trod enc Tryz.prog W 0 (fun _ => true) true fuel 57 cs = some x) : ∃ l : DirtyM, cs = dirtyC l := by
  obtain ⟨ys, n, _, rfl, hl, hlen, hf⟩ := DataW.trod_struct Tryz.underlying57 h
  rw [cells65] at hl
  obtain ⟨c0, c1, rfl⟩ := list2 hl
  have hlen' : ys.length = 2 := by simpa using hlen
  obtain ⟨y0, y1, rfl⟩ := list2 hlen'
  have f0 := hf 0 _ rfl
  have f1 := hf 1 _ rfl
  simp [cells3] at f0 f1
  obtain ⟨a, e0, _, _⟩ := DataW.trod_int Tryz.underlying3 f0
  obtain ⟨b, e1, _, _⟩ := DataW.trod_int Tryz.underlying3 f1
  simp at e0 e1
  subst e0 e1
  exact ⟨⟨a, b⟩, rfl⟩
theorem open_lives {fuel : Nat} {v : Value} {x : DataW H × List MemPlace} (hf : DataW.trod enc Tryz.prog W 0 (fun _ => true) true fuel 39 [v] = some x) :
    ∃ (a : Option Addr) (ls : List LiveM) (c : Nat), v = .slice a ls.length c ∧ Lies W a (liveCs ls) ∧ ls.length ≤ c := by
  rcases open_slice Tryz.underlying39 hf with ⟨hcs, _⟩ | ⟨x, l, c, m, n, D, Pl, hcs, _, hl, hm, hmm, rfl, hx⟩
  · simp at hcs
    subst hcs
    exact ⟨none, [], 0, rfl, .inl rfl, Nat.le_refl _⟩
  · simp at hcs
    subst hcs
    simp at hmm
    obtain ⟨b, off, spot⟩ := x
    have key : ∀ i, i < l → ∃ y : LiveM, ∀ j v, (liveC y)[j]? = some v → W.cell? (((⟨b, off, spot⟩ : Addr).add (i * 4)).add j) = some v := by
      intro i hi
      obtain ⟨cs, h1, h2⟩ := hx i (by omega)
      rw [cells63] at h1
      obtain ⟨_, _, hc⟩ := World.cells?_some h1
      obtain ⟨y, rfl⟩ := open_live h2
      refine ⟨y, fun j v hv => ?_⟩
      have hj : j < 4 := by
        obtain ⟨hh, _⟩ := List.getElem?_eq_some_iff.1 hv
        simpa [liveC] using hh
      exact (hc j hj).trans hv
    obtain ⟨ls, el, q⟩ := choose_list _ l key
    subst el
    refine ⟨some ⟨b, off, spot⟩, ls, c, rfl, ?_, by omega⟩
    by_cases h0 : ls.length = 0
    · exact .inl (by rw [List.eq_nil_of_length_eq_zero h0]; rfl)
    · have q0 := q 0 (by omega) 0 _ rfl
      have hspot : spot = none := by simpa [Addr.add] using World.cell?_spot q0
      subst hspot
      refine .inr ⟨b, off, rfl, ?_, fun i hi => ?_⟩
      · rw [addr_add, addr_add] at q0
        exact World.block_lt_of_cell? _ _ q0
      · have hlen := liveCs_length ls
        have hi4 : i / 4 < ls.length := by omega
        have e1 : (liveCs ls)[4 * (i / 4) + i % 4]? = (liveC ls[i / 4])[i % 4]? := liveCs_get ls (i / 4) hi4 (i % 4) (by omega)
        rw [show 4 * (i / 4) + i % 4 = i by omega, List.getElem?_eq_getElem hi] at e1
        have := q (i / 4) hi4 (i % 4) _ e1.symm
        rw [addr_add, addr_add] at this
        rw [← this]
        congr 2
        omega
theorem open_dirties {fuel : Nat} {v : Value} {x : DataW H × List MemPlace} (hf : DataW.trod enc Tryz.prog W 0 (fun _ => true) true fuel 40 [v] = some x) :
    ∃ (a : Option Addr) (ls : List DirtyM) (c : Nat), v = .slice a ls.length c ∧ Lies W a (dirtyCs ls) ∧ ls.length ≤ c := by
  rcases open_slice Tryz.underlying40 hf with ⟨hcs, _⟩ | ⟨x, l, c, m, n, D, Pl, hcs, _, hl, hm, hmm, rfl, hx⟩
  · simp at hcs
    subst hcs
    exact ⟨none, [], 0, rfl, .inl rfl, Nat.le_refl _⟩
  · simp at hcs
    subst hcs
    simp at hmm
    obtain ⟨b, off, spot⟩ := x
    have key : ∀ i, i < l → ∃ y : DirtyM, ∀ j v, (dirtyC y)[j]? = some v → W.cell? (((⟨b, off, spot⟩ : Addr).add (i * 2)).add j) = some v := by
      intro i hi
      obtain ⟨cs, h1, h2⟩ := hx i (by omega)
      rw [cells65] at h1
      obtain ⟨_, _, hc⟩ := World.cells?_some h1
      obtain ⟨y, rfl⟩ := open_dirty h2
      refine ⟨y, fun j v hv => ?_⟩
      have hj : j < 2 := by
        obtain ⟨hh, _⟩ := List.getElem?_eq_some_iff.1 hv
        simpa [dirtyC] using hh
      exact (hc j hj).trans hv
    obtain ⟨ls, el, q⟩ := choose_list _ l key
    subst el
    refine ⟨some ⟨b, off, spot⟩, ls, c, rfl, ?_, by omega⟩
    by_cases h0 : ls.length = 0
    · exact .inl (by rw [List.eq_nil_of_length_eq_zero h0]; rfl)
    · have q0 := q 0 (by omega) 0 _ rfl
      have hspot : spot = none := by simpa [Addr.add] using World.cell?_spot q0
      subst hspot
      refine .inr ⟨b, off, rfl, ?_, fun i hi => ?_⟩
      · rw [addr_add, addr_add] at q0
        exact World.block_lt_of_cell? _ _ q0
      · have hlen := dirtyCs_length ls
        have hi4 : i / 2 < ls.length := by omega
        have e1 : (dirtyCs ls)[2 * (i / 2) + i % 2]? = (dirtyC ls[i / 2])[i % 2]? := dirtyCs_get ls (i / 2) hi4 (i % 2) (by omega)
        rw [show 2 * (i / 2) + i % 2 = i by omega, List.getElem?_eq_getElem hi] at e1
        have := q (i / 2) hi4 (i % 2) _ e1.symm
        rw [addr_add, addr_add] at this
        rw [← this]
        congr 2
        omega
theorem open_rec {fuel : Nat} {cs : List Value} {x : DataW H × List MemPlace} (h : DataW.trod enc Tryz.prog W 0 (fun _ => true) true fuel 44 cs = some x) :
    ∃ (r : RecM) (la da : Option Addr) (lc dc : Nat), cs = (recC r la lc da dc).toList ∧ Lies W la (liveCs r.live) ∧ Lies W da (dirtyCs r.dirty) ∧ r.live.length ≤ lc ∧ r.dirty.length ≤ dc ∧ Fits r := by
  obtain ⟨ys, n, _, rfl, hl, hlen, hf⟩ := DataW.trod_struct Tryz.underlying44 h
  rw [cells36] at hl
  obtain ⟨c0, c1, c2, c3, c4, c5, c6, c7, c8, c9, c10, c11, c12, c13, c14, c15, c16, rfl⟩ := list17 hl
  have hlen' : ys.length = 9 := by simpa using hlen
  obtain ⟨y0, y1, y2, y3, y4, y5, y6, y7, y8, rfl⟩ := list9 hlen'
  have f0 := hf 0 _ rfl
  have f1 := hf 1 _ rfl
  have f2 := hf 2 _ rfl
  have f3 := hf 3 _ rfl
  have f4 := hf 4 _ rfl
  have f5 := hf 5 _ rfl
  have f6 := hf 6 _ rfl
  have f7 := hf 7 _ rfl
  have f8 := hf 8 _ rfl
  simp [cells3, cells24, cells26, cells2, cells30, cells34] at f0 f1 f2 f3 f4 f5 f6 f7 f8
  obtain ⟨q0, e0, _, _⟩ := DataW.trod_int Tryz.underlying3 f0
  obtain ⟨q1, e1, _, _⟩ := DataW.trod_int Tryz.underlying32 f1
  obtain ⟨q2, e2, _, _⟩ := DataW.trod_int Tryz.underlying3 f2
  obtain ⟨q3, e3, _, _⟩ := DataW.trod_int Tryz.underlying3 f3
  obtain ⟨zs, m, _, _, hl1, hlen1, hf1⟩ := DataW.trod_struct Tryz.underlying34 f4
  obtain ⟨z0, z1, rfl⟩ := list2 (show zs.length = 2 by simpa using hlen1)
  have g0 := hf1 0 _ rfl
  have g1 := hf1 1 _ rfl
  simp [cells3] at g0 g1
  obtain ⟨q4, e4, _, _⟩ := DataW.trod_int Tryz.underlying3 g0
  obtain ⟨q5, e5, _, _⟩ := DataW.trod_int Tryz.underlying3 g1
  obtain ⟨zs2, m2, _, _, hl2, hlen2, hf2⟩ := DataW.trod_struct Tryz.underlying34 f5
  obtain ⟨z2, z3, rfl⟩ := list2 (show zs2.length = 2 by simpa using hlen2)
  have g2 := hf2 0 _ rfl
  have g3 := hf2 1 _ rfl
  simp [cells3] at g2 g3
  obtain ⟨q6, e6, _, _⟩ := DataW.trod_int Tryz.underlying3 g2
  obtain ⟨q7, e7, _, _⟩ := DataW.trod_int Tryz.underlying3 g3
  obtain ⟨q8, e8, _, w8⟩ := DataW.trod_int Tryz.underlying2 f6
  obtain ⟨zs3, m3, _, _, hl3, hlen3, hf3⟩ := DataW.trod_struct Tryz.underlying38 f7
  obtain ⟨z4, z5, z6, z7, rfl⟩ := list4 (show zs3.length = 4 by simpa using hlen3)
  have g4 := hf3 0 _ rfl
  have g5 := hf3 1 _ rfl
  have g6 := hf3 2 _ rfl
  have g7 := hf3 3 _ rfl
  simp [cells3, cells28, cells2] at g4 g5 g6 g7
  obtain ⟨q9, e9, _, _⟩ := DataW.trod_int Tryz.underlying3 g4
  obtain ⟨q10, e10, _, _⟩ := DataW.trod_int Tryz.underlying3 g5
  obtain ⟨zs4, m4, _, _, hl4, hlen4, hf4⟩ := DataW.trod_struct Tryz.underlying36 g6
  obtain ⟨z8, z9, rfl⟩ := list2 (show zs4.length = 2 by simpa using hlen4)
  have i0 := hf4 0 _ rfl
  have i1 := hf4 1 _ rfl
  simp [cells2] at i0 i1
  obtain ⟨q11, e11, _, w11⟩ := DataW.trod_int Tryz.underlying2 i0
  obtain ⟨q12, e12, _, w12⟩ := DataW.trod_int Tryz.underlying2 i1
  obtain ⟨q13, e13, _, w13⟩ := DataW.trod_int Tryz.underlying2 g7
  obtain ⟨zs5, m5, _, _, hl5, hlen5, hf5⟩ := DataW.trod_struct Tryz.underlying42 f8
  obtain ⟨z10, z11, z12, rfl⟩ := list3 (show zs5.length = 3 by simpa using hlen5)
  have j0 := hf5 0 _ rfl
  have j1 := hf5 1 _ rfl
  have j2 := hf5 2 _ rfl
  simp [cells31, cells32, cells3] at j0 j1 j2
  obtain ⟨la, ls, lc, e14, ll, lcc⟩ := open_lives j0
  obtain ⟨da, ds, dc, e15, dl, dcc⟩ := open_dirties j1
  obtain ⟨q16, e16, _, _⟩ := DataW.trod_int Tryz.underlying3 j2
  simp at e0 e1 e2 e3 e4 e5 e6 e7 e8 e9 e10 e11 e12 e13 e16
  subst e0 e1 e2 e3 e4 e5 e6 e7 e8 e9 e10 e11 e12 e13 e14 e15 e16
  exact ⟨⟨q0, q1, q2, q3, q4, q5, q6, q7, q8, q9, q10, q11, q12, q13, ls, ds, q16⟩, la, da, lc, dc, rfl, ll, dl, lcc, dcc, ⟨rng_i64 w8, rng_i64 w11, rng_i64 w12, rng_i64 w13⟩⟩
end Go.Proofs.YtgpmghdoofcpaaaGreat
