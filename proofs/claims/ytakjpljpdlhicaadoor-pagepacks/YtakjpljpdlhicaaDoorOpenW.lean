import Derived.Test.YtakjpljpdlhicaaDoorOpenP
import Derived.Test.YtakjpljpdlhicaaDoorLaid
import Derived.Test.YtakjpljpdlhicaaDoorPg38
set_option linter.all false
namespace Go.Proofs.YtakjpljpdlhicaaDoor
open Go.ChangeShapes Go.WideShapes Go.ChangeAt Go.RowKit Go.Deep Go.QK Go.Joins Go.Pg
set_option maxRecDepth 100000
theorem gMkC : Tryd.prog.globalNamed "quota/quotalaw07.markCounter" = some 0 := by kernel_rfl
theorem gMkG : Tryd.prog.globalNamed "quota/quotalaw07.markGroup" = some 1 := by kernel_rfl
theorem tMkC : (Tryd.prog.globals[0]?).map (·.type) = some 57 := by kernel_rfl
theorem tMkG : (Tryd.prog.globals[1]?).map (·.type) = some 59 := by kernel_rfl
/-- What the row lists. -/
abbrev listed3 : List (String × DataW Unit) := [("quota/field.shifted", Rows.laid_quota_field_shifted), ("quota/quotalaw07.markCounter", Rows.laid_quota_quotalaw07_markCounter), ("quota/quotalaw07.markGroup", Rows.laid_quota_quotalaw07_markGroup)]
theorem door_met3 (os : Os) (args : Array Value) : laidMetH Tryd.prog listed3 ((World.doorLaid Tryd.prog 400 os).forCall (fun _ _ => 0) ⟨#[], args, []⟩).memory :=
  laidMetH_of_parts3 (fuel := 8) (laidMet_of_run' 8 (by kernel_rfl) (by kernel_rfl)) (by kernel_rfl) (by kernel_rfl)
theorem data_ctr {W : World} {fl : Bool} {fuel : Nat} {cs : List Value} {q : List MemPlace} {a b c d e : Int} (h : DataW.trod (fun _ => ()) Tryd.prog W 0 (fun _ => true) fl fuel 57 cs = some (.agg [.lit (.int .i64 a), .lit (.int .i64 b), .agg [.lit (.int .i64 c), .lit (.int .i64 d)], .lit (.int .i64 e)], q)) : cs = ctrC ⟨a, b, c, d, e⟩ := by
  obtain ⟨ys, n, _, ey, hl, hlen, hf⟩ := DataW.trod_struct Tryd.underlying57 h
  rw [cells57] at hl
  obtain ⟨c0, c1, c2, c3, c4, rfl⟩ := list5 hl
  obtain ⟨y0, y1, y2, y3, rfl⟩ := list4 (show ys.length = 4 by simpa using hlen)
  have f0 := hf 0 _ rfl
  have f1 := hf 1 _ rfl
  have f2 := hf 2 _ rfl
  have f3 := hf 3 _ rfl
  simp [cells3, cells55, cells2] at f0 f1 f2 f3
  obtain ⟨x0, e0, r0, w0⟩ := DataW.trod_int Tryd.underlying3 f0
  obtain ⟨x1, e1, r1, w1⟩ := DataW.trod_int Tryd.underlying3 f1
  obtain ⟨zs4, m4, _, ez, hl4, hlen4, hf4⟩ := DataW.trod_struct Tryd.underlying55 f2
  obtain ⟨z8, z9, rfl⟩ := list2 (show zs4.length = 2 by simpa using hlen4)
  have i0 := hf4 0 _ rfl
  have i1 := hf4 1 _ rfl
  simp [cells2] at i0 i1
  obtain ⟨x2, e2, r2, w2⟩ := DataW.trod_int Tryd.underlying2 i0
  obtain ⟨x3, e3, r3, w3⟩ := DataW.trod_int Tryd.underlying2 i1
  obtain ⟨x4, e4, r4, w4⟩ := DataW.trod_int Tryd.underlying2 f3
  simp at e0 e1 e2 e3 e4
  subst e0 e1 e2 e3 e4
  subst r0 r1 r2 r3 r4
  subst ez
  simp at ey
  obtain ⟨⟨rfl, rfl, ⟨rfl, rfl⟩, rfl⟩, -⟩ := ey
  rfl
theorem data_grp {W : World} {fl : Bool} {fuel : Nat} {cs : List Value} {q : List MemPlace} {a b : Int} (h : DataW.trod (fun _ => ()) Tryd.prog W 0 (fun _ => true) fl fuel 59 cs = some (.agg [.lit (.int .i64 a), .lit (.int .i64 b)], q)) : cs = grpC ⟨a, b⟩ := by
  obtain ⟨ys, n, _, ey, hl, hlen, hf⟩ := DataW.trod_struct Tryd.underlying59 h
  rw [cells59] at hl
  obtain ⟨c0, c1, rfl⟩ := list2 hl
  obtain ⟨y0, y1, rfl⟩ := list2 (show ys.length = 2 by simpa using hlen)
  have f0 := hf 0 _ rfl
  have f1 := hf 1 _ rfl
  simp [cells3, cells2] at f0 f1
  obtain ⟨x0, e0, r0, w0⟩ := DataW.trod_int Tryd.underlying3 f0
  obtain ⟨x1, e1, r1, w1⟩ := DataW.trod_int Tryd.underlying2 f1
  simp at e0 e1
  subst e0 e1
  subst r0 r1
  simp at ey
  obtain ⟨⟨rfl, rfl⟩, -⟩ := ey
  rfl
theorem lies_var {W : World} {g : Nat} {cs : List Value} (hc : ∀ i, W.cell? ⟨g, i, none⟩ = cs[i]?) (hn : 0 < cs.length) : Lies W (some ⟨g, 0, none⟩) cs := by
  refine .inr ⟨g, 0, rfl, ?_, fun i hi => by rw [Nat.zero_add, hc i, List.getElem?_eq_getElem hi]⟩
  have h0 := hc 0
  rw [List.getElem?_eq_getElem hn] at h0
  exact World.block_lt_of_cell? _ _ h0
theorem of_laid3 {W : World} (h : laidMetH Tryd.prog listed3 W) : Tab W ∧ Mks W := by
  rw [MakeChecks.laidMetH_plain _ _ _ (by kernel_rfl)] at h
  obtain ⟨ps, ⟨g0, t0, cs0, f0, p0, q0, hg0, ht0, hv0, hd0, ⟨g1, t1, cs1, f1, p1, q1, hg1, ht1, hv1, hd1, ⟨g2, t2, cs2, f2, p2, q2, hg2, ht2, hv2, hd2, hr2, e2⟩, e1⟩, e0⟩, nd, hall⟩ := h
  have hT : Tab W := by
    refine of_laid ?_
    rw [MakeChecks.laidMetH_plain _ _ _ (by kernel_rfl)]
    refine ⟨_, ⟨g0, t0, cs0, f0, p0, [], hg0, ht0, hv0, hd0, rfl, rfl⟩, ?_, fun b off hm => hall b off ?_⟩
    · rw [e0] at nd
      rw [List.append_nil]
      exact (List.nodup_append.1 nd).1
    · rw [e0]
      rw [List.append_nil] at hm
      exact List.mem_append_left _ hm
  refine ⟨hT, ?_, ?_⟩
  · obtain rfl := Option.some.inj (gMkC.symm.trans hg1)
    obtain rfl := Option.some.inj (tMkC.symm.trans ht1)
    have hc := World.var?_cell hg1 hv1
    have e := data_ctr hd1
    rw [← e]
    exact lies_var (fun i => by rw [hc i]; simp) (by rw [e]; decide)
  · obtain rfl := Option.some.inj (gMkG.symm.trans hg2)
    obtain rfl := Option.some.inj (tMkG.symm.trans ht2)
    have hc := World.var?_cell hg2 hv2
    have e := data_grp hd2
    rw [← e]
    exact lies_var (fun i => by rw [hc i]; simp) (by rw [e]; decide)
theorem bytes57 : Tryd.prog.bytesOf 57 = 40 := by kernel_rfl
theorem bytes59 : Tryd.prog.bytesOf 59 = 16 := by kernel_rfl
variable {H : Type} {enc : TypeId × Value → H} {W : World}
theorem rows_weight {T E : TypeId} (hu : Tryd.prog.underlying T = some (.slice E)) {fuel : Nat} {v : Value} {x : DataW H × List MemPlace} (hf : DataW.trod enc Tryd.prog W 0 (fun _ => true) true fuel T [v] = some x)
    (hw : ∀ n ∈ x.1.weights Tryd.prog T, n ≤ reachBytes) (a : Option Addr) (n c : Nat) (hv : v = .slice a n c) : n * Tryd.prog.bytesOf E ≤ reachBytes := by
  rcases open_slice hu hf with ⟨hcs, _⟩ | ⟨y, l, cp, m, q, D, Pl, hcs, _, hl, hm, hmm, rfl, hx⟩
  · simp at hcs
    rw [hcs] at hv
    cases hv
    simp
  · simp at hcs
    rw [hcs] at hv
    cases hv
    have := hw ((n + (m - n)) * Tryd.prog.bytesOf E) (by simp [DataW.weights, hu])
    exact Nat.le_trans (Nat.mul_le_mul_right _ (by omega)) this
theorem open_pageW {fuel : Nat} {cs : List Value} {x : DataW H × List MemPlace} (h : DataW.trod enc Tryd.prog W 0 (fun _ => true) true fuel 34 cs = some x) (hw : ∀ n ∈ x.1.weights Tryd.prog 34, n ≤ reachBytes) :
    ∃ (p : PageM) (t : At), cs = [.int .i64 p.num, .int .i64 p.lsn, .slice t.a p.cs.length t.c, .slice t.b p.gs.length t.d] ∧ PageIn W p t ∧ (t.a = none → t.c = 0 ∧ p.cs.length = 0) ∧ (t.b = none → t.d = 0 ∧ p.gs.length = 0) ∧ p.cs.length * 40 + 40 ≤ 140737488355328 ∧ p.gs.length * 16 + 16 ≤ 140737488355328 := by
  obtain ⟨ys, n, _, rfl, hl, hlen, hf⟩ := DataW.trod_struct Tryd.underlying34 h
  rw [cells34] at hl
  obtain ⟨c0, c1, c2, c3, rfl⟩ := list4 hl
  obtain ⟨y0, y1, y2, y3, rfl⟩ := list4 (show ys.length = 4 by simpa using hlen)
  have f0 := hf 0 _ rfl
  have f1 := hf 1 _ rfl
  have f2 := hf 2 _ rfl
  have f3 := hf 3 _ rfl
  simp [cells3, cells24, cells25] at f0 f1 f2 f3
  obtain ⟨a, e0, _, w0⟩ := DataW.trod_int Tryd.underlying3 f0
  obtain ⟨b, e1, _, w1⟩ := DataW.trod_int Tryd.underlying3 f1
  obtain ⟨la, ls, lc, e2, ll, l1, lf, ln⟩ := open_ctrs f2
  obtain ⟨da, ds, dc, e3, dl, d1, df, dn⟩ := open_grps f3
  have k1 := rows_weight Tryd.underlying24 f2 (fun n hn => hw n (by
    simp only [DataW.weights, Tryd.underlying34]
    exact DataW.weights_mem_each (j := 2) (t := 24) rfl rfl n hn)) la ls.length lc e2
  have k2 := rows_weight Tryd.underlying25 f3 (fun n hn => hw n (by
    simp only [DataW.weights, Tryd.underlying34]
    exact DataW.weights_mem_each (j := 3) (t := 25) rfl rfl n hn)) da ds.length dc e3
  rw [bytes57] at k1
  rw [bytes59] at k2
  unfold reachBytes at k1 k2
  simp at e0 e1
  subst e0 e1 e2 e3
  exact ⟨⟨a, b, ls, ds⟩, ⟨la, lc, da, dc⟩, rfl, ⟨ll, dl, rng_i64 w0, rng_i64 w1, lf, df⟩, fun q => by have := ln q; simp only at this ⊢; omega, fun q => by have := dn q; simp only at this ⊢; omega, by simp only; omega, by simp only; omega⟩
end Go.Proofs.YtakjpljpdlhicaaDoor
