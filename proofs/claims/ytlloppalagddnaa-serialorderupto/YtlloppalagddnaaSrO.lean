import Derived.Test.YtlloppalagddnaaRows
import Derived.Test.YtlloppalagddnaaSr23
import Derived.LaidMore
import Derived.ProofKit
import Derived.OpenShut
import Derived.ChangeOld
import Derived.Lib.SmallJoins
import Derived.Deep.Slices
set_option linter.all false
namespace Go.Proofs.Ytlloppalagddnaa
open Go.ChangeShapes Go.WideShapes Go.ChangeAt Go.RowKit Go.Deep Go.QK Go.Joins Go.QM Go.QS Quota
set_option maxRecDepth 100000
theorem rowsC_length {α : Type} (f : α → List Value) (n : Nat) (hf : ∀ x, (f x).length = n) (ls : List α) : (rowsC f ls).length = ls.length * n := by
  induction ls with
  | nil => simp [rowsC]
  | cons l ls ih =>
    simp only [rowsC, List.flatMap_cons, List.length_append, List.length_cons, hf] at ih ⊢
    rw [ih, Nat.succ_mul]; omega
theorem own : ownKnob Try.prog.godebug = none := by kernel_rfl
theorem laidOut : laidOutB Try.prog = true := by kernel_rfl
theorem cells3 : Try.prog.cellsOf 3 = 1 := by kernel_rfl
theorem i64_wf {z : Int} (h : (Lit.int .i64 z).wf = true) : I64 z := by
  have h1 : IntKind.i64.min ≤ z ∧ z ≤ IntKind.i64.max := by simpa [Lit.wf] using h
  have e1 : IntKind.i64.min = -9223372036854775808 := rfl
  have e2 : IntKind.i64.max = 9223372036854775807 := rfl
  unfold I64
  omega
theorem pick_list {α : Type} (p : Nat → α → Prop) (n : Nat) (h : ∀ i, i < n → ∃ y, p i y) : ∃ l : List α, l.length = n ∧ ∀ i (hi : i < l.length), p i l[i] := by
  induction n with
  | zero => exact ⟨[], rfl, fun i hi => by cases hi⟩
  | succ n ih =>
    obtain ⟨l, e, q⟩ := ih (fun i hi => h i (by omega))
    obtain ⟨y, hy⟩ := h n (by omega)
    refine ⟨l ++ [y], by simp [e], fun i hi => ?_⟩
    by_cases hl : i < l.length
    · rw [List.getElem_append_left hl]; exact q i hl
    · have : i = l.length := by simp at hi; omega
      subst this
      rw [List.getElem_append_right (by omega)]
      simp
      rw [e]
      exact hy

theorem cells2 : Try.prog.cellsOf 2 = 1 := by kernel_rfl
theorem cells4 : Try.prog.cellsOf 4 = 1 := by kernel_rfl
theorem cells48 : Try.prog.cellsOf 66 = 1 := by kernel_rfl
theorem cells49 : Try.prog.cellsOf 67 = 1 := by kernel_rfl
theorem cells41 : Try.prog.cellsOf 59 = 1 := by kernel_rfl
theorem cells43 : Try.prog.cellsOf 61 = 2 := by kernel_rfl
theorem cells45 : Try.prog.cellsOf 63 = 2 := by kernel_rfl
theorem cells47 : Try.prog.cellsOf 65 = 5 := by kernel_rfl
theorem cells51 : Try.prog.cellsOf 69 = 3 := by kernel_rfl
theorem cells53 : Try.prog.cellsOf 71 = 17 := by kernel_rfl
theorem lst2 {α : Type} {l : List α} (h : l.length = 2) : ∃ a b, l = [a, b] := by
  match l, h with
  | [a, b], _ => exact ⟨a, b, rfl⟩
theorem lst3 {α : Type} {l : List α} (h : l.length = 3) : ∃ a b c, l = [a, b, c] := by
  match l, h with
  | [a, b, c], _ => exact ⟨a, b, c, rfl⟩
theorem lst4 {α : Type} {l : List α} (h : l.length = 4) : ∃ a b c d, l = [a, b, c, d] := by
  match l, h with
  | [a, b, c, d], _ => exact ⟨a, b, c, d, rfl⟩
theorem lst5 {α : Type} {l : List α} (h : l.length = 5) : ∃ a b c d e, l = [a, b, c, d, e] := by
  match l, h with
  | [a, b, c, d, e], _ => exact ⟨a, b, c, d, e, rfl⟩
theorem lst9 {α : Type} {l : List α} (h : l.length = 9) : ∃ a b c d e f g i j, l = [a, b, c, d, e, f, g, i, j] := by
  match l, h with
  | [a, b, c, d, e, f, g, i, j], _ => exact ⟨a, b, c, d, e, f, g, i, j, rfl⟩
theorem lst17 {α : Type} {l : List α} (h : l.length = 17) : ∃ a b c d e f g i j k m n o p q r s, l = [a, b, c, d, e, f, g, i, j, k, m, n, o, p, q, r, s] := by
  match l, h with
  | [a, b, c, d, e, f, g, i, j, k, m, n, o, p, q, r, s], _ => exact ⟨a, b, c, d, e, f, g, i, j, k, m, n, o, p, q, r, s, rfl⟩
variable {H : Type} {enc : TypeId × Value → H} {W : World}
theorem rows_lies {α : Type} {b off : Nat} (f : α → List Value) (n : Nat) (hf : ∀ x, (f x).length = n) (hn : 0 < n) (ls : List α) (hb : b < W.heap.size) (h : ∀ i (hi : i < ls.length) j v, (f ls[i])[j]? = some v → W.cell? ⟨b, off + i * n + j, none⟩ = some v) : Lies W (some ⟨b, off, none⟩) (rowsC f ls) := by
  refine .inr ⟨b, off, rfl, hb, fun i hi => ?_⟩
  have hl := (rowsC_length f n hf ls).trans (Nat.mul_comm _ _)
  have hi' : i / n < ls.length := by
    rw [hl] at hi
    exact Nat.div_lt_of_lt_mul hi
  have e := rowsC_get f n hf ls (i / n) hi' (i % n) (Nat.mod_lt _ hn)
  rw [Nat.div_add_mod, List.getElem?_eq_getElem hi] at e
  have q := h (i / n) hi' (i % n) _ e.symm
  rw [← q]
  have e2 : off + i / n * n + i % n = off + i := by rw [Nat.add_assoc, Nat.mul_comm (i / n) n, Nat.div_add_mod]
  rw [e2]

/-- A row of structs that came in. -/
theorem open_rowsN {α : Type} {T E : TypeId} {k : Nat} (f : α → List Value) (ok : α → Prop) (hu : Try.prog.underlying T = some (.slice E)) (hc : Try.prog.cellsOf E = k) (hk : 0 < k) (hfl : ∀ x, (f x).length = k)
    (hopen : ∀ {fuel : Nat} {cs : List Value} {x : DataW H × List MemPlace}, DataW.trod enc Try.prog W 0 (fun _ => true) true fuel E cs = some x → ∃ y, cs = f y ∧ ok y)
    {fuel : Nat} {v : Value} {x : DataW H × List MemPlace} (hf : DataW.trod enc Try.prog W 0 (fun _ => true) true fuel T [v] = some x) :
    ∃ (a : Option Addr) (xs : List α) (c : Nat), v = .slice a xs.length c ∧ Lies W a (rowsC f xs) ∧ (∀ y ∈ xs, ok y) ∧ xs.length ≤ maxLen ∧ xs.length ≤ c ∧ (a = none → c = 0 ∧ xs.length = 0) := by
  rcases open_slice hu hf with ⟨hcs, _⟩ | ⟨x, l, c, m, n, D, Pl, hcs, _, hl, hm, hmm, rfl, hx⟩
  · simp at hcs
    subst hcs
    exact ⟨none, [], 0, rfl, .inl rfl, nofun, Nat.zero_le _, Nat.le_refl _, fun _ => ⟨rfl, rfl⟩⟩
  · simp at hcs
    subst hcs
    simp at hmm
    obtain ⟨b, off, spot⟩ := x
    have key : ∀ i, i < l → ∃ y : α, (∀ j v, (f y)[j]? = some v → W.cell? (((⟨b, off, spot⟩ : Addr).add (i * k)).add j) = some v) ∧ ok y := by
      intro i hi
      obtain ⟨cs, h1, h2⟩ := hx i (by omega)
      rw [hc] at h1
      obtain ⟨_, _, hcc⟩ := World.cells?_some h1
      obtain ⟨y, rfl, hy⟩ := hopen h2
      refine ⟨y, fun j v hv => ?_, hy⟩
      have hj : j < k := by
        obtain ⟨hh, _⟩ := List.getElem?_eq_some_iff.1 hv
        rw [hfl] at hh
        exact hh
      exact (hcc j hj).trans hv
    obtain ⟨ls, el, q⟩ := pick_list _ l key
    subst el
    refine ⟨some ⟨b, off, spot⟩, ls, c, rfl, ?_, fun x hx => ?_, Nat.le_trans hl hm, hl, nofun⟩
    · by_cases h0 : ls.length = 0
      · exact .inl (by rw [List.eq_nil_of_length_eq_zero h0]; rfl)
      · have hz : 0 < (f (ls[0]'(by omega))).length := by rw [hfl]; exact hk
        have q0 := (q 0 (by omega)).1 0 _ (List.getElem?_eq_getElem hz)
        have hspot : spot = none := by simpa [Addr.add] using World.cell?_spot q0
        subst hspot
        rw [addr_add, addr_add] at q0
        refine rows_lies f k hfl hk ls (World.block_lt_of_cell? _ _ q0) (fun i hi j v hv => ?_)
        have := (q i hi).1 j v hv
        rw [addr_add, addr_add] at this
        exact this
    · obtain ⟨i, hi, rfl⟩ := List.getElem_of_mem hx
      exact (q i hi).2


theorem open_any {T E : TypeId} (hu : Try.prog.underlying T = some (.slice E)) {fuel : Nat} {v : Value} {x : DataW H × List MemPlace} (hf : DataW.trod enc Try.prog W 0 (fun _ => true) true fuel T [v] = some x) : ∃ (a : Option Addr) (n c : Nat), v = .slice a n c := by
  rcases open_slice hu hf with ⟨hcs, _⟩ | ⟨x, l, c, m, n, D, Pl, hcs, _⟩
  · simp at hcs
    exact ⟨none, 0, 0, hcs⟩
  · simp at hcs
    exact ⟨_, _, _, hcs⟩
theorem rows_weight {T E : TypeId} (hu : Try.prog.underlying T = some (.slice E)) {fuel : Nat} {v : Value} {x : DataW H × List MemPlace} (hf : DataW.trod enc Try.prog W 0 (fun _ => true) true fuel T [v] = some x)
    (hw : ∀ n ∈ x.1.weights Try.prog T, n ≤ reachBytes) (a : Option Addr) (n c : Nat) (hv : v = .slice a n c) : n * Try.prog.bytesOf E ≤ reachBytes := by
  rcases open_slice hu hf with ⟨hcs, _⟩ | ⟨y, l, cp, m, q, D, Pl, hcs, _, hl, hm, hmm, rfl, hx⟩
  · simp at hcs
    rw [hcs] at hv
    cases hv
    simp
  · simp at hcs
    rw [hcs] at hv
    cases hv
    have := hw ((n + (m - n)) * Try.prog.bytesOf E) (by simp [DataW.weights, hu])
    exact Nat.le_trans (Nat.mul_le_mul_right _ (by omega)) this
theorem bytes53b : Try.prog.bytesOf 71 = 168 := by kernel_rfl
set_option maxHeartbeats 2000000 in
theorem open_recX {fuel : Nat} {cs : List Value} {x : DataW H × List MemPlace} (h : DataW.trod enc Try.prog W 0 (fun _ => true) true fuel 71 cs = some x) :
    ∃ y : RZ, cs = rzC y ∧ (I64 y.delta ∧ (cnOf y).Ok) := by
  obtain ⟨ys, n, _, rfl, hl, hlen, hf⟩ := DataW.trod_struct Try.underlying71 h
  rw [cells53] at hl
  obtain ⟨c0, c1, c2, c3, c4, c5, c6, c7, c8, c9, c10, c11, c12, c13, c14, c15, c16, rfl⟩ := lst17 hl
  have hlen' : ys.length = 9 := by simpa using hlen
  obtain ⟨y0, y1, y2, y3, y4, y5, y6, y7, y8, rfl⟩ := lst9 hlen'
  have f0 := hf 0 _ rfl
  have f1 := hf 1 _ rfl
  have f2 := hf 2 _ rfl
  have f3 := hf 3 _ rfl
  have f4 := hf 4 _ rfl
  have f5 := hf 5 _ rfl
  have f6 := hf 6 _ rfl
  have f7 := hf 7 _ rfl
  have f8 := hf 8 _ rfl
  simp [cells3, cells41, cells43, cells2, cells47, cells51] at f0 f1 f2 f3 f4 f5 f6 f7 f8
  obtain ⟨q0, e0, _, _⟩ := DataW.trod_int Try.underlying3 f0
  obtain ⟨q1, e1, _, _⟩ := DataW.trod_int Try.underlying59 f1
  obtain ⟨q2, e2, _, w2⟩ := DataW.trod_int Try.underlying3 f2
  obtain ⟨q3, e3, _, _⟩ := DataW.trod_int Try.underlying3 f3
  obtain ⟨zs, m, _, _, hl1, hlen1, hf1⟩ := DataW.trod_struct Try.underlying61 f4
  obtain ⟨z0, z1, rfl⟩ := lst2 (show zs.length = 2 by simpa using hlen1)
  have g0 := hf1 0 _ rfl
  have g1 := hf1 1 _ rfl
  simp [cells3] at g0 g1
  obtain ⟨q4, e4, _, _⟩ := DataW.trod_int Try.underlying3 g0
  obtain ⟨q5, e5, _, _⟩ := DataW.trod_int Try.underlying3 g1
  obtain ⟨zs2, m2, _, _, hl2, hlen2, hf2⟩ := DataW.trod_struct Try.underlying61 f5
  obtain ⟨z2, z3, rfl⟩ := lst2 (show zs2.length = 2 by simpa using hlen2)
  have g2 := hf2 0 _ rfl
  have g3 := hf2 1 _ rfl
  simp [cells3] at g2 g3
  obtain ⟨q6, e6, _, _⟩ := DataW.trod_int Try.underlying3 g2
  obtain ⟨q7, e7, _, _⟩ := DataW.trod_int Try.underlying3 g3
  obtain ⟨q8, e8, _, w8⟩ := DataW.trod_int Try.underlying2 f6
  obtain ⟨zs3, m3, _, _, hl3, hlen3, hf3⟩ := DataW.trod_struct Try.underlying65 f7
  obtain ⟨z4, z5, z6, z7, rfl⟩ := lst4 (show zs3.length = 4 by simpa using hlen3)
  have g4 := hf3 0 _ rfl
  have g5 := hf3 1 _ rfl
  have g6 := hf3 2 _ rfl
  have g7 := hf3 3 _ rfl
  simp [cells3, cells45, cells2] at g4 g5 g6 g7
  obtain ⟨q9, e9, _, w9⟩ := DataW.trod_int Try.underlying3 g4
  obtain ⟨q10, e10, _, w10⟩ := DataW.trod_int Try.underlying3 g5
  obtain ⟨zs4, m4, _, _, hl4, hlen4, hf4⟩ := DataW.trod_struct Try.underlying63 g6
  obtain ⟨z8, z9, rfl⟩ := lst2 (show zs4.length = 2 by simpa using hlen4)
  have i0 := hf4 0 _ rfl
  have i1 := hf4 1 _ rfl
  simp [cells2] at i0 i1
  obtain ⟨q11, e11, _, w11⟩ := DataW.trod_int Try.underlying2 i0
  obtain ⟨q12, e12, _, w12⟩ := DataW.trod_int Try.underlying2 i1
  obtain ⟨q13, e13, _, w13⟩ := DataW.trod_int Try.underlying2 g7
  obtain ⟨zs5, m5, _, _, hl5, hlen5, hf5⟩ := DataW.trod_struct Try.underlying69 f8
  obtain ⟨z10, z11, z12, rfl⟩ := lst3 (show zs5.length = 3 by simpa using hlen5)
  have j0 := hf5 0 _ rfl
  have j1 := hf5 1 _ rfl
  have j2 := hf5 2 _ rfl
  simp [cells48, cells49, cells3] at j0 j1 j2
  obtain ⟨la, nl, lc, e14⟩ := open_any Try.underlying66 j0
  obtain ⟨da, nd, dc, e15⟩ := open_any Try.underlying67 j1
  obtain ⟨q16, e16, _, _⟩ := DataW.trod_int Try.underlying3 j2
  simp at e0 e1 e2 e3 e4 e5 e6 e7 e8 e9 e10 e11 e12 e13 e16
  subst e0 e1 e2 e3 e4 e5 e6 e7 e8 e9 e10 e11 e12 e13 e14 e15 e16
  exact ⟨⟨q0, q1, q2, q3, q4, q5, q6, q7, q8, q9, q10, q11, q12, q13, la, nl, lc, da, nd, dc, q16⟩, rfl, i64_wf w8, i64_wf w10, i64_wf w11, i64_wf w12, i64_wf w13, i64_wf w9⟩

theorem open_recs {fuel : Nat} {v : Value} {x : DataW H × List MemPlace} (hf : DataW.trod enc Try.prog W 0 (fun _ => true) true fuel 22 [v] = some x) (hw : ∀ n ∈ x.1.weights Try.prog 22, n ≤ reachBytes) :
    ∃ (a : Option Addr) (ds : List RZ) (c : Nat), v = .slice a ds.length c ∧ Lies W a (rzs ds) ∧ (a = none → c = 0 ∧ ds.length = 0) ∧ (∀ d ∈ ds, I64 d.delta ∧ (cnOf d).Ok) ∧ ds.length ≤ c ∧ ds.length * 168 ≤ reachBytes := by
  obtain ⟨a, ds, c, h1, h2, h3, _, h5, h6⟩ := open_rowsN rzC (fun y => I64 y.delta ∧ (cnOf y).Ok) Try.underlying22 cells53 (by decide) (fun _ => rfl) (fun h => open_recX h) hf
  have k := rows_weight Try.underlying22 hf hw a ds.length c h1
  rw [bytes53b] at k
  exact ⟨a, ds, c, h1, h2, h6, h3, h5, k⟩
theorem ofR_nets {S : St} (hS : StOk S) (l : List Ro) : ∀ rn ∈ ofR S l, Up rn.2 ∧ (∀ p ∈ rn.2, I64 p.2) ∧ ∀ p ∈ rn.2, 1 ≤ p.1 ∧ p.1 ≤ 1048576 := by
  induction l generalizing S with
  | nil => intro rn h; cases h
  | cons r rs ih =>
    intro rn h
    simp only [ofR] at h
    split at h
    · rename_i q
      rcases List.mem_append.1 h with h | h
      · unfold stepR at h
        split at h
        · simp at h
          subst h
          exact ⟨hS.up _, hS.fit _, hS.ids _⟩
        · cases h
      · exact ih (hS.step q) rn h
    · cases h
theorem ofV_nets (l : List RZ) : ∀ rn ∈ ofV l, Up rn.2 ∧ (∀ p ∈ rn.2, I64 p.2) ∧ ∀ p ∈ rn.2, 1 ≤ p.1 ∧ p.1 ≤ 1048576 := by
  unfold ofV
  split
  · exact ofR_nets StOk.nil _
  · intro rn h; cases h
theorem ofV_short (l : List RZ) : ∀ rn ∈ ofV l, rn.2.length ≤ 1048576 := fun rn h => by
  obtain ⟨h1, _, h3⟩ := ofV_nets l rn h
  have := up_len' h1 (a := 1) (b := 1048576) h3
  omega
end Go.Proofs.Ytlloppalagddnaa
