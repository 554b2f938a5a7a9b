import Derived.Test.YtlloppalagddnaaSrO
import Derived.Test.YtlloppalagddnaaSr29
import Derived.Deep.CondSized
import Derived.JoinedCond
set_option linter.all false
namespace Go.Proofs.Ytlloppalagddnaa
open Go.ChangeShapes Go.WideShapes Go.ChangeAt Go.RowKit Go.Deep Go.QK Go.Joins Go.QM Go.QS Quota
set_option maxRecDepth 100000
/-! Arguments whose bulk is known. -/
theorem bulk_one {H : Type} (d : DataW H) : 1 ≤ Rows.uptoBulk d := by
  cases d with
  | lit l => cases l <;> simp [Rows.uptoBulk]
  | nil => simp [Rows.uptoBulk]
  | ptr d => simp [Rows.uptoBulk]
  | slice elems spare => simp [Rows.uptoBulk]
  | agg parts => simp [Rows.uptoBulk]
  | iface t d => simp [Rows.uptoBulk]
  | map entries => simp [Rows.uptoBulk]
  | held h => simp [Rows.uptoBulk]
theorem bulk_part {H : Type} {d : DataW H} {l : List (DataW H)} (h : d ∈ l) : Rows.uptoBulk d ≤ Rows.uptoBulkAll l := by
  induction l with
  | nil => cases h
  | cons x r ih =>
    simp only [Rows.uptoBulkAll]
    rcases List.mem_cons.1 h with e | e
    · subst e; omega
    · have := ih e; omega
theorem bulk_sum {H α : Type} (m : α → Nat) (ls : List α) (D : Nat → DataW H) (h : ∀ i (hi : i < ls.length), m ls[i] ≤ Rows.uptoBulk (D i)) : (ls.map m).sum ≤ Rows.uptoBulkAll ((List.range ls.length).map D) := by
  induction ls generalizing D with
  | nil => simp
  | cons x r ih =>
    have e : (List.range (x :: r).length).map D = D 0 :: (List.range r.length).map (fun i => D (i + 1)) := by
      rw [List.length_cons, List.range_succ_eq_map, List.map_cons, List.map_map]
      rfl
    rw [e]
    simp only [Rows.uptoBulkAll, List.map_cons, List.sum_cons]
    have h0 := h 0 (by simp)
    have h1 := ih (fun i => D (i + 1)) (fun i hi => h (i + 1) (by simpa using hi))
    simp at h0
    omega
theorem bulk_len {H : Type} (l : List (DataW H)) : l.length ≤ Rows.uptoBulkAll l := by
  induction l with
  | nil => simp [Rows.uptoBulkAll]
  | cons x r ih => have := bulk_one x; simp only [Rows.uptoBulkAll, List.length_cons]; omega
variable {H : Type} {enc : TypeId × Value → H} {W : World}
theorem open_rowsB {α : Type} {T E : TypeId} {k : Nat} (f : α → List Value) (ok : α → Prop) (ms : α → Nat) (hu : Try.prog.underlying T = some (.slice E)) (hc : Try.prog.cellsOf E = k) (hk : 0 < k) (hfl : ∀ x, (f x).length = k)
    (hopen : ∀ {fuel : Nat} {cs : List Value} {x : DataW H × List MemPlace}, DataW.trod enc Try.prog W 0 (fun _ => true) true fuel E cs = some x → ∃ y, cs = f y ∧ ok y ∧ ms y ≤ Rows.uptoBulk x.1)
    {fuel : Nat} {v : Value} {x : DataW H × List MemPlace} (hf : DataW.trod enc Try.prog W 0 (fun _ => true) true fuel T [v] = some x) :
    ∃ (a : Option Addr) (xs : List α) (c : Nat), v = .slice a xs.length c ∧ Lies W a (rowsC f xs) ∧ (∀ y ∈ xs, ok y) ∧ xs.length ≤ c ∧ (a = none → c = 0 ∧ xs.length = 0) ∧ (xs.map ms).sum ≤ Rows.uptoBulk x.1 ∧ xs.length ≤ Rows.uptoBulk x.1 := by
  rcases open_slice hu hf with ⟨hcs, _⟩ | ⟨x, l, c, m, n, D, Pl, hcs, _, hl, hm, hmm, rfl, hx⟩
  · simp at hcs
    subst hcs
    exact ⟨none, [], 0, rfl, .inl rfl, nofun, Nat.le_refl _, (fun _ => ⟨rfl, rfl⟩), by simp, by simp⟩
  · simp at hcs
    subst hcs
    simp at hmm
    obtain ⟨b, off, spot⟩ := x
    have key : ∀ i, i < l → ∃ y : α, (∀ j v, (f y)[j]? = some v → W.cell? (((⟨b, off, spot⟩ : Addr).add (i * k)).add j) = some v) ∧ ok y ∧ ms y ≤ Rows.uptoBulk (D i) := by
      intro i hi
      obtain ⟨cs, h1, h2⟩ := hx i (by omega)
      rw [hc] at h1
      obtain ⟨_, _, hcc⟩ := World.cells?_some h1
      obtain ⟨y, rfl, hy, hms⟩ := hopen h2
      refine ⟨y, fun j v hv => ?_, hy, hms⟩
      have hj : j < k := by
        obtain ⟨hh, _⟩ := List.getElem?_eq_some_iff.1 hv
        rw [hfl] at hh
        exact hh
      exact (hcc j hj).trans hv
    obtain ⟨ls, el, q⟩ := pick_list _ l key
    subst el
    refine ⟨some ⟨b, off, spot⟩, ls, c, rfl, ?_, fun x hx => ?_, hl, nofun, ?_, ?_⟩
    · by_cases h0 : ls.length = 0
      · exact .inl (by rw [List.eq_nil_of_length_eq_zero h0]; rfl)
      · have hz : 0 < (f (ls[0]'(by omega))).length := by rw [hfl]; exact hk
        have q0 := (q 0 (by omega)).1 0 _ (List.getElem?_eq_getElem hz)
        have hspot : spot = none := by simpa [Addr.add] using World.cell?_spot q0
        subst hspot
        rw [addr_add, addr_add] at q0
        refine rows_lies f k hfl hk ls (World.block_lt_of_cell? _ _ q0) (fun i hi j v hv => ?_)
        have := (q i hi).1 j v hv
        rw [addr_add, addr_add] at this
        exact this
    · obtain ⟨i, hi, rfl⟩ := List.getElem_of_mem hx
      exact (q i hi).2.1
    · have := bulk_sum ms ls D (fun i hi => (q i hi).2.2)
      simp only [Rows.uptoBulk]
      omega
    · have := bulk_len ((List.range ls.length).map D)
      simp only [List.length_map, List.length_range] at this
      simp only [Rows.uptoBulk]
      omega
theorem cells74 : Try.prog.cellsOf 74 = 3 := by kernel_rfl
theorem cells30 : Try.prog.cellsOf 30 = 1 := by kernel_rfl
theorem cells82 : Try.prog.cellsOf 82 = 2 := by kernel_rfl
theorem open_hn {fuel : Nat} {cs : List Value} {x : DataW H × List MemPlace} (h : DataW.trod enc Try.prog W 0 (fun _ => true) true fuel 74 cs = some x) :
    ∃ y : Hn, cs = hnC y ∧ (I64 y.2.1 ∧ I64 y.2.2) ∧ 0 ≤ Rows.uptoBulk x.1 := by
  obtain ⟨ys, n, _, _, hl, hlen, hf⟩ := DataW.trod_struct Try.underlying74 h
  rw [cells74] at hl
  obtain ⟨c0, c1, c2, rfl⟩ := lst3 hl
  obtain ⟨y0, y1, y2, rfl⟩ := lst3 (show ys.length = 3 by simpa using hlen)
  have f0 := hf 0 _ rfl
  have f1 := hf 1 _ rfl
  have f2 := hf 2 _ rfl
  simp [cells3, cells2] at f0 f1 f2
  obtain ⟨q0, e0, _, _⟩ := DataW.trod_int Try.underlying3 f0
  obtain ⟨q1, e1, _, w1⟩ := DataW.trod_int Try.underlying3 f1
  obtain ⟨q2, e2, _, w2⟩ := DataW.trod_int Try.underlying2 f2
  simp at e0 e1 e2
  subst e0 e1 e2
  exact ⟨(q0, q1, q2), rfl, ⟨i64_wf w1, i64_wf w2⟩, Nat.zero_le _⟩
theorem open_cn {fuel : Nat} {cs : List Value} {x : DataW H × List MemPlace} (h : DataW.trod enc Try.prog W 0 (fun _ => true) true fuel 65 cs = some x) :
    ∃ y : Cn, cs = cnC y ∧ y.Ok ∧ 0 ≤ Rows.uptoBulk x.1 := by
  obtain ⟨zs3, m3, _, _, hl3, hlen3, hf3⟩ := DataW.trod_struct Try.underlying65 h
  rw [cells47] at hl3
  obtain ⟨c0, c1, c2, c3, c4, rfl⟩ := lst5 hl3
  obtain ⟨z4, z5, z6, z7, rfl⟩ := lst4 (show zs3.length = 4 by simpa using hlen3)
  have g4 := hf3 0 _ rfl
  have g5 := hf3 1 _ rfl
  have g6 := hf3 2 _ rfl
  have g7 := hf3 3 _ rfl
  simp [cells3, cells45, cells2] at g4 g5 g6 g7
  obtain ⟨q9, e9, _, w9⟩ := DataW.trod_int Try.underlying3 g4
  obtain ⟨q10, e10, _, w10⟩ := DataW.trod_int Try.underlying3 g5
  obtain ⟨zs4, m4, _, _, hl4, hlen4, hf4⟩ := DataW.trod_struct Try.underlying63 g6
  obtain ⟨z8, z9, rfl⟩ := lst2 (show zs4.length = 2 by simpa using hlen4)
  have i0 := hf4 0 _ rfl
  have i1 := hf4 1 _ rfl
  simp [cells2] at i0 i1
  obtain ⟨q11, e11, _, w11⟩ := DataW.trod_int Try.underlying2 i0
  obtain ⟨q12, e12, _, w12⟩ := DataW.trod_int Try.underlying2 i1
  obtain ⟨q13, e13, _, w13⟩ := DataW.trod_int Try.underlying2 g7
  simp at e9 e10 e11 e12 e13
  subst e9 e10 e11 e12 e13
  exact ⟨⟨q9, q10, q11, q12, q13⟩, rfl, ⟨i64_wf w10, i64_wf w11, i64_wf w12, i64_wf w13, i64_wf w9⟩, Nat.zero_le _⟩
theorem open_int1 {fuel : Nat} {cs : List Value} {x : DataW H × List MemPlace} (h : DataW.trod enc Try.prog W 0 (fun _ => true) true fuel 3 cs = some x) :
    ∃ y : Int, cs = [Value.int .i64 y] ∧ I64 y ∧ 0 ≤ Rows.uptoBulk x.1 := by
  obtain ⟨q0, e0, _, w0⟩ := DataW.trod_int Try.underlying3 h
  exact ⟨q0, e0, i64_wf w0, Nat.zero_le _⟩
def RIk (W : World) (r : RI) : Prop := Lies W r.a (hns r.l) ∧ (∀ x ∈ r.l, I64 x.2.1 ∧ I64 x.2.2) ∧ (r.a = none → r.c = 0 ∧ r.l.length = 0)
theorem open_run {fuel : Nat} {cs : List Value} {x : DataW H × List MemPlace} (h : DataW.trod enc Try.prog W 0 (fun _ => true) true fuel 82 cs = some x) :
    ∃ y : RI, cs = riC y ∧ RIk W y ∧ y.l.length ≤ Rows.uptoBulk x.1 := by
  obtain ⟨ys, n, _, rfl, hl, hlen, hf⟩ := DataW.trod_struct Try.underlying82 h
  rw [cells82] at hl
  obtain ⟨c0, c1, rfl⟩ := lst2 hl
  obtain ⟨y0, y1, rfl⟩ := lst2 (show ys.length = 2 by simpa using hlen)
  have f0 := hf 0 _ rfl
  have f1 := hf 1 _ rfl
  simp [cells3, cells30] at f0 f1
  obtain ⟨q0, e0, _, _⟩ := DataW.trod_int Try.underlying3 f0
  simp at e0
  subst e0
  obtain ⟨a, ds, c, h1, h2, h3, _, h5, _, h7⟩ := open_rowsB hnC (fun y : Hn => I64 y.2.1 ∧ I64 y.2.2) (fun _ => 0) Try.underlying30 cells74 (by decide) (fun _ => rfl) (fun h => open_hn h) f1
  subst h1
  refine ⟨⟨q0, a, c, ds⟩, rfl, ⟨h2, h3, h5⟩, ?_⟩
  have : Rows.uptoBulk y1.1 ≤ Rows.uptoBulkAll (List.map (fun y => y.1) [y0, y1]) := bulk_part (by simp)
  simp only [Rows.uptoBulk] at *
  simp at *
  omega
end Go.Proofs.Ytlloppalagddnaa
