import Derived.Test.YtohkmigahbellaaDuo
import Derived.Test.YtohkmigahbellaaNamesProof
import Derived.LaidMore
import Derived.SizedLaws
import Derived.Deep.Slices
import Derived.Lib.SmallJoins
namespace Go.Proofs.Ytohkmigahbellaa
open Go.ChangeShapes Go.WideShapes Go.ChangeAt Go.RowKit Go.Deep Go.QK

theorem laidOut : laidOutB Try.prog = true := by kernel_rfl
theorem cells26 : Try.prog.cellsOf 26 = 3 := by kernel_rfl
theorem cells24 : Try.prog.cellsOf 24 = 1 := by kernel_rfl
theorem cells3 : Try.prog.cellsOf 3 = 1 := by kernel_rfl
theorem cells4 : Try.prog.cellsOf 4 = 1 := by kernel_rfl
theorem cells5 : Try.prog.cellsOf 5 = 1 := by kernel_rfl
theorem cells36 : Try.prog.cellsOf 36 = 2 := by kernel_rfl
theorem cells39 : Try.prog.cellsOf 39 = 8 := by kernel_rfl
theorem bytes79 : Try.prog.bytesOf 79 = 8 := by kernel_rfl
theorem nat_u64 {n : Int} (h : (Lit.int .u64 n).wf = true) : ∃ k : Nat, n = (k : Int) ∧ k < 18446744073709551616 := by
  have h1 : IntKind.u64.min ≤ n ∧ n ≤ IntKind.u64.max := by simpa [Lit.wf] using h
  have e1 : IntKind.u64.min = 0 := rfl
  have e2 : IntKind.u64.max = 18446744073709551615 := rfl
  exact ⟨n.toNat, by omega, by omega⟩
theorem nat_u8 {n : Int} (h : (Lit.int .u8 n).wf = true) : ∃ k : Nat, n = (k : Int) ∧ k < 256 := by
  have h1 : IntKind.u8.min ≤ n ∧ n ≤ IntKind.u8.max := by simpa [Lit.wf] using h
  have e1 : IntKind.u8.min = 0 := rfl
  have e2 : IntKind.u8.max = 255 := rfl
  exact ⟨n.toNat, by omega, by omega⟩
theorem rng_i64 {n : Int} (h : (Lit.int .i64 n).wf = true) : -9223372036854775808 ≤ n ∧ n ≤ 9223372036854775807 := by
  have h1 : IntKind.i64.min ≤ n ∧ n ≤ IntKind.i64.max := by simpa [Lit.wf] using h
  have e1 : IntKind.i64.min = -9223372036854775808 := rfl
  have e2 : IntKind.i64.max = 9223372036854775807 := rfl
  omega
theorem words_of {zs : List Int} (h : ∀ y ∈ zs, (Lit.int .u64 y).wf = true) : ∃ l : List Nat, zs = ints l ∧ ∀ x ∈ l, x < 18446744073709551616 := by
  induction zs with
  | nil => exact ⟨[], rfl, nofun⟩
  | cons z zs ih =>
    obtain ⟨l, rfl, hl⟩ := ih (fun y hy => h y (by simp [hy]))
    obtain ⟨k, rfl, hk⟩ := nat_u64 (h z (by simp))
    refine ⟨k :: l, rfl, fun y hy => ?_⟩
    rcases List.mem_cons.1 hy with rfl | hy
    · exact hk
    · exact hl y hy
theorem list3 {α : Type} {l : List α} (h : l.length = 3) : ∃ a b c, l = [a, b, c] := by
  match l, h with
  | [a, b, c], _ => exact ⟨a, b, c, rfl⟩
theorem list2 {α : Type} {l : List α} (h : l.length = 2) : ∃ a b, l = [a, b] := by
  match l, h with
  | [a, b], _ => exact ⟨a, b, rfl⟩

variable {H : Type} {enc : TypeId × Value → H} {W : World}
/-- Words that came in. -/
theorem open_words {fuel : Nat} {v : Value} {x : DataW H × List MemPlace} (hf : DataW.trod enc Try.prog W 0 (fun _ => true) true fuel 24 [v] = some x) :
    ∃ (a : Option Addr) (l : List Nat) (cap : Nat), v = .slice a l.length cap ∧ Seen .u64 W a (ints l) ∧ (∀ y ∈ l, y < 18446744073709551616) ∧ (a = none → cap = 0) ∧ l.length ≤ cap ∧ cap ≤ maxLen ∧ ((∀ n ∈ x.1.weights Try.prog 24, n ≤ reachBytes) → l.length ≤ 17592186044415) := by
  rcases open_ints Try.underlying24 Try.underlying79 (by kernel_rfl) hf with ⟨hcs, rfl⟩ | ⟨x, len, c, zs, hcs, _, hl, hm, hz, rfl, hcell, hwz⟩
  · simp at hcs
    exact ⟨none, [], 0, hcs, .inl rfl, nofun, fun _ => rfl, Nat.le_refl _, by unfold maxLen; omega, fun _ => by decide⟩
  · simp at hcs
    obtain ⟨l, rfl, hlb⟩ := words_of hwz
    have hz' : l.length = c := by simpa using hz
    refine ⟨some x, l.take len, c, by rw [hcs]; simp; omega, ?_, fun y hy => hlb y (List.mem_of_mem_take hy), nofun, by simp; omega, hm, fun hw => ?_⟩
    · by_cases h0 : len = 0
      · exact .inl (by simp [h0])
      · obtain ⟨b, off, spot⟩ := x
        have hc := hcell 0 (by simp; omega)
        have hspot : spot = none := by simpa [Addr.add] using World.cell?_spot hc
        subst hspot
        rw [ints_take]
        refine .inr ⟨b, off, rfl, World.block_lt_of_cell? _ _ hc, fun i hi => ?_⟩
        have h1 := hcell i (by simp at hi ⊢; omega)
        rw [addr_add] at h1
        rw [h1]
        have h2 : i < (ints l).length := by simp at hi ⊢; omega
        simp [List.getD_eq_getElem?_getD, List.getElem?_eq_getElem h2]
    · have := hw (((lits (H := H) .u64 ((ints l).take len)).length + (lits (H := H) .u64 ((ints l).drop len)).length) * Try.prog.bytesOf 79) (by simp [DataW.weights, Try.underlying24])
      rw [bytes79] at this
      have e : (lits (H := H) .u64 ((ints l).take len)).length + (lits (H := H) .u64 ((ints l).drop len)).length = l.length := by
        simp [lits]; omega
      rw [e] at this
      unfold reachBytes at this
      simp
      omega

theorem open_loss {fuel : Nat} {cs : List Value} {x : DataW H × List MemPlace} (h : DataW.trod enc Try.prog W 0 (fun _ => true) true fuel 26 cs = some x) :
    ∃ (a : Option Addr) (c : Nat) (l : Loss), cs = [.slice a l.keep.length c, .int .i64 l.torn, .int .i64 l.off] ∧ LossAt W l a c ∧ ((∀ n ∈ x.1.weights Try.prog 26, n ≤ reachBytes) → l.keep.length ≤ 17592186044415) := by
  obtain ⟨ys, n, _, rfl, hl, hlen, hf⟩ := DataW.trod_struct Try.underlying26 h
  rw [cells26] at hl
  obtain ⟨c0, c1, c2, rfl⟩ := list3 hl
  have hlen' : ys.length = 3 := by simpa using hlen
  obtain ⟨y0, y1, y2, rfl⟩ := list3 hlen'
  have f0 := hf 0 _ rfl
  have f1 := hf 1 _ rfl
  have f2 := hf 2 _ rfl
  simp [cells3, cells24] at f0 f1 f2
  obtain ⟨a, l, cap, rfl, q1, q2, q3, q4, q5, q6⟩ := open_words f0
  obtain ⟨tn, e1, _, w1⟩ := DataW.trod_int Try.underlying3 f1
  obtain ⟨off, e2, _, w2⟩ := DataW.trod_int Try.underlying3 f2
  simp at e1 e2
  subst e1 e2
  refine ⟨a, cap, ⟨l, tn, off⟩, rfl, ⟨q1, q3, q4, ⟨q2, rng_i64 w1, rng_i64 w2⟩⟩, fun hw => q6 (fun n hn => hw n ?_)⟩
  simp only [DataW.weights, Try.underlying26]
  exact DataW.weights_mem_each (j := 0) (t := 24) rfl rfl n hn

set_option maxRecDepth 100000 in
theorem open_puts {fuel : Nat} {a : Option Addr} {len cap : Nat} {x : DataW H × List MemPlace} (hf : DataW.trod enc Try.prog W 0 (fun _ => true) true fuel 23 [.slice a len cap] = some x) :
    ∃ ps : List (Int × Nat), ps.length = len ∧ PutsAt W a ps ∧ len ≤ cap ∧ (a = none → cap = 0) ∧ cap ≤ maxLen := by
  rcases open_slice Try.underlying23 hf with ⟨hcs, _⟩ | ⟨x, l, c, m, n, D, Pl, hcs, _, hl, hm, hmm, _, hx⟩
  · simp at hcs
    obtain ⟨rfl, rfl, rfl⟩ := hcs
    exact ⟨[], rfl, nofun, Nat.le_refl _, fun _ => rfl, by unfold maxLen; omega⟩
  · simp at hcs
    obtain ⟨rfl, rfl, rfl⟩ := hcs
    simp at hmm
    have each : ∀ i, i < len → ∃ (p : Int × Nat) (b off : Nat), x = ⟨b, off, none⟩ ∧ b < W.heap.size ∧ W.cell? ⟨b, off + i * 2, none⟩ = some (.int .i64 p.1) ∧ W.cell? ⟨b, off + i * 2 + 1, none⟩ = some (.int .u8 (p.2 : Int)) := by
      intro i hi
      obtain ⟨cs, h1, h2⟩ := hx i (by omega)
      rw [cells36] at h1
      obtain ⟨_, _, hc⟩ := World.cells?_some h1
      obtain ⟨ys, n', _, _, hl', hlen, hf'⟩ := DataW.trod_struct Try.underlying36 h2
      rw [cells36] at hl'
      obtain ⟨c0, c1, rfl⟩ := list2 hl'
      have hlen' : ys.length = 2 := by simpa using hlen
      have f0 := hf' 0 _ rfl
      have f1 := hf' 1 _ rfl
      simp [cells3, cells5, hlen'] at f0 f1
      obtain ⟨p, e0, _, _⟩ := DataW.trod_int Try.underlying3 f0
      obtain ⟨q, e1, _, wq⟩ := DataW.trod_int Try.underlying5 f1
      simp at e0 e1
      obtain ⟨k, rfl, hk⟩ := nat_u8 wq
      subst e0 e1
      obtain ⟨b, off, spot⟩ := x
      have hspot : spot = none := by
        obtain ⟨cs0, g1, g2⟩ := hx 0 (by omega)
        rw [cells36] at g1
        obtain ⟨_, gl, gc⟩ := World.cells?_some g1
        obtain ⟨ys0, n0, _, _, hl0, _, _⟩ := DataW.trod_struct Try.underlying36 g2
        rw [cells36] at hl0
        obtain ⟨z0, z1, rfl⟩ := list2 hl0
        have q0 := gc 0 (by omega)
        have := World.cell?_spot (q0.trans rfl)
        simpa [Addr.add] using this
      subst hspot
      have r0 := hc 0 (by omega)
      have r1 := hc 1 (by omega)
      rw [addr_add, addr_add] at r0 r1
      exact ⟨(p, k), b, off, rfl, World.block_lt_of_cell? _ ⟨b, off + i * 2 + 0, none⟩ (r0.trans rfl), r0, r1⟩
    have mk : ∀ m, m ≤ len → ∃ ps : List (Int × Nat), ps.length = m ∧ PutsAt W (some x) ps := by
      intro m
      induction m with
      | zero => intro _; exact ⟨[], rfl, nofun⟩
      | succ m ih =>
        intro hm
        obtain ⟨ps, h1, h2⟩ := ih (by omega)
        obtain ⟨p, b, off, rfl, h3, h4, h5⟩ := each m (by omega)
        refine ⟨ps ++ [p], by simp [h1], fun j hj => ?_⟩
        by_cases q : j < ps.length
        · rw [List.getElem_append_left q]
          exact h2 j q
        · have hje : j = ps.length := by simp at hj; omega
          subst hje
          have e : (ps ++ [p])[ps.length] = p := by simp
          rw [e, h1]
          exact ⟨b, off, rfl, h3, h4, h5⟩
    obtain ⟨ps, h1, h2⟩ := mk len (Nat.le_refl _)
    exact ⟨ps, h1, h2, hl, nofun, hm⟩
end Go.Proofs.Ytohkmigahbellaa
