import Derived.Test.YtpddmimacjknfaaTw13
import Derived.Test.YtpddmimacjknfaaRows
import Derived.LaidMore
import Derived.SizedLaws
import Derived.Deep.Slices
import Derived.Lib.SmallJoins
namespace Go.Proofs.Ytpddmimacjknfaa
open Go.ChangeShapes Go.WideShapes Go.ChangeAt Go.RowKit Go.Deep Go.QK

theorem own : ownKnob Try.prog.godebug = none := by kernel_rfl
theorem laidOut : laidOutB Try.prog = true := by kernel_rfl
theorem cells26 : Try.prog.cellsOf 44 = 3 := by kernel_rfl
theorem cells24 : Try.prog.cellsOf 42 = 1 := by kernel_rfl
theorem cells3 : Try.prog.cellsOf 3 = 1 := by kernel_rfl
theorem cells4 : Try.prog.cellsOf 4 = 1 := by kernel_rfl
theorem cells5 : Try.prog.cellsOf 5 = 1 := by kernel_rfl
theorem bytes79 : Try.prog.bytesOf 83 = 8 := by kernel_rfl
theorem nat_u64 {n : Int} (h : (Lit.int .u64 n).wf = true) : ∃ k : Nat, n = (k : Int) ∧ k < 18446744073709551616 := by
  have h1 : IntKind.u64.min ≤ n ∧ n ≤ IntKind.u64.max := by simpa [Lit.wf] using h
  have e1 : IntKind.u64.min = 0 := rfl
  have e2 : IntKind.u64.max = 18446744073709551615 := rfl
  exact ⟨n.toNat, by omega, by omega⟩
theorem nat_u8 {n : Int} (h : (Lit.int .u8 n).wf = true) : ∃ k : Nat, n = (k : Int) ∧ k < 256 := by
  have h1 : IntKind.u8.min ≤ n ∧ n ≤ IntKind.u8.max := by simpa [Lit.wf] using h
  have e1 : IntKind.u8.min = 0 := rfl
  have e2 : IntKind.u8.max = 255 := rfl
  exact ⟨n.toNat, by omega, by omega⟩
theorem rng_i64 {n : Int} (h : (Lit.int .i64 n).wf = true) : -9223372036854775808 ≤ n ∧ n ≤ 9223372036854775807 := by
  have h1 : IntKind.i64.min ≤ n ∧ n ≤ IntKind.i64.max := by simpa [Lit.wf] using h
  have e1 : IntKind.i64.min = -9223372036854775808 := rfl
  have e2 : IntKind.i64.max = 9223372036854775807 := rfl
  omega
theorem words_of {zs : List Int} (h : ∀ y ∈ zs, (Lit.int .u64 y).wf = true) : ∃ l : List Nat, zs = ints l ∧ ∀ x ∈ l, x < 18446744073709551616 := by
  induction zs with
  | nil => exact ⟨[], rfl, nofun⟩
  | cons z zs ih =>
    obtain ⟨l, rfl, hl⟩ := ih (fun y hy => h y (by simp [hy]))
    obtain ⟨k, rfl, hk⟩ := nat_u64 (h z (by simp))
    refine ⟨k :: l, rfl, fun y hy => ?_⟩
    rcases List.mem_cons.1 hy with rfl | hy
    · exact hk
    · exact hl y hy
theorem list3 {α : Type} {l : List α} (h : l.length = 3) : ∃ a b c, l = [a, b, c] := by
  match l, h with
  | [a, b, c], _ => exact ⟨a, b, c, rfl⟩
theorem list2 {α : Type} {l : List α} (h : l.length = 2) : ∃ a b, l = [a, b] := by
  match l, h with
  | [a, b], _ => exact ⟨a, b, rfl⟩

variable {H : Type} {enc : TypeId × Value → H} {W : World}
/-- Words that came in. -/
theorem open_words {fuel : Nat} {v : Value} {x : DataW H × List MemPlace} (hf : DataW.trod enc Try.prog W 0 (fun _ => true) true fuel 42 [v] = some x) :
    ∃ (a : Option Addr) (l : List Nat) (cap : Nat), v = .slice a l.length cap ∧ Seen .u64 W a (ints l) ∧ (∀ y ∈ l, y < 18446744073709551616) ∧ (a = none → cap = 0) ∧ l.length ≤ cap ∧ cap ≤ maxLen ∧ ((∀ n ∈ x.1.weights Try.prog 42, n ≤ reachBytes) → l.length ≤ 17592186044415) := by
  rcases open_ints Try.underlying42 Try.underlying83 (by kernel_rfl) hf with ⟨hcs, rfl⟩ | ⟨x, len, c, zs, hcs, _, hl, hm, hz, rfl, hcell, hwz⟩
  · simp at hcs
    exact ⟨none, [], 0, hcs, .inl rfl, nofun, fun _ => rfl, Nat.le_refl _, by unfold maxLen; omega, fun _ => by decide⟩
  · simp at hcs
    obtain ⟨l, rfl, hlb⟩ := words_of hwz
    have hz' : l.length = c := by simpa using hz
    refine ⟨some x, l.take len, c, by rw [hcs]; simp; omega, ?_, fun y hy => hlb y (List.mem_of_mem_take hy), nofun, by simp; omega, hm, fun hw => ?_⟩
    · by_cases h0 : len = 0
      · exact .inl (by simp [h0])
      · obtain ⟨b, off, spot⟩ := x
        have hc := hcell 0 (by simp; omega)
        have hspot : spot = none := by simpa [Addr.add] using World.cell?_spot hc
        subst hspot
        rw [ints_take]
        refine .inr ⟨b, off, rfl, World.block_lt_of_cell? _ _ hc, fun i hi => ?_⟩
        have h1 := hcell i (by simp at hi ⊢; omega)
        rw [addr_add] at h1
        rw [h1]
        have h2 : i < (ints l).length := by simp at hi ⊢; omega
        simp [List.getD_eq_getElem?_getD, List.getElem?_eq_getElem h2]
    · have := hw (((lits (H := H) .u64 ((ints l).take len)).length + (lits (H := H) .u64 ((ints l).drop len)).length) * Try.prog.bytesOf 83) (by simp [DataW.weights, Try.underlying42])
      rw [bytes79] at this
      have e : (lits (H := H) .u64 ((ints l).take len)).length + (lits (H := H) .u64 ((ints l).drop len)).length = l.length := by
        simp [lits]; omega
      rw [e] at this
      unfold reachBytes at this
      simp
      omega

theorem open_loss {fuel : Nat} {cs : List Value} {x : DataW H × List MemPlace} (h : DataW.trod enc Try.prog W 0 (fun _ => true) true fuel 44 cs = some x) :
    ∃ (a : Option Addr) (c : Nat) (l : Loss), cs = [.slice a l.keep.length c, .int .i64 l.torn, .int .i64 l.off] ∧ LossAt W l a c ∧ ((∀ n ∈ x.1.weights Try.prog 44, n ≤ reachBytes) → l.keep.length ≤ 17592186044415) := by
  obtain ⟨ys, n, _, rfl, hl, hlen, hf⟩ := DataW.trod_struct Try.underlying44 h
  rw [cells26] at hl
  obtain ⟨c0, c1, c2, rfl⟩ := list3 hl
  have hlen' : ys.length = 3 := by simpa using hlen
  obtain ⟨y0, y1, y2, rfl⟩ := list3 hlen'
  have f0 := hf 0 _ rfl
  have f1 := hf 1 _ rfl
  have f2 := hf 2 _ rfl
  simp [cells3, cells24] at f0 f1 f2
  obtain ⟨a, l, cap, rfl, q1, q2, q3, q4, q5, q6⟩ := open_words f0
  obtain ⟨tn, e1, _, w1⟩ := DataW.trod_int Try.underlying3 f1
  obtain ⟨off, e2, _, w2⟩ := DataW.trod_int Try.underlying3 f2
  simp at e1 e2
  subst e1 e2
  refine ⟨a, cap, ⟨l, tn, off⟩, rfl, ⟨q1, q3, q4, ⟨q2, rng_i64 w1, rng_i64 w2⟩⟩, fun hw => q6 (fun n hn => hw n ?_)⟩
  simp only [DataW.weights, Try.underlying44]
  exact DataW.weights_mem_each (j := 0) (t := 42) rfl rfl n hn

theorem LossAt.low {w : World} {l : Loss} {a : Option Addr} {c : Nat} (h : LossAt w l a c) (hk : l.keep ≠ []) : ∀ ad, a = some ad → ad.block < w.heap.size := by
  intro ad had
  rcases h.seen with q | ⟨b, off, e, hlt, _⟩
  · exact (hk (by simpa [ints] using q)).elim
  · rw [had] at e
    cases e
    exact hlt
theorem list4 {α : Type} {l : List α} (h : l.length = 4) : ∃ a b c d, l = [a, b, c, d] := by
  match l, h with
  | [a, b, c, d], _ => exact ⟨a, b, c, d, rfl⟩
theorem cells46 : Try.prog.cellsOf 46 = 4 := by kernel_rfl
theorem weightsAll_mem {H : Type} {P : Program} {e : TypeId} : {l : List (DataW H)} → {d : DataW H} → d ∈ l → ∀ n ∈ d.weights P e, n ∈ DataW.weightsAll P e l
  | x :: l, d, h, n, hn => by
    simp only [DataW.weightsAll, List.mem_append]
    rcases List.mem_cons.1 h with rfl | h
    · exact .inl hn
    · exact .inr (weightsAll_mem h n hn)
/-- A fall that came in. -/
theorem open_fall {fuel : Nat} {cs : List Value} {x : DataW H × List MemPlace} (h : DataW.trod enc Try.prog W 0 (fun _ => true) true fuel 46 cs = some x) :
    ∃ (s : Int) (l : Loss) (a : Option Addr) (c : Nat), cs = [.int .i64 s, .slice a l.keep.length c, .int .i64 l.torn, .int .i64 l.off] ∧ LossAt W l a c ∧ ((∀ n ∈ x.1.weights Try.prog 46, n ≤ reachBytes) → l.keep.length ≤ 17592186044415) := by
  obtain ⟨ys, n, _, rfl, hl, hlen, hf⟩ := DataW.trod_struct Try.underlying46 h
  rw [cells46] at hl
  obtain ⟨c0, c1, c2, c3, rfl⟩ := list4 hl
  have hlen' : ys.length = 2 := by simpa using hlen
  obtain ⟨y0, y1, rfl⟩ := list2 hlen'
  have f0 := hf 0 _ rfl
  have f1 := hf 1 _ rfl
  simp [cells3, cells26] at f0 f1
  obtain ⟨s, e0, _, _⟩ := DataW.trod_int Try.underlying3 f0
  obtain ⟨a, c, l, e1, hl1, hw1⟩ := open_loss f1
  simp at e0 e1
  obtain ⟨e1, e2, e3⟩ := e1
  subst e0 e1 e2 e3
  refine ⟨s, l, a, c, rfl, hl1, fun hw => hw1 (fun n hn => hw n ?_)⟩
  simp only [DataW.weights, Try.underlying46]
  exact DataW.weights_mem_each (j := 1) (t := 44) rfl rfl n hn
set_option maxRecDepth 100000 in
/-- A row of falls that came in. -/
theorem open_falls {fuel : Nat} {a : Option Addr} {len cap : Nat} {x : DataW H × List MemPlace} (hf : DataW.trod enc Try.prog W 0 (fun _ => true) true fuel 38 [.slice a len cap] = some x) (hsz : ∀ n ∈ x.1.weights Try.prog 38, n ≤ reachBytes) :
    len ≤ maxLen ∧ FallsAt W a len := by
  rcases open_slice Try.underlying38 hf with ⟨hcs, _⟩ | ⟨x, l, c, m, n, D, Pl, hcs, _, hl, hm, hmm, rfl, hx⟩
  · simp at hcs
    obtain ⟨rfl, rfl, rfl⟩ := hcs
    exact ⟨by unfold maxLen; omega, nofun⟩
  · simp at hcs
    obtain ⟨rfl, rfl, rfl⟩ := hcs
    refine ⟨Nat.le_trans hl hm, fun i hi => ?_⟩
    simp at hmm
    obtain ⟨cs, h1, h2⟩ := hx i (by omega)
    rw [cells46] at h1
    obtain ⟨_, _, hc⟩ := World.cells?_some h1
    obtain ⟨s, lo, oa, oc, rfl, hlo, hw⟩ := open_fall h2
    obtain ⟨b, off, spot⟩ := x
    have hspot : spot = none := by
      obtain ⟨cs0, g1, g2⟩ := hx 0 (by omega)
      rw [cells46] at g1
      obtain ⟨_, _, gc⟩ := World.cells?_some g1
      obtain ⟨_, _, _, _, rfl, _⟩ := open_fall g2
      have q0 := gc 0 (by omega)
      have := World.cell?_spot (q0.trans rfl)
      simpa [Addr.add] using this
    subst hspot
    have hc' : ∀ j, j < 4 → W.cell? ⟨b, off + i * 4 + j, none⟩ = [Value.int .i64 s, .slice oa lo.keep.length oc, .int .i64 lo.torn, .int .i64 lo.off][j]? := by
      intro j hj
      have := hc j hj
      rw [addr_add, addr_add] at this
      exact this
    have hk := hw (fun n hn => hsz n (by
      simp only [DataW.weights, Try.underlying38]
      refine List.mem_cons_of_mem _ (List.mem_append_left _ (weightsAll_mem ?_ n hn))
      exact List.mem_map.2 ⟨i, by simpa using hi, rfl⟩))
    exact ⟨b, off, s, lo, oa, oc, rfl, ⟨(hc' 0 (by omega)).trans rfl, (hc' 1 (by omega)).trans rfl, (hc' 2 (by omega)).trans rfl, (hc' 3 (by omega)).trans rfl, hlo, fun q => hlo.low q, hk, World.block_lt_of_cell? _ ⟨b, off + i * 4 + 0, none⟩ ((hc' 0 (by omega)).trans rfl)⟩⟩
end Go.Proofs.Ytpddmimacjknfaa
