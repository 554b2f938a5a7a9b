import Derived.Test.YtgpmghdoofcpaaaGreatG46
import Derived.Test.YtgpmghdoofcpaaaGreatG53
namespace Go.Proofs.YtgpmghdoofcpaaaGreat.Lg
open Go.ChangeShapes Go.WideShapes Go.ChangeAt Go.RowKit Go.Deep Go.QK Go.Joins
open Dv (LossAt)

theorem cellsL : Tryz.prog.cellsOf 64 = 3 := by kernel_rfl
theorem cellsW : Tryz.prog.cellsOf 62 = 1 := by kernel_rfl
theorem cellsF : Tryz.prog.cellsOf 66 = 4 := by kernel_rfl
theorem cells22 : Tryz.prog.cellsOf 22 = 1 := by kernel_rfl
theorem cells23 : Tryz.prog.cellsOf 23 = 1 := by kernel_rfl
theorem cellsLife : Tryz.prog.cellsOf 25 = 3 := by kernel_rfl
theorem bytesW : Tryz.prog.bytesOf 116 = 8 := by kernel_rfl
theorem nat_u64 {n : Int} (h : (Lit.int .u64 n).wf = true) : ∃ k : Nat, n = (k : Int) ∧ k < 18446744073709551616 := by
  have h1 : IntKind.u64.min ≤ n ∧ n ≤ IntKind.u64.max := by simpa [Lit.wf] using h
  have e1 : IntKind.u64.min = 0 := rfl
  have e2 : IntKind.u64.max = 18446744073709551615 := rfl
  exact ⟨n.toNat, by omega, by omega⟩
theorem words_of {zs : List Int} (h : ∀ y ∈ zs, (Lit.int .u64 y).wf = true) : ∃ l : List Nat, zs = ints l ∧ ∀ x ∈ l, x < 18446744073709551616 := by
  induction zs with
  | nil => exact ⟨[], rfl, nofun⟩
  | cons z zs ih =>
    obtain ⟨l, rfl, hl⟩ := ih (fun y hy => h y (by simp [hy]))
    obtain ⟨k, rfl, hk⟩ := nat_u64 (h z (by simp))
    refine ⟨k :: l, rfl, fun y hy => ?_⟩
    rcases List.mem_cons.1 hy with rfl | hy
    · exact hk
    · exact hl y hy

variable {H : Type} {enc : TypeId × Value → H} {W : World}
/-- Words that came in. -/
theorem open_words {fuel : Nat} {v : Value} {x : DataW H × List MemPlace} (hf : DataW.trod enc Tryz.prog W 0 (fun _ => true) true fuel 62 [v] = some x) :
    ∃ (a : Option Addr) (l : List Nat) (cap : Nat), v = .slice a l.length cap ∧ Seen .u64 W a (ints l) ∧ (∀ y ∈ l, y < 18446744073709551616) ∧ (a = none → cap = 0) ∧ l.length ≤ cap ∧ cap ≤ maxLen ∧ ((∀ n ∈ x.1.weights Tryz.prog 62, n ≤ reachBytes) → l.length ≤ 17592186044415) := by
  rcases open_ints Tryz.underlying62 Tryz.underlying116 (by kernel_rfl) hf with ⟨hcs, rfl⟩ | ⟨x, len, c, zs, hcs, _, hl, hm, hz, rfl, hcell, hwz⟩
  · simp at hcs
    exact ⟨none, [], 0, hcs, .inl rfl, nofun, fun _ => rfl, Nat.le_refl _, by unfold maxLen; omega, fun _ => by decide⟩
  · simp at hcs
    obtain ⟨l, rfl, hlb⟩ := words_of hwz
    have hz' : l.length = c := by simpa using hz
    refine ⟨some x, l.take len, c, by rw [hcs]; simp; omega, ?_, fun y hy => hlb y (List.mem_of_mem_take hy), nofun, by simp; omega, hm, fun hw => ?_⟩
    · by_cases h0 : len = 0
      · exact .inl (by simp [h0])
      · obtain ⟨b, off, spot⟩ := x
        have hc := hcell 0 (by simp; omega)
        have hspot : spot = none := by simpa [Addr.add] using World.cell?_spot hc
        subst hspot
        rw [ints_take]
        refine .inr ⟨b, off, rfl, World.block_lt_of_cell? _ _ hc, fun i hi => ?_⟩
        have h1 := hcell i (by simp at hi ⊢; omega)
        rw [addr_add] at h1
        rw [h1]
        have h2 : i < (ints l).length := by simp at hi ⊢; omega
        simp [List.getD_eq_getElem?_getD, List.getElem?_eq_getElem h2]
    · have := hw (((lits (H := H) .u64 ((ints l).take len)).length + (lits (H := H) .u64 ((ints l).drop len)).length) * Tryz.prog.bytesOf 116) (by simp [DataW.weights, Tryz.underlying62])
      rw [bytesW] at this
      have e : (lits (H := H) .u64 ((ints l).take len)).length + (lits (H := H) .u64 ((ints l).drop len)).length = l.length := by
        simp [lits]; omega
      rw [e] at this
      unfold reachBytes at this
      simp
      omega

theorem open_loss {fuel : Nat} {cs : List Value} {x : DataW H × List MemPlace} (h : DataW.trod enc Tryz.prog W 0 (fun _ => true) true fuel 64 cs = some x) :
    ∃ (a : Option Addr) (c : Nat) (l : Loss), cs = [.slice a l.keep.length c, .int .i64 l.torn, .int .i64 l.off] ∧ LossAt W l a c ∧ ((∀ n ∈ x.1.weights Tryz.prog 64, n ≤ reachBytes) → l.keep.length ≤ 17592186044415) := by
  obtain ⟨ys, n, _, rfl, hl, hlen, hf⟩ := DataW.trod_struct Tryz.underlying64 h
  rw [cellsL] at hl
  obtain ⟨c0, c1, c2, rfl⟩ := list3 hl
  have hlen' : ys.length = 3 := by simpa using hlen
  obtain ⟨y0, y1, y2, rfl⟩ := list3 hlen'
  have f0 := hf 0 _ rfl
  have f1 := hf 1 _ rfl
  have f2 := hf 2 _ rfl
  simp [cells3, cellsW] at f0 f1 f2
  obtain ⟨a, l, cap, rfl, q1, q2, q3, q4, q5, q6⟩ := open_words f0
  obtain ⟨tn, e1, _, w1⟩ := DataW.trod_int Tryz.underlying3 f1
  obtain ⟨off, e2, _, w2⟩ := DataW.trod_int Tryz.underlying3 f2
  simp at e1 e2
  subst e1 e2
  refine ⟨a, cap, ⟨l, tn, off⟩, rfl, ⟨q1, q3, q4, ⟨q2, rng_i64 w1, rng_i64 w2⟩⟩, fun hw => q6 (fun n hn => hw n ?_)⟩
  simp only [DataW.weights, Tryz.underlying64]
  exact DataW.weights_mem_each (j := 0) (t := 62) rfl rfl n hn

theorem weightsAll_mem {H : Type} {P : Program} {e : TypeId} : {l : List (DataW H)} → {d : DataW H} → d ∈ l → ∀ n ∈ d.weights P e, n ∈ DataW.weightsAll P e l
  | x :: l, d, h, n, hn => by
    simp only [DataW.weightsAll, List.mem_append]
    rcases List.mem_cons.1 h with rfl | h
    · exact .inl hn
    · exact .inr (weightsAll_mem h n hn)
/-- A fall that came in. -/
theorem open_fall {fuel : Nat} {cs : List Value} {x : DataW H × List MemPlace} (h : DataW.trod enc Tryz.prog W 0 (fun _ => true) true fuel 66 cs = some x) :
    ∃ (s : Int) (l : Loss) (a : Option Addr) (c : Nat), cs = [.int .i64 s, .slice a l.keep.length c, .int .i64 l.torn, .int .i64 l.off] ∧ LossAt W l a c ∧ ((∀ n ∈ x.1.weights Tryz.prog 66, n ≤ reachBytes) → l.keep.length ≤ 17592186044415) := by
  obtain ⟨ys, n, _, rfl, hl, hlen, hf⟩ := DataW.trod_struct Tryz.underlying66 h
  rw [cellsF] at hl
  obtain ⟨c0, c1, c2, c3, rfl⟩ := list4 hl
  have hlen' : ys.length = 2 := by simpa using hlen
  obtain ⟨y0, y1, rfl⟩ := list2 hlen'
  have f0 := hf 0 _ rfl
  have f1 := hf 1 _ rfl
  simp [cells3, cellsL] at f0 f1
  obtain ⟨s, e0, _, _⟩ := DataW.trod_int Tryz.underlying3 f0
  obtain ⟨a, c, l, e1, hl1, hw1⟩ := open_loss f1
  simp at e0 e1
  obtain ⟨e1, e2, e3⟩ := e1
  subst e0 e1 e2 e3
  refine ⟨s, l, a, c, rfl, hl1, fun hw => hw1 (fun n hn => hw n ?_)⟩
  simp only [DataW.weights, Tryz.underlying66]
  exact DataW.weights_mem_each (j := 1) (t := 64) rfl rfl n hn

theorem rowsC_len {α : Type} (f : α → List Value) (n : Nat) (hf : ∀ x, (f x).length = n) (ls : List α) : (rowsC f ls).length = n * ls.length := by
  unfold rowsC
  induction ls with
  | nil => rfl
  | cons x xs ih => rw [List.flatMap_cons, List.length_append, hf, ih, List.length_cons, Nat.mul_succ]; omega
theorem rows_lies {α : Type} {b off : Nat} (f : α → List Value) (n : Nat) (hf : ∀ x, (f x).length = n) (hn : 0 < n) (ls : List α) (hb : b < W.heap.size) (h : ∀ i (hi : i < ls.length) j v, (f ls[i])[j]? = some v → W.cell? ⟨b, off + i * n + j, none⟩ = some v) : Lies W (some ⟨b, off, none⟩) (rowsC f ls) := by
  refine .inr ⟨b, off, rfl, hb, fun i hi => ?_⟩
  have hl := rowsC_len f n hf ls
  have hi' : i / n < ls.length := by
    rw [hl] at hi
    exact Nat.div_lt_of_lt_mul hi
  have e := rowsC_get f n hf ls (i / n) hi' (i % n) (Nat.mod_lt _ hn)
  rw [Nat.div_add_mod, List.getElem?_eq_getElem hi] at e
  have q := h (i / n) hi' (i % n) _ e.symm
  rw [← q]
  have e2 : off + i / n * n + i % n = off + i := by rw [Nat.add_assoc, Nat.mul_comm (i / n) n, Nat.div_add_mod]
  rw [e2]
set_option maxRecDepth 100000 in
/-- A row of records that came in. -/
theorem open_recs {fuel : Nat} {v : Value} {x : DataW H × List MemPlace} (hf : DataW.trod enc Tryz.prog W 0 (fun _ => true) true fuel 22 [v] = some x) :
    ∃ (a : Option Addr) (xs : List RecL) (c : Nat), v = .slice a xs.length c ∧ RecsAt W a xs ∧ (∀ x ∈ xs, Fits x.r) ∧ xs.length ≤ maxLen := by
  rcases open_slice Tryz.underlying22 hf with ⟨hcs, _⟩ | ⟨x, l, c, m, n, D, Pl, hcs, _, hl, hm, hmm, rfl, hx⟩
  · simp at hcs
    subst hcs
    refine ⟨none, [], 0, rfl, ⟨.inl ?_, ?_⟩, ?_, ?_⟩
    · rfl
    · intro x hx; cases hx
    · intro x hx; cases hx
    · exact Nat.zero_le _
  · simp at hcs
    subst hcs
    simp at hmm
    obtain ⟨b, off, spot⟩ := x
    have key : ∀ i, i < l → ∃ y : RecL, (∀ j v, (recLC y)[j]? = some v → W.cell? (((⟨b, off, spot⟩ : Addr).add (i * 17)).add j) = some v) ∧ (Lies W y.la (liveCs y.r.live) ∧ Lies W y.da (dirtyCs y.r.dirty)) ∧ Fits y.r := by
      intro i hi
      obtain ⟨cs, h1, h2⟩ := hx i (by omega)
      rw [cells36] at h1
      obtain ⟨_, _, hc⟩ := World.cells?_some h1
      obtain ⟨r, la, da, lc, dc, rfl, ll, dl, _, _, ft⟩ := open_rec h2
      refine ⟨⟨r, la, lc, da, dc⟩, fun j v hv => ?_, ⟨ll, dl⟩, ft⟩
      have hj : j < 17 := by
        obtain ⟨hh, _⟩ := List.getElem?_eq_some_iff.1 hv
        exact hh
      exact (hc j hj).trans hv
    obtain ⟨ls, el, q⟩ := choose_list _ l key
    subst el
    have hft : ∀ x ∈ ls, Fits x.r := fun x hx => by
      obtain ⟨i, hi, rfl⟩ := List.getElem_of_mem hx
      exact (q i hi).2.2
    have hls : ∀ x ∈ ls, Lies W x.la (liveCs x.r.live) ∧ Lies W x.da (dirtyCs x.r.dirty) := fun x hx => by
      obtain ⟨i, hi, rfl⟩ := List.getElem_of_mem hx
      exact (q i hi).2.1
    refine ⟨some ⟨b, off, spot⟩, ls, c, rfl, ⟨?_, hls⟩, hft, Nat.le_trans hl hm⟩
    by_cases h0 : ls.length = 0
    · exact .inl (by rw [List.eq_nil_of_length_eq_zero h0]; rfl)
    · have q0 := (q 0 (by omega)).1 0 _ rfl
      have hspot : spot = none := by simpa [Addr.add] using World.cell?_spot q0
      subst hspot
      rw [addr_add, addr_add] at q0
      refine rows_lies recLC 17 recLC_length (by decide) ls (World.block_lt_of_cell? _ _ q0) (fun i hi j v hv => ?_)
      have := (q i hi).1 j v hv
      rw [addr_add, addr_add] at this
      exact this
set_option maxRecDepth 100000 in
/-- A row of falls that came in. -/
theorem open_falls {fuel : Nat} {v : Value} {x : DataW H × List MemPlace} (hf : DataW.trod enc Tryz.prog W 0 (fun _ => true) true fuel 67 [v] = some x) (hsz : ∀ n ∈ x.1.weights Tryz.prog 67, n ≤ reachBytes) :
    ∃ (a : Option Addr) (xs : List FallM) (c : Nat), v = .slice a xs.length c ∧ FallsAt W a xs ∧ (∀ x ∈ xs, x.l.keep.length ≤ 17592186044415) ∧ xs.length ≤ c ∧ c ≤ maxLen := by
  rcases open_slice Tryz.underlying67 hf with ⟨hcs, _⟩ | ⟨x, l, c, m, n, D, Pl, hcs, _, hl, hm, hmm, rfl, hx⟩
  · simp at hcs
    subst hcs
    exact ⟨none, [], 0, rfl, ⟨.inl rfl, nofun⟩, nofun, Nat.le_refl _, by unfold maxLen; omega⟩
  · simp at hcs
    subst hcs
    simp at hmm
    obtain ⟨b, off, spot⟩ := x
    have key : ∀ i, i < l → ∃ y : FallM, (∀ j v, (fallC y)[j]? = some v → W.cell? (((⟨b, off, spot⟩ : Addr).add (i * 4)).add j) = some v) ∧ LossAt W y.l y.a y.c ∧ y.l.keep.length ≤ 17592186044415 := by
      intro i hi
      obtain ⟨cs, h1, h2⟩ := hx i (by omega)
      rw [cellsF] at h1
      obtain ⟨_, _, hc⟩ := World.cells?_some h1
      obtain ⟨s, lo, oa, oc, rfl, hlo, hw⟩ := open_fall h2
      refine ⟨⟨s, lo, oa, oc⟩, fun j v hv => ?_, hlo, ?_⟩
      · have hj : j < 4 := by
          obtain ⟨hh, _⟩ := List.getElem?_eq_some_iff.1 hv
          exact hh
        exact (hc j hj).trans hv
      · exact hw (fun n hn => hsz n (by
          simp only [DataW.weights, Tryz.underlying67]
          refine List.mem_cons_of_mem _ (List.mem_append_left _ (weightsAll_mem ?_ n hn))
          exact List.mem_map.2 ⟨i, by simpa using hi, rfl⟩))
    obtain ⟨ls, el, q⟩ := choose_list _ l key
    subst el
    have h1 : ∀ x ∈ ls, LossAt W x.l x.a x.c := fun x hx => by
      obtain ⟨i, hi, rfl⟩ := List.getElem_of_mem hx
      exact (q i hi).2.1
    have h2 : ∀ x ∈ ls, x.l.keep.length ≤ 17592186044415 := fun x hx => by
      obtain ⟨i, hi, rfl⟩ := List.getElem_of_mem hx
      exact (q i hi).2.2
    refine ⟨some ⟨b, off, spot⟩, ls, c, rfl, ⟨?_, h1⟩, h2, hl, hm⟩
    by_cases h0 : ls.length = 0
    · exact .inl (by rw [List.eq_nil_of_length_eq_zero h0]; rfl)
    · have q0 := (q 0 (by omega)).1 0 _ rfl
      have hspot : spot = none := by simpa [Addr.add] using World.cell?_spot q0
      subst hspot
      rw [addr_add, addr_add] at q0
      refine rows_lies fallC 4 (fun _ => rfl) (by decide) ls (World.block_lt_of_cell? _ _ q0) (fun i hi j v hv => ?_)
      have := (q i hi).1 j v hv
      rw [addr_add, addr_add] at this
      exact this
/-- Numbers that came in. -/
theorem open_nums {fuel : Nat} {v : Value} {x : DataW H × List MemPlace} (hf : DataW.trod enc Tryz.prog W 0 (fun _ => true) true fuel 23 [v] = some x) :
    ∃ (a : Option Addr) (xs : List Int) (c : Nat), v = .slice a xs.length c ∧ Lies W a (intCs xs) := by
  rcases open_ints Tryz.underlying23 Tryz.underlying3 (by kernel_rfl) hf with ⟨hcs, rfl⟩ | ⟨x, l, c, zs, hcs, _, hl, hm, hz, rfl, hcell, hwz⟩
  · simp at hcs
    subst hcs
    exact ⟨none, [], 0, rfl, .inl rfl⟩
  · simp at hcs
    have hz' : zs.length = c := by simpa using hz
    refine ⟨some x, zs.take l, c, by rw [hcs]; simp; omega, ?_⟩
    by_cases h0 : l = 0
    · exact .inl (by simp [h0, intCs])
    · obtain ⟨b, off, spot⟩ := x
      have hc := hcell 0 (by omega)
      have hspot : spot = none := by simpa [Addr.add] using World.cell?_spot hc
      subst hspot
      refine .inr ⟨b, off, rfl, World.block_lt_of_cell? _ _ hc, fun i hi => ?_⟩
      have hi2 : i < zs.length := by unfold intCs at hi; simp at hi; omega
      have h1 := hcell i (by omega)
      rw [addr_add] at h1
      rw [h1]
      simp [intCs, List.getD_eq_getElem?_getD, List.getElem?_eq_getElem hi2]
set_option maxRecDepth 100000 in
/-- A life that came in. -/
theorem open_life {fuel : Nat} {cs : List Value} {x : DataW H × List MemPlace} (h : DataW.trod enc Tryz.prog W 0 (fun _ => true) true fuel 25 cs = some x) :
    ∃ (c : Int) (ra : Option Addr) (rl : List RecL) (rc : Nat) (fa : Option Addr) (fl : List Int) (fc : Nat), cs = [.int .i64 c, .slice ra rl.length rc, .slice fa fl.length fc] ∧ RecsAt W ra rl ∧ (∀ x ∈ rl, Fits x.r) ∧ rl.length ≤ maxLen ∧ Lies W fa (intCs fl) := by
  obtain ⟨ys, n, _, rfl, hl, hlen, hf⟩ := DataW.trod_struct Tryz.underlying25 h
  rw [cellsLife] at hl
  obtain ⟨c0, c1, c2, rfl⟩ := list3 hl
  have hlen' : ys.length = 3 := by simpa using hlen
  obtain ⟨y0, y1, y2, rfl⟩ := list3 hlen'
  have f0 := hf 0 _ rfl
  have f1 := hf 1 _ rfl
  have f2 := hf 2 _ rfl
  simp [cells3, cells22, cells23] at f0 f1 f2
  obtain ⟨s, e0, _, _⟩ := DataW.trod_int Tryz.underlying3 f0
  obtain ⟨ra, rl, rc, e1, u1, u2, u3⟩ := open_recs f1
  obtain ⟨fa, fl, fc, e2, u4⟩ := open_nums f2
  simp at e0
  subst e0 e1 e2
  exact ⟨s, ra, rl, rc, fa, fl, fc, rfl, u1, u2, u3, u4⟩
end Go.Proofs.YtgpmghdoofcpaaaGreat.Lg
