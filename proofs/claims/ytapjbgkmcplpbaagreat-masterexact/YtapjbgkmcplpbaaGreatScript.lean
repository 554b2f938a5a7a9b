import Derived.Test.YtapjbgkmcplpbaaGreatG48
namespace Go.Proofs.YtapjbgkmcplpbaaGreat
open Go.ChangeShapes Go.WideShapes Go.ChangeAt Go.RowKit Go.Deep Go.QK

theorem cells36 : Tryz.prog.cellsOf 36 = 10 := by kernel_rfl
theorem cells23' : Tryz.prog.cellsOf 23 = 3 := by kernel_rfl
theorem cells34 : Tryz.prog.cellsOf 34 = 1 := by kernel_rfl
theorem cells4 : Tryz.prog.cellsOf 4 = 1 := by kernel_rfl
theorem list10 {α : Type} {l : List α} (h : l.length = 10) : ∃ a b c d e f g i j k, l = [a, b, c, d, e, f, g, i, j, k] := by
  match l, h with
  | [a, b, c, d, e, f, g, i, j, k], _ => exact ⟨a, b, c, d, e, f, g, i, j, k, rfl⟩
theorem list6 {α : Type} {l : List α} (h : l.length = 6) : ∃ a b c d e f, l = [a, b, c, d, e, f] := by
  match l, h with
  | [a, b, c, d, e, f], _ => exact ⟨a, b, c, d, e, f, rfl⟩
theorem weightsAll_mem {H : Type} {P : Program} {e : TypeId} : {l : List (DataW H)} → {d : DataW H} → d ∈ l → ∀ n ∈ d.weights P e, n ∈ DataW.weightsAll P e l
  | x :: l, d, h, n, hn => by
    simp only [DataW.weightsAll, List.mem_append]
    rcases List.mem_cons.1 h with rfl | h
    · exact .inl hn
    · exact .inr (weightsAll_mem h n hn)
theorem nat_u8 {n : Int} (h : (Lit.int .u8 n).wf = true) : ∃ k : Nat, n = (k : Int) ∧ k < 256 := by
  have h1 : IntKind.u8.min ≤ n ∧ n ≤ IntKind.u8.max := by simpa [Lit.wf] using h
  have e1 : IntKind.u8.min = 0 := rfl
  have e2 : IntKind.u8.max = 255 := rfl
  exact ⟨n.toNat, by omega, by omega⟩
theorem bytes_of {zs : List Int} (h : ∀ y ∈ zs, (Lit.int .u8 y).wf = true) : ∃ l : List Nat, zs = ints l ∧ AllB l := by
  induction zs with
  | nil => exact ⟨[], rfl, nofun⟩
  | cons z zs ih =>
    obtain ⟨l, rfl, hl⟩ := ih (fun y hy => h y (by simp [hy]))
    obtain ⟨k, rfl, hk⟩ := nat_u8 (h z (by simp))
    refine ⟨k :: l, rfl, fun y hy => ?_⟩
    rcases List.mem_cons.1 hy with rfl | hy
    · exact hk
    · exact hl y hy
variable {H : Type} {enc : TypeId × Value → H} {W : World}
/-- Bytes that came in. -/
theorem open_bytes {fuel : Nat} {v : Value} {x : DataW H × List MemPlace} (hf : DataW.trod enc Tryz.prog W 0 (fun _ => true) true fuel 34 [v] = some x) :
    ∃ (a : Option Addr) (l : List Nat) (cap : Nat), v = .slice a l.length cap ∧ Bytes W a l ∧ AllB l ∧ (a = none → cap = 0) ∧ l.length ≤ cap ∧ cap ≤ maxLen := by
  rcases open_ints Tryz.underlying34 Tryz.underlying5 (by kernel_rfl) hf with ⟨hcs, rfl⟩ | ⟨x, len, c, zs, hcs, _, hl, hm, hz, rfl, hcell, hwz⟩
  · simp at hcs
    exact ⟨none, [], 0, hcs, .inl rfl, nofun, fun _ => rfl, Nat.le_refl _, by unfold maxLen; omega⟩
  · simp at hcs
    obtain ⟨l, rfl, hlb⟩ := bytes_of hwz
    have hz' : l.length = c := by simpa using hz
    refine ⟨some x, l.take len, c, by rw [hcs]; simp; omega, ?_, hlb.take len, nofun, by simp; omega, hm⟩
    by_cases h0 : len = 0
    · exact .inl (by simp [h0])
    · obtain ⟨b, off, spot⟩ := x
      have hc := hcell 0 (by simp; omega)
      have hspot : spot = none := by simpa [Addr.add] using World.cell?_spot hc
      subst hspot
      show Seen .u8 W _ (ints (l.take len))
      rw [ints_take]
      refine .inr ⟨b, off, rfl, World.block_lt_of_cell? _ _ hc, fun i hi => ?_⟩
      have h1 := hcell i (by simp at hi ⊢; omega)
      rw [addr_add] at h1
      rw [h1]
      have h2 : i < (ints l).length := by simp at hi ⊢; omega
      simp [List.getD_eq_getElem?_getD, List.getElem?_eq_getElem h2]

set_option maxRecDepth 100000 in
theorem open_op {fuel : Nat} {cs : List Value} {x : DataW H × List MemPlace} (h : DataW.trod enc Tryz.prog W 0 (fun _ => true) true fuel 36 cs = some x) :
    ∃ (o : OpM) (la : Option Addr) (lc : Nat) (ba : Option Addr) (bc : Nat), cs = (o.v la lc ba bc).toList ∧ LossAt W o.l la lc ∧ ((∀ n ∈ x.1.weights Tryz.prog 36, n ≤ reachBytes) → o.l.keep.length ≤ 17592186044415) ∧ o.n ≤ 9223372036854775807 ∧ Bytes W ba o.b ∧ (ba = none → bc = 0) ∧ AllB o.b ∧ o.b.length ≤ bc ∧ bc ≤ maxLen := by
  obtain ⟨ys, n, _, rfl, hl, hlen, hf⟩ := DataW.trod_struct Tryz.underlying36 h
  rw [cells36] at hl
  obtain ⟨c0, c1, c2, c3, c4, c5, c6, c7, c8, c9, rfl⟩ := list10 hl
  have hlen' : ys.length = 6 := by simpa using hlen
  obtain ⟨y0, y1, y2, y3, y4, y5, rfl⟩ := list6 hlen'
  have f0 := hf 0 _ rfl
  have f1 := hf 1 _ rfl
  have f2 := hf 2 _ rfl
  have f3 := hf 3 _ rfl
  have f4 := hf 4 _ rfl
  have f5 := hf 5 _ rfl
  simp [cells3, cells4, cells26, cells23', cells34] at f0 f1 f2 f3 f4 f5
  obtain ⟨k, e0, _, _⟩ := DataW.trod_int Tryz.underlying3 f0
  obtain ⟨zs, m, _, _, hl1, hlen1, hf1⟩ := DataW.trod_struct Tryz.underlying23 f1
  have hlen1' : zs.length = 3 := by simpa using hlen1
  obtain ⟨z0, z1, z2, rfl⟩ := list3 hlen1'
  have g0 := hf1 0 _ rfl
  have g1 := hf1 1 _ rfl
  have g2 := hf1 2 _ rfl
  simp [cells3] at g0 g1 g2
  obtain ⟨sx, ex, _, _⟩ := DataW.trod_int Tryz.underlying3 g0
  obtain ⟨sy, ey, _, _⟩ := DataW.trod_int Tryz.underlying3 g1
  obtain ⟨sz, ez, _, _⟩ := DataW.trod_int Tryz.underlying3 g2
  obtain ⟨i, e2, _, wi⟩ := DataW.trod_int Tryz.underlying3 f2
  obtain ⟨a, c, l, e3, hl5, hw5⟩ := open_loss f3
  obtain ⟨ba, bl, bc, e4, hb1, hb2, hb3, hb4, hb5⟩ := open_bytes f4
  obtain ⟨lit, e5, _⟩ := DataW.trod_bool Tryz.underlying4 f5
  simp at e0 ex ey ez e2 e3 e5
  obtain ⟨e3, e6, e7⟩ := e3
  subst e0 ex ey ez e2 e3 e4 e5 e6 e7
  refine ⟨⟨k, sx, sy, sz, i, l, bl, lit⟩, a, c, ba, bc, rfl, hl5, fun hw => hw5 (fun n hn => hw n ?_), (rng_i64 wi).2, hb1, hb3, hb2, hb4, hb5⟩
  simp only [DataW.weights, Tryz.underlying36]
  exact DataW.weights_mem_each (j := 3) (t := 33) rfl rfl n hn

set_option maxRecDepth 100000 in
theorem open_script {fuel : Nat} {a : Option Addr} {len cap : Nat} {x : DataW H × List MemPlace} (hf : DataW.trod enc Tryz.prog W 0 (fun _ => true) true fuel 24 [.slice a len cap] = some x) (hsz : ∀ n ∈ x.1.weights Tryz.prog 24, n ≤ reachBytes) :
    len ≤ maxLen ∧ ScriptAt W a len := by
  rcases open_slice Tryz.underlying24 hf with ⟨hcs, _⟩ | ⟨x, l, c, m, n, D, Pl, hcs, _, hl, hm, hmm, rfl, hx⟩
  · simp at hcs
    obtain ⟨rfl, rfl, rfl⟩ := hcs
    exact ⟨by unfold maxLen; omega, nofun⟩
  · simp at hcs
    obtain ⟨rfl, rfl, rfl⟩ := hcs
    refine ⟨Nat.le_trans hl hm, fun i hi => ?_⟩
    simp at hmm
    obtain ⟨cs, h1, h2⟩ := hx i (by omega)
    rw [cells36] at h1
    obtain ⟨_, _, hc⟩ := World.cells?_some h1
    obtain ⟨o, la, lc, ba, bc, rfl, hlo, hw, hoi, hb1, hb2, hb3, hb4, hb5⟩ := open_op h2
    obtain ⟨b, off, spot⟩ := x
    have hspot : spot = none := by
      obtain ⟨cs0, g1, g2⟩ := hx 0 (by omega)
      rw [cells36] at g1
      obtain ⟨_, _, gc⟩ := World.cells?_some g1
      obtain ⟨_, _, _, _, _, rfl, _⟩ := open_op g2
      have q0 := gc 0 (by omega)
      have := World.cell?_spot (q0.trans rfl)
      simpa [Addr.add] using this
    subst hspot
    have hc' : ∀ j, j < 10 → W.cell? ⟨b, off + i * 10 + j, none⟩ = (o.v la lc ba bc).toList[j]? := by
      intro j hj
      have := hc j hj
      rw [addr_add, addr_add] at this
      exact this
    have hk := hw (fun n hn => hsz n (by
      simp only [DataW.weights, Tryz.underlying24]
      refine List.mem_cons_of_mem _ (List.mem_append_left _ (weightsAll_mem ?_ n hn))
      exact List.mem_map.2 ⟨i, by simpa using hi, rfl⟩))
    refine ⟨b, off, rfl, World.block_lt_of_cell? _ ⟨b, off + i * 10 + 0, none⟩ ((hc' 0 (by omega)).trans rfl), o, la, lc, ba, bc, ⟨hlo, hk, hoi, hb1, hb2, hb3, hb4, hb5⟩, fun hx ad had => hlo.low hx ad had, fun j v hv => ?_⟩
    have hj : j < 10 := by
      obtain ⟨hh, _⟩ := Array.getElem?_eq_some_iff.1 hv
      exact hh
    rw [hc' j hj]
    simpa using hv
end Go.Proofs.YtapjbgkmcplpbaaGreat
