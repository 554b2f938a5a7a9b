import Derived.Test.YtokcocmenndlmaaTxO
import Derived.Test.YtokcocmenndlmaaTx41
namespace Go.Proofs.Ytokcocmenndlmaa
open Go.ChangeShapes Go.WideShapes Go.ChangeAt Go.RowKit Go.Deep Go.QK Go.Joins Go.QT
set_option maxRecDepth 100000
theorem cells2 : Try.prog.cellsOf 2 = 1 := by kernel_rfl
theorem cells24 : Try.prog.cellsOf 24 = 1 := by kernel_rfl
theorem cells33 : Try.prog.cellsOf 33 = 1 := by kernel_rfl
theorem cells43 : Try.prog.cellsOf 43 = 2 := by kernel_rfl
theorem cells45 : Try.prog.cellsOf 45 = 2 := by kernel_rfl
theorem cells47 : Try.prog.cellsOf 47 = 5 := by kernel_rfl
theorem cells49 : Try.prog.cellsOf 49 = 3 := by kernel_rfl
theorem cells77 : Try.prog.cellsOf 77 = 23 := by kernel_rfl
theorem cells130 : Try.prog.cellsOf 130 = 2 := by kernel_rfl
theorem lst2 {α : Type} {l : List α} (h : l.length = 2) : ∃ a b, l = [a, b] := by
  match l, h with
  | [a, b], _ => exact ⟨a, b, rfl⟩
theorem lst3 {α : Type} {l : List α} (h : l.length = 3) : ∃ a b c, l = [a, b, c] := by
  match l, h with
  | [a, b, c], _ => exact ⟨a, b, c, rfl⟩
theorem lst4 {α : Type} {l : List α} (h : l.length = 4) : ∃ a b c d, l = [a, b, c, d] := by
  match l, h with
  | [a, b, c, d], _ => exact ⟨a, b, c, d, rfl⟩
theorem lst5 {α : Type} {l : List α} (h : l.length = 5) : ∃ a b c d e, l = [a, b, c, d, e] := by
  match l, h with
  | [a, b, c, d, e], _ => exact ⟨a, b, c, d, e, rfl⟩
theorem lst9 {α : Type} {l : List α} (h : l.length = 9) : ∃ a b c d e f g i j, l = [a, b, c, d, e, f, g, i, j] := by
  match l, h with
  | [a, b, c, d, e, f, g, i, j], _ => exact ⟨a, b, c, d, e, f, g, i, j, rfl⟩
theorem lst17 {α : Type} {l : List α} (h : l.length = 17) : ∃ a b c d e f g i j k m n o p q r s, l = [a, b, c, d, e, f, g, i, j, k, m, n, o, p, q, r, s] := by
  match l, h with
  | [a, b, c, d, e, f, g, i, j, k, m, n, o, p, q, r, s], _ => exact ⟨a, b, c, d, e, f, g, i, j, k, m, n, o, p, q, r, s, rfl⟩
variable {H : Type} {enc : TypeId × Value → H} {W : World}
/-- A row of structs that came in. -/
theorem open_rowsN {α : Type} {T E : TypeId} {k : Nat} (f : α → List Value) (ok : α → Prop) (hu : Try.prog.underlying T = some (.slice E)) (hc : Try.prog.cellsOf E = k) (hk : 0 < k) (hfl : ∀ x, (f x).length = k)
    (hopen : ∀ {fuel : Nat} {cs : List Value} {x : DataW H × List MemPlace}, DataW.trod enc Try.prog W 0 (fun _ => true) true fuel E cs = some x → ∃ y, cs = f y ∧ ok y)
    {fuel : Nat} {v : Value} {x : DataW H × List MemPlace} (hf : DataW.trod enc Try.prog W 0 (fun _ => true) true fuel T [v] = some x) :
    ∃ (a : Option Addr) (xs : List α) (c : Nat), v = .slice a xs.length c ∧ Lies W a (rowsC f xs) ∧ (∀ y ∈ xs, ok y) ∧ xs.length ≤ maxLen ∧ xs.length ≤ c ∧ (a = none → c = 0 ∧ xs.length = 0) := by
  rcases open_slice hu hf with ⟨hcs, _⟩ | ⟨x, l, c, m, n, D, Pl, hcs, _, hl, hm, hmm, rfl, hx⟩
  · simp at hcs
    subst hcs
    exact ⟨none, [], 0, rfl, .inl rfl, nofun, Nat.zero_le _, Nat.le_refl _, fun _ => ⟨rfl, rfl⟩⟩
  · simp at hcs
    subst hcs
    simp at hmm
    obtain ⟨b, off, spot⟩ := x
    have key : ∀ i, i < l → ∃ y : α, (∀ j v, (f y)[j]? = some v → W.cell? (((⟨b, off, spot⟩ : Addr).add (i * k)).add j) = some v) ∧ ok y := by
      intro i hi
      obtain ⟨cs, h1, h2⟩ := hx i (by omega)
      rw [hc] at h1
      obtain ⟨_, _, hcc⟩ := World.cells?_some h1
      obtain ⟨y, rfl, hy⟩ := hopen h2
      refine ⟨y, fun j v hv => ?_, hy⟩
      have hj : j < k := by
        obtain ⟨hh, _⟩ := List.getElem?_eq_some_iff.1 hv
        rw [hfl] at hh
        exact hh
      exact (hcc j hj).trans hv
    obtain ⟨ls, el, q⟩ := pick_list _ l key
    subst el
    refine ⟨some ⟨b, off, spot⟩, ls, c, rfl, ?_, fun x hx => ?_, Nat.le_trans hl hm, hl, nofun⟩
    · by_cases h0 : ls.length = 0
      · exact .inl (by rw [List.eq_nil_of_length_eq_zero h0]; rfl)
      · have hz : 0 < (f (ls[0]'(by omega))).length := by rw [hfl]; exact hk
        have q0 := (q 0 (by omega)).1 0 _ (List.getElem?_eq_getElem hz)
        have hspot : spot = none := by simpa [Addr.add] using World.cell?_spot q0
        subst hspot
        rw [addr_add, addr_add] at q0
        refine rows_lies f k hfl hk ls (World.block_lt_of_cell? _ _ q0) (fun i hi j v hv => ?_)
        have := (q i hi).1 j v hv
        rw [addr_add, addr_add] at this
        exact this
    · obtain ⟨i, hi, rfl⟩ := List.getElem_of_mem hx
      exact (q i hi).2

theorem open_live {fuel : Nat} {cs : List Value} {x : DataW H × List MemPlace} (h : DataW.trod enc Try.prog W 0 (fun _ => true) true fuel 26 cs = some x) : ∃ l : Lv, cs = lvC l ∧ True := by
  obtain ⟨ys, n, _, rfl, hl, hlen, hf⟩ := DataW.trod_struct Try.underlying26 h
  rw [cells26] at hl
  obtain ⟨c0, c1, c2, c3, rfl⟩ := lst4 hl
  obtain ⟨y0, y1, y2, y3, rfl⟩ := lst4 (show ys.length = 4 by simpa using hlen)
  have f0 := hf 0 _ rfl
  have f1 := hf 1 _ rfl
  have f2 := hf 2 _ rfl
  have f3 := hf 3 _ rfl
  simp [cells3, cells4] at f0 f1 f2 f3
  obtain ⟨a, e0, _, _⟩ := DataW.trod_int Try.underlying3 f0
  obtain ⟨b, e1, _, _⟩ := DataW.trod_int Try.underlying3 f1
  obtain ⟨c, e2, _⟩ := DataW.trod_bool Try.underlying4 f2
  obtain ⟨d, e3, _⟩ := DataW.trod_bool Try.underlying4 f3
  simp at e0 e1 e2 e3
  subst e0 e1 e2 e3
  exact ⟨⟨a, b, c, d⟩, rfl, trivial⟩
theorem open_dirty {fuel : Nat} {cs : List Value} {x : DataW H × List MemPlace} (h : DataW.trod enc Try.prog W 0 (fun _ => true) true fuel 130 cs = some x) : ∃ l : Int × Int, cs = dC l ∧ True := by
  obtain ⟨ys, n, _, rfl, hl, hlen, hf⟩ := DataW.trod_struct Try.underlying130 h
  rw [cells130] at hl
  obtain ⟨c0, c1, rfl⟩ := lst2 hl
  obtain ⟨y0, y1, rfl⟩ := lst2 (show ys.length = 2 by simpa using hlen)
  have f0 := hf 0 _ rfl
  have f1 := hf 1 _ rfl
  simp [cells3] at f0 f1
  obtain ⟨a, e0, _, _⟩ := DataW.trod_int Try.underlying3 f0
  obtain ⟨b, e1, _, _⟩ := DataW.trod_int Try.underlying3 f1
  simp at e0 e1
  subst e0 e1
  exact ⟨(a, b), rfl, trivial⟩
theorem open_pts {fuel : Nat} {cs : List Value} {x : DataW H × List MemPlace} (f8 : DataW.trod enc Try.prog W 0 (fun _ => true) true fuel 49 cs = some x) :
    ∃ (q16 : Int) (la da : Option Addr) (lc dc : Nat) (L : List Lv) (D : List (Int × Int)), cs = [.slice la L.length lc, .slice da D.length dc, .int .i64 q16] ∧ Lies W la (rowsC lvC L) ∧ Lies W da (rowsC dC D) ∧ (la = none → lc = 0 ∧ L.length = 0) ∧ (da = none → dc = 0 ∧ D.length = 0) ∧ L.length ≤ lc ∧ D.length ≤ dc := by
  obtain ⟨zs5, m5, _, rfl, hl5, hlen5, hf5⟩ := DataW.trod_struct Try.underlying49 f8
  rw [cells49] at hl5
  obtain ⟨c14, c15, c16, rfl⟩ := lst3 hl5
  obtain ⟨z10, z11, z12, rfl⟩ := lst3 (show zs5.length = 3 by simpa using hlen5)
  have j0 := hf5 0 _ rfl
  have j1 := hf5 1 _ rfl
  have j2 := hf5 2 _ rfl
  simp [cells33, cells24, cells3] at j0 j1 j2
  obtain ⟨la, ls, lc, e14, ll, _, _, lcc, lnn⟩ := open_rowsN lvC (fun _ => True) Try.underlying33 cells26 (by decide) (fun _ => rfl) (fun h => open_live h) j0
  obtain ⟨da, ds, dc, e15, dl, _, _, dcc, dnn⟩ := open_rowsN dC (fun _ => True) Try.underlying24 cells130 (by decide) (fun _ => rfl) (fun h => open_dirty h) j1
  obtain ⟨q16, e16, _, _⟩ := DataW.trod_int Try.underlying3 j2
  simp at e16
  subst e14 e15 e16
  exact ⟨q16, la, da, lc, dc, ls, ds, rfl, ll, dl, lnn, dnn, lcc, dcc⟩
set_option maxHeartbeats 2000000 in
theorem open_recX {fuel : Nat} {cs : List Value} {x : DataW H × List MemPlace} (h : DataW.trod enc Try.prog W 0 (fun _ => true) true fuel 51 cs = some x) :
    ∃ (q0 q1 q2 q3 q4 q5 q6 q7 q8 q9 q10 q11 q12 q13 q16 : Int) (la da : Option Addr) (lc dc : Nat) (L : List Lv) (D : List (Int × Int)), cs = [.int .i64 q0, .int .i64 q1, .int .i64 q2, .int .i64 q3, .int .i64 q4, .int .i64 q5, .int .i64 q6, .int .i64 q7, .int .i64 q8, .int .i64 q9, .int .i64 q10, .int .i64 q11, .int .i64 q12, .int .i64 q13, .slice la L.length lc, .slice da D.length dc, .int .i64 q16] ∧ I64 q2 ∧ Lies W la (rowsC lvC L) ∧ Lies W da (rowsC dC D) ∧ (la = none → lc = 0 ∧ L.length = 0) ∧ (da = none → dc = 0 ∧ D.length = 0) ∧ L.length ≤ lc ∧ D.length ≤ dc := by
  obtain ⟨ys, n, _, rfl, hl, hlen, hf⟩ := DataW.trod_struct Try.underlying51 h
  rw [cells51] at hl
  obtain ⟨c0, c1, c2, c3, c4, c5, c6, c7, c8, c9, c10, c11, c12, c13, c14, c15, c16, rfl⟩ := lst17 hl
  have hlen' : ys.length = 9 := by simpa using hlen
  obtain ⟨y0, y1, y2, y3, y4, y5, y6, y7, y8, rfl⟩ := lst9 hlen'
  have f0 := hf 0 _ rfl
  have f1 := hf 1 _ rfl
  have f2 := hf 2 _ rfl
  have f3 := hf 3 _ rfl
  have f4 := hf 4 _ rfl
  have f5 := hf 5 _ rfl
  have f6 := hf 6 _ rfl
  have f7 := hf 7 _ rfl
  have f8 := hf 8 _ rfl
  simp [cells3, cells41, cells43, cells2, cells47, cells49] at f0 f1 f2 f3 f4 f5 f6 f7 f8
  obtain ⟨q0, e0, _, _⟩ := DataW.trod_int Try.underlying3 f0
  obtain ⟨q1, e1, _, _⟩ := DataW.trod_int Try.underlying41 f1
  obtain ⟨q2, e2, _, w2⟩ := DataW.trod_int Try.underlying3 f2
  obtain ⟨q3, e3, _, _⟩ := DataW.trod_int Try.underlying3 f3
  obtain ⟨zs, m, _, _, hl1, hlen1, hf1⟩ := DataW.trod_struct Try.underlying43 f4
  obtain ⟨z0, z1, rfl⟩ := lst2 (show zs.length = 2 by simpa using hlen1)
  have g0 := hf1 0 _ rfl
  have g1 := hf1 1 _ rfl
  simp [cells3] at g0 g1
  obtain ⟨q4, e4, _, _⟩ := DataW.trod_int Try.underlying3 g0
  obtain ⟨q5, e5, _, _⟩ := DataW.trod_int Try.underlying3 g1
  obtain ⟨zs2, m2, _, _, hl2, hlen2, hf2⟩ := DataW.trod_struct Try.underlying43 f5
  obtain ⟨z2, z3, rfl⟩ := lst2 (show zs2.length = 2 by simpa using hlen2)
  have g2 := hf2 0 _ rfl
  have g3 := hf2 1 _ rfl
  simp [cells3] at g2 g3
  obtain ⟨q6, e6, _, _⟩ := DataW.trod_int Try.underlying3 g2
  obtain ⟨q7, e7, _, _⟩ := DataW.trod_int Try.underlying3 g3
  obtain ⟨q8, e8, _, w8⟩ := DataW.trod_int Try.underlying2 f6
  obtain ⟨zs3, m3, _, _, hl3, hlen3, hf3⟩ := DataW.trod_struct Try.underlying47 f7
  obtain ⟨z4, z5, z6, z7, rfl⟩ := lst4 (show zs3.length = 4 by simpa using hlen3)
  have g4 := hf3 0 _ rfl
  have g5 := hf3 1 _ rfl
  have g6 := hf3 2 _ rfl
  have g7 := hf3 3 _ rfl
  simp [cells3, cells45, cells2] at g4 g5 g6 g7
  obtain ⟨q9, e9, _, _⟩ := DataW.trod_int Try.underlying3 g4
  obtain ⟨q10, e10, _, _⟩ := DataW.trod_int Try.underlying3 g5
  obtain ⟨zs4, m4, _, _, hl4, hlen4, hf4⟩ := DataW.trod_struct Try.underlying45 g6
  obtain ⟨z8, z9, rfl⟩ := lst2 (show zs4.length = 2 by simpa using hlen4)
  have i0 := hf4 0 _ rfl
  have i1 := hf4 1 _ rfl
  simp [cells2] at i0 i1
  obtain ⟨q11, e11, _, w11⟩ := DataW.trod_int Try.underlying2 i0
  obtain ⟨q12, e12, _, w12⟩ := DataW.trod_int Try.underlying2 i1
  obtain ⟨q13, e13, _, w13⟩ := DataW.trod_int Try.underlying2 g7
  obtain ⟨zs5, m5, _, _, hl5, hlen5, hf5⟩ := DataW.trod_struct Try.underlying49 f8
  obtain ⟨z10, z11, z12, rfl⟩ := lst3 (show zs5.length = 3 by simpa using hlen5)
  have j0 := hf5 0 _ rfl
  have j1 := hf5 1 _ rfl
  have j2 := hf5 2 _ rfl
  simp [cells33, cells24, cells3] at j0 j1 j2
  obtain ⟨la, ls, lc, e14, ll, _, _, lcc, lnn⟩ := open_rowsN lvC (fun _ => True) Try.underlying33 cells26 (by decide) (fun _ => rfl) (fun h => open_live h) j0
  obtain ⟨da, ds, dc, e15, dl, _, _, dcc, dnn⟩ := open_rowsN dC (fun _ => True) Try.underlying24 cells130 (by decide) (fun _ => rfl) (fun h => open_dirty h) j1
  obtain ⟨q16, e16, _, _⟩ := DataW.trod_int Try.underlying3 j2
  simp at e0 e1 e2 e3 e4 e5 e6 e7 e8 e9 e10 e11 e12 e13 e16
  subst e0 e1 e2 e3 e4 e5 e6 e7 e8 e9 e10 e11 e12 e13 e14 e15 e16
  exact ⟨q0, q1, q2, q3, q4, q5, q6, q7, q8, q9, q10, q11, q12, q13, q16, la, da, lc, dc, ls, ds, rfl, i64_wf w2, ll, dl, lnn, dnn, lcc, dcc⟩
theorem lst23 {α : Type} {l : List α} (h : l.length = 23) : ∃ a b c, ∃ r p : List α, l = a :: b :: c :: (r ++ p) ∧ r.length = 17 ∧ p.length = 3 := by
  match l, h with
  | a :: b :: c :: m, h =>
    have h' : m.length = 20 := by simpa using h
    exact ⟨a, b, c, m.take 17, m.drop 17, by rw [List.take_append_drop], by simp [h'], by simp [h']⟩
theorem open_op {fuel : Nat} {cs : List Value} {x : DataW H × List MemPlace} (h : DataW.trod enc Try.prog W 0 (fun _ => true) true fuel 77 cs = some x) : ∃ o : OpX, cs = opX o ∧ OkX W o := by
  obtain ⟨ys, n, _, rfl, hl, hlen, hf⟩ := DataW.trod_struct Try.underlying77 h
  rw [cells77] at hl
  obtain ⟨c0, c1, c2, r, p, rfl, hr, hp⟩ := lst23 hl
  obtain ⟨y0, y1, y2, y3, y4, rfl⟩ := lst5 (show ys.length = 5 by simpa using hlen)
  have f0 := hf 0 _ rfl
  have f1 := hf 1 _ rfl
  have f2 := hf 2 _ rfl
  have f3 := hf 3 _ rfl
  have f4 := hf 4 _ rfl
  simp [cells3, cells4, cells51, cells49] at f0 f1 f2 f3 f4
  rw [List.take_append_of_le_length (by omega), List.take_of_length_le (by omega)] at f3
  rw [List.drop_append_of_le_length (by omega), List.drop_of_length_le (by omega), List.nil_append, List.take_of_length_le (by omega)] at f4
  obtain ⟨a0, e0, _, _⟩ := DataW.trod_int Try.underlying3 f0
  obtain ⟨a1, e1, _⟩ := DataW.trod_bool Try.underlying4 f1
  obtain ⟨a2, e2, _, w2⟩ := DataW.trod_int Try.underlying3 f2
  obtain ⟨q0, q1, q2, q3, q4, q5, q6, q7, q8, q9, q10, q11, q12, q13, q16, la, da, lc, dc, L, D, rfl, t64, ll, dl, lnn, dnn, lcc, dcc⟩ := open_recX f3
  obtain ⟨q17, pla, pda, plc, pdc, PL, PD, rfl, pll, pdl, plnn, pdnn, plcc, pdcc⟩ := open_pts f4
  simp at e0 e1 e2
  subst e0 e1 e2
  exact ⟨⟨a0, a2, q0, q1, q2, q3, q4, q5, q6, q7, q8, q9, q10, q11, q12, q13, q16, q17, a1, la, da, pla, pda, lc, dc, plc, pdc, L, PL, D, PD⟩, rfl, ⟨i64_wf w2, t64, ll, dl, pll, pdl, lnn, dnn, plnn, pdnn, plcc, pdcc⟩⟩
theorem open_ops {fuel : Nat} {v : Value} {x : DataW H × List MemPlace} (hf : DataW.trod enc Try.prog W 0 (fun _ => true) true fuel 62 [v] = some x) :
    ∃ (a : Option Addr) (ds : List OpX) (c : Nat), v = .slice a ds.length c ∧ Lies W a (rowsC opX ds) ∧ (∀ d ∈ ds, OkX W d) := by
  obtain ⟨a, ds, c, h1, h2, h3, h4⟩ := open_rows opX (OkX W) Try.underlying62 cells77 (by decide) (fun _ => rfl) (fun h => open_op h) hf
  exact ⟨a, ds, c, h1, h2, h3⟩
end Go.Proofs.Ytokcocmenndlmaa
