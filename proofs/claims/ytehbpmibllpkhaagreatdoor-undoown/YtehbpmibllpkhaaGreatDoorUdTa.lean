import Derived.Test.YtehbpmibllpkhaaGreatDoorUdT3
set_option linter.all false
namespace Go.Proofs.YtehbpmibllpkhaaGreatDoor
open Go.RowKit Go.QK Go.Maps Go.QM Go.QU
set_option maxRecDepth 100000
theorem info43 : (Tryz.prog.info? 43).map (fun i => (i.zero, i.size, i.bytes)) = some (some (.agg #[.int .i64 0, .int .i64 0]), 2, 16) := by kernel_rfl
theorem info3z : (Tryz.prog.info? 3).map (fun i => (i.zero, i.size, i.bytes)) = some (some (.int .i64 0), 1, 8) := by kernel_rfl
theorem info2z : (Tryz.prog.info? 2).map (fun i => (i.zero, i.size, i.bytes)) = some (some (.int .i64 0), 1, 8) := by kernel_rfl
theorem info171 : (Tryz.prog.info? 171).map (fun i => (i.zero, i.size, i.bytes)) = some (some (.agg #[.int .i64 0, .int .i64 0, .int .i64 0, .int .i64 0, .int .i64 0, .int .i64 0, .int .i64 0, .int .i64 0, .int .i64 0]), 9, 72) := by kernel_rfl
theorem fill171 (x : PL) : Instr.fill (fun i => some (i * 9, 9)) ((Array.range (1 * 9)).map ((Value.agg #[.int .i64 0, .int .i64 0, .int .i64 0, .int .i64 0, .int .i64 0, .int .i64 0, .int .i64 0, .int .i64 0, .int .i64 0]).cells[· % (Value.agg #[.int .i64 0, .int .i64 0, .int .i64 0, .int .i64 0, .int .i64 0, .int .i64 0, .int .i64 0, .int .i64 0, .int .i64 0]).cells.size]!)) [(0, .agg (plA x))] = some (plA x) := by kernel_rfl
theorem wp_b69 {o : Oper} {a : Act} {w : World} {K : Act → World → Prop} {Q : Exit → Act → World → Prop} {y : Operand} {x : PL} (ho : o.op = .buildSlice 69 1 #[(0, y)]) (hx : a.eval y = .agg (plA x))
    (h : K (a.put o.dst (.slice (some ⟨w.heap.size, 0, none⟩) 1 1)) (w.alloc (.cells (plA x) 171))) : o.wp Tryz.prog a w K Q := by
  obtain ⟨i0, hi, h0, h2, h3⟩ := info_of info171
  refine wp_buildSlice 69 171 1 #[(0, y)] ho (plA x) i0 _ Tryz.underlying69 hi h0 (by rw [h2]; decide) (by rw [h2]; decide) ?_ h
  rw [h2]
  simp only [List.map_toArray, List.map_cons, List.map_nil, hx]
  exact fill171 x
theorem lies_cells2 (w : World) (cs : Array Value) (t : TypeId) : Lies (w.alloc (.cells cs t)) (some ⟨w.heap.size, 0, none⟩) cs.toList := by
  have h := Cells.new w cs t
  refine .inr ⟨w.heap.size, 0, rfl, h.1, fun i hi => ?_⟩
  have q := (h.2 i hi).1
  rw [Nat.zero_add]
  exact q
theorem few_of : ∀ (n : Nat) (l : List Int), l.Nodup → (∀ x ∈ l, 1 ≤ x ∧ x ≤ (n : Int)) → l.length ≤ n
  | 0, l, _, h => by
    cases l with
    | nil => exact Nat.le_refl _
    | cons x r => have := h x (List.mem_cons_self ..); omega
  | n + 1, l, hd, h => by
    by_cases q : ((n + 1 : Nat) : Int) ∈ l
    · have e := List.length_erase_of_mem q
      have i := few_of n (l.erase ((n + 1 : Nat) : Int)) (hd.erase _) (fun x hx => by
        have := h x (List.mem_of_mem_erase hx)
        have := ((List.Nodup.mem_erase_iff hd).1 hx).1
        omega)
      omega
    · have := few_of n l hd (fun x hx => by
        have := h x hx
        have : x ≠ ((n + 1 : Nat) : Int) := fun e => q (e ▸ hx)
        omega)
      omega
theorem ig_more {l : List Int} {j : Nat} (h : l.Nodup ∧ ∀ x ∈ l, 1 ≤ x ∧ x ≤ 5) (hj : j < 5) (hn : (1 + (j : Int)) ∉ l) : (l ++ [1 + (j : Int)]).Nodup ∧ ∀ x ∈ l ++ [1 + (j : Int)], 1 ≤ x ∧ x ≤ 5 := by
  refine ⟨List.nodup_append.2 ⟨h.1, by simp, fun a ha b hb => ?_⟩, fun x hx => ?_⟩
  · rw [List.mem_singleton] at hb
    subst hb
    exact fun e => hn (e ▸ ha)
  · rcases List.mem_append.1 hx with q | q
    · exact h.2 x q
    · rw [List.mem_singleton] at q
      subst q
      omega
/-- What the lists' lengths bear to one another. -/
structure Len (s : SV) : Prop where
  gi : s.G.length = s.I.length
  ls : s.P.length = s.S.length
  ig : s.I.Nodup ∧ ∀ x ∈ s.I, 1 ≤ x ∧ x ≤ 5
/-- What a deed leaves. -/
structure Grew (s s' : SV) (r p i : Nat) : Prop where
  r : s'.R.length ≤ s.R.length + r
  p : s'.P.length ≤ s.P.length + p
  i : s'.I.length ≤ s.I.length + i
  len : Len s'
theorem box_two {w w3 : World} {sb X0 j : Nat} {A0 Ab : Array Value} {S : Nat → Prop} {t : TypeId} {u : Value} (h : RBox w X0 102 A0) (k : Keep S w w3) (hS : OfTy w t S) (ne : 102 ≠ t) (hb : RBox w3 sb 74 Ab) : RBox (w3.setCell ⟨sb, j, none⟩ u) X0 102 A0 :=
  RBox.keepT (RBox.keepT h k hS ne) ((Keep.refl (fun z => z = sb) w3).setCell (g := sb) (j := j) (fun _ => rfl) u) (ofty_box hb) (by decide)
theorem below_two {B sb j : Nat} {w0 w w3 : World} {S : Nat → Prop} {u : Value} (h : Below B w0 w) (k : Keep S w w3) (hS : ∀ z, S z → B ≤ z) (hs : B ≤ sb) (hB : B ≤ w0.heap.size) : Below B w0 (w3.setCell ⟨sb, j, none⟩ u) :=
  bkeep (bkeep h k hB hS) ((Keep.refl (fun z => z = sb) w3).setCell (g := sb) (j := j) (fun _ => rfl) u) hB (fun z e => by rw [e]; exact hs)
section
variable {w : World} {B sb : Nat} {s : SV}
theorem Sty.idAt (h : Sty w B sb s) {i : Nat} (hi : i < s.I.length) : ∃ g c, s.vI = .slice (some ⟨g, 0, none⟩) s.I.length c ∧ (∀ wq, Below w.heap.size w wq → wq.cell? ⟨g, i, none⟩ = some (.int .i64 s.I[i])) := by
  obtain ⟨g, c, e, -⟩ := grow_open h.i (by omega)
  have hv := h.i
  rw [e] at hv
  obtain ⟨_, _, e1, li, -⟩ := GRow.lies hv
  cases e1
  obtain ⟨b, off, e2, hb, hc⟩ := li.cellAt i (.int .i64 s.I[i]) (by simp [hi])
  cases e2
  refine ⟨g, c, e, fun wq hq => ?_⟩
  rw [Nat.zero_add] at hc
  exact (hq.cell (p := ⟨g, i, none⟩) hb).trans hc
theorem Sty.slotAt (h : Sty w B sb s) {i : Nat} (hi : i < s.G.length) : ∃ g c, s.vG = .slice (some ⟨g, 0, none⟩) s.G.length c ∧ (∀ wq, Below w.heap.size w wq → wq.cell? ⟨g, i * 2, none⟩ = some (.int .i64 s.G[i].1) ∧ wq.cell? ⟨g, i * 2 + 1, none⟩ = some (.int .i64 s.G[i].2)) := by
  obtain ⟨g, c, e, -⟩ := grow_open h.g (by omega)
  have hv := h.g
  rw [e] at hv
  obtain ⟨_, _, e1, li, -⟩ := GRow.lies hv
  cases e1
  obtain ⟨b, off, e2, hb, hc⟩ := Lies.rowAt slC 2 slC_len li i hi (by decide)
  cases e2
  refine ⟨g, c, e, fun wq hq => ?_⟩
  have c0 := hc 0 _ rfl
  have c1 := hc 1 _ rfl
  rw [Nat.zero_add] at c0 c1
  rw [Nat.add_zero] at c0
  exact ⟨(hq.cell (p := ⟨g, i * 2, none⟩) hb).trans c0, (hq.cell (p := ⟨g, i * 2 + 1, none⟩) hb).trans c1⟩
theorem Sty.lens (h : Sty w B sb s) : ∃ aR cR aL cL aG cG aI cI aV cV aS cS, s.vR = .slice aR s.R.length cR ∧ s.vL = .slice aL s.P.length cL ∧ s.vG = .slice aG s.G.length cG ∧ s.vI = .slice aI s.I.length cI ∧ s.vV = .slice aV s.V.length cV ∧ s.vS = .slice aS s.S.length cS := by
  obtain ⟨aR, cR, e1, -⟩ := GRow.lies h.r
  obtain ⟨aL, cL, e2, -⟩ := GRow.lies h.l
  obtain ⟨aG, cG, e3, -⟩ := GRow.lies h.g
  obtain ⟨aI, cI, e4, -⟩ := GRow.lies h.i
  obtain ⟨aV, cV, e5, -⟩ := GRow.lies h.v
  obtain ⟨aS, cS, e6, -⟩ := GRow.lies h.ss
  exact ⟨aR, cR, aL, cL, aG, cG, aI, cI, aV, cV, aS, cS, e1, e2, e3, e4, e5, e6⟩
end
theorem wr64 {z : Int} (h1 : 0 ≤ z) (h2 : z ≤ 1000000) : wrap64 z = z ∧ IntKind.i64.wrap z = z := ⟨wrapI (by unfold I64; omega), by rw [IntKind.wrap_i64]; omega⟩
theorem wrS {z : Int} (h1 : -1000000 ≤ z) (h2 : z ≤ 1000000) : wrap64 z = z ∧ IntKind.i64.wrap z = z := ⟨wrapI (by unfold I64; omega), by rw [IntKind.wrap_i64]; omega⟩
theorem wrT {z : Int} (h1 : -1000 < z) (h2 : z < 1000) : wrap64 z = z ∧ IntKind.i64.wrap z = z := ⟨wrapI (by unfold I64; omega), by rw [IntKind.wrap_i64]; omega⟩
theorem wrN {n : Nat} (h : n ≤ 1000) : wrap64 ((n : Int) + 1) = (n : Int) + 1 ∧ IntKind.i64.wrap ((n : Int) + 1) = (n : Int) + 1 := ⟨wrapI (by unfold I64; omega), by rw [IntKind.wrap_i64]; omega⟩
theorem wrM {n : Nat} (h : n ≤ 1000) : wrap64 (n : Int) = (n : Int) ∧ IntKind.i64.wrap (n : Int) = (n : Int) := ⟨wrapI (by unfold I64; omega), by rw [IntKind.wrap_i64]; omega⟩
theorem wrM2 {n : Nat} (h : n < 1000) : wrap64 (2 * (n : Int)) = 2 * (n : Int) ∧ IntKind.i64.wrap (2 * (n : Int)) = 2 * (n : Int) := ⟨wrapI (by unfold I64; omega), by rw [IntKind.wrap_i64]; omega⟩
theorem decT {n k : Nat} (h : k ≤ n) : decide ((n : Int) ≥ (k : Int)) = true ∧ decide ((k : Int) ≤ (n : Int)) = true := ⟨decide_eq_true (by omega), decide_eq_true (by omega)⟩
theorem decF {n k : Nat} (h : ¬ k ≤ n) : decide ((n : Int) ≥ (k : Int)) = false ∧ decide ((k : Int) ≤ (n : Int)) = false := ⟨decide_eq_false (by omega), decide_eq_false (by omega)⟩
theorem i64N {n : Nat} (h : n ≤ 1000) : I64 ((n : Int) + 1) := by unfold I64; omega
theorem size47 : (Tryz.prog.info? 47).map (·.size) = some 5 := by kernel_rfl
theorem tdiv_half (n : Nat) : Int.tdiv ((n : Int) + 1) 2 = (((n + 1) / 2 : Nat) : Int) := by
  have q := Int.ofNat_tdiv (n + 1) 2
  rw [q]
  simp
/-- How the story stands within a deed. -/
structure At4 (w0 w : World) (B sb X0 : Nat) (A0 : Array Value) (s : SV) : Prop where
  st : Sty w B sb s
  dd : RBox w X0 102 A0
  bw : Below B w0 w
  up : w0.heap.size ≤ w.heap.size
theorem At4.below {w0 w w' : World} {B sb X0 : Nat} {A0 : Array Value} {s : SV} (h : At4 w0 w B sb X0 A0 s) (hk : Below w.heap.size w w') (hB : B ≤ w.heap.size) : At4 w0 w' B sb X0 A0 s :=
  ⟨h.st.below hk, RBox.below h.dd hk, h.bw.trans (hk.mono hB), Nat.le_trans h.up hk.size⟩

section
variable {o : Oper} {ev : Operand → Value} {x y z : Operand} {b off : Nat} {cs : Array Value} {w : World}
theorem exec_loadG {t : TypeId} {ds} (ho : o.op = .load t x) (hu : Tryz.prog.underlying t = some ds) (hd : (match ds with | .struct _ | .array _ _ => true | _ => false) = true) (hi : (Tryz.prog.info? t).map (·.size) = some cs.size) (hx : ev x = .pointer (some ⟨b, off, none⟩)) (hc : ∀ j v, cs.toList[j]? = some v → w.cell? ⟨b, off + j, none⟩ = some v) : (execOp ev o).run Tryz.prog w = .ok (.value (.agg cs)) w := by
  have h := run_loadAt w b off t cs _ hc hu hd hi
  unfold execOp
  simp only [ho, hx, Instr.loadAt, Instr.sureAddr, Sem.run_bind, Sem.run_pure, Result.andThen_ok, h]
theorem exec_build171 {a b c d e p q r s : Value} (ho : o.op = .build 171 #[(0, x), (1, y), (2, z)]) (hx : ev x = .agg #[a, b, c, d, e]) (hy : ev y = .agg #[p, q]) (hz : ev z = .agg #[r, s]) :
    (execOp ev o).run Tryz.prog w = .ok (.value (.agg #[a, b, c, d, e, p, q, r, s])) w := by
  unfold execOp
  simp only [ho, List.map_toArray, List.map_cons, List.map_nil, hx, hy, hz]
  go_simp
end
theorem size43 : (Tryz.prog.info? 43).map (·.size) = some 2 := by kernel_rfl
theorem slot_row {w : World} {B gG nG cG : Nat} {G : List (Int × Int)} (h : GRow w B 43 2 (.slice (some ⟨gG, 0, none⟩) nG cG) nG (rowsC slC G)) {n : Nat} (hn : n < G.length) : w.cell? ⟨gG, n * 2, none⟩ = some (.int .i64 G[n].1) ∧ w.cell? ⟨gG, n * 2 + 1, none⟩ = some (.int .i64 G[n].2) := by
  obtain ⟨_, _, e1, li, -⟩ := GRow.lies h
  cases e1
  obtain ⟨b, off, e2, hb, hc⟩ := Lies.rowAt slC 2 slC_len li n hn (by decide)
  cases e2
  have c0 := hc 0 _ rfl
  have c1 := hc 1 _ rfl
  rw [Nat.zero_add] at c0 c1
  rw [Nat.add_zero] at c0
  exact ⟨c0, c1⟩
/-- What a new place is made of, while it is laid. -/
structure S18 (w : World) (B sb X11 X9 : Nat) (cC cW : Array Value) (gG nG cG : Nat) (G : List (Int × Int)) : Prop where
  c : RBox w X11 47 cC
  p : RBox w X9 43 cW
  bx : ∃ A : Array Value, RBox w sb 74 A ∧ A.toList[3]? = some (.slice (some ⟨gG, 0, none⟩) nG cG)
  g : GRow w B 43 2 (.slice (some ⟨gG, 0, none⟩) nG cG) nG (rowsC slC G)
section
variable {w w' : World} {B sb X11 X9 : Nat} {cC cW : Array Value} {gG nG cG : Nat} {G : List (Int × Int)}
theorem S18.q3 (h : S18 w B sb X11 X9 cC cW gG nG cG G) : w.cell? ⟨sb, 3, none⟩ = some (.slice (some ⟨gG, 0, none⟩) nG cG) := by
  obtain ⟨A, b, e⟩ := h.bx
  exact ((RBox.cells b).get 3 _ e).1
theorem S18.below (h : S18 w B sb X11 X9 cC cW gG nG cG G) (hk : Below w.heap.size w w') : S18 w' B sb X11 X9 cC cW gG nG cG G := by
  obtain ⟨A, b, e⟩ := h.bx
  exact ⟨RBox.below h.c hk, RBox.below h.p hk, ⟨A, RBox.below b hk, e⟩, h.g.below hk⟩
theorem S18.keepT {S : Nat → Prop} {t : TypeId} (h : S18 w B sb X11 X9 cC cW gG nG cG G) (k : Keep S w w') (hS : OfTy w t S) (n1 : 47 ≠ t) (n2 : 43 ≠ t) (n3 : 74 ≠ t) : S18 w' B sb X11 X9 cC cW gG nG cG G := by
  obtain ⟨A, b, e⟩ := h.bx
  exact ⟨RBox.keepT h.c k hS n1, RBox.keepT h.p k hS n2, ⟨A, RBox.keepT b k hS n3, e⟩, h.g.keepT k hS n2⟩
theorem S18.set {j : Nat} {v : Value} (h : S18 w B sb X11 X9 cC cW gG nG cG G) (hj : j ≠ 3) : S18 (w.setCell ⟨sb, j, none⟩ v) B sb X11 X9 cC cW gG nG cG G := by
  obtain ⟨A, b, e⟩ := h.bx
  have k : Keep (fun z => z = sb) w (w.setCell ⟨sb, j, none⟩ v) := (Keep.refl (fun z => z = sb) w).setCell (g := sb) (j := j) (fun _ => rfl) v
  have t := ofty_box b
  refine ⟨RBox.keepT h.c k t (by decide), RBox.keepT h.p k t (by decide), ⟨_, RBox.setCell b j v, ?_⟩, h.g.keepT k t (by decide)⟩
  rw [← e]
  simp [hj]
theorem S18.after {sv : SV} {vR : Value} {xs : List Value} {n size : Nat} (h : S18 w B sb X11 X9 cC cW gG nG cG G) (k : Keep (fun j => j = sb ∨ vR.ownBlock = some j) w w') (hr : GRow w B 53 size vR n xs) (st : Sty w' B sb sv) (eG : sv.vG = .slice (some ⟨gG, 0, none⟩) nG cG) (eg : sv.G = G) (en : nG = G.length) : S18 w' B sb X11 X9 cC cW gG nG cG G := by
  obtain ⟨A, b, e⟩ := h.bx
  refine ⟨RBox.keep h.c k (fun q => q.elim (box_ne h.c b (by decide)) (box_row h.c hr (by decide))), RBox.keep h.p k (fun q => q.elim (box_ne h.p b (by decide)) (box_row h.p hr (by decide))), ⟨_, st.box, ?_⟩, ?_⟩
  · show some sv.vG = _
    rw [eG]
  · have := st.g
    rw [eG, eg, ← en] at this
    exact this
end
end Go.Proofs.YtehbpmibllpkhaaGreatDoor
