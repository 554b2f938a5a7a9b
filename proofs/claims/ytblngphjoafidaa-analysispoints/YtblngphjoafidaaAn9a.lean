import Derived.Test.YtblngphjoafidaaAn8
import Derived.Test.YtblngphjoafidaaAnU
namespace Go.Proofs.Ytblngphjoafidaa
open Go.RowKit Go.QK Go.Maps Go.QM Go.QT
set_option maxRecDepth 100000
theorem rest_eq (n : Int) (m : Nat) (h1 : 1 ≤ m) (h2 : m ≤ 4294967296) (w : World) : Calls Try.prog 7 #[.int .i64 n, .int .i64 (m : Int)] w fun e w' => e = .returned (.int .i64 (n % (m : Int))) ∧ w = w' := by
  obtain ⟨q, hq⟩ : ∃ q, q = n.tmod (m : Int) := ⟨_, rfl⟩
  have q1 : -(m : Int) < q := by
    rw [hq]
    have := Int.lt_tmod_of_pos n (show (0 : Int) < m by omega)
    omega
  have q2 : q < (m : Int) := by rw [hq]; exact Int.tmod_lt_of_pos n (by omega)
  have q3 : (q + (m : Int)).tmod (m : Int) = n % (m : Int) := by
    rw [Int.tmod_eq_emod_of_nonneg (by omega), Int.add_emod_right, hq, Int.tmod_eq_emod]
    split
    · simp
    · rename_i h
      rw [Int.sub_emod]
      simp
  have e0 : ¬ (m : Int) = 0 := by omega
  have e0' : ((m : Int) == 0) = false := by simpa using e0
  have e1 : n.tmod (m : Int) = q := hq.symm
  have e2 : wrap64 (q + (m : Int)) = q + (m : Int) := by unfold wrap64; omega
  generalize n % (m : Int) = r at *
  clear hq
  go_enter Try.func7, Try.ntmps7
  go_wp2_with fail
  go_ret
  exact ⟨rfl, rfl⟩
theorem rest_any (n : Int) (m : Nat) (h1 : 1 ≤ m) (h2 : m ≤ 4294967296) (w : World) : Calls Try.prog 7 #[.int .i64 n, .int .i64 (m : Int)] w fun e w' => ∃ r : Nat, r < m ∧ e = .returned (.int .i64 (r : Int)) ∧ w = w' := by
  refine (rest_eq n m h1 h2 w).mono ?_
  rintro e w' ⟨rfl, rfl⟩
  have a1 := Int.emod_nonneg n (show (m : Int) ≠ 0 by omega)
  have a2 := Int.emod_lt_of_pos n (show (0 : Int) < m by omega)
  exact ⟨(n % (m : Int)).toNat, by omega, ret_int (by omega), rfl⟩
theorem rem_run (i : Nat) (w : World) : (binOp .rem 3 (.int .i64 (i : Int)) (.int .i64 60)).run Try.prog w = .ok (.int .i64 ((i % 60 : Nat) : Int)) w := by
  have rm0 : (i : Int).tmod 60 = ((i % 60 : Nat) : Int) := by rw [Int.tmod_eq_emod_of_nonneg (by omega)]; omega
  generalize i % 60 = r at *
  go_simp
theorem shr_run (d : Int) (r : Nat) (hr : r < 60) (w : World) : ∃ z, (binOp .shr 3 (.int .i64 d) (.int .i64 (r : Int))).run Try.prog w = .ok (.int .i64 z) w := by
  refine ⟨d / 2 ^ ((r : Int).toNat), ?_⟩
  have : Op.shift .shr .i64 d .i64 (r : Int) = pure (.int .i64 (d / 2 ^ (r : Int).toNat)) := shift_shr .i64 .i64 d (r : Int) (by omega) (by show (r : Int) ≤ 64; omega)
  rw [binOp_shr, this]
  rfl
section
variable {ops : Array Oper} {rest : List Oper} {a : Act} {w : World} {Q : Exit → Act → World → Prop} {d : Option Tmp} {ty t2 : TypeId} {ps : String} {af : Array Edge} {x y : Operand}
theorem wpList_rem60 {i : Nat} (hx : a.eval x = .int .i64 (i : Int)) (h : ∀ r : Nat, r < 60 → wpList Try.prog ops Q rest (a.put d (.int .i64 (r : Int))) w) :
    wpList Try.prog ops Q ({ dst := d, op := .binOp .rem 3 x (.const (.int .i64 60)) 3, type := ty, pos := ps, after := af, guard := none } :: rest) a w := by
  have hrun := rem_run i w
  have h := h (i % 60) (Nat.mod_lt _ (by omega))
  generalize i % 60 = r at *
  have hc : a.eval (.const (.int .i64 60)) = .int .i64 60 := rfl
  refine wpList_plain rfl fun K hK => ?_
  unfold Oper.wp execOp
  simp only [hx, hc, eqGuard_rem, Sem.run_bind, Sem.run_pure, Result.andThen_ok, hrun]
  exact hK _ _ h
theorem wpList_shr {dv : Int} {r : Nat} (hr : r < 60) (hx : a.eval x = .int .i64 dv) (hy : a.eval y = .int .i64 (r : Int)) (h : ∀ z : Int, wpList Try.prog ops Q rest (a.put d (.int .i64 z)) w) :
    wpList Try.prog ops Q ({ dst := d, op := .binOp .shr 3 x y 3, type := ty, pos := ps, after := af, guard := none } :: rest) a w := by
  obtain ⟨z, hrun⟩ := shr_run dv r hr w
  refine wpList_plain rfl fun K hK => ?_
  unfold Oper.wp execOp
  simp only [hx, hy, eqGuard_shr, Sem.run_bind, Sem.run_pure, Result.andThen_ok, hrun]
  exact hK _ _ (h z)
end
/-! step: how it stands once the boxes are made. -/
structure Sb (w wr : World) (mb fb ob wb sb : Nat) (kd wh pg dr : Int) (vL vD : Value) (F : FoundM) (wp sp : Nat) : Prop where
  m : Cells wr mb [.int .i64 kd, .int .i64 wh, .int .i64 pg, .int .i64 dr]
  f : Cells wr fb [vL, vD, .int .i64 F.fr, .int .i64 F.next]
  o : RBox wr ob 46 rec0
  a : Cells wr wb [.int .i64 (wp : Int), .int .i64 0]
  b : Cells wr sb [.int .i64 (20 + (sp : Int)), .int .i64 0]
  be : Below w.heap.size w wr
  lo : w.heap.size ≤ mb ∧ mb < fb ∧ fb < ob ∧ ob < wb ∧ wb < sb
theorem Sb.keep {S : Nat → Prop} {w wr wz : World} {mb fb ob wb sb : Nat} {kd wh pg dr : Int} {vL vD : Value} {F : FoundM} {wp sp : Nat} (h : Sb w wr mb fb ob wb sb kd wh pg dr vL vD F wp sp) (hk : Keep S wr wz) (hS : ∀ z, S z → sb < z) : Sb w wz mb fb ob wb sb kd wh pg dr vL vD F wp sp := by
  have lo := h.lo
  have n : ∀ z, z ≤ sb → ¬ S z := fun z hz q => by have := hS z q; omega
  exact ⟨h.m.keep hk (n _ (by omega)), h.f.keep hk (n _ (by omega)), h.o.keep hk (n _ (by omega)), h.a.keep hk (n _ (by omega)), h.b.keep hk (n _ (by omega)), h.be.trans (hk.below h.be.size (fun z hz => n z (by omega))), h.lo⟩
theorem Sb.below {w wr wz : World} {mb fb ob wb sb : Nat} {kd wh pg dr : Int} {vL vD : Value} {F : FoundM} {wp sp : Nat} (h : Sb w wr mb fb ob wb sb kd wh pg dr vL vD F wp sp) (hb : Below wr.heap.size wr wz) : Sb w wz mb fb ob wb sb kd wh pg dr vL vD F wp sp :=
  ⟨h.m.below hb, h.f.below hb, h.o.below hb, h.a.below hb, h.b.below hb, h.be.trans (hb.mono h.be.size), h.lo⟩
/-- What step answers. -/
def StepPost (w : World) (N : Nat) (F : FoundM) (lsn : Int) (e : Ending) (w' : World) : Prop :=
  ∃ x : RX, e = .returned (.agg (rxA x)) ∧ StepOk F lsn x.r ∧ RXIn w' x ∧ (∀ ad, x.la = some ad ∨ x.da = some ad → N ≤ ad.block ∧ ad.block < w'.heap.size) ∧ Below w.heap.size w w'
structure StepIn (w : World) (N : Nat) (la : Option Addr) (lc : Nat) (da : Option Addr) (dc : Nat) (F : FoundM) (lsn : Int) : Prop where
  li : Lies w la (rowsC lvC F.live)
  di : Lies w da (dirtyCs F.dirty)
  al : ∀ ad, la = some ad → N ≤ ad.block ∧ ad.block < w.heap.size
  l1 : 1 ≤ lsn ∧ lsn ≤ 81
  few : F.live.length ≤ 32
  dl : F.dirty.length ≤ 64
  dr : F.dirty.Pairwise (fun a b => a.page < b.page)
  ds : ∀ d ∈ F.dirty, 1 ≤ d.since ∧ d.since ≤ lsn - 1
  lv : ∀ x ∈ F.live, (x.com && x.und) = false ∧ I64 x.tx
  nx : I64 F.next
  ls : w.heap.size ≥ N
section
variable {ops : Array Oper} {rest : List Oper} {a : Act} {w : World} {Q : Exit → Act → World → Prop} {d : Option Tmp} {ty : TypeId} {ps : String} {af : Array Edge}
theorem wpList_b46 (parts : Array (Nat × Operand)) (cells : Array Value) (hf : Try.prog.built 46 (parts.map fun (i, x) => (i, a.eval x)).toList = some cells) (h : wpList Try.prog ops Q rest (a.put d (.agg cells)) w) :
    wpList Try.prog ops Q ({ dst := d, op := .build 46 parts, type := ty, pos := ps, after := af, guard := none } :: rest) a w :=
  wpList_buildTo rfl 46 parts rfl d rfl cells hf h
end
abbrev rcA (lsn kind tx prev wp sp delta id grp : Int) (vL vD : Value) (next : Int) : Array Value := #[.int .i64 lsn, .int .i64 kind, .int .i64 tx, .int .i64 prev, .int .i64 wp, .int .i64 0, .int .i64 sp, .int .i64 0, .int .i64 delta, .int .i64 id, .int .i64 grp, .int .i64 0, .int .i64 0, .int .i64 0, vL, vD, .int .i64 next]
structure DsInv (lsn : Int) (D : List DirtyM) (i : Nat) (ds : List DirtyM) : Prop where
  few : ds.length ≤ 16
  le : ds.length ≤ i
  rise : ds.Pairwise (fun a b => a.page < b.page)
  each : ∀ d ∈ ds, 1 ≤ d.since ∧ d.since ≤ lsn - 1 ∧ ∃ (j : Nat) (hj : j < D.length), j < i ∧ D[j].page = d.page ∧ D[j].since ≤ d.since
theorem DsInv.more {lsn : Int} {D ds : List DirtyM} {i : Nat} (h : DsInv lsn D i ds) : DsInv lsn D (i + 1) ds :=
  ⟨h.few, by have := h.le; omega, h.rise, fun d hd => by obtain ⟨q1, q2, j, hj, q3, q4, q5⟩ := h.each d hd; exact ⟨q1, q2, j, hj, by omega, q4, q5⟩⟩
theorem DsInv.push {lsn : Int} {D ds : List DirtyM} {i : Nat} (h : DsInv lsn D i ds) (hr : D.Pairwise (fun a b => a.page < b.page)) (hi : i < D.length) :
    ∀ NS, D[i].since ≤ NS → 1 ≤ NS → NS ≤ lsn - 1 → ds.length < 16 → DsInv lsn D (i + 1) (ds ++ [⟨D[i].page, NS⟩]) := by
  intro NS h1 h2 h3 h4
  refine ⟨by simp; omega, by have := h.le; simp; omega, ?_, fun d hd => ?_⟩
  · rw [List.pairwise_append]
    refine ⟨h.rise, by simp, fun a ha b hb => ?_⟩
    simp at hb
    subst hb
    obtain ⟨-, -, j, hj, q3, q4, -⟩ := h.each a ha
    have := List.pairwise_iff_getElem.1 hr j i hj hi q3
    show a.page < D[i].page
    omega
  · rcases List.mem_append.1 hd with hd | hd
    · exact h.more.each d hd
    · simp at hd
      subst hd
      exact ⟨h2, h3, i, hi, by omega, rfl, h1⟩
theorem GRow.own_at {w : World} {B e sz n m c : Nat} {ad : Addr} {xs : List Value} (h : GRow w B e sz (.slice (some ad) n c) m xs) : B ≤ ad.block ∧ ad.block < w.heap.size := by
  have hlt := World.ownsRow.lt h
  rcases h.2 with ⟨q, _⟩ | ⟨g, cap, cur, q, _⟩
  · cases q
  · cases q
    exact hlt g rfl
/-- What a checkpoint's branch answers. -/
theorem exit8 {w wr w3 : World} {mb fb ob wb sb pb N i : Nat} {kd wh pg dr lsn : Int} {la da va : Option Addr} {nL lc nD dc vn vc wp sp : Nat} {F : FoundM} {ds : List DirtyM} (S0 : Sb w wr mb fb ob wb sb kd wh pg dr (.slice la nL lc) (.slice da nD dc) F wp sp) (R0 : GRow wr (pb + 1) 52 2 (.slice va vn vc) vn (dirtyCs ds)) (D0 : DsInv lsn F.dirty i ds) (HI : StepIn w N la lc da dc F lsn)
    (hk3 : Keep (fun k => k = ob) wr w3) (hpb : sb < pb) (hvn : vn = ds.length) (hnl : nL = F.live.length) : StepPost w N F lsn (.returned (.agg (rcA lsn 8 0 0 0 0 0 0 0 (.slice la nL lc) (.slice va vn vc) F.next))) w3 := by
  have lo := S0.lo
  have hva : GRow w3 (pb + 1) 52 2 (.slice va vn vc) vn (dirtyCs ds) := GRow.keep R0 hk3 (fun g hg q => by have := (World.ownsRow.lt R0 g hg).1; omega)
  have hvl : Lies w3 va (dirtyCs ds) := by
    obtain ⟨va', vc', hve, hvl, -⟩ := GRow.lies hva
    cases hve
    exact hvl
  refine ⟨⟨{ bare lsn 8 0 0 with live := F.live.map mlOf, dirty := ds, next := F.next }, la, lc, va, vc⟩, ?_, .inr (.inl ⟨ds, ?_, rfl⟩), ⟨?_, ?_, ?_⟩, ?_, ?_⟩
  · show Ending.returned (.agg (rcA lsn 8 0 0 0 0 0 0 0 (.slice la nL lc) (.slice va vn vc) F.next)) = Ending.returned (.agg (rcA lsn 8 0 0 0 0 0 0 0 (.slice la (F.live.map mlOf).length lc) (.slice va ds.length vc) F.next))
    rw [List.length_map, ← hnl, ← hvn]
  · exact ⟨D0.few, D0.rise, fun d hd => by obtain ⟨q1, q2, j, hj, -, q3, q4⟩ := D0.each d hd; exact ⟨q1, q2, _, List.getElem_mem hj, q3, q4⟩⟩
  · show Lies w3 la (liveCs (F.live.map mlOf))
    rw [cells_ml]
    exact (HI.li.below S0.be).keep hk3 (fun ad had q => by have := (HI.al ad had).2; omega)
  · exact hvl
  · show I64 0; unfold I64; omega
  · rintro ad (q | q)
    · have := HI.al ad q; have := S0.be.size; have := hk3.size; omega
    · have q : va = some ad := q
      subst q
      have := GRow.own_at hva
      have := HI.ls
      omega
  · exact S0.be.trans (hk3.below S0.be.size (fun z hz q => by omega))
end Go.Proofs.Ytblngphjoafidaa
