import Derived.Test.YtlloppalagddnaaSr27
import Derived.Test.YtlloppalagddnaaSr23
set_option linter.all false
namespace Go.Proofs.Ytlloppalagddnaa
open Go.RowKit Go.QK Quota Go.Maps Go.QM Go.QS
set_option maxRecDepth 100000
/-- Runs as the law hands them in, or as 'turned' makes them: what 'lentRuns' asks. -/
structure RunsOk (w : World) (a : Option Addr) (rs : List RI) : Prop where
  ins : RunsI w a rs
  len : rs.length ≤ 200
  nil : ∀ r ∈ rs, r.a = none → r.c = 0 ∧ r.l.length = 0
  all : (netsOf rs).flatten.length ≤ 1048576
theorem flat_mem {a : List (List Hn)} {x : List Hn} (h : x ∈ a) : x.length ≤ a.flatten.length := by
  induction a with
  | nil => cases h
  | cons y r ih =>
    rw [List.flatten_cons, List.length_append]
    rcases List.mem_cons.1 h with rfl | q
    · omega
    · have := ih q
      omega
theorem RunsOk.one {w : World} {a : Option Addr} {rs : List RI} (h : RunsOk w a rs) : ∀ r ∈ rs, r.l.length ≤ 1048576 := fun r hr => Nat.le_trans (flat_mem (List.mem_map.2 ⟨r, hr, rfl⟩)) h.all
theorem RunsOk.below {w w' : World} {a : Option Addr} {rs : List RI} (h : RunsOk w a rs) (k : Below w.heap.size w w') : RunsOk w' a rs := ⟨h.ins.below k, h.len, h.nil, h.all⟩
/-- lent runs: fit to be handed in. -/
theorem lent_ok {w : World} {ra : Option Addr} (rcap : Nat) {rs : List RI} (h : RunsOk w ra rs) :
    Calls Try.prog 15 #[.slice ra rs.length rcap] w fun e w' => ∃ g c rs2, e = .returned (.slice (some ⟨g, 0, none⟩) rs2.length c) ∧ netsOf rs2 = netsOf rs ∧ rs2.length = rs.length ∧ RunsIn w' (some ⟨g, 0, none⟩) rs2 ∧ Below w.heap.size w w' := by
  have h1 := h.len
  refine (lentRuns_any ra rcap rs w h.ins (by omega) (fun r hr => by have := h.one r hr; omega) h.nil).mono ?_
  rintro e w' ⟨g, c, rs2, rfl, hc, hm, hrow, hnr, hb⟩
  have hlen : rs2.length = rs.length := by have := congrArg List.length hm; simpa using this
  have hl : Lies w' (some ⟨g, 0, none⟩) (rowsC riC rs2) := by
    obtain ⟨a, c2, e, hl, _⟩ := GRow.lies hrow
    cases e
    rw [rowsC_app] at hl
    exact hl.front
  have hnets : netsOf rs2 = netsOf rs := by
    have : (rs2.map rk).map Prod.snd = (rs.map rk).map Prod.snd := by rw [hm]
    simpa [netsOf, rk, Function.comp_def] using this
  refine ⟨g, c, rs2, by rw [hlen], hnets, hlen, ⟨hl, fun r hr => ?_, fun r hr x hx => ?_⟩, hb⟩
  · obtain ⟨q1, q2⟩ := (hnr r hr).lies
    rw [hns_app] at q1
    exact ⟨q1.front, q2⟩
  · have : r.l ∈ netsOf rs := by rw [← hnets]; exact List.mem_map.2 ⟨r, hr, rfl⟩
    obtain ⟨r2, m2, e2⟩ := List.mem_map.1 this
    exact h.ins.fit r2 m2 x (by rw [e2]; exact hx)
theorem lentC_ok (a : Option Addr) (cap : Nat) (l : List Cn) (w : World) (h : Lies w a (cns l)) (hna : a = none → cap = 0 ∧ l.length = 0) (hl : l.length ≤ 1048576) :
    Calls Try.prog 14 #[.slice a l.length cap] w fun e w' => ∃ g c, e = .returned (.slice (some ⟨g, 0, none⟩) l.length c) ∧ Lies w' (some ⟨g, 0, none⟩) (cns l) ∧ Below w.heap.size w w' := by
  refine (lentC_any l a cap w h hna (by omega)).mono ?_
  rintro e w' ⟨g, c, rfl, hc, hrow, hb⟩
  refine ⟨g, c, rfl, ?_, hb⟩
  obtain ⟨a, c2, e, hl, _⟩ := GRow.lies hrow
  cases e
  rw [cns_app] at hl
  exact hl.front
theorem RunsOk.take {w : World} {a : Option Addr} {rs : List RI} (h : RunsI w a rs) (hnil : ∀ r ∈ rs, r.a = none → r.c = 0 ∧ r.l.length = 0) (hall : (netsOf rs).flatten.length ≤ 1048576) : RunsOk w a (rs.take 200) := by
  refine ⟨⟨lies_takeR h.row 200, fun r hr => h.nets r (List.mem_of_mem_take hr), fun r hr => h.fit r (List.mem_of_mem_take hr)⟩, by rw [List.length_take]; omega, fun r hr => hnil r (List.mem_of_mem_take hr), ?_⟩
  have e : netsOf (rs.take 200) = (netsOf rs).take 200 := by unfold netsOf; rw [List.map_take]
  rw [e]
  exact Nat.le_trans (flat_len _ 200) hall
theorem slice200 {a : Option Addr} {n cap : Nat} (w : World) (hn : 200 < n) (h : n ≤ cap) (h4 : a = none → cap = 0 ∧ n = 0) : (Instr.slice 36 (.slice a n cap) none (some (.int .i64 200)) none).run Try.prog w = .ok (.slice a 200 cap) w := by
  have h2 : 200 ≤ cap := by omega
  have h3 : ¬ ((cap : Int) < 200) := by omega
  cases a with
  | none => have := h4 rfl; omega
  | some ad => go_simp
/-- what 'turned' makes is fit to be lent, too. -/
theorem turned_ok (ra : Option Addr) (rcap : Nat) (rs : List RI) (ta : Option Addr) (tcap : Nat) (ts : List Int) (w : World) (h : RunsOk w ra rs) (hna : ra = none → rcap = 0 ∧ rs.length = 0)
    (ht : Lies w ta (ts.map (Value.int .i64))) (htl : ts.length ≤ 1000000000000000) (hti : ∀ t ∈ ts, I64 t) :
    Calls Try.prog 12 #[.slice ra rs.length rcap, .slice ta ts.length tcap] w fun e w' => ∃ oa oc os, e = .returned (.slice oa os.length oc) ∧ RunsOk w' oa os ∧ (netsOf os).flatten.Perm (netsOf rs).flatten ∧ Below w.heap.size w w' := by
  refine (turned_any ra rcap rs ta tcap ts w h.ins h.len hna ht htl hti (fun r hr => by have := h.one r hr; omega)).mono ?_
  rintro e w' ⟨oa, oc, os, rfl, hlen, hrow, hno, hp, hb⟩
  have hp2 : (netsOf os).flatten.Perm (netsOf rs).flatten := (flat_perm hp).trans (flat_rev _)
  have hl : Lies w' oa (rowsC riC os) := by
    obtain ⟨a, c2, e, hl, _⟩ := GRow.lies hrow
    cases e
    exact hl
  refine ⟨oa, oc, os, rfl, ⟨⟨hl, fun r hr => ?_, fun r hr x hx => ?_⟩, by have := h.len; omega, fun r hr q => ?_, by rw [hp2.length_eq]; exact h.all⟩, hp2, hb⟩
  · have g := hno r hr
    unfold NO at g
    obtain ⟨a, c2, e, hl, _⟩ := GRow.lies g
    cases e
    exact hl
  · have : r.l ∈ (netsOf rs).map List.reverse := hp.mem_iff.1 (List.mem_map.2 ⟨r, hr, rfl⟩)
    obtain ⟨y, m2, e2⟩ := List.mem_map.1 this
    obtain ⟨r2, m3, e3⟩ := List.mem_map.1 m2
    refine h.ins.fit r2 m3 x ?_
    rw [e3]
    rw [← e2] at hx
    exact List.mem_reverse.1 hx
  · have g := hno r hr
    unfold NO at g
    rw [q] at g
    obtain ⟨a, c2, e, hl, h3, _, h5, _⟩ := GRow.lies g
    cases e
    have := h5 rfl
    omega
end Go.Proofs.Ytlloppalagddnaa
