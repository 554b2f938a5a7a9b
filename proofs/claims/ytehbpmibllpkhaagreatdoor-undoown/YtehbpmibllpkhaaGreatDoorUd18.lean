import Derived.Test.YtehbpmibllpkhaaGreatDoorUd15
import Derived.Test.YtehbpmibllpkhaaGreatDoorUd17
set_option linter.all false
namespace Go.Proofs.YtehbpmibllpkhaaGreatDoor
open Go.RowKit Go.QK Go.Maps Go.QM Go.QU
set_option maxRecDepth 100000
theorem goL_len (tx : Int) : ∀ (us : List UR) (L : Prs Hd), (goL tx L us).length ≤ L.length + us.length
  | [], L => by simp [goL]
  | r :: us, L => by
    by_cases hq : r.tx = tx
    · by_cases he : stepE L r = 0
      · rw [goL_go hq he]
        have := goL_len tx us (stepL L r)
        have := step_len L r
        simp only [List.length_cons]
        omega
      · rw [goL_no hq he]
        simp
    · rw [goL_skip hq]
      have := goL_len tx us L
      simp only [List.length_cons]
      omega
theorem leftL_len (tx : Int) (us : List UR) : (leftL tx us).length ≤ us.length := by
  unfold leftL
  split
  · have := goL_len tx us []
    simpa using this
  · simp
set_option maxHeartbeats 8000000 in
theorem law_lefts (rs : List RZ) (a : Option Addr) (c : Nat) (tx : Int) (w : World) (lr : Lies w a (rzs rs)) (ha : a = none → c = 0 ∧ rs.length = 0) (it : I64 tx) (ir : ∀ r ∈ rs, I64 r.delta ∧ I64 r.id) (hl : (rs.length + 1) * 168 ≤ 140737488355328) :
    Calls Tryz.prog 3 #[.slice a rs.length c, .int .i64 tx] w fun e w' => e = .returned (.bool true) ∧ Below w.heap.size w w' := by
  have FT := hide (first_true w)
  have LE := hide (fun w2 (hb : Below w.heap.size w w2) => lent_any rs a c w2 (lr.below hb) ha hl)
  have LU := hide (fun w2 g c' (h : Lies w2 (some ⟨g, 0, none⟩) (rzs rs)) => left_any rs (some ⟨g, 0, none⟩) c' tx w2 h it ir (by omega))
  have LD := hide (fun w2 (hb : Below w.heap.size w w2) => rleft_any rs a c tx w2 (lr.below hb) it ir hl)
  have KE := hide (fun w2 g c' B (hb : Below w.heap.size w w2) (ho : GRow w2 B 53 17 (.slice (some ⟨g, 0, none⟩) (rs.length + 1) c') (rs.length + 1) (rzs (rs ++ [mkZ]))) (hc : rs.length + 1 ≤ c') => kept_true rs a g c c' w2 B (lr.below hb) ho hc (by omega))
  have hll : (leftL tx (rs.map urOf)).length ≤ 140737488355328 := by have := leftL_len tx (rs.map urOf); rw [List.length_map] at this; omega
  generalize leftL tx (rs.map urOf) = LL at *
  generalize leftE tx (rs.map urOf) = EE at *
  have SA := hide (fun w2 a b c d (h1 : Lies w2 a (rzs (LL.map (undZ tx)))) (h2 : Lies w2 b (rzs (LL.map (undZ tx)))) => same_true (LL.map (undZ tx)) a b c d w2 h1 h2 (by rw [List.length_map]; exact hll))
  simp only [List.length_map] at SA
  obtain ⟨N, hN⟩ : ∃ n, n = rs.length := ⟨_, rfl⟩
  obtain ⟨M, hM⟩ : ∃ n, n = LL.length := ⟨_, rfl⟩
  rw [← hN] at LE LU LD KE ⊢
  rw [← hM] at LU LD SA
  clear hN hM lr ha it ir hl hll
  go_enter Tryz.func3, Tryz.ntmps3
  go_wp2_with fail
  refine FT.out.mono ?_
  rintro e w1 ⟨rfl, b1⟩
  have B1 := hide b1
  clear b1
  go_wp2_with fail
  refine (LE.out w1 B1.out).mono ?_
  rintro e w2 ⟨g, c', rfl, hc, gr, b2⟩
  have B2 := hide (B1.out.trans (b2.mono B1.out.size))
  have GR := hide gr
  have lo : Lies w2 (some ⟨g, 0, none⟩) (rzs rs) := by
    obtain ⟨_, _, e1, li, -⟩ := GRow.lies gr
    cases e1
    rw [rzs_app] at li
    rcases li with q | ⟨b, off, e, hb, hc⟩
    · exact .inl (List.append_eq_nil_iff.1 q).1
    · exact .inr ⟨b, off, e, hb, fun i hi => by rw [hc i (by rw [List.length_append]; omega), List.getElem_append_left hi]⟩
  have LO := hide lo
  clear b2 gr lo
  go_wp2_with fail
  refine (LU.out w2 g c' LO.out).mono ?_
  rintro e w3 ⟨v, rfl, g3, b3⟩
  obtain ⟨a3, c3, rfl, l3, -⟩ := GRow.lies g3
  have B3 := hide (B2.out.trans (b3.mono B2.out.size))
  have L3 := hide l3
  have GR3 := hide (GR.out.below b3)
  clear g3 l3 b3
  go_wp2_with fail
  refine (LD.out w3 B3.out).mono ?_
  rintro e w4 ⟨v, rfl, g4, b4⟩
  obtain ⟨a4, c4, rfl, l4, -⟩ := GRow.lies g4
  have B4 := hide (B3.out.trans (b4.mono B3.out.size))
  have L4 := hide l4
  have L34 := hide (L3.out.below b4)
  have GR4 := hide (GR3.out.below b4)
  clear g4 l4 b4
  go_wp2_with fail
  refine (SA.out w4 a3 a4 c3 c4 L34.out L4.out).mono ?_
  rintro e w5 ⟨rfl, b5⟩
  have B5 := hide (B4.out.trans (b5.mono B4.out.size))
  have GR5 := hide (GR4.out.below b5)
  clear b5
  go_wp2_with fail
  refine (KE.out w5 g c' _ B5.out GR5.out hc).mono ?_
  rintro e w6 ⟨rfl, b6⟩
  go_wp2_with fail
  go_ret
  exact ⟨rfl, B5.out.trans (b6.mono B5.out.size)⟩
end Go.Proofs.YtehbpmibllpkhaaGreatDoor
