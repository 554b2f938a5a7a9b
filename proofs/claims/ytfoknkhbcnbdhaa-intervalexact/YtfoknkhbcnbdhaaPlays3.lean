import Derived.Test.YtfoknkhbcnbdhaaPlays
import Derived.Deep.DeepCutAuto
import Derived.OpenShut
namespace Go.Proofs.Ytfoknkhbcnbdhaa
open Go.RowKit Quota

/-- What the statement writes over a number with. -/
def fx (x : Int) : Int := bits BinOp.xor IntKind.i64 x 3

theorem fx_bd (x : Int) : I64 (fx x) := by
  have := bounds_i64 (wf_bits (k := .i64) (op := .xor) (x := x) (y := 3))
  unfold I64 fx
  exact this

theorem mid_get (xs : List Int) (m : Int) (k : Nat) (h : k < xs.length) : ((xs.take k).map fx ++ (xs.drop k ++ [m]))[k]? = some xs[k] := by
  rw [List.drop_eq_getElem_cons h, List.getElem?_append_right (by simp; omega)]
  have e : k - ((xs.take k).map fx).length = 0 := by simp; omega
  rw [e]
  rfl

theorem mid_set (xs : List Int) (m : Int) (k : Nat) (h : k < xs.length) : ((xs.take k).map fx ++ (xs.drop k ++ [m])).set k (fx xs[k]) = (xs.take (k + 1)).map fx ++ (xs.drop (k + 1) ++ [m]) := by
  rw [List.drop_eq_getElem_cons h, List.set_append_right _ _ (by simp; omega)]
  have e : k - ((xs.take k).map fx).length = 0 := by simp; omega
  rw [e, List.take_succ_eq_append_getElem h, List.map_append, List.append_assoc]
  rfl

theorem Owns.seen_at {w : World} {B g n c : Nat} {ys : List Int} (h : Owns w B (.slice (some ⟨g, 0, none⟩) n c) ys) : Seen w (some ⟨g, 0, none⟩) ys := by
  by_cases e : ys = []
  · exact .inl e
  · refine .inr ⟨g, 0, rfl, (World.ownsRow.lt h g rfl).2, fun i hi => ?_⟩
    have := World.ownsRow.cells h (g := g) rfl i (.int .i64 ys[i]) (by simp [hi])
    rw [addr_add] at this
    exact this

theorem Owns.len {w : World} {B g n c : Nat} {ys : List Int} (h : Owns w B (.slice (some ⟨g, 0, none⟩) n c) ys) : n = ys.length := by
  rcases h.2 with ⟨e, _⟩ | ⟨g', cap', cur, e, _⟩
  · cases e
  · simp only [Value.slice.injEq] at e
    exact e.2.1

theorem Owns.frozen {w : World} {B g n c : Nat} {ys : List Int} (h : Owns w B (.slice (some ⟨g, 0, none⟩) n c) ys) (j : Nat) : w.frozen? ⟨g, j, none⟩ = false := by
  have e := h.len
  subst e
  exact World.ownsRow.frozenAt h j

theorem Owns.stored {w : World} {B g n c : Nat} {ys : List Int} (h : Owns w B (.slice (some ⟨g, 0, none⟩) n c) ys) (j : Nat) (y : Int) : Owns (w.setCell ⟨g, j, none⟩ (.int .i64 y)) B (.slice (some ⟨g, 0, none⟩) n c) (ys.set j y) := by
  have e := h.len
  subst e
  have k := (World.ownsRow.stored h j (.int .i64 y)).1
  unfold Owns
  rw [List.length_set, List.map_set]
  exact k

theorem Owns.other {w : World} {B g j : Nat} {v u : Value} {ys : List Int} (h : Owns w B v ys) (hne : v.ownBlock ≠ some g) : Owns (w.setCell ⟨g, j, none⟩ u) B v ys := by
  refine ⟨h.1, ?_⟩
  rcases h.2 with k | ⟨g', cap, cur, e, hbg, hg, rest⟩
  · exact .inl k
  · refine .inr ⟨g', cap, cur, e, hbg, (Below.heap_setCell _ _ _ _ ?_).trans hg, rest⟩
    intro q
    apply hne
    rw [e]
    show some g' = some g
    rw [q]

set_option maxHeartbeats 1000000 in
set_option maxRecDepth 100000 in
theorem plays_4 (a b : Int) (xs : List Int) (al : Option Addr) (c : Nat) (r0 r1 s0 s1 : Int) (w : World) (ha : I64 a) (hs : Seen w al xs) (hn : al = none → c = 0) (hx : All xs) (hl : xs.length ≤ 2000) :
    Calls Try.prog 22 #[.agg (opC 4 a b al xs.length c r0 r1 s0 s1)] w fun e w' => e = .returned (.bool true) ∧ Below w.heap.size w w' := by
  have R0 : Hid (Row8 (w.alloc (.cells (opC 4 a b al xs.length c r0 r1 s0 s1) 48)) w.heap.size (.int .i64 4) (.int .i64 a) (.int .i64 b) (.slice al xs.length c) (.int .i64 r0) (.int .i64 r1) (.int .i64 s0) (.int .i64 s1)) := Row8.new w _ _ _ _ _ _ _ _ 48
  have g0 : Below w.heap.size w (w.alloc (.cells (opC 4 a b al xs.length c r0 r1 s0 s1) 48)) := (Below.refl _ _).alloc (Nat.le_refl _) _
  have hs0 := hs.below g0
  go_enter Try.func22, Try.ntmps22
  go_wp2_with fail
  refine (lent_any xs al c _ hs0 hn (by omega)).mono ?_
  rintro e w1 ⟨g, cg, rfl, o1, hcg, hg1, h1⟩
  have O1 : Hid (Owns w1 (w.heap.size + 1) (.slice (some ⟨g, 0, none⟩) (xs.length + 1) cg) (xs ++ [5921370])) := by
    simpa [Hid] using o1
  have R1 : Hid (Row8 w1 w.heap.size (.int .i64 4) (.int .i64 a) (.int .i64 b) (.slice al xs.length c) (.int .i64 r0) (.int .i64 r1) (.int .i64 s0) (.int .i64 s1)) := Row8.below R0.out h1
  have g1 := g0.trans (h1.mono g0.size)
  have hs1 := hs.below g1
  have zz := (World.ownsRow.lt O1.out g rfl).1
  have so := O1.out.seen_at
  clear o1 h1 g0 hs0 R0
  obtain ⟨z, q0, q1, q2, q3, q4, q5, q6, q7⟩ := R1.out
  go_wp2_with fail
  refine (lists_any 4 a b al xs.length c r0 r1 s0 s1 xs g cg al c _ ha so hcg hs1 hx (by omega)).mono ?_
  rintro e w2 ⟨rfl, h2⟩
  have O2 : Hid (Owns w2 (w.heap.size + 1) (.slice (some ⟨g, 0, none⟩) (xs.length + 1) cg) (xs ++ [5921370])) := Owns.below O1.out h2
  have R2 : Hid (Row8 w2 w.heap.size (.int .i64 4) (.int .i64 a) (.int .i64 b) (.slice al xs.length c) (.int .i64 r0) (.int .i64 r1) (.int .i64 s0) (.int .i64 s1)) := Row8.below R1.out h2
  have g2 := g1.trans (h2.mono g1.size)
  have z2 : w.heap.size + 1 ≤ w2.heap.size := by have := h2.size; omega
  clear O1 R1 g1 hs1 so h2 z q0 q1 q2 q3 q4 q5 q6 q7
  go_wp2_with fail
  go_loopw [17, 18] (fun v i wr => ∃ k : Nat, k ≤ xs.length ∧ i = .int .i64 k ∧ Owns wr (w.heap.size + 1) (.slice (some ⟨g, 0, none⟩) (xs.length + 1) cg) ((xs.take k).map fx ++ (xs.drop k ++ [5921370])) ∧ Owns wr (w.heap.size + 1) v ((xs.take k).map fx) ∧ v.ownBlock ≠ some g ∧ Below (w.heap.size + 1) w2 wr) (fun _ i _ => xs.length - (intOf i).toNat)
  case atStart => exact ⟨0, Nat.zero_le _, rfl, by simpa using O2.out, Owns.nil _ _, nofun, Below.refl _ _⟩
  case round =>
    obtain ⟨k, hk, rfl, Oo, On, hne, hb⟩ := hrel
    have P1 : Hid (Owns wr (w.heap.size + 1) (.slice (some ⟨g, 0, none⟩) (xs.length + 1) cg) ((xs.take k).map fx ++ (xs.drop k ++ [5921370]))) := Oo
    have P2 : Hid (Owns wr (w.heap.size + 1) u17 ((xs.take k).map fx)) := On
    have HN : Hid (u17.ownBlock ≠ some g) := hne
    clear Oo On hne
    by_cases hlt : k < xs.length
    · have hcell : wr.cell? ⟨g, k, none⟩ = some (.int .i64 xs[k]) := by
        rcases P1.out.seen_at with e | ⟨b, off, e, _, hc⟩
        · simp at e
        · cases e
          have hk' : k < ((xs.take k).map fx ++ (xs.drop k ++ [5921370])).length := by simp; omega
          have e2 := hc k hk'
          have e3 := mid_get xs 5921370 k hlt
          rw [List.getElem?_eq_getElem hk'] at e3
          rw [Nat.zero_add, Option.some.inj e3] at e2
          exact e2
      have hfz := P1.out.frozen k
      have MS : Hid _ := mid_set xs 5921370 k hlt
      have MT : Hid ((xs.take (k + 1)).map fx = (xs.take k).map fx ++ [fx xs[k]]) := by
        show _ = _
        rw [List.take_succ_eq_append_getElem hlt, List.map_append]
        rfl
      generalize xs[k] = x at *
      have hkl : (k : Int) < (xs.length : Int) := by omega
      have hsz := hb.size
      have hgr := (World.ownsRow.lt P1.out g rfl).2
      have Q1 : Hid (Owns (wr.setCell ⟨g, k, none⟩ (.int .i64 (fx x))) (w.heap.size + 1) (.slice (some ⟨g, 0, none⟩) (xs.length + 1) cg) ((xs.take (k + 1)).map fx ++ (xs.drop (k + 1) ++ [5921370]))) := by
        have := P1.out.stored k (fx x)
        rw [MS.out] at this
        exact this
      have Q2 : Hid (Owns (wr.setCell ⟨g, k, none⟩ (.int .i64 (fx x))) (w.heap.size + 1) u17 ((xs.take k).map fx)) := P2.out.other HN.out
      have hb' : Below (w.heap.size + 1) w2 (wr.setCell ⟨g, k, none⟩ (.int .i64 (fx x))) := hb.setCell zz _
      have hll : ((xs.take k).map fx).length ≤ 2000 := by simp; omega
      unfold fx at Q1 Q2 hb'
      clear P1 P2 MS
      go_wp2_with (at_builtin; refine push_own rfl (.tmp 123) (.tmp 128) rfl (w.heap.size + 1) _ ((xs.take k).map fx) rfl ⟨wr.heap.size, 0, none⟩ (fx x) rfl (Owns.alloc (Q2.out) _) ?c1 ?c2 ?c3 ?_)
      case c1 => simp [go_sem, fx]
      case c2 => omega
      case c3 => simp; omega
      intro v' w' o1 r1 at1
      have o2 : Owns w' (w.heap.size + 1) v' ((xs.take (k + 1)).map fx) := by rw [MT.out]; simpa using o1
      have o3 : Owns w' (w.heap.size + 1) (.slice (some ⟨g, 0, none⟩) (xs.length + 1) cg) ((xs.take (k + 1)).map fx ++ (xs.drop (k + 1) ++ [5921370])) := (Owns.alloc Q1.out _).kept r1 (Ne.symm HN.out)
      have n3 : v'.ownBlock ≠ some g := by
        rcases at1 with e | e
        · rw [e]; exact HN.out
        · rw [e]; intro q; cases q; omega
      have b3 : Below (w.heap.size + 1) w2 w' := (hb'.alloc (by simp; omega) _).trans (grown_below (Owns.alloc Q2.out _) (by simp; omega) r1)
      have HO2 : Hid _ := o2
      have HO3 : Hid _ := o3
      have HN3 : Hid _ := n3
      clear o1 o2 o3 n3 r1 at1 Q1 Q2 hb' MT HN hcell hfz
      go_wp2_with fail
      go_roundw
      case rel => exact ⟨k + 1, by omega, by go_num, HO3.out, HO2.out, HN3.out, b3⟩
      case measure => simp [intOf]; omega
    · obtain rfl : k = xs.length := by omega
      rw [List.take_length, List.drop_length, List.nil_append] at P1
      rw [List.take_length] at P2
      have R3 := Row8.under R2.out (Nat.lt_succ_self _) hb
      have g3 := g2.trans (hb.mono (Nat.le_succ _))
      have so := P1.out.seen_at
      obtain ⟨a7, c7, rfl, s7, _, _⟩ := P2.out.seen
      have aF : All (xs.map fx) := by
        intro y hy
        simp at hy
        obtain ⟨z, _, rfl⟩ := hy
        exact fx_bd z
      have K := lists_any 4 a b al xs.length c r0 r1 s0 s1 (xs.map fx) g cg a7 c7 wr ha so (by simpa using hcg) s7 aF (by simp; omega)
      rw [List.length_map] at K
      clear P1 P2 HN hb so s7 aF R2 g2
      obtain ⟨z, q0, q1, q2, q3, q4, q5, q6, q7⟩ := R3
      go_wp2_with fail
      refine K.mono ?_
      clear K
      rintro e w9 ⟨rfl, h9⟩
      go_wp2_with fail
      go_ret
      exact ⟨rfl, g3.trans (h9.mono g3.size)⟩

set_option maxHeartbeats 1000000 in
set_option maxRecDepth 100000 in
theorem plays_5 (a b : Int) (xs : List Int) (al : Option Addr) (c : Nat) (r0 r1 s0 s1 : Int) (w : World) (ha : I64 a) (hs : Seen w al xs) (hn : al = none → c = 0) (hx : All xs) (hl : xs.length ≤ 2000) :
    Calls Try.prog 22 #[.agg (opC 5 a b al xs.length c r0 r1 s0 s1)] w fun e w' => e = .returned (.bool true) ∧ Below w.heap.size w w' := by
  have R0 : Hid (Row8 (w.alloc (.cells (opC 5 a b al xs.length c r0 r1 s0 s1) 48)) w.heap.size (.int .i64 5) (.int .i64 a) (.int .i64 b) (.slice al xs.length c) (.int .i64 r0) (.int .i64 r1) (.int .i64 s0) (.int .i64 s1)) := Row8.new w _ _ _ _ _ _ _ _ 48
  have g0 : Below w.heap.size w (w.alloc (.cells (opC 5 a b al xs.length c r0 r1 s0 s1) 48)) := (Below.refl _ _).alloc (Nat.le_refl _) _
  have hs0 := hs.below g0
  go_enter Try.func22, Try.ntmps22
  go_wp2_with fail
  refine (lent_any xs al c _ hs0 hn (by omega)).mono ?_
  rintro e w1 ⟨g, cg, rfl, o1, hcg, hg1, h1⟩
  have O1 : Hid (Owns w1 (w.heap.size + 1) (.slice (some ⟨g, 0, none⟩) (xs.length + 1) cg) (xs ++ [5921370])) := by
    simpa [Hid] using o1
  have R1 : Hid (Row8 w1 w.heap.size (.int .i64 5) (.int .i64 a) (.int .i64 b) (.slice al xs.length c) (.int .i64 r0) (.int .i64 r1) (.int .i64 s0) (.int .i64 s1)) := Row8.below R0.out h1
  have g1 := g0.trans (h1.mono g0.size)
  have hs1 := hs.below g1
  have zz := (World.ownsRow.lt O1.out g rfl).1
  have so := O1.out.seen_at
  clear o1 h1 g0 hs0 R0
  obtain ⟨z, q0, q1, q2, q3, q4, q5, q6, q7⟩ := R1.out
  go_wp2_with fail
  refine (lists_any 5 a b al xs.length c r0 r1 s0 s1 xs g cg al c _ ha so hcg hs1 hx (by omega)).mono ?_
  rintro e w2 ⟨rfl, h2⟩
  have O2 : Hid (Owns w2 (w.heap.size + 1) (.slice (some ⟨g, 0, none⟩) (xs.length + 1) cg) (xs ++ [5921370])) := Owns.below O1.out h2
  have R2 : Hid (Row8 w2 w.heap.size (.int .i64 5) (.int .i64 a) (.int .i64 b) (.slice al xs.length c) (.int .i64 r0) (.int .i64 r1) (.int .i64 s0) (.int .i64 s1)) := Row8.below R1.out h2
  have g2 := g1.trans (h2.mono g1.size)
  have z2 : w.heap.size + 1 ≤ w2.heap.size := by have := h2.size; omega
  clear O1 R1 g1 hs1 so h2 z q0 q1 q2 q3 q4 q5 q6 q7
  go_wp2_with fail
  go_loopw [17, 18] (fun v i wr => ∃ k : Nat, k ≤ xs.length ∧ i = .int .i64 k ∧ Owns wr (w.heap.size + 1) (.slice (some ⟨g, 0, none⟩) (xs.length + 1) cg) ((xs.take k).map fx ++ (xs.drop k ++ [5921370])) ∧ Owns wr (w.heap.size + 1) v ((xs.take k).map fx) ∧ v.ownBlock ≠ some g ∧ Below (w.heap.size + 1) w2 wr) (fun _ i _ => xs.length - (intOf i).toNat)
  case atStart => exact ⟨0, Nat.zero_le _, rfl, by simpa using O2.out, Owns.nil _ _, nofun, Below.refl _ _⟩
  case round =>
    obtain ⟨k, hk, rfl, Oo, On, hne, hb⟩ := hrel
    have P1 : Hid (Owns wr (w.heap.size + 1) (.slice (some ⟨g, 0, none⟩) (xs.length + 1) cg) ((xs.take k).map fx ++ (xs.drop k ++ [5921370]))) := Oo
    have P2 : Hid (Owns wr (w.heap.size + 1) u17 ((xs.take k).map fx)) := On
    have HN : Hid (u17.ownBlock ≠ some g) := hne
    clear Oo On hne
    by_cases hlt : k < xs.length
    · have hcell : wr.cell? ⟨g, k, none⟩ = some (.int .i64 xs[k]) := by
        rcases P1.out.seen_at with e | ⟨b, off, e, _, hc⟩
        · simp at e
        · cases e
          have hk' : k < ((xs.take k).map fx ++ (xs.drop k ++ [5921370])).length := by simp; omega
          have e2 := hc k hk'
          have e3 := mid_get xs 5921370 k hlt
          rw [List.getElem?_eq_getElem hk'] at e3
          rw [Nat.zero_add, Option.some.inj e3] at e2
          exact e2
      have hfz := P1.out.frozen k
      have MS : Hid _ := mid_set xs 5921370 k hlt
      have MT : Hid ((xs.take (k + 1)).map fx = (xs.take k).map fx ++ [fx xs[k]]) := by
        show _ = _
        rw [List.take_succ_eq_append_getElem hlt, List.map_append]
        rfl
      generalize xs[k] = x at *
      have hkl : (k : Int) < (xs.length : Int) := by omega
      have hsz := hb.size
      have hgr := (World.ownsRow.lt P1.out g rfl).2
      have Q1 : Hid (Owns (wr.setCell ⟨g, k, none⟩ (.int .i64 (fx x))) (w.heap.size + 1) (.slice (some ⟨g, 0, none⟩) (xs.length + 1) cg) ((xs.take (k + 1)).map fx ++ (xs.drop (k + 1) ++ [5921370]))) := by
        have := P1.out.stored k (fx x)
        rw [MS.out] at this
        exact this
      have Q2 : Hid (Owns (wr.setCell ⟨g, k, none⟩ (.int .i64 (fx x))) (w.heap.size + 1) u17 ((xs.take k).map fx)) := P2.out.other HN.out
      have hb' : Below (w.heap.size + 1) w2 (wr.setCell ⟨g, k, none⟩ (.int .i64 (fx x))) := hb.setCell zz _
      have hll : ((xs.take k).map fx).length ≤ 2000 := by simp; omega
      unfold fx at Q1 Q2 hb'
      clear P1 P2 MS
      go_wp2_with (at_builtin; refine push_own rfl (.tmp 123) (.tmp 128) rfl (w.heap.size + 1) _ ((xs.take k).map fx) rfl ⟨wr.heap.size, 0, none⟩ (fx x) rfl (Owns.alloc (Q2.out) _) ?c1 ?c2 ?c3 ?_)
      case c1 => simp [go_sem, fx]
      case c2 => omega
      case c3 => simp; omega
      intro v' w' o1 r1 at1
      have o2 : Owns w' (w.heap.size + 1) v' ((xs.take (k + 1)).map fx) := by rw [MT.out]; simpa using o1
      have o3 : Owns w' (w.heap.size + 1) (.slice (some ⟨g, 0, none⟩) (xs.length + 1) cg) ((xs.take (k + 1)).map fx ++ (xs.drop (k + 1) ++ [5921370])) := (Owns.alloc Q1.out _).kept r1 (Ne.symm HN.out)
      have n3 : v'.ownBlock ≠ some g := by
        rcases at1 with e | e
        · rw [e]; exact HN.out
        · rw [e]; intro q; cases q; omega
      have b3 : Below (w.heap.size + 1) w2 w' := (hb'.alloc (by simp; omega) _).trans (grown_below (Owns.alloc Q2.out _) (by simp; omega) r1)
      have HO2 : Hid _ := o2
      have HO3 : Hid _ := o3
      have HN3 : Hid _ := n3
      clear o1 o2 o3 n3 r1 at1 Q1 Q2 hb' MT HN hcell hfz
      go_wp2_with fail
      go_roundw
      case rel => exact ⟨k + 1, by omega, by go_num, HO3.out, HO2.out, HN3.out, b3⟩
      case measure => simp [intOf]; omega
    · obtain rfl : k = xs.length := by omega
      rw [List.take_length, List.drop_length, List.nil_append] at P1
      rw [List.take_length] at P2
      have R3 := Row8.under R2.out (Nat.lt_succ_self _) hb
      have g3 := g2.trans (hb.mono (Nat.le_succ _))
      have so := P1.out.seen_at
      obtain ⟨a7, c7, rfl, s7, _, _⟩ := P2.out.seen
      have aF : All (xs.map fx) := by
        intro y hy
        simp at hy
        obtain ⟨z, _, rfl⟩ := hy
        exact fx_bd z
      have K := lists_any 5 a b al xs.length c r0 r1 s0 s1 (xs.map fx) g cg a7 c7 wr ha so (by simpa using hcg) s7 aF (by simp; omega)
      rw [List.length_map] at K
      clear P1 P2 HN hb so s7 aF R2 g2
      obtain ⟨z, q0, q1, q2, q3, q4, q5, q6, q7⟩ := R3
      go_wp2_with fail
      refine K.mono ?_
      clear K
      rintro e w9 ⟨rfl, h9⟩
      go_wp2_with fail
      go_ret
      exact ⟨rfl, g3.trans (h9.mono g3.size)⟩
end Go.Proofs.Ytfoknkhbcnbdhaa
