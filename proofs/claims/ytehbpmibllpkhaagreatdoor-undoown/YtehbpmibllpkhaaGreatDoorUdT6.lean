import Derived.Test.YtehbpmibllpkhaaGreatDoorUdT5
set_option linter.all false
namespace Go.Proofs.YtehbpmibllpkhaaGreatDoor
open Go.RowKit Go.QK Go.Maps Go.QM Go.QU
set_option maxRecDepth 100000
abbrev Dd := Int × Int × Int × Int
def dC (x : Dd) : List Value := [.int .i64 x.1, .int .i64 x.2.1, .int .i64 x.2.2.1, .int .i64 x.2.2.2]
theorem dC_len (x : Dd) : (dC x).length = 4 := rfl
/-- A list of records, as 'told' hands it on. -/
structure LR (w : World) (v : Value) (rs : List RZ) : Prop where
  ex : ∃ a c, v = .slice a rs.length c ∧ Lies w a (rzs rs) ∧ (a = none → c = 0 ∧ rs.length = 0)
  few : rs.length ≤ 60
  ok : ∀ r ∈ rs, I64 r.delta ∧ I64 r.id
theorem LR.below {w w' : World} {v : Value} {rs : List RZ} (h : LR w v rs) (hk : Below w.heap.size w w') : LR w' v rs := by
  obtain ⟨a, c, e, li, hn⟩ := h.ex
  exact ⟨⟨a, c, e, li.below hk, hn⟩, h.few, h.ok⟩
theorem Sty.lr {w : World} {B sb : Nat} {s : SV} (h : Sty w B sb s) (hl : s.R.length ≤ 60) : LR w s.vR s.R := by
  obtain ⟨a, c, e, li, hle, -, hn, -⟩ := GRow.lies h.r
  exact ⟨⟨a, c, e, li, fun q => ⟨hn q, by have := hn q; omega⟩⟩, hl, h.rok⟩
theorem Sty.lr60 {w : World} {B sb g c : Nat} {s : SV} (h : Sty w B sb s) (hl : 60 ≤ s.R.length) (e : s.vR = .slice (some ⟨g, 0, none⟩) s.R.length c) : LR w (.slice (some ⟨g, 0, none⟩) 60 c) (s.R.take 60) := by
  have hr := h.r
  rw [e] at hr
  obtain ⟨_, _, e1, li, -⟩ := GRow.lies hr
  cases e1
  have hlen : (s.R.take 60).length = 60 := by rw [List.length_take]; omega
  exact ⟨⟨_, c, by rw [hlen], lies_takeG rzC li 60, nofun⟩, by rw [hlen]; exact Nat.le_refl _, fun r hr => h.rok r (List.mem_of_mem_take hr)⟩
theorem slice22R {b n cap : Nat} (w : World) (h : 60 ≤ cap) :
    (Instr.slice 22 (.slice (some ⟨b, 0, none⟩) n cap) none (some (.int .i64 60)) none).run Tryz.prog w = .ok (.slice (some ⟨b, 0, none⟩) 60 cap) w := by
  have h1 : (60 : Int) ≤ (cap : Int) := by omega
  have h2 : ¬ ((cap : Int) < 60) := by omega
  go_simp
  (try simp [h1, h2])
theorem wr2 {j : Nat} (h : j < 1000) {z : Int} (h1 : 0 ≤ z) (h2 : z ≤ 1000) : wrap64 (z + (j : Int)) = z + (j : Int) ∧ IntKind.i64.wrap (z + (j : Int)) = z + (j : Int) := ⟨wrapI (by unfold I64; omega), by rw [IntKind.wrap_i64]; omega⟩
theorem size33 : (Tryz.prog.info? 33).map (·.size) = some 3 := by kernel_rfl
theorem decG {n k : Nat} (h : n < k) : decide ((n : Int) < (k : Int)) = true := decide_eq_true (by omega)
theorem decL {n k : Nat} (h : ¬ n < k) : decide ((n : Int) < (k : Int)) = false := decide_eq_false (by omega)
/-- The empty story. -/
def s00 (pages : Nat) : SV := ⟨(pages : Int), .slice none 0 0, [], .slice none 0 0, [], .slice none 0 0, [], .slice none 0 0, [], .slice none 0 0, [], 1, .slice none 0 0, []⟩
theorem sty00 (w : World) (pages : Nat) (hp : 2 ≤ pages ∧ pages ≤ 1000) : Sty (w.alloc (.cells #[.int .i64 (pages : Int), .slice none 0 0, .slice none 0 0, .slice none 0 0, .slice none 0 0, .slice none 0 0, .int .i64 1, .slice none 0 0] 74)) w.heap.size w.heap.size (s00 pages) :=
  ⟨RBox.new _ _ _, Nat.le_refl _, World.ownsRow_nil _ _ _ _, World.ownsRow_nil _ _ _ _, World.ownsRow_nil _ _ _ _, World.ownsRow_nil _ _ _ _, World.ownsRow_nil _ _ _ _, World.ownsRow_nil _ _ _ _, (fun o ho => by cases ho), (by show 2 ≤ (pages : Int) ∧ (pages : Int) ≤ 1000; omega), (fun r hr => by cases hr), (fun p hp => by cases hp)⟩
theorem len00 (pages : Nat) : Len (s00 pages) := ⟨rfl, rfl, List.nodup_nil, fun x hx => by cases hx⟩
set_option maxHeartbeats 8000000 in
theorem told24_any (ds : List Dd) (a : Option Addr) (c pages : Nat) (w : World) (h : Lies w a (rowsC dC ds)) (hi : ∀ d ∈ ds, I64 d.1 ∧ I64 d.2.1 ∧ I64 d.2.2.1 ∧ I64 d.2.2.2) (hp : 2 ≤ pages ∧ pages ≤ 1000) (hl : ds.length ≤ 9223372036854775807) :
    Calls Tryz.prog 24 #[.slice a ds.length c, .int .i64 (pages : Int), .int .i64 60] w fun e w' => ∃ sb v rs, e = .returned (ptr sb) ∧ (∃ A : Array Value, RBox w' sb 74 A ∧ A.toList[1]? = some v) ∧ LR w' v rs ∧ Below w.heap.size w w' := by
  obtain ⟨N, hN⟩ : ∃ n, n = ds.length := ⟨_, rfl⟩
  rw [← hN] at hl ⊢
  have HN := hide hN
  have H := hide h
  have HI := hide hi
  obtain ⟨w1, hw1⟩ : ∃ z, z = w.alloc (.cells #[.int .i64 (pages : Int), .slice none 0 0, .slice none 0 0, .slice none 0 0, .slice none 0 0, .slice none 0 0, .int .i64 1, .slice none 0 0] 74) := ⟨_, rfl⟩
  obtain ⟨X, hX⟩ : ∃ z, z = w.heap.size := ⟨_, rfl⟩
  have ST := hide (show Sty w1 w.heap.size X (s00 pages) by rw [hw1, hX]; exact sty00 w pages hp)
  have B1 := hide (show Below w.heap.size w w1 by rw [hw1]; exact alloc_below _ _)
  clear h hi hN hp
  go_enter Tryz.func24, Tryz.ntmps24
  go_upto_region 2 with fail
  rw [← hw1, ← hX]
  clear hw1 hX
  go_wp2_with fail
  go_loopw [8] (fun v wz => ∃ (i : Nat) (s : SV), v = .int .i64 (i : Int) ∧ i ≤ N ∧ Sty wz w.heap.size X s ∧ Len s ∧ s.R.length < 60 ∧ s.P.length ≤ 60 ∧ s.V.length ≤ 20 ∧ Below w.heap.size w wz) (fun v _ => N + 1 - (intOf v).toNat)
  case atStart => exact ⟨0, s00 pages, rfl, Nat.zero_le _, ST.out, len00 pages, (by show 0 < 60; decide), (by show 0 ≤ 60; decide), (by show 0 ≤ 20; decide), B1.out⟩
  case round =>
    obtain ⟨i, s, rfl, hiN, st, ln, hr, hp, hv, hb⟩ := hrel
    have S1 := hide st
    have LN := hide ln
    have HB := hide hb
    clear st ln hb ST B1
    obtain ⟨nL, hnL⟩ : ∃ z, z = s.P.length := ⟨_, rfl⟩
    obtain ⟨aL, cL, eL, -⟩ := GRow.lies S1.out.l
    rw [← hnL] at eL hp
    have q2 := ((RBox.cells S1.out.box).get 2 _ rfl).1
    rw [eL] at q2
    have NL := hide hnL
    clear hnL eL
    by_cases hlt : i < N
    · have f1 : decide ((i : Int) < (N : Int)) = true := decG hlt
      have f2 : (i : Int) < (N : Int) := by omega
      by_cases hl6 : nL < 60
      · have g1 : decide ((nL : Int) < 60) = true := decG hl6
        have hds : i < ds.length := by rw [← HN.out]; exact hlt
        obtain ⟨b, off, rfl, lb, hc⟩ := Lies.rowAt dC 4 dC_len H.out i hds (by decide)
        have id := HI.out _ (List.getElem_mem hds)
        generalize ds[i] = d at *
        have d0 := (HB.out.cell (p := ⟨b, off + i * 4 + 0, none⟩) lb).trans (hc 0 _ rfl)
        have d1 := (HB.out.cell (p := ⟨b, off + i * 4 + 1, none⟩) lb).trans (hc 1 _ rfl)
        have d2 := (HB.out.cell (p := ⟨b, off + i * 4 + 2, none⟩) lb).trans (hc 2 _ rfl)
        have d3 := (HB.out.cell (p := ⟨b, off + i * 4 + 3, none⟩) lb).trans (hc 3 _ rfl)
        rw [Nat.add_zero] at d0
        clear hc lb
        go_wp2_with fail
        refine (does_any S1.out LN.out d.1 d.2.1 d.2.2.1 d.2.2.2 id.1 id.2.1 id.2.2.1 id.2.2.2 (by omega) HB.out.size (by rw [← NL.out]; exact hp) hv).mono ?_
        rintro e w2 ⟨⟨⟨bb, rfl⟩⟩, ⟨s2, h2, g2⟩, b2⟩
        have S2 := hide h2
        have B2 := hide (HB.out.trans b2)
        have hP2 : s2.P.length ≤ 60 := by have := g2.p; have := NL.out; omega
        have hV2 := g2.v
        have LN2 := hide g2.len
        clear d0 d1 d2 d3 h2 g2 b2 q2 f1 g1
        obtain ⟨nR, hnR⟩ : ∃ z, z = s2.R.length := ⟨_, rfl⟩
        obtain ⟨aR, cR, eR, -⟩ := GRow.lies S2.out.r
        rw [← hnR] at eR
        obtain ⟨q1, f1⟩ := (RBox.cells S2.out.box).get 1 _ rfl
        rw [eR] at q1
        have NR := hide hnR
        have ER := hide eR
        clear hnR eR
        by_cases h60 : 60 ≤ nR
        · have k1 : decide ((nR : Int) ≥ 60) = true := (decT h60).1
          have k2 : decide ((60 : Int) ≤ (nR : Int)) = true := (decT h60).2
          obtain ⟨g, cap, eg, hcap⟩ := grow_open S2.out.r (by rw [← NR.out]; omega)
          rw [ER.out, ← NR.out] at eg
          injection eg with i1 i2 i3
          subst i1 i3
          rw [← NR.out] at hcap
          have sl := fun wq => slice22R (b := g) (n := nR) (cap := cR) wq (by omega)
          go_wp2_with fail
          first | go_ret | go_ret2
          have l6 := S2.out.lr60 (by rw [← NR.out]; exact h60) (by rw [ER.out, NR.out])
          have kk : Keep (fun z => z = X) w2 (w2.setCell ⟨X, 1, none⟩ (.slice (some ⟨g, 0, none⟩) 60 cR)) := (Keep.refl (fun z => z = X) w2).setCell (g := X) (j := 1) (fun _ => rfl) _
          obtain ⟨aa, cc, ee, li, hn⟩ := l6.ex
          refine ⟨X, _, _, rfl, ⟨_, RBox.setCell S2.out.box 1 _, rfl⟩, ⟨⟨aa, cc, ee, li.keep kk (fun ad had hx => ?_), hn⟩, l6.few, l6.ok⟩, bkeep B2.out kk (Nat.le_refl _) (fun y e => by rw [e]; exact S2.out.hb)⟩
          injection ee with j1 j2 j3
          subst j1
          cases had
          exact box_row S2.out.box S2.out.r (by decide) (by rw [ER.out]; exact congrArg some hx)
        · have k1 : decide ((nR : Int) ≥ 60) = false := (decF h60).1
          have k2 : decide ((60 : Int) ≤ (nR : Int)) = false := (decF h60).2
          go_wp2_with fail
          go_roundw
          case rel => exact ⟨i + 1, s2, by go_num, by omega, S2.out, LN2.out, by rw [← NR.out]; omega, hP2, hV2, B2.out⟩
          case measure => simp [intOf]; omega
      · have g1 : decide ((nL : Int) < 60) = false := decL hl6
        go_wp2_with fail
        first | go_ret | go_ret2
        exact ⟨X, _, _, rfl, ⟨_, S1.out.box, rfl⟩, S1.out.lr (by omega), HB.out⟩
    · obtain rfl : N = i := by omega
      have f1 : decide ((N : Int) < (N : Int)) = false := decL (by omega)
      go_wp2_with fail
      first | go_ret | go_ret2
      exact ⟨X, _, _, rfl, ⟨_, S1.out.box, rfl⟩, S1.out.lr (by omega), HB.out⟩
set_option maxHeartbeats 8000000 in
theorem shape_any (p l f : Int) (a a2 : Option Addr) (n c n2 c2 : Nat) (w : World) (ip : I64 p) (il : I64 l) (if_ : I64 f) :
    Calls Tryz.prog 25 #[.agg #[.int .i64 p, .int .i64 l, .int .i64 f, .slice a n c, .slice a2 n2 c2]] w fun e w' => ∃ (P L F : Nat), e = .returned (.agg #[.int .i64 (P : Int), .int .i64 (L : Int), .int .i64 (F : Int)]) ∧ (2 ≤ P ∧ P ≤ 1000) ∧ Below w.heap.size w w' := by
  obtain ⟨w1, hw1⟩ : ∃ z, z = w.alloc (.cells #[.int .i64 p, .int .i64 l, .int .i64 f, .slice a n c, .slice a2 n2 c2] 37) := ⟨_, rfl⟩
  obtain ⟨X1, hX1⟩ : ∃ z, z = w.heap.size := ⟨_, rfl⟩
  have B1 := hide (show Below w.heap.size w w1 by rw [hw1]; exact alloc_below _ _)
  have R1 := hide (show RBox w1 X1 37 #[.int .i64 p, .int .i64 l, .int .i64 f, .slice a n c, .slice a2 n2 c2] by rw [hw1, hX1]; exact RBox.new _ _ _)
  obtain ⟨w2, hw2⟩ : ∃ z, z = w1.alloc (.cells #[.int .i64 0, .int .i64 0, .int .i64 0] 33) := ⟨_, rfl⟩
  obtain ⟨X2, hX2⟩ : ∃ z, z = w1.heap.size := ⟨_, rfl⟩
  have B2 := hide (show Below w.heap.size w w2 by rw [hw2]; exact bnext B1.out (alloc_below _ _) (Nat.le_refl _))
  have R2 := hide (show RBox w2 X1 37 #[.int .i64 p, .int .i64 l, .int .i64 f, .slice a n c, .slice a2 n2 c2] by rw [hw2]; exact RBox.below R1.out (alloc_below _ _))
  have RR := hide (show RBox w2 X2 33 #[.int .i64 0, .int .i64 0, .int .i64 0] by rw [hw2, hX2]; exact RBox.new _ _ _)
  have HX2 := hide (show w.heap.size ≤ X2 by rw [hX2]; exact B1.out.size)
  go_enter Tryz.func25, Tryz.ntmps25
  go_upto_region 1 with fail
  have hX3 : X2 = X1 + 1 := by rw [hX2, hw1, hX1]; simp
  rw [← hw1, ← hX1, ← hX3, ← hw2]
  clear hw1 hX1 hw2 hX2 hX3 R1 B1
  refine wp_region_held_drew (S := fun wq => RBox wq X1 37 #[.int .i64 p, .int .i64 l, .int .i64 f, .slice a n c, .slice a2 n2 c2]) (by kernel_rfl) (RBox.below R2.out (Below.refl _ _).drew) (fun hS => ?_)
  have BD := hide (B2.out.drew)
  have RD := hide (RBox.below RR.out (Below.refl _ _).drew)
  clear R2 RR B2
  generalize w2.drew = we at *
  refine take_at 0 (some 3) (v := ?_) rfl rfl (by kernel_rfl) (by kernel_rfl) (by kernel_rfl) (fun _ _ _ h => h) ⟨by rfl, ?_⟩ hS ?_
  rotate_left
  · intro wq hSw; go_simp; try rfl
  simp only [Act.put, List.setIfInBounds_toArray, List.set_cons_zero, List.set_cons_succ]
  refine take_at 1 (some 4) (v := ?_) rfl rfl (by kernel_rfl) (by kernel_rfl) (by kernel_rfl) (fun _ _ _ h => h) ⟨by rfl, ?_⟩ hS ?_
  rotate_left
  · intro wq hSw; go_simp; try rfl
  simp only [Act.put, List.setIfInBounds_toArray, List.set_cons_zero, List.set_cons_succ]
  refine take_at 2 (some 5) (v := ?_) rfl rfl (by kernel_rfl) (by kernel_rfl) (by kernel_rfl) (fun _ _ _ h => h) ⟨by rfl, ?_⟩ hS ?_
  rotate_left
  · intro wq hSw; have o0 := ((RBox.cells hSw).get 0 _ rfl).1; go_simp; try rfl
  simp only [Act.put, List.setIfInBounds_toArray, List.set_cons_zero, List.set_cons_succ]
  refine take_at 5 (some 8) (v := ?_) rfl rfl (by kernel_rfl) (by kernel_rfl) (by kernel_rfl) (fun _ _ _ h => h) ⟨by rfl, ?_⟩ hS ?_
  rotate_left
  · intro wq hSw; go_simp; try rfl
  simp only [Act.put, List.setIfInBounds_toArray, List.set_cons_zero, List.set_cons_succ]
  refine take_at 6 (some 9) (v := ?_) rfl rfl (by kernel_rfl) (by kernel_rfl) (by kernel_rfl) (fun _ _ _ h => h) ⟨by rfl, ?_⟩ hS ?_
  rotate_left
  · intro wq hSw; go_simp; try rfl
  simp only [Act.put, List.setIfInBounds_toArray, List.set_cons_zero, List.set_cons_succ]
  refine take_at 7 (some 10) (v := ?_) rfl rfl (by kernel_rfl) (by kernel_rfl) (by kernel_rfl) (fun _ _ _ h => h) ⟨by rfl, ?_⟩ hS ?_
  rotate_left
  · intro wq hSw; have o1 := ((RBox.cells hSw).get 1 _ rfl).1; go_simp; try rfl
  simp only [Act.put, List.setIfInBounds_toArray, List.set_cons_zero, List.set_cons_succ]
  refine take_at 10 (some 13) (v := ?_) rfl rfl (by kernel_rfl) (by kernel_rfl) (by kernel_rfl) (fun _ _ _ h => h) ⟨by rfl, ?_⟩ hS ?_
  rotate_left
  · intro wq hSw; go_simp; try rfl
  simp only [Act.put, List.setIfInBounds_toArray, List.set_cons_zero, List.set_cons_succ]
  refine take_at 11 (some 14) (v := ?_) rfl rfl (by kernel_rfl) (by kernel_rfl) (by kernel_rfl) (fun _ _ _ h => h) ⟨by rfl, ?_⟩ hS ?_
  rotate_left
  · intro wq hSw; go_simp; try rfl
  simp only [Act.put, List.setIfInBounds_toArray, List.set_cons_zero, List.set_cons_succ]
  refine take_at 12 (some 15) (v := ?_) rfl rfl (by kernel_rfl) (by kernel_rfl) (by kernel_rfl) (fun _ _ _ h => h) ⟨by rfl, ?_⟩ hS ?_
  rotate_left
  · intro wq hSw; have o2 := ((RBox.cells hSw).get 2 _ rfl).1; go_simp; try rfl
  simp only [Act.put, List.setIfInBounds_toArray, List.set_cons_zero, List.set_cons_succ]
  refine wpAnyH_ready (rs := [3]) (by kernel_rfl) (by simp) ?_
  refine AllReadyH.cons rfl (fun K hK => ?_) AllReadyH.nil
  go_simp
  go_wp2_with fail
  refine (brought37_any p 6 _ ip (by decide) (by decide)).mono ?_
  rintro e y3 ⟨jp, rfl, hjp, rfl⟩
  go_wp2_with fail
  refine hK.out _ _ hS (fun hS => ?_)
  clear hK K
  (try simp only [Act.put, List.setIfInBounds_toArray, List.set_cons_zero, List.set_cons_succ])
  have ejp := (wr2 (j := jp) (z := 2) (by omega) (by decide) (by decide)).1
  have ejp2 := (wr2 (j := jp) (z := 2) (by omega) (by decide) (by decide)).2
  refine take_at 4 (some 7) (v := ?_) rfl rfl (by kernel_rfl) (by kernel_rfl) (by kernel_rfl) (fun _ _ _ h => h) ⟨by rfl, ?_⟩ hS ?_
  rotate_left
  · intro wq hSw; go_simp; try rfl
  simp only [Act.put, List.setIfInBounds_toArray, List.set_cons_zero, List.set_cons_succ]
  refine wpAnyH_ready (rs := [8]) (by kernel_rfl) (by simp) ?_
  refine AllReadyH.cons rfl (fun K hK => ?_) AllReadyH.nil
  go_simp
  go_wp2_with fail
  refine (brought37_any l 90 _ il (by decide) (by decide)).mono ?_
  rintro e y8 ⟨jl, rfl, hjl, rfl⟩
  go_wp2_with fail
  refine hK.out _ _ hS (fun hS => ?_)
  clear hK K
  (try simp only [Act.put, List.setIfInBounds_toArray, List.set_cons_zero, List.set_cons_succ])
  have ejl := (wr2 (j := jl) (z := 4) (by omega) (by decide) (by decide)).1
  have ejl2 := (wr2 (j := jl) (z := 4) (by omega) (by decide) (by decide)).2
  refine take_at 9 (some 12) (v := ?_) rfl rfl (by kernel_rfl) (by kernel_rfl) (by kernel_rfl) (fun _ _ _ h => h) ⟨by rfl, ?_⟩ hS ?_
  rotate_left
  · intro wq hSw; go_simp; try rfl
  simp only [Act.put, List.setIfInBounds_toArray, List.set_cons_zero, List.set_cons_succ]
  refine wpAnyH_ready (rs := [13]) (by kernel_rfl) (by simp) ?_
  refine AllReadyH.cons rfl (fun K hK => ?_) AllReadyH.nil
  go_simp
  go_wp2_with fail
  refine (brought37_any f 4 _ if_ (by decide) (by decide)).mono ?_
  rintro e y13 ⟨jf, rfl, hjf, rfl⟩
  go_wp2_with fail
  refine hK.out _ _ hS (fun hS => ?_)
  clear hK K
  (try simp only [Act.put, List.setIfInBounds_toArray, List.set_cons_zero, List.set_cons_succ])
  have ejf := (wr2 (j := jf) (z := 2) (by omega) (by decide) (by decide)).1
  have ejf2 := (wr2 (j := jf) (z := 2) (by omega) (by decide) (by decide)).2
  refine take_at 14 (some 17) (v := ?_) rfl rfl (by kernel_rfl) (by kernel_rfl) (by kernel_rfl) (fun _ _ _ h => h) ⟨by rfl, ?_⟩ hS ?_
  rotate_left
  · intro wq hSw; go_simp; try rfl
  simp only [Act.put, List.setIfInBounds_toArray, List.set_cons_zero, List.set_cons_succ]
  refine take_at 15 (some 18) (v := ?_) rfl rfl (by kernel_rfl) (by kernel_rfl) (by kernel_rfl) (fun _ _ _ h => h) ⟨by rfl, ?_⟩ hS ?_
  rotate_left
  · intro wq hSw; go_simp; try rfl
  simp only [Act.put, List.setIfInBounds_toArray, List.set_cons_zero, List.set_cons_succ]
  obtain ⟨z0, g0⟩ := (RBox.cells RD.out).get 0 _ rfl
  obtain ⟨z1, g1⟩ := (RBox.cells RD.out).get 1 _ rfl
  obtain ⟨z2, g2⟩ := (RBox.cells RD.out).get 2 _ rfl
  have RZ := hide (RBox.setCell (RBox.setCell (RBox.setCell RD.out 0 (.int .i64 (2 + (jp : Int)))) 1 (.int .i64 (4 + (jl : Int)))) 2 (.int .i64 (2 + (jf : Int))))
  have NE := hide (box_ne hS RD.out (by decide))
  have k0 := (Keep.refl (fun z => z = X2) we).setCell (g := X2) (j := 0) (fun _ => rfl) (.int .i64 (2 + (jp : Int)))
  have k1 := k0.setCell (g := X2) (j := 1) (fun _ => rfl) (.int .i64 (4 + (jl : Int)))
  have k2 := k1.setCell (g := X2) (j := 2) (fun _ => rfl) (.int .i64 (2 + (jf : Int)))
  have KK := hide k2
  clear k0 k1 k2
  refine wpAnyH_ready (rs := [16]) (by kernel_rfl) (by simp) ?_
  refine AllReadyH.cons rfl (fun K hK => ?_) AllReadyH.nil
  go_simp
  (try go_wp2_with fail)
  refine hK.out _ _ (RBox.keep hS KK.out (fun q => NE.out q)) (fun hS => ?_)
  clear hK K
  (try simp only [Act.put, List.setIfInBounds_toArray, List.set_cons_zero, List.set_cons_succ])
  clear hS z0 z1 z2 g0 g1 g2
  refine wpAnyH_done (by kernel_rfl) ?_ _
  go_wp2_with fail
  (try simp only [Exit.inBlock, Exit.then])
  refine bodyPost_ret (results_cell_row rfl _ _ X2 33 _ (0, 0) _ rfl RZ.out Tryz.underlying33 rfl size33) rfl ?_
  exact ⟨2 + jp, 4 + jl, 2 + jf, by simp, by omega, bkeep BD.out KK.out (Nat.le_refl _) (fun y e => by rw [e]; exact HX2.out)⟩
set_option maxHeartbeats 8000000 in
theorem wide_any (p l f : Int) (a a2 : Option Addr) (n c n2 c2 : Nat) (w : World) (ip : I64 p) (il : I64 l) (if_ : I64 f) :
    Calls Tryz.prog 12 #[.agg #[.int .i64 p, .int .i64 l, .int .i64 f, .slice a n c, .slice a2 n2 c2]] w fun e w' => ∃ (P L F : Nat), e = .returned (.agg #[.int .i64 (P : Int), .int .i64 (L : Int), .int .i64 (F : Int)]) ∧ (2 ≤ P ∧ P ≤ 1000) ∧ Below w.heap.size w w' := by
  obtain ⟨w1, hw1⟩ : ∃ z, z = w.alloc (.cells #[.int .i64 p, .int .i64 l, .int .i64 f, .slice a n c, .slice a2 n2 c2] 37) := ⟨_, rfl⟩
  obtain ⟨X1, hX1⟩ : ∃ z, z = w.heap.size := ⟨_, rfl⟩
  have B1 := hide (show Below w.heap.size w w1 by rw [hw1]; exact alloc_below _ _)
  have R1 := hide (show RBox w1 X1 37 #[.int .i64 p, .int .i64 l, .int .i64 f, .slice a n c, .slice a2 n2 c2] by rw [hw1, hX1]; exact RBox.new _ _ _)
  obtain ⟨w2, hw2⟩ : ∃ z, z = w1.alloc (.cells #[.int .i64 0, .int .i64 0, .int .i64 0] 33) := ⟨_, rfl⟩
  obtain ⟨X2, hX2⟩ : ∃ z, z = w1.heap.size := ⟨_, rfl⟩
  have B2 := hide (show Below w.heap.size w w2 by rw [hw2]; exact bnext B1.out (alloc_below _ _) (Nat.le_refl _))
  have R2 := hide (show RBox w2 X1 37 #[.int .i64 p, .int .i64 l, .int .i64 f, .slice a n c, .slice a2 n2 c2] by rw [hw2]; exact RBox.below R1.out (alloc_below _ _))
  have RR := hide (show RBox w2 X2 33 #[.int .i64 0, .int .i64 0, .int .i64 0] by rw [hw2, hX2]; exact RBox.new _ _ _)
  have HX2 := hide (show w.heap.size ≤ X2 by rw [hX2]; exact B1.out.size)
  go_enter Tryz.func12, Tryz.ntmps12
  go_upto_region 1 with fail
  have hX3 : X2 = X1 + 1 := by rw [hX2, hw1, hX1]; simp
  rw [← hw1, ← hX1, ← hX3, ← hw2]
  clear hw1 hX1 hw2 hX2 hX3 R1 B1
  have o0 := ((RBox.cells R2.out).get 0 _ rfl).1
  have o1 := ((RBox.cells R2.out).get 1 _ rfl).1
  have o2 := ((RBox.cells R2.out).get 2 _ rfl).1
  have o3 := ((RBox.cells R2.out).get 3 _ rfl).1
  have o4 := ((RBox.cells R2.out).get 4 _ rfl).1
  go_wp2_with fail
  refine (shape_any p l f a a2 n c n2 c2 w2 ip il if_).mono ?_
  rintro e w3 ⟨P, L, F, rfl, hP, b3⟩
  have B3 := hide (bnext B2.out b3 (Nat.le_refl _))
  have R3 := hide (RBox.below RR.out b3)
  clear o0 o1 o2 o3 o4 b3
  go_upto_region 2 with fail
  refine named (P := Code.wp _ _ _ _) ?_
  intro w4 hw4
  have e4 : w4 = w3.alloc (.cells #[.int .i64 (P : Int), .int .i64 (L : Int), .int .i64 (F : Int)] 33) := hw4
  obtain ⟨X3, hX3⟩ : ∃ z, z = w3.heap.size := ⟨_, rfl⟩
  rw [← hX3]
  have R4 := hide (show RBox w4 X2 33 #[.int .i64 0, .int .i64 0, .int .i64 0] by rw [e4]; exact RBox.below R3.out (alloc_below _ _))
  have R5 := hide (show RBox w4 X3 33 #[.int .i64 (P : Int), .int .i64 (L : Int), .int .i64 (F : Int)] by rw [e4, hX3]; exact RBox.new _ _ _)
  have B4 := hide (show Below w.heap.size w w4 by rw [e4]; exact bnext B3.out (alloc_below _ _) (Nat.le_refl _))
  have NE := hide (show X2 ≠ X3 by have := R3.out.lt; omega)
  have HX3 := hide (show w.heap.size ≤ X3 by rw [hX3]; exact B3.out.size)
  clear hw4 e4 hX3 R3 B3 R2 RR B2
  obtain ⟨y1, f1⟩ := (RBox.cells R5.out).get 1 _ rfl
  go_upto_region 3 with fail
  clear y1 f1
  have kk := hide ((Keep.refl (fun z => z = X3) w4).setCell (g := X3) (j := 1) (fun _ => rfl) (.int .i64 1400))
  have R6 := hide (RBox.setCell R5.out 1 (.int .i64 1400))
  have R7 := hide (RBox.keep R4.out kk.out NE.out)
  have B5 := hide (bkeep B4.out kk.out (Nat.le_refl _) (fun y e => by rw [e]; exact HX3.out))
  obtain ⟨w5, hw5⟩ : ∃ z, z = w4.setCell ⟨X3, 1, none⟩ (.int .i64 1400) := ⟨_, rfl⟩
  rw [← hw5] at R6 R7 B5 ⊢
  clear hw5 kk R4 R5 B4
  have q0 := ((RBox.cells R6.out).get 0 (.int .i64 (P : Int)) rfl).1
  have q1 := ((RBox.cells R6.out).get 1 (.int .i64 ((1400 : Nat) : Int)) rfl).1
  have q2 := ((RBox.cells R6.out).get 2 (.int .i64 (F : Int)) rfl).1
  obtain ⟨z0, g0⟩ := (RBox.cells R7.out).get 0 _ rfl
  obtain ⟨z1, g1⟩ := (RBox.cells R7.out).get 1 _ rfl
  obtain ⟨z2, g2⟩ := (RBox.cells R7.out).get 2 _ rfl
  have RZ := hide (RBox.setCell (RBox.setCell (RBox.setCell R7.out 0 (.int .i64 (P : Int))) 1 (.int .i64 ((1400 : Nat) : Int))) 2 (.int .i64 (F : Int)))
  have k0 := (Keep.refl (fun z => z = X2) w5).setCell (g := X2) (j := 0) (fun _ => rfl) (.int .i64 (P : Int))
  have k1 := k0.setCell (g := X2) (j := 1) (fun _ => rfl) (.int .i64 ((1400 : Nat) : Int))
  have k2 := k1.setCell (g := X2) (j := 2) (fun _ => rfl) (.int .i64 (F : Int))
  have KK := hide k2
  clear k0 k1 k2
  go_wp2_with fail
  (try simp only [Exit.inBlock, Exit.then])
  refine bodyPost_ret (results_cell_row rfl _ _ X2 33 _ (0, 0) _ rfl RZ.out Tryz.underlying33 rfl size33) rfl ?_
  exact ⟨P, 1400, F, rfl, hP, bkeep B5.out KK.out (Nat.le_refl _) (fun y e => by rw [e]; exact HX2.out)⟩
set_option maxHeartbeats 8000000 in
theorem told_any (p l f : Int) (a a2 : Option Addr) (c n2 c2 P L F : Nat) (ds : List Dd) (w : World) (h : Lies w a (rowsC dC ds)) (hi : ∀ d ∈ ds, I64 d.1 ∧ I64 d.2.1 ∧ I64 d.2.2.1 ∧ I64 d.2.2.2) (hp : 2 ≤ P ∧ P ≤ 1000) (hl : ds.length ≤ 9223372036854775807) :
    Calls Tryz.prog 11 #[.agg #[.int .i64 p, .int .i64 l, .int .i64 f, .slice a ds.length c, .slice a2 n2 c2], .agg #[.int .i64 (P : Int), .int .i64 (L : Int), .int .i64 (F : Int)]] w fun e w' => ∃ v rs, e = .returned v ∧ LR w' v rs ∧ Below w.heap.size w w' := by
  obtain ⟨N, hN⟩ : ∃ z, z = ds.length := ⟨_, rfl⟩
  rw [← hN]
  have HN := hide hN
  have H := hide h
  obtain ⟨w1, hw1⟩ : ∃ z, z = w.alloc (.cells #[.int .i64 p, .int .i64 l, .int .i64 f, .slice a N c, .slice a2 n2 c2] 37) := ⟨_, rfl⟩
  obtain ⟨X1, hX1⟩ : ∃ z, z = w.heap.size := ⟨_, rfl⟩
  have B1 := hide (show Below w.heap.size w w1 by rw [hw1]; exact alloc_below _ _)
  have R1 := hide (show RBox w1 X1 37 #[.int .i64 p, .int .i64 l, .int .i64 f, .slice a N c, .slice a2 n2 c2] by rw [hw1, hX1]; exact RBox.new _ _ _)
  obtain ⟨w2, hw2⟩ : ∃ z, z = w1.alloc (.cells #[.int .i64 (P : Int), .int .i64 (L : Int), .int .i64 (F : Int)] 33) := ⟨_, rfl⟩
  obtain ⟨X2, hX2⟩ : ∃ z, z = w1.heap.size := ⟨_, rfl⟩
  have B2 := hide (show Below w.heap.size w w2 by rw [hw2]; exact bnext B1.out (alloc_below _ _) (Nat.le_refl _))
  have R2 := hide (show RBox w2 X1 37 #[.int .i64 p, .int .i64 l, .int .i64 f, .slice a N c, .slice a2 n2 c2] by rw [hw2]; exact RBox.below R1.out (alloc_below _ _))
  have RR := hide (show RBox w2 X2 33 #[.int .i64 (P : Int), .int .i64 (L : Int), .int .i64 (F : Int)] by rw [hw2, hX2]; exact RBox.new _ _ _)
  clear h hN
  go_enter Tryz.func11, Tryz.ntmps11
  go_upto_region 1 with fail
  have hX3 : X2 = X1 + 1 := by rw [hX2, hw1, hX1]; simp
  rw [← hw1, ← hX1, ← hX3, ← hw2]
  clear hw1 hX1 hw2 hX2 hX3 R1 B1
  have o3 := ((RBox.cells R2.out).get 3 _ rfl).1
  have o0 := ((RBox.cells RR.out).get 0 _ rfl).1
  go_wp2_with fail
  rw [HN.out]
  refine (told24_any ds a c P w2 (H.out.below B2.out) hi hp hl).mono ?_
  rintro e w3 ⟨sb, v, rs, rfl, ⟨A, bx, eA⟩, lr, b3⟩
  have q1 := ((RBox.cells bx).get 1 _ eA).1
  clear o3 o0
  go_wp2_with fail
  first | go_ret | go_ret2
  exact ⟨v, rs, rfl, lr, bnext B2.out b3 (Nat.le_refl _)⟩
end Go.Proofs.YtehbpmibllpkhaaGreatDoor
