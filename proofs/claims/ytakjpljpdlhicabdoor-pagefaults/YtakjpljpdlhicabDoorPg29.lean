import Derived.Test.YtakjpljpdlhicabDoorPg28
namespace Go.Proofs.YtakjpljpdlhicabDoor
open Go.RowKit Go.QK Go.Pg
set_option maxRecDepth 100000
/-- What stands while the document reads a page. -/
structure Rq (w ws : World) (e : TypeId) (size k : Nat) (page : List Value) (v : Value) (xs : List Value) : Prop where
  zero : Cells ws w.heap.size [.int .i64 0, .int .i64 0, .slice none 0 0, .slice none 0 0]
  page : Cells ws (w.heap.size + 1) page
  row : GRow ws (w.heap.size + 2) e size v k xs
  bel : Below w.heap.size w ws
theorem Rq.below {w ws w' : World} {e : TypeId} {size k : Nat} {page : List Value} {v : Value} {xs : List Value} (h : Rq w ws e size k page v xs) (b : Below ws.heap.size ws w') : Rq w w' e size k page v xs :=
  ⟨h.zero.below b, h.page.below b, h.row.below b, bnext h.bel b (Nat.le_refl _)⟩
theorem Rq.grown {w ws w' : World} {e : TypeId} {size k k' : Nat} {page : List Value} {v v' : Value} {xs xs' : List Value} (h : Rq w ws e size k page v xs) (g : ws.grownBy w' v.ownBlock) (r : GRow w' (w.heap.size + 2) e size v' k' xs') : Rq w w' e size k' page v' xs' := by
  have hlt := World.ownsRow.lt h.row
  have K : Keep (fun j => v.ownBlock = some j) ws w' := (Keep.refl _ _).grown g (fun j hj _ => hj)
  have hn : ∀ j, j < w.heap.size + 2 → ¬ v.ownBlock = some j := fun j hj q => by have := (hlt j q).1; omega
  exact ⟨h.zero.keep K (hn _ (by omega)), h.page.keep K (hn _ (by omega)), r, h.bel.trans (K.below h.bel.size (fun j hj => hn j (by omega)))⟩
theorem Rq.stored {w ws : World} {e : TypeId} {size k j : Nat} {page : List Value} {v u : Value} {xs : List Value} (h : Rq w ws e size k page v xs) (hj : j < page.length) : Rq w (ws.setCell ⟨w.heap.size + 1, j, none⟩ u) e size k (page.set j u) v xs := by
  have hlt := World.ownsRow.lt h.row
  have K : Keep (fun i => i = w.heap.size + 1) ws (ws.setCell ⟨w.heap.size + 1, j, none⟩ u) := (Keep.refl (fun i => i = w.heap.size + 1) ws).setCell (g := w.heap.size + 1) (j := j) (fun _ => rfl) u
  exact ⟨h.zero.other (by omega), h.page.stored hj u, h.row.keep K (fun g hg q => by have := (hlt g hg).1; omega), h.bel.trans (K.below h.bel.size (fun i hi q => by omega))⟩
set_option maxHeartbeats 32000000 in
theorem rdec_rest1 (a : Option Addr) (c n0 n1 n2 n3 n4 n5 n6 : Nat) (l : List Nat) (number : Int) (w : World) (hs : Bytes w a l) (hb : AllB l) (hn : ¬ (number < 0 ∨ 63 < number)) (hl : l.length = 1024) (hz : allZ l = false) (hh : takeN headS l = [n0, n1, n2, n3, n4, n5, n6]) (hk : n1 = 1) (he : headE [n0, n1, n2, n3, n4, n5, n6] number (psum l) = 0) :
    Calls Tryd.prog 14 #[.slice a 1024 c, .int .i64 number] w (RPost w l number) := by
  unfold RPost
  obtain ⟨j0, j1, j6, j2, j3, j3b, j5, j5b⟩ := headE_all he
  have j3c : n3 ≤ 31 := by rw [hk] at j3b; simpa using j3b
  obtain ⟨R, hR⟩ : ∃ R, R = l.drop 16 := ⟨_, rfl⟩
  have hRl : R.length = 1008 := by rw [hR, List.length_drop, hl]
  have hRb : AllB R := by rw [hR]; exact hb.drop 16
  obtain ⟨SE, hSE⟩ : ∃ e, e = slotsE (readC n3 R) [] := ⟨_, rfl⟩
  obtain ⟨RE, hRE⟩ : ∃ e, e = decE l number := ⟨_, rfl⟩
  obtain ⟨PP, hPP⟩ : ∃ e, e = decP l number := ⟨_, rfl⟩
  obtain ⟨az, haz⟩ : ∃ z, z = allZ (l.drop (16 + 32 * n3)) := ⟨_, rfl⟩
  have hpo0 : pageOf [n0, n1, n2, n3, n4, n5, n6] (l.drop 16) = ⟨(n2 : Int), (n5 : Int), readC n3 R, []⟩ := by rw [← hR]; simp [pageOf, hk]
  have hen : endOf [n0, n1, n2, n3, n4, n5, n6] = 32 * n3 := by simp [endOf, hk]
  have hRE2 : RE = if SE ≠ 0 then SE else if n4 ≠ 0 ∨ az = false then 23 else 0 := by
    rw [hRE, decE_head hn hl hz hh, if_neg (by simp [he]), hpo0, hen, hSE, haz, List.drop_drop]
  have hPP1 : RE ≠ 0 → PP = zeroP := by intro q; rw [hPP]; unfold decP; rw [← hRE, if_pos q]
  have hPP0 : RE = 0 → PP = ⟨(n2 : Int), (n5 : Int), readC n3 R, []⟩ := by intro q; rw [hPP]; unfold decP; rw [← hRE, q, if_neg (by simp), hz, if_neg (by simp), hh, hpo0]
  rw [← hRE, ← hPP]
  have CT := fun (av : Option Addr) (cv : Nat) w' (h : Lies w' av (ctrsC (readC n3 R))) => content_any ⟨number, (n5 : Int), readC n3 R, []⟩ ⟨av, cv, none, 0⟩ w' h (.inl rfl) (by simp [readC_length]; omega) (by simp)
  simp only [pageV, readC_length, List.length_nil, ← hSE] at CT
  obtain ⟨t0, t1, t2, t3, t4, t5, t6⟩ := heads hl hh
  have d1 : decide (number < 0) = false := decide_eq_false (by omega)
  have d2 : decide (64 ≤ number) = false := decide_eq_false (by omega)
  have d3 : decide (number ≥ 64) = false := decide_eq_false (by omega)
  have RZ : ∀ w', Below w.heap.size w w' → Calls Tryd.prog 28 #[.slice a 1024 c, .int .i64 0] w' fun e w'' => e = .returned (.bool false) ∧ w'' = w' := by
    intro w' b
    have q := rzeros_any a c l 0 w' (hs.below b) hb (by omega) (Nat.zero_le _)
    rw [List.drop_zero, hz, hl] at q
    exact q
  have GT : ∀ w' (pos size : Nat), Below w.heap.size w w' → size ≤ 8 → pos + size ≤ 1024 → Calls Tryd.prog 29 #[.slice a 1024 c, .int .i64 (pos : Int), .int .i64 (size : Int)] w' fun e w'' => e = .returned (.int .u64 ((QK.fromB ((l.drop pos).take size) : Nat) : Int)) ∧ w'' = w' := by
    intro w' pos size b h8 h2
    have q := rget_any a c pos size l w' (hs.below b) hb (by omega) h8 (by omega)
    rw [hl] at q
    exact q
  have G4 : ∀ w', Below w.heap.size w w' → Calls Tryd.prog 29 #[.slice a 1024 c, .int .i64 4, .int .i64 2] w' fun e w'' => e = .returned (.int .u64 (n3 : Int)) ∧ w'' = w' := by rw [← t3]; exact fun w' b => GT w' 4 2 b (by decide) (by decide)
  have G8 : ∀ w', Below w.heap.size w w' → Calls Tryd.prog 29 #[.slice a 1024 c, .int .i64 8, .int .i64 4] w' fun e w'' => e = .returned (.int .u64 (n5 : Int)) ∧ w'' = w' := by rw [← t5]; exact fun w' b => GT w' 8 4 b (by decide) (by decide)
  have G12 : ∀ w', Below w.heap.size w w' → Calls Tryd.prog 29 #[.slice a 1024 c, .int .i64 12, .int .i64 4] w' fun e w'' => e = .returned (.int .u64 (n6 : Int)) ∧ w'' = w' := by rw [← t6]; exact fun w' b => GT w' 12 4 b (by decide) (by decide)
  have G2 : ∀ w', Below w.heap.size w w' → Calls Tryd.prog 29 #[.slice a 1024 c, .int .i64 2, .int .i64 2] w' fun e w'' => e = .returned (.int .u64 (n2 : Int)) ∧ w'' = w' := by rw [← t2]; exact fun w' b => GT w' 2 2 b (by decide) (by decide)
  have SM : ∀ w', Below w.heap.size w w' → Calls Tryd.prog 12 #[.slice a 1024 c] w' fun e w'' => e = .returned (.int .u32 ((psum l : Nat) : Int)) ∧ w'' = w' := fun w' b => rsum_any a c l w' (hs.below b) hb hl
  have hfit := takeN_fit headS l hb (by rw [hl]; decide)
  rw [hh] at hfit
  obtain ⟨u0, u1, u2, u3, u4, u5, u6, -⟩ := hfit
  have u3 : n3 < 65536 := u3
  have u5 : n5 < 4294967296 := lt4 u5
  have u6 : n6 < 4294967296 := lt4 u6
  have u2 : n2 < 65536 := u2
  have hps := psum_lt hb
  have e3 : IntKind.i64.wrap (n3 : Int) = (n3 : Int) := by rw [IntKind.wrap_i64]; omega
  have e5 : IntKind.i64.wrap (n5 : Int) = (n5 : Int) := by rw [IntKind.wrap_i64]; omega
  have esu : IntKind.u64.wrap ((psum l : Nat) : Int) = ((psum l : Nat) : Int) := by rw [IntKind.wrap_u64]; omega
  obtain ⟨nn, rfl⟩ : ∃ nn : Nat, number = (nn : Int) := ⟨number.toNat, by omega⟩
  have enn : IntKind.u64.wrap (nn : Int) = (nn : Int) := by rw [IntKind.wrap_u64]; omega
  obtain ⟨ab, ao, rfl, habl, hc0⟩ := hs.at (i := 0) (by omega)
  obtain ⟨ab', ao', hq, _, hc1⟩ := hs.at (i := 1) (by omega)
  simp only [Option.some.injEq, Addr.mk.injEq, and_true] at hq
  obtain ⟨rfl, rfl⟩ := hq
  rw [t0, Nat.add_zero] at hc0
  rw [t1] at hc1
  have CX := fun w' (b : Below w.heap.size w w') => (b.cell (p := ⟨ab, ao, none⟩) habl).trans hc0
  have CY := fun w' (b : Below w.heap.size w w') => (b.cell (p := ⟨ab, ao + 1, none⟩) habl).trans hc1
  have j2 : n2 = nn := by omega
  subst j2
  subst j0
  subst hk
  have RZ2 : ∀ w', Below w.heap.size w w' → Calls Tryd.prog 28 #[.slice (some ⟨ab, ao, none⟩) 1024 c, .int .i64 ((16 + 32 * n3 : Nat) : Int)] w' fun e w'' => e = .returned (.bool az) ∧ w'' = w' := by
    intro w' b
    have q := rzeros_any (some ⟨ab, ao, none⟩) c l (16 + 32 * n3) w' (hs.below b) hb (by omega) (by omega)
    rw [← haz, hl] at q
    exact q
  obtain ⟨_, _, hq6, _, hc6⟩ := hs.at (i := 6) (by omega)
  simp only [Option.some.injEq, Addr.mk.injEq, and_true] at hq6
  obtain ⟨rfl, rfl⟩ := hq6
  obtain ⟨_, _, hq7, _, hc7⟩ := hs.at (i := 7) (by omega)
  simp only [Option.some.injEq, Addr.mk.injEq, and_true] at hq7
  obtain ⟨rfl, rfl⟩ := hq7
  have C6x := fun w' (b : Below w.heap.size w w') => (b.cell (p := ⟨ab, ao + 6, none⟩) habl).trans hc6
  have C7x := fun w' (b : Below w.heap.size w w') => (b.cell (p := ⟨ab, ao + 7, none⟩) habl).trans hc7
  have TK : ∀ k, k < n3 → ∃ m0 m1 m2 m3 m4, takeN ctrS (R.drop (32 * k)) = [m0, m1, m2, m3, m4] ∧ readC (k + 1) R = readC k R ++ [⟨sg m0, sg m1, sg m2, sg m3, sg m4⟩] ∧ m0 < 18446744073709551616 ∧ m1 < 18446744073709551616 ∧ m2 < 18446744073709551616 ∧ m3 < 18446744073709551616 ∧ m4 < 18446744073709551616 ∧ QK.fromB ((l.drop (16 + 32 * k + 0)).take 4) = m0 ∧ QK.fromB ((l.drop (16 + 32 * k + 4)).take 4) = m1 ∧ QK.fromB ((l.drop (16 + 32 * k + 8)).take 8) = m2 ∧ QK.fromB ((l.drop (16 + 32 * k + 16)).take 8) = m3 ∧ QK.fromB ((l.drop (16 + 32 * k + 24)).take 8) = m4 := by
    intro k hk
    have hf := takeN_fit ctrS (R.drop (32 * k)) (hRb.drop _) (by rw [List.length_drop, hRl]; simp [ctrS, total]; omega)
    obtain ⟨m0, m1, m2, m3, m4, hm⟩ := five (takeN_length ctrS (R.drop (32 * k)))
    have hsu := readC_succ k R
    rw [hm] at hf hsu
    obtain ⟨b0, b1, b2, b3, b4, -⟩ := hf
    refine ⟨m0, m1, m2, m3, m4, hm, hsu, Nat.lt_trans (lt4 b0) (by decide), Nat.lt_trans (lt4 b1) (by decide), lt8 b2, lt8 b3, lt8 b4, ?_⟩
    simp only [takeN, ctrS, List.drop_drop, hR, List.cons.injEq, and_true] at hm
    obtain ⟨q0, q1, q2, q3, q4⟩ := hm
    refine ⟨by rw [← q0]; congr 3, by rw [← q1], by rw [← q2], by rw [← q3], by rw [← q4]⟩
  have HTK := hide TK
  have HRE := hide hRE2
  have HPP1 := hide hPP1
  have HPP0 := hide hPP0
  have HSB := hide hs
  have H4 := hide t4
  clear TK hRE2 hPP1 hPP0 hRE hPP hpo0 hen hSE haz hRb hRl hR he hh hz hl hb hs t0 t1 t2 t3 t4 t5 t6 hc0 hc1 hc6 hc7 hn j1 j3b u0 u1 u4
  have X0 := CX _ (alloc_below w (.cells #[.int .i64 0, .int .i64 0, .slice none 0 0, .slice none 0 0] 31))
  have X1 := CY _ (alloc_below w (.cells #[.int .i64 0, .int .i64 0, .slice none 0 0, .slice none 0 0] 31))
  rw [j6] at G12
  generalize psum l = PS at *
  have g1 : decide ((n3 : Int) < 1) = false := decide_eq_false (by omega)
  have g2 : decide ((31 : Int) < (n3 : Int)) = false := decide_eq_false (by omega)
  have g3 : decide ((n5 : Int) < 1) = false := decide_eq_false (by omega)
  have g4 : decide ((2147483647 : Int) < (n5 : Int)) = false := decide_eq_false (by omega)
  go_enter Tryd.func14, Tryd.ntmps14
  go_wp2_with fail
  refine (RZ _ (alloc_below _ _)).mono ?_
  rintro e w1 ⟨rfl, rfl⟩
  go_wp2_with fail
  refine (G4 _ (alloc_below _ _)).mono ?_
  rintro e w1 ⟨rfl, rfl⟩
  go_wp2_with fail
  refine (G8 _ (alloc_below _ _)).mono ?_
  rintro e w1 ⟨rfl, rfl⟩
  go_wp2_with fail
  refine (G12 _ (alloc_below _ _)).mono ?_
  rintro e w1 ⟨rfl, rfl⟩
  go_wp2_with fail
  refine (SM _ (alloc_below _ _)).mono ?_
  rintro e w1 ⟨rfl, rfl⟩
  go_wp2_with fail
  refine (G2 _ (alloc_below _ _)).mono ?_
  rintro e w1 ⟨rfl, rfl⟩
  go_upto_region 23 with fail
  refine named (P := Code.wp _ _ _ _) ?_
  intro w2 hw2
  have rq0 : Rq w w2 49 5 0 [.int .i64 (n2 : Int), .int .i64 (n5 : Int), .slice none 0 0, .slice none 0 0] (.slice none 0 0) [] := by
    rw [hw2]
    have q2 := Cells.new (w.alloc (.cells #[.int .i64 0, .int .i64 0, .slice none 0 0, .slice none 0 0] 31)) #[.int .i64 (n2 : Int), .int .i64 (n5 : Int), .slice none 0 0, .slice none 0 0] 31
    simp only [World.size_alloc] at q2
    exact ⟨(Cells.new w _ _).below (alloc_below _ _), q2, World.ownsRow_nil _ _ _ _, bnext (alloc_below _ _) (alloc_below _ _) (Nat.le_refl _)⟩
  have R0 := hide rq0
  clear hw2 rq0 X0 X1 g1 g2 g3 g4
  go_wp2_with fail
  go_loopw [10, 11] (fun en i ws => ∃ (k : Nat) (v : Value), i = .int .i64 (k : Int) ∧ en = .int .i64 ((16 + 32 * k : Nat) : Int) ∧ k ≤ n3 ∧ Rq w ws 49 5 k [.int .i64 (n2 : Int), .int .i64 (n5 : Int), v, .slice none 0 0] v (ctrsC (readC k R))) (fun _ i _ => n3 - (intOf i).toNat)
  case atStart => exact ⟨0, _, rfl, rfl, Nat.zero_le _, R0.out⟩
  case round =>
    obtain ⟨k, v, rfl, rfl, hk, hrq⟩ := hrel
    have X1 := CY wr hrq.bel
    have HQ := hide hrq
    by_cases hlt : k < n3
    · have f0 : decide ((k : Int) < (n3 : Int)) = true := by simp; omega
      obtain ⟨m0, m1, m2, m3, m4, -, hsu, b0, b1, b2, b3, b4, q0, q1, q2, q3, q4⟩ := HTK.out k hlt
      obtain ⟨EN, hEN⟩ : ∃ EN, EN = 16 + 32 * k := ⟨_, rfl⟩
      rw [← hEN] at q0 q1 q2 q3 q4 ⊢
      have GA0 : ∀ w', Below w.heap.size w w' → Calls Tryd.prog 29 #[.slice (some ⟨ab, ao, none⟩) 1024 c, .int .i64 (EN : Int), .int .i64 4] w' fun e w'' => e = .returned (.int .u64 (m0 : Int)) ∧ w'' = w' := by rw [← q0]; exact fun w' b => GT w' EN 4 b (by decide) (by omega)
      have s0 := wrap_sg b0
      have a4 : IntKind.i64.wrap ((EN : Int) + 4) = ((EN + 4 : Nat) : Int) := by rw [IntKind.wrap_i64]; omega
      have GA1 : ∀ w', Below w.heap.size w w' → Calls Tryd.prog 29 #[.slice (some ⟨ab, ao, none⟩) 1024 c, .int .i64 ((EN + 4 : Nat) : Int), .int .i64 4] w' fun e w'' => e = .returned (.int .u64 (m1 : Int)) ∧ w'' = w' := by rw [← q1]; exact fun w' b => GT w' (EN + 4) 4 b (by decide) (by omega)
      have s1 := wrap_sg b1
      have a8 : IntKind.i64.wrap ((EN : Int) + 8) = ((EN + 8 : Nat) : Int) := by rw [IntKind.wrap_i64]; omega
      have GA2 : ∀ w', Below w.heap.size w w' → Calls Tryd.prog 29 #[.slice (some ⟨ab, ao, none⟩) 1024 c, .int .i64 ((EN + 8 : Nat) : Int), .int .i64 8] w' fun e w'' => e = .returned (.int .u64 (m2 : Int)) ∧ w'' = w' := by rw [← q2]; exact fun w' b => GT w' (EN + 8) 8 b (by decide) (by omega)
      have s2 := wrap_sg b2
      have a16 : IntKind.i64.wrap ((EN : Int) + 16) = ((EN + 16 : Nat) : Int) := by rw [IntKind.wrap_i64]; omega
      have GA3 : ∀ w', Below w.heap.size w w' → Calls Tryd.prog 29 #[.slice (some ⟨ab, ao, none⟩) 1024 c, .int .i64 ((EN + 16 : Nat) : Int), .int .i64 8] w' fun e w'' => e = .returned (.int .u64 (m3 : Int)) ∧ w'' = w' := by rw [← q3]; exact fun w' b => GT w' (EN + 16) 8 b (by decide) (by omega)
      have s3 := wrap_sg b3
      have a24 : IntKind.i64.wrap ((EN : Int) + 24) = ((EN + 24 : Nat) : Int) := by rw [IntKind.wrap_i64]; omega
      have GA4 : ∀ w', Below w.heap.size w w' → Calls Tryd.prog 29 #[.slice (some ⟨ab, ao, none⟩) 1024 c, .int .i64 ((EN + 24 : Nat) : Int), .int .i64 8] w' fun e w'' => e = .returned (.int .u64 (m4 : Int)) ∧ w'' = w' := by rw [← q4]; exact fun w' b => GT w' (EN + 24) 8 b (by decide) (by omega)
      have s4 := wrap_sg b4
      generalize sg m0 = v0 at *
      generalize sg m1 = v1 at *
      generalize sg m2 = v2 at *
      generalize sg m3 = v3 at *
      generalize sg m4 = v4 at *
      have aW : IntKind.i64.wrap ((EN : Int) + 32) = ((16 + 32 * (k + 1) : Nat) : Int) := by rw [IntKind.wrap_i64, hEN]; omega
      have HSU := hide hsu
      have HBW := hide (show ∀ w', Below wr.heap.size wr w' → Below w.heap.size w w' from fun w' b => bnext hrq.bel b (Nat.le_refl _))
      clear hsu hrq q0 b0 q1 b1 q2 b2 q3 b3 q4 b4 hEN
      go_wp2_with fail
      refine (GA2 _ HQ.out.bel).mono ?_
      rintro e w3 ⟨rfl, hw3⟩
      obtain rfl : wr = w3 := hw3.symm
      clear hw3
      go_wp2_with fail
      refine (GA3 _ HQ.out.bel).mono ?_
      rintro e w3 ⟨rfl, hw3⟩
      obtain rfl : wr = w3 := hw3.symm
      clear hw3
      go_upto_region 29 with fail
      refine named (P := Code.wp _ _ _ _) ?_
      intro w5 hw5
      have b5 : Below wr.heap.size wr w5 := by rw [hw5]; exact alloc_below _ _
      have c5 : Cells w5 wr.heap.size [.int .i64 v2, .int .i64 v3] := by rw [hw5]; exact Cells.new wr _ _
      have vne : ¬ v.ownBlock = some wr.heap.size := fun q => by have := (World.ownsRow.lt HQ.out.row _ q).2; omega
      have nX : wr.heap.size ≠ w.heap.size + 1 := by have := HQ.out.page.1; omega
      have Q5 := hide ((HQ.out.below b5).below (Below.refl _ _).drew)
      have BW5 := hide ((HBW.out w5 b5).drew)
      obtain ⟨X, hX⟩ : ∃ X, X = wr.heap.size := ⟨_, rfl⟩
      rw [← hX] at c5 vne nX ⊢
      have C5 := hide c5.drew
      have VNE := hide vne
      have NX := hide nX
      obtain ⟨t0, -⟩ := c5.get 0 _ rfl
      obtain ⟨t1, -⟩ := c5.get 1 _ rfl
      refine wp_region_held_drew (S := fun wq => wq.cell? ⟨X, 0, none⟩ = some (.int .i64 v2) ∧ wq.cell? ⟨X, 1, none⟩ = some (.int .i64 v3)) (by kernel_rfl) ⟨t0, t1⟩ (fun hS => ?_)
      clear t0 t1 c5 b5 hw5 hX vne nX X1 GA2 GA3 HQ
      generalize w5.drew = w6 at *
      obtain ⟨gc, xc⟩ := Q5.out.page.get 2 _ rfl
      refine take_at 0 (some 112) (v := ?_) rfl rfl (by kernel_rfl) (by kernel_rfl) (by kernel_rfl) (fun _ _ _ h => h) ⟨by rfl, ?_⟩ hS ?_
      rotate_left
      · intro wq hSw; go_simp; try rfl
      simp only [Act.put, List.setIfInBounds_toArray, List.set_cons_zero, List.set_cons_succ]
      refine take_at 2 (some 114) (v := ?_) rfl rfl (by kernel_rfl) (by kernel_rfl) (by kernel_rfl) (fun _ _ _ h => h) ⟨by rfl, ?_⟩ hS ?_
      rotate_left
      · intro wq hSw; go_simp; try rfl
      simp only [Act.put, List.setIfInBounds_toArray, List.set_cons_zero, List.set_cons_succ]
      refine take_at 3 (some 115) (v := ?_) rfl rfl (by kernel_rfl) (by kernel_rfl) (by kernel_rfl) (fun _ _ _ h => h) ⟨by rfl, ?_⟩ hS ?_
      rotate_left
      · intro wq hSw; go_simp; try rfl
      simp only [Act.put, List.setIfInBounds_toArray, List.set_cons_zero, List.set_cons_succ]
      refine take_at 6 (some 118) (v := ?_) rfl rfl (by kernel_rfl) (by kernel_rfl) (by kernel_rfl) (fun _ _ _ h => h) ⟨by rfl, ?_⟩ hS ?_
      rotate_left
      · intro wq hSw; go_simp; try rfl
      simp only [Act.put, List.setIfInBounds_toArray, List.set_cons_zero, List.set_cons_succ]
      refine take_at 7 (some 119) (v := ?_) rfl rfl (by kernel_rfl) (by kernel_rfl) (by kernel_rfl) (fun _ _ _ h => h) ⟨by rfl, ?_⟩ hS ?_
      rotate_left
      · intro wq hSw; go_simp; try rfl
      simp only [Act.put, List.setIfInBounds_toArray, List.set_cons_zero, List.set_cons_succ]
      refine take_at 8 (some 120) (v := ?_) rfl rfl (by kernel_rfl) (by kernel_rfl) (by kernel_rfl) (fun _ _ _ h => h) ⟨by rfl, ?_⟩ hS ?_
      rotate_left
      · intro wq hSw; go_simp; try rfl
      simp only [Act.put, List.setIfInBounds_toArray, List.set_cons_zero, List.set_cons_succ]
      refine take_at 11 (some 123) (v := ?_) rfl rfl (by kernel_rfl) (by kernel_rfl) (by kernel_rfl) (fun _ _ _ h => h) ⟨by rfl, ?_⟩ hS ?_
      rotate_left
      · intro wq hSw; obtain ⟨r0, r1⟩ := hSw; go_simp; try rfl
      simp only [Act.put, List.setIfInBounds_toArray, List.set_cons_zero, List.set_cons_succ]
      refine take_at 12 (some 124) (v := ?_) rfl rfl (by kernel_rfl) (by kernel_rfl) (by kernel_rfl) (fun _ _ _ h => h) ⟨by rfl, ?_⟩ hS ?_
      rotate_left
      · intro wq hSw; go_simp; try rfl
      simp only [Act.put, List.setIfInBounds_toArray, List.set_cons_zero, List.set_cons_succ]
      refine take_at 13 (some 125) (v := ?_) rfl rfl (by kernel_rfl) (by kernel_rfl) (by kernel_rfl) (fun _ _ _ h => h) ⟨by rfl, ?_⟩ hS ?_
      rotate_left
      · intro wq hSw; go_simp; try rfl
      simp only [Act.put, List.setIfInBounds_toArray, List.set_cons_zero, List.set_cons_succ]
      refine take_at 14 (some 126) (v := ?_) rfl rfl (by kernel_rfl) (by kernel_rfl) (by kernel_rfl) (fun _ _ _ h => h) ⟨by rfl, ?_⟩ hS ?_
      rotate_left
      · intro wq hSw; go_simp; try rfl
      simp only [Act.put, List.setIfInBounds_toArray, List.set_cons_zero, List.set_cons_succ]
      refine wpAnyH_ready (rs := [1, 4]) (by kernel_rfl) (by simp) ?_
      refine AllReadyH.cons rfl (fun K hK => ?_) (AllReadyH.cons rfl (fun K hK => ?_) AllReadyH.nil)
      · go_simp
        go_wp2_with fail
        refine hK.out _ _ hS (fun hS => ?_)
        clear hK K
        (try simp only [Act.put, List.setIfInBounds_toArray, List.set_cons_zero, List.set_cons_succ])
        refine wpAnyH_ready (rs := [4]) (by kernel_rfl) (by simp) ?_
        refine AllReadyH.cons rfl (fun K hK => ?_) AllReadyH.nil
        go_simp
        go_wp2_with fail
        refine (GA0 w6 BW5.out).mono ?_
        rintro e w7 ⟨rfl, hw7⟩
        obtain rfl : w6 = w7 := hw7.symm
        clear hw7
        go_wp2_with fail
        refine hK.out _ _ hS (fun hS => ?_)
        clear hK K
        (try simp only [Act.put, List.setIfInBounds_toArray, List.set_cons_zero, List.set_cons_succ])
        refine take_at 5 (some 117) (v := ?_) rfl rfl (by kernel_rfl) (by kernel_rfl) (by kernel_rfl) (fun _ _ _ h => h) ⟨by rfl, ?_⟩ hS ?_
        rotate_left
        · intro wq hSw; go_simp; try rfl
        simp only [Act.put, List.setIfInBounds_toArray, List.set_cons_zero, List.set_cons_succ]
        refine wpAnyH_ready (rs := [9]) (by kernel_rfl) (by simp) ?_
        refine AllReadyH.cons rfl (fun K hK => ?_) AllReadyH.nil
        go_simp
        go_wp2_with fail
        refine (GA1 w6 BW5.out).mono ?_
        rintro e w7 ⟨rfl, hw7⟩
        obtain rfl : w6 = w7 := hw7.symm
        clear hw7
        go_wp2_with fail
        refine hK.out _ _ hS (fun hS => ?_)
        clear hK K
        (try simp only [Act.put, List.setIfInBounds_toArray, List.set_cons_zero, List.set_cons_succ])
        refine take_at 10 (some 122) (v := ?_) rfl rfl (by kernel_rfl) (by kernel_rfl) (by kernel_rfl) (fun _ _ _ h => h) ⟨by rfl, ?_⟩ hS ?_
        rotate_left
        · intro wq hSw; go_simp; try rfl
        simp only [Act.put, List.setIfInBounds_toArray, List.set_cons_zero, List.set_cons_succ]
        refine wpAnyH_ready (rs := [15]) (by kernel_rfl) (by simp) ?_
        refine AllReadyH.cons rfl (fun K hK => ?_) AllReadyH.nil
        go_simp
        go_wp2_with fail
        refine (GA4 w6 BW5.out).mono ?_
        rintro e w7 ⟨rfl, hw7⟩
        obtain rfl : w6 = w7 := hw7.symm
        clear hw7
        go_wp2_with fail
        refine hK.out _ _ hS (fun hS => ?_)
        clear hK K
        (try simp only [Act.put, List.setIfInBounds_toArray, List.set_cons_zero, List.set_cons_succ])
        refine take_at 16 (some 128) (v := ?_) rfl rfl (by kernel_rfl) (by kernel_rfl) (by kernel_rfl) (fun _ _ _ h => h) ⟨by rfl, ?_⟩ hS ?_
        rotate_left
        · intro wq hSw; go_simp; try rfl
        simp only [Act.put, List.setIfInBounds_toArray, List.set_cons_zero, List.set_cons_succ]
        refine take_at 17 (some 129) (v := ?_) rfl rfl (by kernel_rfl) (by kernel_rfl) (by kernel_rfl) (fun _ _ _ h => h) ⟨by rfl, ?_⟩ hS ?_
        rotate_left
        · intro wq hSw; go_simp; try rfl
        simp only [Act.put, List.setIfInBounds_toArray, List.set_cons_zero, List.set_cons_succ]
        refine wpAnyH_ready (rs := [18]) (by kernel_rfl) (by simp) ?_
        refine AllReadyH.cons rfl (fun K hK => ?_) AllReadyH.nil
        go_simp
        go_wp2_with fail
        have Q7 := hide (Q5.out.below (alloc_below w6 (.cells #[.int .i64 v0, .int .i64 v1, .int .i64 v2, .int .i64 v3, .int .i64 v4] 49)))
        have hlie : Lies (w6.alloc (.cells #[.int .i64 v0, .int .i64 v1, .int .i64 v2, .int .i64 v3, .int .i64 v4] 49)) (some ⟨w6.heap.size, 0, none⟩) (ctrC ⟨v0, v1, v2, v3, v4⟩) := .inr ⟨w6.heap.size, 0, rfl, by simp, fun i hx => by rw [Nat.zero_add]; exact ((Cells.new w6 #[.int .i64 v0, .int .i64 v1, .int .i64 v2, .int .i64 v3, .int .i64 v4] 49).get i _ (List.getElem?_eq_getElem hx)).1⟩
        obtain ⟨ge, xe⟩ := Q7.out.page.get 2 _ rfl
        obtain ⟨v', w8, hrun, hr8, hg8, hv8⟩ := run_pushR Tryd.underlying22 info57 rfl (by decide) (by decide) 24 (w6.alloc (.cells #[.int .i64 v0, .int .i64 v1, .int .i64 v2, .int .i64 v3, .int .i64 v4] 49)) (w.heap.size + 2) v k (ctrsC (readC k R)) Q7.out.row ⟨w6.heap.size, 0, none⟩ 1 1 (ctrC ⟨v0, v1, v2, v3, v4⟩) rfl hlie (by intro u hu; simp [ctrC] at hu; rcases hu with rfl | rfl | rfl | rfl | rfl <;> rfl) (by omega) (by have := Q7.out.page.1; omega)
        obtain ⟨av, cv, rfl, -, -, -, -, -⟩ := GRow.lies hr8
        have Q8 := hide (Q7.out.grown hg8 hr8)
        have HRUN := hide hrun
        have KG : Keep (fun j => v.ownBlock = some j) (w6.alloc (.cells #[.int .i64 v0, .int .i64 v1, .int .i64 v2, .int .i64 v3, .int .i64 v4] 49)) w8 := (Keep.refl _ _).grown hg8 (fun j hj _ => hj)
        have hS7 : (w6.alloc (.cells #[.int .i64 v0, .int .i64 v1, .int .i64 v2, .int .i64 v3, .int .i64 v4] 49)).cell? ⟨X, 0, none⟩ = some (.int .i64 v2) ∧ (w6.alloc (.cells #[.int .i64 v0, .int .i64 v1, .int .i64 v2, .int .i64 v3, .int .i64 v4] 49)).cell? ⟨X, 1, none⟩ = some (.int .i64 v3) := ⟨((alloc_below w6 (.cells #[.int .i64 v0, .int .i64 v1, .int .i64 v2, .int .i64 v3, .int .i64 v4] 49)).cell (p := ⟨X, 0, none⟩) C5.out.1).trans hS.1, ((alloc_below w6 (.cells #[.int .i64 v0, .int .i64 v1, .int .i64 v2, .int .i64 v3, .int .i64 v4] 49)).cell (p := ⟨X, 1, none⟩) C5.out.1).trans hS.2⟩
        have hX7 : X < (w6.alloc (.cells #[.int .i64 v0, .int .i64 v1, .int .i64 v2, .int .i64 v3, .int .i64 v4] 49)).heap.size := by have := C5.out.1; simp; omega
        have HS8 := hide (show w8.cell? ⟨X, 0, none⟩ = some (.int .i64 v2) ∧ w8.cell? ⟨X, 1, none⟩ = some (.int .i64 v3) from ⟨(KG.cell (p := ⟨X, 0, none⟩) hX7 VNE.out).trans hS7.1, (KG.cell (p := ⟨X, 1, none⟩) hX7 VNE.out).trans hS7.2⟩)
        have HX8 := hide (Nat.lt_of_lt_of_le hX7 KG.size)
        have HS7 := hide hS7
        clear hrun hlie hg8 hr8 hv8 gc xc KG hS7 hX7
        refine hK.out _ _ HS7.out (fun hS => ?_)
        clear hK K
        (try simp only [Act.put, List.setIfInBounds_toArray, List.set_cons_zero, List.set_cons_succ])
        refine wpAnyH_ready (rs := [19]) (by kernel_rfl) (by simp) ?_
        refine AllReadyH.cons rfl (fun K hK => ?_) AllReadyH.nil
        refine wp_run 131 (.tmp 113) (.tmp 130) rfl rfl rfl rfl rfl HRUN.out ?_
        refine hK.out _ _ HS8.out (fun hS => ?_)
        clear hK K
        (try simp only [Act.put, List.setIfInBounds_toArray, List.set_cons_zero, List.set_cons_succ])
        refine take_at 20 (some 132) (v := ?_) rfl rfl (by kernel_rfl) (by kernel_rfl) (by kernel_rfl) (fun _ _ _ h => h) ⟨by rfl, ?_⟩ hS ?_
        rotate_left
        · intro wq hSw; go_simp; try rfl
        simp only [Act.put, List.setIfInBounds_toArray, List.set_cons_zero, List.set_cons_succ]
        obtain ⟨gf, xf⟩ := Q8.out.page.get 2 _ rfl
        have Q9 := hide (Q8.out.stored (j := 2) (u := .slice av (k + 1) cv) (by simp))
        have hS9 : (w8.setCell ⟨w.heap.size + 1, 2, none⟩ (.slice av (k + 1) cv)).cell? ⟨X, 0, none⟩ = some (.int .i64 v2) ∧ (w8.setCell ⟨w.heap.size + 1, 2, none⟩ (.slice av (k + 1) cv)).cell? ⟨X, 1, none⟩ = some (.int .i64 v3) := by
          have K9 : Keep (fun i => i = w.heap.size + 1) w8 (w8.setCell ⟨w.heap.size + 1, 2, none⟩ (.slice av (k + 1) cv)) := (Keep.refl (fun i => i = w.heap.size + 1) w8).setCell (g := w.heap.size + 1) (j := 2) (fun _ => rfl) _
          exact ⟨(K9.cell (p := ⟨X, 0, none⟩) HX8.out NX.out).trans hS.1, (K9.cell (p := ⟨X, 1, none⟩) HX8.out NX.out).trans hS.2⟩
        have HS9 := hide hS9
        clear hS9
        refine wpAnyH_ready (rs := [21]) (by kernel_rfl) (by simp) ?_
        refine AllReadyH.cons rfl (fun K hK => ?_) AllReadyH.nil
        go_simp
        go_wp2_with fail
        refine hK.out _ _ HS9.out (fun hS => ?_)
        clear hK K
        (try simp only [Act.put, List.setIfInBounds_toArray, List.set_cons_zero, List.set_cons_succ])
        refine wpAnyH_done (by kernel_rfl) ?_ _
        go_wp2_with fail
        go_roundw
        case rel =>
          refine ⟨k + 1, .slice av (k + 1) cv, by go_num, rfl, by omega, ?_⟩
          have q2 := Q9.out
          have q3 : ctrsC (readC (k + 1) R) = ctrsC (readC k R) ++ ctrC ⟨v0, v1, v2, v3, v4⟩ := by rw [HSU.out]; exact rowsC_snoc _ _ _
          rw [q3]
          exact q2
        case measure => simp [intOf]; omega
      · go_simp
        go_wp2_with fail
        refine (GA0 w6 BW5.out).mono ?_
        rintro e w7 ⟨rfl, hw7⟩
        obtain rfl : w6 = w7 := hw7.symm
        clear hw7
        go_wp2_with fail
        refine hK.out _ _ hS (fun hS => ?_)
        clear hK K
        (try simp only [Act.put, List.setIfInBounds_toArray, List.set_cons_zero, List.set_cons_succ])
        refine take_at 5 (some 117) (v := ?_) rfl rfl (by kernel_rfl) (by kernel_rfl) (by kernel_rfl) (fun _ _ _ h => h) ⟨by rfl, ?_⟩ hS ?_
        rotate_left
        · intro wq hSw; go_simp; try rfl
        simp only [Act.put, List.setIfInBounds_toArray, List.set_cons_zero, List.set_cons_succ]
        refine wpAnyH_ready (rs := [1, 9]) (by kernel_rfl) (by simp) ?_
        refine AllReadyH.cons rfl (fun K hK => ?_) (AllReadyH.cons rfl (fun K hK => ?_) AllReadyH.nil)
        · go_simp
          go_wp2_with fail
          refine hK.out _ _ hS (fun hS => ?_)
          clear hK K
          (try simp only [Act.put, List.setIfInBounds_toArray, List.set_cons_zero, List.set_cons_succ])
          refine wpAnyH_ready (rs := [9]) (by kernel_rfl) (by simp) ?_
          refine AllReadyH.cons rfl (fun K hK => ?_) AllReadyH.nil
          go_simp
          go_wp2_with fail
          refine (GA1 w6 BW5.out).mono ?_
          rintro e w7 ⟨rfl, hw7⟩
          obtain rfl : w6 = w7 := hw7.symm
          clear hw7
          go_wp2_with fail
          refine hK.out _ _ hS (fun hS => ?_)
          clear hK K
          (try simp only [Act.put, List.setIfInBounds_toArray, List.set_cons_zero, List.set_cons_succ])
          refine take_at 10 (some 122) (v := ?_) rfl rfl (by kernel_rfl) (by kernel_rfl) (by kernel_rfl) (fun _ _ _ h => h) ⟨by rfl, ?_⟩ hS ?_
          rotate_left
          · intro wq hSw; go_simp; try rfl
          simp only [Act.put, List.setIfInBounds_toArray, List.set_cons_zero, List.set_cons_succ]
          refine wpAnyH_ready (rs := [15]) (by kernel_rfl) (by simp) ?_
          refine AllReadyH.cons rfl (fun K hK => ?_) AllReadyH.nil
          go_simp
          go_wp2_with fail
          refine (GA4 w6 BW5.out).mono ?_
          rintro e w7 ⟨rfl, hw7⟩
          obtain rfl : w6 = w7 := hw7.symm
          clear hw7
          go_wp2_with fail
          refine hK.out _ _ hS (fun hS => ?_)
          clear hK K
          (try simp only [Act.put, List.setIfInBounds_toArray, List.set_cons_zero, List.set_cons_succ])
          refine take_at 16 (some 128) (v := ?_) rfl rfl (by kernel_rfl) (by kernel_rfl) (by kernel_rfl) (fun _ _ _ h => h) ⟨by rfl, ?_⟩ hS ?_
          rotate_left
          · intro wq hSw; go_simp; try rfl
          simp only [Act.put, List.setIfInBounds_toArray, List.set_cons_zero, List.set_cons_succ]
          refine take_at 17 (some 129) (v := ?_) rfl rfl (by kernel_rfl) (by kernel_rfl) (by kernel_rfl) (fun _ _ _ h => h) ⟨by rfl, ?_⟩ hS ?_
          rotate_left
          · intro wq hSw; go_simp; try rfl
          simp only [Act.put, List.setIfInBounds_toArray, List.set_cons_zero, List.set_cons_succ]
          refine wpAnyH_ready (rs := [18]) (by kernel_rfl) (by simp) ?_
          refine AllReadyH.cons rfl (fun K hK => ?_) AllReadyH.nil
          go_simp
          go_wp2_with fail
          have Q7 := hide (Q5.out.below (alloc_below w6 (.cells #[.int .i64 v0, .int .i64 v1, .int .i64 v2, .int .i64 v3, .int .i64 v4] 49)))
          have hlie : Lies (w6.alloc (.cells #[.int .i64 v0, .int .i64 v1, .int .i64 v2, .int .i64 v3, .int .i64 v4] 49)) (some ⟨w6.heap.size, 0, none⟩) (ctrC ⟨v0, v1, v2, v3, v4⟩) := .inr ⟨w6.heap.size, 0, rfl, by simp, fun i hx => by rw [Nat.zero_add]; exact ((Cells.new w6 #[.int .i64 v0, .int .i64 v1, .int .i64 v2, .int .i64 v3, .int .i64 v4] 49).get i _ (List.getElem?_eq_getElem hx)).1⟩
          obtain ⟨ge, xe⟩ := Q7.out.page.get 2 _ rfl
          obtain ⟨v', w8, hrun, hr8, hg8, hv8⟩ := run_pushR Tryd.underlying22 info57 rfl (by decide) (by decide) 24 (w6.alloc (.cells #[.int .i64 v0, .int .i64 v1, .int .i64 v2, .int .i64 v3, .int .i64 v4] 49)) (w.heap.size + 2) v k (ctrsC (readC k R)) Q7.out.row ⟨w6.heap.size, 0, none⟩ 1 1 (ctrC ⟨v0, v1, v2, v3, v4⟩) rfl hlie (by intro u hu; simp [ctrC] at hu; rcases hu with rfl | rfl | rfl | rfl | rfl <;> rfl) (by omega) (by have := Q7.out.page.1; omega)
          obtain ⟨av, cv, rfl, -, -, -, -, -⟩ := GRow.lies hr8
          have Q8 := hide (Q7.out.grown hg8 hr8)
          have HRUN := hide hrun
          have KG : Keep (fun j => v.ownBlock = some j) (w6.alloc (.cells #[.int .i64 v0, .int .i64 v1, .int .i64 v2, .int .i64 v3, .int .i64 v4] 49)) w8 := (Keep.refl _ _).grown hg8 (fun j hj _ => hj)
          have hS7 : (w6.alloc (.cells #[.int .i64 v0, .int .i64 v1, .int .i64 v2, .int .i64 v3, .int .i64 v4] 49)).cell? ⟨X, 0, none⟩ = some (.int .i64 v2) ∧ (w6.alloc (.cells #[.int .i64 v0, .int .i64 v1, .int .i64 v2, .int .i64 v3, .int .i64 v4] 49)).cell? ⟨X, 1, none⟩ = some (.int .i64 v3) := ⟨((alloc_below w6 (.cells #[.int .i64 v0, .int .i64 v1, .int .i64 v2, .int .i64 v3, .int .i64 v4] 49)).cell (p := ⟨X, 0, none⟩) C5.out.1).trans hS.1, ((alloc_below w6 (.cells #[.int .i64 v0, .int .i64 v1, .int .i64 v2, .int .i64 v3, .int .i64 v4] 49)).cell (p := ⟨X, 1, none⟩) C5.out.1).trans hS.2⟩
          have hX7 : X < (w6.alloc (.cells #[.int .i64 v0, .int .i64 v1, .int .i64 v2, .int .i64 v3, .int .i64 v4] 49)).heap.size := by have := C5.out.1; simp; omega
          have HS8 := hide (show w8.cell? ⟨X, 0, none⟩ = some (.int .i64 v2) ∧ w8.cell? ⟨X, 1, none⟩ = some (.int .i64 v3) from ⟨(KG.cell (p := ⟨X, 0, none⟩) hX7 VNE.out).trans hS7.1, (KG.cell (p := ⟨X, 1, none⟩) hX7 VNE.out).trans hS7.2⟩)
          have HX8 := hide (Nat.lt_of_lt_of_le hX7 KG.size)
          have HS7 := hide hS7
          clear hrun hlie hg8 hr8 hv8 gc xc KG hS7 hX7
          refine hK.out _ _ HS7.out (fun hS => ?_)
          clear hK K
          (try simp only [Act.put, List.setIfInBounds_toArray, List.set_cons_zero, List.set_cons_succ])
          refine wpAnyH_ready (rs := [19]) (by kernel_rfl) (by simp) ?_
          refine AllReadyH.cons rfl (fun K hK => ?_) AllReadyH.nil
          refine wp_run 131 (.tmp 113) (.tmp 130) rfl rfl rfl rfl rfl HRUN.out ?_
          refine hK.out _ _ HS8.out (fun hS => ?_)
          clear hK K
          (try simp only [Act.put, List.setIfInBounds_toArray, List.set_cons_zero, List.set_cons_succ])
          refine take_at 20 (some 132) (v := ?_) rfl rfl (by kernel_rfl) (by kernel_rfl) (by kernel_rfl) (fun _ _ _ h => h) ⟨by rfl, ?_⟩ hS ?_
          rotate_left
          · intro wq hSw; go_simp; try rfl
          simp only [Act.put, List.setIfInBounds_toArray, List.set_cons_zero, List.set_cons_succ]
          obtain ⟨gf, xf⟩ := Q8.out.page.get 2 _ rfl
          have Q9 := hide (Q8.out.stored (j := 2) (u := .slice av (k + 1) cv) (by simp))
          have hS9 : (w8.setCell ⟨w.heap.size + 1, 2, none⟩ (.slice av (k + 1) cv)).cell? ⟨X, 0, none⟩ = some (.int .i64 v2) ∧ (w8.setCell ⟨w.heap.size + 1, 2, none⟩ (.slice av (k + 1) cv)).cell? ⟨X, 1, none⟩ = some (.int .i64 v3) := by
            have K9 : Keep (fun i => i = w.heap.size + 1) w8 (w8.setCell ⟨w.heap.size + 1, 2, none⟩ (.slice av (k + 1) cv)) := (Keep.refl (fun i => i = w.heap.size + 1) w8).setCell (g := w.heap.size + 1) (j := 2) (fun _ => rfl) _
            exact ⟨(K9.cell (p := ⟨X, 0, none⟩) HX8.out NX.out).trans hS.1, (K9.cell (p := ⟨X, 1, none⟩) HX8.out NX.out).trans hS.2⟩
          have HS9 := hide hS9
          clear hS9
          refine wpAnyH_ready (rs := [21]) (by kernel_rfl) (by simp) ?_
          refine AllReadyH.cons rfl (fun K hK => ?_) AllReadyH.nil
          go_simp
          go_wp2_with fail
          refine hK.out _ _ HS9.out (fun hS => ?_)
          clear hK K
          (try simp only [Act.put, List.setIfInBounds_toArray, List.set_cons_zero, List.set_cons_succ])
          refine wpAnyH_done (by kernel_rfl) ?_ _
          go_wp2_with fail
          go_roundw
          case rel =>
            refine ⟨k + 1, .slice av (k + 1) cv, by go_num, rfl, by omega, ?_⟩
            have q2 := Q9.out
            have q3 : ctrsC (readC (k + 1) R) = ctrsC (readC k R) ++ ctrC ⟨v0, v1, v2, v3, v4⟩ := by rw [HSU.out]; exact rowsC_snoc _ _ _
            rw [q3]
            exact q2
          case measure => simp [intOf]; omega
        · go_simp
          go_wp2_with fail
          refine (GA1 w6 BW5.out).mono ?_
          rintro e w7 ⟨rfl, hw7⟩
          obtain rfl : w6 = w7 := hw7.symm
          clear hw7
          go_wp2_with fail
          refine hK.out _ _ hS (fun hS => ?_)
          clear hK K
          (try simp only [Act.put, List.setIfInBounds_toArray, List.set_cons_zero, List.set_cons_succ])
          refine take_at 10 (some 122) (v := ?_) rfl rfl (by kernel_rfl) (by kernel_rfl) (by kernel_rfl) (fun _ _ _ h => h) ⟨by rfl, ?_⟩ hS ?_
          rotate_left
          · intro wq hSw; go_simp; try rfl
          simp only [Act.put, List.setIfInBounds_toArray, List.set_cons_zero, List.set_cons_succ]
          refine wpAnyH_ready (rs := [1, 15]) (by kernel_rfl) (by simp) ?_
          refine AllReadyH.cons rfl (fun K hK => ?_) (AllReadyH.cons rfl (fun K hK => ?_) AllReadyH.nil)
          · go_simp
            go_wp2_with fail
            refine hK.out _ _ hS (fun hS => ?_)
            clear hK K
            (try simp only [Act.put, List.setIfInBounds_toArray, List.set_cons_zero, List.set_cons_succ])
            refine wpAnyH_ready (rs := [15]) (by kernel_rfl) (by simp) ?_
            refine AllReadyH.cons rfl (fun K hK => ?_) AllReadyH.nil
            go_simp
            go_wp2_with fail
            refine (GA4 w6 BW5.out).mono ?_
            rintro e w7 ⟨rfl, hw7⟩
            obtain rfl : w6 = w7 := hw7.symm
            clear hw7
            go_wp2_with fail
            refine hK.out _ _ hS (fun hS => ?_)
            clear hK K
            (try simp only [Act.put, List.setIfInBounds_toArray, List.set_cons_zero, List.set_cons_succ])
            refine take_at 16 (some 128) (v := ?_) rfl rfl (by kernel_rfl) (by kernel_rfl) (by kernel_rfl) (fun _ _ _ h => h) ⟨by rfl, ?_⟩ hS ?_
            rotate_left
            · intro wq hSw; go_simp; try rfl
            simp only [Act.put, List.setIfInBounds_toArray, List.set_cons_zero, List.set_cons_succ]
            refine take_at 17 (some 129) (v := ?_) rfl rfl (by kernel_rfl) (by kernel_rfl) (by kernel_rfl) (fun _ _ _ h => h) ⟨by rfl, ?_⟩ hS ?_
            rotate_left
            · intro wq hSw; go_simp; try rfl
            simp only [Act.put, List.setIfInBounds_toArray, List.set_cons_zero, List.set_cons_succ]
            refine wpAnyH_ready (rs := [18]) (by kernel_rfl) (by simp) ?_
            refine AllReadyH.cons rfl (fun K hK => ?_) AllReadyH.nil
            go_simp
            go_wp2_with fail
            have Q7 := hide (Q5.out.below (alloc_below w6 (.cells #[.int .i64 v0, .int .i64 v1, .int .i64 v2, .int .i64 v3, .int .i64 v4] 49)))
            have hlie : Lies (w6.alloc (.cells #[.int .i64 v0, .int .i64 v1, .int .i64 v2, .int .i64 v3, .int .i64 v4] 49)) (some ⟨w6.heap.size, 0, none⟩) (ctrC ⟨v0, v1, v2, v3, v4⟩) := .inr ⟨w6.heap.size, 0, rfl, by simp, fun i hx => by rw [Nat.zero_add]; exact ((Cells.new w6 #[.int .i64 v0, .int .i64 v1, .int .i64 v2, .int .i64 v3, .int .i64 v4] 49).get i _ (List.getElem?_eq_getElem hx)).1⟩
            obtain ⟨ge, xe⟩ := Q7.out.page.get 2 _ rfl
            obtain ⟨v', w8, hrun, hr8, hg8, hv8⟩ := run_pushR Tryd.underlying22 info57 rfl (by decide) (by decide) 24 (w6.alloc (.cells #[.int .i64 v0, .int .i64 v1, .int .i64 v2, .int .i64 v3, .int .i64 v4] 49)) (w.heap.size + 2) v k (ctrsC (readC k R)) Q7.out.row ⟨w6.heap.size, 0, none⟩ 1 1 (ctrC ⟨v0, v1, v2, v3, v4⟩) rfl hlie (by intro u hu; simp [ctrC] at hu; rcases hu with rfl | rfl | rfl | rfl | rfl <;> rfl) (by omega) (by have := Q7.out.page.1; omega)
            obtain ⟨av, cv, rfl, -, -, -, -, -⟩ := GRow.lies hr8
            have Q8 := hide (Q7.out.grown hg8 hr8)
            have HRUN := hide hrun
            have KG : Keep (fun j => v.ownBlock = some j) (w6.alloc (.cells #[.int .i64 v0, .int .i64 v1, .int .i64 v2, .int .i64 v3, .int .i64 v4] 49)) w8 := (Keep.refl _ _).grown hg8 (fun j hj _ => hj)
            have hS7 : (w6.alloc (.cells #[.int .i64 v0, .int .i64 v1, .int .i64 v2, .int .i64 v3, .int .i64 v4] 49)).cell? ⟨X, 0, none⟩ = some (.int .i64 v2) ∧ (w6.alloc (.cells #[.int .i64 v0, .int .i64 v1, .int .i64 v2, .int .i64 v3, .int .i64 v4] 49)).cell? ⟨X, 1, none⟩ = some (.int .i64 v3) := ⟨((alloc_below w6 (.cells #[.int .i64 v0, .int .i64 v1, .int .i64 v2, .int .i64 v3, .int .i64 v4] 49)).cell (p := ⟨X, 0, none⟩) C5.out.1).trans hS.1, ((alloc_below w6 (.cells #[.int .i64 v0, .int .i64 v1, .int .i64 v2, .int .i64 v3, .int .i64 v4] 49)).cell (p := ⟨X, 1, none⟩) C5.out.1).trans hS.2⟩
            have hX7 : X < (w6.alloc (.cells #[.int .i64 v0, .int .i64 v1, .int .i64 v2, .int .i64 v3, .int .i64 v4] 49)).heap.size := by have := C5.out.1; simp; omega
            have HS8 := hide (show w8.cell? ⟨X, 0, none⟩ = some (.int .i64 v2) ∧ w8.cell? ⟨X, 1, none⟩ = some (.int .i64 v3) from ⟨(KG.cell (p := ⟨X, 0, none⟩) hX7 VNE.out).trans hS7.1, (KG.cell (p := ⟨X, 1, none⟩) hX7 VNE.out).trans hS7.2⟩)
            have HX8 := hide (Nat.lt_of_lt_of_le hX7 KG.size)
            have HS7 := hide hS7
            clear hrun hlie hg8 hr8 hv8 gc xc KG hS7 hX7
            refine hK.out _ _ HS7.out (fun hS => ?_)
            clear hK K
            (try simp only [Act.put, List.setIfInBounds_toArray, List.set_cons_zero, List.set_cons_succ])
            refine wpAnyH_ready (rs := [19]) (by kernel_rfl) (by simp) ?_
            refine AllReadyH.cons rfl (fun K hK => ?_) AllReadyH.nil
            refine wp_run 131 (.tmp 113) (.tmp 130) rfl rfl rfl rfl rfl HRUN.out ?_
            refine hK.out _ _ HS8.out (fun hS => ?_)
            clear hK K
            (try simp only [Act.put, List.setIfInBounds_toArray, List.set_cons_zero, List.set_cons_succ])
            refine take_at 20 (some 132) (v := ?_) rfl rfl (by kernel_rfl) (by kernel_rfl) (by kernel_rfl) (fun _ _ _ h => h) ⟨by rfl, ?_⟩ hS ?_
            rotate_left
            · intro wq hSw; go_simp; try rfl
            simp only [Act.put, List.setIfInBounds_toArray, List.set_cons_zero, List.set_cons_succ]
            obtain ⟨gf, xf⟩ := Q8.out.page.get 2 _ rfl
            have Q9 := hide (Q8.out.stored (j := 2) (u := .slice av (k + 1) cv) (by simp))
            have hS9 : (w8.setCell ⟨w.heap.size + 1, 2, none⟩ (.slice av (k + 1) cv)).cell? ⟨X, 0, none⟩ = some (.int .i64 v2) ∧ (w8.setCell ⟨w.heap.size + 1, 2, none⟩ (.slice av (k + 1) cv)).cell? ⟨X, 1, none⟩ = some (.int .i64 v3) := by
              have K9 : Keep (fun i => i = w.heap.size + 1) w8 (w8.setCell ⟨w.heap.size + 1, 2, none⟩ (.slice av (k + 1) cv)) := (Keep.refl (fun i => i = w.heap.size + 1) w8).setCell (g := w.heap.size + 1) (j := 2) (fun _ => rfl) _
              exact ⟨(K9.cell (p := ⟨X, 0, none⟩) HX8.out NX.out).trans hS.1, (K9.cell (p := ⟨X, 1, none⟩) HX8.out NX.out).trans hS.2⟩
            have HS9 := hide hS9
            clear hS9
            refine wpAnyH_ready (rs := [21]) (by kernel_rfl) (by simp) ?_
            refine AllReadyH.cons rfl (fun K hK => ?_) AllReadyH.nil
            go_simp
            go_wp2_with fail
            refine hK.out _ _ HS9.out (fun hS => ?_)
            clear hK K
            (try simp only [Act.put, List.setIfInBounds_toArray, List.set_cons_zero, List.set_cons_succ])
            refine wpAnyH_done (by kernel_rfl) ?_ _
            go_wp2_with fail
            go_roundw
            case rel =>
              refine ⟨k + 1, .slice av (k + 1) cv, by go_num, rfl, by omega, ?_⟩
              have q2 := Q9.out
              have q3 : ctrsC (readC (k + 1) R) = ctrsC (readC k R) ++ ctrC ⟨v0, v1, v2, v3, v4⟩ := by rw [HSU.out]; exact rowsC_snoc _ _ _
              rw [q3]
              exact q2
            case measure => simp [intOf]; omega
          · go_simp
            go_wp2_with fail
            refine (GA4 w6 BW5.out).mono ?_
            rintro e w7 ⟨rfl, hw7⟩
            obtain rfl : w6 = w7 := hw7.symm
            clear hw7
            go_wp2_with fail
            refine hK.out _ _ hS (fun hS => ?_)
            clear hK K
            (try simp only [Act.put, List.setIfInBounds_toArray, List.set_cons_zero, List.set_cons_succ])
            refine take_at 16 (some 128) (v := ?_) rfl rfl (by kernel_rfl) (by kernel_rfl) (by kernel_rfl) (fun _ _ _ h => h) ⟨by rfl, ?_⟩ hS ?_
            rotate_left
            · intro wq hSw; go_simp; try rfl
            simp only [Act.put, List.setIfInBounds_toArray, List.set_cons_zero, List.set_cons_succ]
            refine take_at 17 (some 129) (v := ?_) rfl rfl (by kernel_rfl) (by kernel_rfl) (by kernel_rfl) (fun _ _ _ h => h) ⟨by rfl, ?_⟩ hS ?_
            rotate_left
            · intro wq hSw; go_simp; try rfl
            simp only [Act.put, List.setIfInBounds_toArray, List.set_cons_zero, List.set_cons_succ]
            refine wpAnyH_ready (rs := [1, 18]) (by kernel_rfl) (by simp) ?_
            refine AllReadyH.cons rfl (fun K hK => ?_) (AllReadyH.cons rfl (fun K hK => ?_) AllReadyH.nil)
            · go_simp
              go_wp2_with fail
              refine hK.out _ _ hS (fun hS => ?_)
              clear hK K
              (try simp only [Act.put, List.setIfInBounds_toArray, List.set_cons_zero, List.set_cons_succ])
              refine wpAnyH_ready (rs := [18]) (by kernel_rfl) (by simp) ?_
              refine AllReadyH.cons rfl (fun K hK => ?_) AllReadyH.nil
              go_simp
              go_wp2_with fail
              have Q7 := hide (Q5.out.below (alloc_below w6 (.cells #[.int .i64 v0, .int .i64 v1, .int .i64 v2, .int .i64 v3, .int .i64 v4] 49)))
              have hlie : Lies (w6.alloc (.cells #[.int .i64 v0, .int .i64 v1, .int .i64 v2, .int .i64 v3, .int .i64 v4] 49)) (some ⟨w6.heap.size, 0, none⟩) (ctrC ⟨v0, v1, v2, v3, v4⟩) := .inr ⟨w6.heap.size, 0, rfl, by simp, fun i hx => by rw [Nat.zero_add]; exact ((Cells.new w6 #[.int .i64 v0, .int .i64 v1, .int .i64 v2, .int .i64 v3, .int .i64 v4] 49).get i _ (List.getElem?_eq_getElem hx)).1⟩
              obtain ⟨ge, xe⟩ := Q7.out.page.get 2 _ rfl
              obtain ⟨v', w8, hrun, hr8, hg8, hv8⟩ := run_pushR Tryd.underlying22 info57 rfl (by decide) (by decide) 24 (w6.alloc (.cells #[.int .i64 v0, .int .i64 v1, .int .i64 v2, .int .i64 v3, .int .i64 v4] 49)) (w.heap.size + 2) v k (ctrsC (readC k R)) Q7.out.row ⟨w6.heap.size, 0, none⟩ 1 1 (ctrC ⟨v0, v1, v2, v3, v4⟩) rfl hlie (by intro u hu; simp [ctrC] at hu; rcases hu with rfl | rfl | rfl | rfl | rfl <;> rfl) (by omega) (by have := Q7.out.page.1; omega)
              obtain ⟨av, cv, rfl, -, -, -, -, -⟩ := GRow.lies hr8
              have Q8 := hide (Q7.out.grown hg8 hr8)
              have HRUN := hide hrun
              have KG : Keep (fun j => v.ownBlock = some j) (w6.alloc (.cells #[.int .i64 v0, .int .i64 v1, .int .i64 v2, .int .i64 v3, .int .i64 v4] 49)) w8 := (Keep.refl _ _).grown hg8 (fun j hj _ => hj)
              have hS7 : (w6.alloc (.cells #[.int .i64 v0, .int .i64 v1, .int .i64 v2, .int .i64 v3, .int .i64 v4] 49)).cell? ⟨X, 0, none⟩ = some (.int .i64 v2) ∧ (w6.alloc (.cells #[.int .i64 v0, .int .i64 v1, .int .i64 v2, .int .i64 v3, .int .i64 v4] 49)).cell? ⟨X, 1, none⟩ = some (.int .i64 v3) := ⟨((alloc_below w6 (.cells #[.int .i64 v0, .int .i64 v1, .int .i64 v2, .int .i64 v3, .int .i64 v4] 49)).cell (p := ⟨X, 0, none⟩) C5.out.1).trans hS.1, ((alloc_below w6 (.cells #[.int .i64 v0, .int .i64 v1, .int .i64 v2, .int .i64 v3, .int .i64 v4] 49)).cell (p := ⟨X, 1, none⟩) C5.out.1).trans hS.2⟩
              have hX7 : X < (w6.alloc (.cells #[.int .i64 v0, .int .i64 v1, .int .i64 v2, .int .i64 v3, .int .i64 v4] 49)).heap.size := by have := C5.out.1; simp; omega
              have HS8 := hide (show w8.cell? ⟨X, 0, none⟩ = some (.int .i64 v2) ∧ w8.cell? ⟨X, 1, none⟩ = some (.int .i64 v3) from ⟨(KG.cell (p := ⟨X, 0, none⟩) hX7 VNE.out).trans hS7.1, (KG.cell (p := ⟨X, 1, none⟩) hX7 VNE.out).trans hS7.2⟩)
              have HX8 := hide (Nat.lt_of_lt_of_le hX7 KG.size)
              have HS7 := hide hS7
              clear hrun hlie hg8 hr8 hv8 gc xc KG hS7 hX7
              refine hK.out _ _ HS7.out (fun hS => ?_)
              clear hK K
              (try simp only [Act.put, List.setIfInBounds_toArray, List.set_cons_zero, List.set_cons_succ])
              refine wpAnyH_ready (rs := [19]) (by kernel_rfl) (by simp) ?_
              refine AllReadyH.cons rfl (fun K hK => ?_) AllReadyH.nil
              refine wp_run 131 (.tmp 113) (.tmp 130) rfl rfl rfl rfl rfl HRUN.out ?_
              refine hK.out _ _ HS8.out (fun hS => ?_)
              clear hK K
              (try simp only [Act.put, List.setIfInBounds_toArray, List.set_cons_zero, List.set_cons_succ])
              refine take_at 20 (some 132) (v := ?_) rfl rfl (by kernel_rfl) (by kernel_rfl) (by kernel_rfl) (fun _ _ _ h => h) ⟨by rfl, ?_⟩ hS ?_
              rotate_left
              · intro wq hSw; go_simp; try rfl
              simp only [Act.put, List.setIfInBounds_toArray, List.set_cons_zero, List.set_cons_succ]
              obtain ⟨gf, xf⟩ := Q8.out.page.get 2 _ rfl
              have Q9 := hide (Q8.out.stored (j := 2) (u := .slice av (k + 1) cv) (by simp))
              have hS9 : (w8.setCell ⟨w.heap.size + 1, 2, none⟩ (.slice av (k + 1) cv)).cell? ⟨X, 0, none⟩ = some (.int .i64 v2) ∧ (w8.setCell ⟨w.heap.size + 1, 2, none⟩ (.slice av (k + 1) cv)).cell? ⟨X, 1, none⟩ = some (.int .i64 v3) := by
                have K9 : Keep (fun i => i = w.heap.size + 1) w8 (w8.setCell ⟨w.heap.size + 1, 2, none⟩ (.slice av (k + 1) cv)) := (Keep.refl (fun i => i = w.heap.size + 1) w8).setCell (g := w.heap.size + 1) (j := 2) (fun _ => rfl) _
                exact ⟨(K9.cell (p := ⟨X, 0, none⟩) HX8.out NX.out).trans hS.1, (K9.cell (p := ⟨X, 1, none⟩) HX8.out NX.out).trans hS.2⟩
              have HS9 := hide hS9
              clear hS9
              refine wpAnyH_ready (rs := [21]) (by kernel_rfl) (by simp) ?_
              refine AllReadyH.cons rfl (fun K hK => ?_) AllReadyH.nil
              go_simp
              go_wp2_with fail
              refine hK.out _ _ HS9.out (fun hS => ?_)
              clear hK K
              (try simp only [Act.put, List.setIfInBounds_toArray, List.set_cons_zero, List.set_cons_succ])
              refine wpAnyH_done (by kernel_rfl) ?_ _
              go_wp2_with fail
              go_roundw
              case rel =>
                refine ⟨k + 1, .slice av (k + 1) cv, by go_num, rfl, by omega, ?_⟩
                have q2 := Q9.out
                have q3 : ctrsC (readC (k + 1) R) = ctrsC (readC k R) ++ ctrC ⟨v0, v1, v2, v3, v4⟩ := by rw [HSU.out]; exact rowsC_snoc _ _ _
                rw [q3]
                exact q2
              case measure => simp [intOf]; omega
            · go_simp
              go_wp2_with fail
              have Q7 := hide (Q5.out.below (alloc_below w6 (.cells #[.int .i64 v0, .int .i64 v1, .int .i64 v2, .int .i64 v3, .int .i64 v4] 49)))
              have hlie : Lies (w6.alloc (.cells #[.int .i64 v0, .int .i64 v1, .int .i64 v2, .int .i64 v3, .int .i64 v4] 49)) (some ⟨w6.heap.size, 0, none⟩) (ctrC ⟨v0, v1, v2, v3, v4⟩) := .inr ⟨w6.heap.size, 0, rfl, by simp, fun i hx => by rw [Nat.zero_add]; exact ((Cells.new w6 #[.int .i64 v0, .int .i64 v1, .int .i64 v2, .int .i64 v3, .int .i64 v4] 49).get i _ (List.getElem?_eq_getElem hx)).1⟩
              obtain ⟨ge, xe⟩ := Q7.out.page.get 2 _ rfl
              obtain ⟨v', w8, hrun, hr8, hg8, hv8⟩ := run_pushR Tryd.underlying22 info57 rfl (by decide) (by decide) 24 (w6.alloc (.cells #[.int .i64 v0, .int .i64 v1, .int .i64 v2, .int .i64 v3, .int .i64 v4] 49)) (w.heap.size + 2) v k (ctrsC (readC k R)) Q7.out.row ⟨w6.heap.size, 0, none⟩ 1 1 (ctrC ⟨v0, v1, v2, v3, v4⟩) rfl hlie (by intro u hu; simp [ctrC] at hu; rcases hu with rfl | rfl | rfl | rfl | rfl <;> rfl) (by omega) (by have := Q7.out.page.1; omega)
              obtain ⟨av, cv, rfl, -, -, -, -, -⟩ := GRow.lies hr8
              have Q8 := hide (Q7.out.grown hg8 hr8)
              have HRUN := hide hrun
              have KG : Keep (fun j => v.ownBlock = some j) (w6.alloc (.cells #[.int .i64 v0, .int .i64 v1, .int .i64 v2, .int .i64 v3, .int .i64 v4] 49)) w8 := (Keep.refl _ _).grown hg8 (fun j hj _ => hj)
              have hS7 : (w6.alloc (.cells #[.int .i64 v0, .int .i64 v1, .int .i64 v2, .int .i64 v3, .int .i64 v4] 49)).cell? ⟨X, 0, none⟩ = some (.int .i64 v2) ∧ (w6.alloc (.cells #[.int .i64 v0, .int .i64 v1, .int .i64 v2, .int .i64 v3, .int .i64 v4] 49)).cell? ⟨X, 1, none⟩ = some (.int .i64 v3) := ⟨((alloc_below w6 (.cells #[.int .i64 v0, .int .i64 v1, .int .i64 v2, .int .i64 v3, .int .i64 v4] 49)).cell (p := ⟨X, 0, none⟩) C5.out.1).trans hS.1, ((alloc_below w6 (.cells #[.int .i64 v0, .int .i64 v1, .int .i64 v2, .int .i64 v3, .int .i64 v4] 49)).cell (p := ⟨X, 1, none⟩) C5.out.1).trans hS.2⟩
              have hX7 : X < (w6.alloc (.cells #[.int .i64 v0, .int .i64 v1, .int .i64 v2, .int .i64 v3, .int .i64 v4] 49)).heap.size := by have := C5.out.1; simp; omega
              have HS8 := hide (show w8.cell? ⟨X, 0, none⟩ = some (.int .i64 v2) ∧ w8.cell? ⟨X, 1, none⟩ = some (.int .i64 v3) from ⟨(KG.cell (p := ⟨X, 0, none⟩) hX7 VNE.out).trans hS7.1, (KG.cell (p := ⟨X, 1, none⟩) hX7 VNE.out).trans hS7.2⟩)
              have HX8 := hide (Nat.lt_of_lt_of_le hX7 KG.size)
              have HS7 := hide hS7
              clear hrun hlie hg8 hr8 hv8 gc xc KG hS7 hX7
              refine hK.out _ _ HS7.out (fun hS => ?_)
              clear hK K
              (try simp only [Act.put, List.setIfInBounds_toArray, List.set_cons_zero, List.set_cons_succ])
              refine wpAnyH_ready (rs := [1]) (by kernel_rfl) (by simp) ?_
              refine AllReadyH.cons rfl (fun K hK => ?_) AllReadyH.nil
              go_simp
              go_wp2_with fail
              refine hK.out _ _ hS (fun hS => ?_)
              clear hK K
              (try simp only [Act.put, List.setIfInBounds_toArray, List.set_cons_zero, List.set_cons_succ])
              refine wpAnyH_ready (rs := [19]) (by kernel_rfl) (by simp) ?_
              refine AllReadyH.cons rfl (fun K hK => ?_) AllReadyH.nil
              refine wp_run 131 (.tmp 113) (.tmp 130) rfl rfl rfl rfl rfl HRUN.out ?_
              refine hK.out _ _ HS8.out (fun hS => ?_)
              clear hK K
              (try simp only [Act.put, List.setIfInBounds_toArray, List.set_cons_zero, List.set_cons_succ])
              refine take_at 20 (some 132) (v := ?_) rfl rfl (by kernel_rfl) (by kernel_rfl) (by kernel_rfl) (fun _ _ _ h => h) ⟨by rfl, ?_⟩ hS ?_
              rotate_left
              · intro wq hSw; go_simp; try rfl
              simp only [Act.put, List.setIfInBounds_toArray, List.set_cons_zero, List.set_cons_succ]
              obtain ⟨gf, xf⟩ := Q8.out.page.get 2 _ rfl
              have Q9 := hide (Q8.out.stored (j := 2) (u := .slice av (k + 1) cv) (by simp))
              have hS9 : (w8.setCell ⟨w.heap.size + 1, 2, none⟩ (.slice av (k + 1) cv)).cell? ⟨X, 0, none⟩ = some (.int .i64 v2) ∧ (w8.setCell ⟨w.heap.size + 1, 2, none⟩ (.slice av (k + 1) cv)).cell? ⟨X, 1, none⟩ = some (.int .i64 v3) := by
                have K9 : Keep (fun i => i = w.heap.size + 1) w8 (w8.setCell ⟨w.heap.size + 1, 2, none⟩ (.slice av (k + 1) cv)) := (Keep.refl (fun i => i = w.heap.size + 1) w8).setCell (g := w.heap.size + 1) (j := 2) (fun _ => rfl) _
                exact ⟨(K9.cell (p := ⟨X, 0, none⟩) HX8.out NX.out).trans hS.1, (K9.cell (p := ⟨X, 1, none⟩) HX8.out NX.out).trans hS.2⟩
              have HS9 := hide hS9
              clear hS9
              refine wpAnyH_ready (rs := [21]) (by kernel_rfl) (by simp) ?_
              refine AllReadyH.cons rfl (fun K hK => ?_) AllReadyH.nil
              go_simp
              go_wp2_with fail
              refine hK.out _ _ HS9.out (fun hS => ?_)
              clear hK K
              (try simp only [Act.put, List.setIfInBounds_toArray, List.set_cons_zero, List.set_cons_succ])
              refine wpAnyH_done (by kernel_rfl) ?_ _
              go_wp2_with fail
              go_roundw
              case rel =>
                refine ⟨k + 1, .slice av (k + 1) cv, by go_num, rfl, by omega, ?_⟩
                have q2 := Q9.out
                have q3 : ctrsC (readC (k + 1) R) = ctrsC (readC k R) ++ ctrC ⟨v0, v1, v2, v3, v4⟩ := by rw [HSU.out]; exact rowsC_snoc _ _ _
                rw [q3]
                exact q2
              case measure => simp [intOf]; omega
    · obtain rfl : k = n3 := by omega
      obtain ⟨av, cv, rfl, hlie, -, -, -, -⟩ := GRow.lies hrq.row
      obtain ⟨p0', -⟩ := hrq.page.get 0 _ rfl
      obtain ⟨p1', -⟩ := hrq.page.get 1 _ rfl
      obtain ⟨p2', -⟩ := hrq.page.get 2 _ rfl
      obtain ⟨p3', -⟩ := hrq.page.get 3 _ rfl
      have CT3 := CT av cv wr hlie
      clear hlie hrq X1
      go_wp2_with fail
      refine CT3.mono ?_
      rintro e w3 ⟨rfl, b3⟩
      have Q3 := hide (HQ.out.below b3)
      have hzz := World.ownsRow.lt Q3.out.row
      have HROW := hide (show ∀ g, (Value.slice av k cv).ownBlock = some g → g ≠ w.heap.size from fun g hg q => by have := (hzz g hg).1; omega)
      have Y6 := C6x w3 Q3.out.bel
      have Y7 := C7x w3 Q3.out.bel
      have R3 := RZ2 w3 Q3.out.bel
      clear p0' p1' p2' p3' CT3 b3 hzz HQ R0 HTK CT G4 G8 G12 G2 SM RZ GT CX CY C6x C7x RZ2 HSB
      generalize l.getD 6 0 = x6 at *
      generalize l.getD 7 0 = x7 at *
      obtain ⟨z0, zx0⟩ := Q3.out.zero.get 0 _ rfl
      obtain ⟨z1, zx1⟩ := Q3.out.zero.get 1 _ rfl
      obtain ⟨z2, zx2⟩ := Q3.out.zero.get 2 _ rfl
      obtain ⟨z3, zx3⟩ := Q3.out.zero.get 3 _ rfl
      obtain ⟨p0', -⟩ := Q3.out.page.get 0 _ rfl
      obtain ⟨p1', -⟩ := Q3.out.page.get 1 _ rfl
      obtain ⟨p2', -⟩ := Q3.out.page.get 2 _ rfl
      obtain ⟨p3', -⟩ := Q3.out.page.get 3 _ rfl
      by_cases hse : SE = 0
      case neg =>
        have hd : (SE != 0) = true := by simp; exact hse
        have HV := hide (show RE = SE from by rw [HRE.out]; rw [if_pos hse])
        have HVP := hide (HPP1.out (by rw [HV.out]; exact hse))
        have K11 := (((((Keep.refl (fun i => i = w.heap.size) w3).setCell (g := w.heap.size) (j := 0) (fun _ => rfl) (.int .i64 0)).setCell (g := w.heap.size) (j := 1) (fun _ => rfl) (.int .i64 0)).setCell (g := w.heap.size) (j := 2) (fun _ => rfl) (.slice none 0 0)).setCell (g := w.heap.size) (j := 3) (fun _ => rfl) (.slice none 0 0))
        have C11 := ((((Q3.out.zero.stored (j := 0) (by simp) (.int .i64 0)).stored (j := 1) (by simp) (.int .i64 0)).stored (j := 2) (by simp) (.slice none 0 0)).stored (j := 3) (by simp) (.slice none 0 0))
        obtain ⟨k0, _⟩ := C11.get 0 _ rfl
        obtain ⟨k1, _⟩ := C11.get 1 _ rfl
        obtain ⟨k2, _⟩ := C11.get 2 _ rfl
        obtain ⟨k3, _⟩ := C11.get 3 _ rfl
        have BF := hide (Q3.out.bel.trans (K11.below Q3.out.bel.size (fun i hi q => by omega)))
        clear K11 C11
        go_wp2_with fail
        refine bodyPost_ret (v := .tuple #[.agg #[.int .i64 0, .int .i64 0, .slice none 0 0, .slice none 0 0], .int .i64 SE]) (by simp only [results, Tryd.results14]; simp [go_sem, k0, k1, k2, k3]) rfl ?_
        refine ⟨_, by rw [HV.out], ?_, BF.out⟩
        rw [HVP.out]
        exact PageOut.nil _ _ _
      subst hse
      by_cases h6 : x6 = 0
      case neg =>
        have hd : ((x6 : Int) != 0) = true := by simp; omega
        have HV := hide (show RE = 23 from by rw [HRE.out]; rw [if_neg (by simp), if_pos (Or.inl (by have := H4.out; omega))])
        have HVP := hide (HPP1.out (by rw [HV.out]; decide))
        have K11 := (((((Keep.refl (fun i => i = w.heap.size) w3).setCell (g := w.heap.size) (j := 0) (fun _ => rfl) (.int .i64 0)).setCell (g := w.heap.size) (j := 1) (fun _ => rfl) (.int .i64 0)).setCell (g := w.heap.size) (j := 2) (fun _ => rfl) (.slice none 0 0)).setCell (g := w.heap.size) (j := 3) (fun _ => rfl) (.slice none 0 0))
        have C11 := ((((Q3.out.zero.stored (j := 0) (by simp) (.int .i64 0)).stored (j := 1) (by simp) (.int .i64 0)).stored (j := 2) (by simp) (.slice none 0 0)).stored (j := 3) (by simp) (.slice none 0 0))
        obtain ⟨k0, _⟩ := C11.get 0 _ rfl
        obtain ⟨k1, _⟩ := C11.get 1 _ rfl
        obtain ⟨k2, _⟩ := C11.get 2 _ rfl
        obtain ⟨k3, _⟩ := C11.get 3 _ rfl
        have BF := hide (Q3.out.bel.trans (K11.below Q3.out.bel.size (fun i hi q => by omega)))
        clear K11 C11
        go_wp2_with fail
        refine bodyPost_ret (v := .tuple #[.agg #[.int .i64 0, .int .i64 0, .slice none 0 0, .slice none 0 0], .int .i64 23]) (by simp only [results, Tryd.results14]; simp [go_sem, k0, k1, k2, k3]) rfl ?_
        refine ⟨_, by rw [HV.out], ?_, BF.out⟩
        rw [HVP.out]
        exact PageOut.nil _ _ _
      subst h6
      by_cases h7 : x7 = 0
      case neg =>
        have hd : ((x7 : Int) != 0) = true := by simp; omega
        have HV := hide (show RE = 23 from by rw [HRE.out]; rw [if_neg (by simp), if_pos (Or.inl (by have := H4.out; omega))])
        have HVP := hide (HPP1.out (by rw [HV.out]; decide))
        have K11 := (((((Keep.refl (fun i => i = w.heap.size) w3).setCell (g := w.heap.size) (j := 0) (fun _ => rfl) (.int .i64 0)).setCell (g := w.heap.size) (j := 1) (fun _ => rfl) (.int .i64 0)).setCell (g := w.heap.size) (j := 2) (fun _ => rfl) (.slice none 0 0)).setCell (g := w.heap.size) (j := 3) (fun _ => rfl) (.slice none 0 0))
        have C11 := ((((Q3.out.zero.stored (j := 0) (by simp) (.int .i64 0)).stored (j := 1) (by simp) (.int .i64 0)).stored (j := 2) (by simp) (.slice none 0 0)).stored (j := 3) (by simp) (.slice none 0 0))
        obtain ⟨k0, _⟩ := C11.get 0 _ rfl
        obtain ⟨k1, _⟩ := C11.get 1 _ rfl
        obtain ⟨k2, _⟩ := C11.get 2 _ rfl
        obtain ⟨k3, _⟩ := C11.get 3 _ rfl
        have BF := hide (Q3.out.bel.trans (K11.below Q3.out.bel.size (fun i hi q => by omega)))
        clear K11 C11
        go_wp2_with fail
        refine bodyPost_ret (v := .tuple #[.agg #[.int .i64 0, .int .i64 0, .slice none 0 0, .slice none 0 0], .int .i64 23]) (by simp only [results, Tryd.results14]; simp [go_sem, k0, k1, k2, k3]) rfl ?_
        refine ⟨_, by rw [HV.out], ?_, BF.out⟩
        rw [HVP.out]
        exact PageOut.nil _ _ _
      subst h7
      obtain rfl : n4 = 0 := by have := H4.out; omega
      cases az with
      | false =>
        have HV := hide (show RE = 23 from by rw [HRE.out]; simp)
        have HVP := hide (HPP1.out (by rw [HV.out]; decide))
        have K11 := (((((Keep.refl (fun i => i = w.heap.size) w3).setCell (g := w.heap.size) (j := 0) (fun _ => rfl) (.int .i64 0)).setCell (g := w.heap.size) (j := 1) (fun _ => rfl) (.int .i64 0)).setCell (g := w.heap.size) (j := 2) (fun _ => rfl) (.slice none 0 0)).setCell (g := w.heap.size) (j := 3) (fun _ => rfl) (.slice none 0 0))
        have C11 := ((((Q3.out.zero.stored (j := 0) (by simp) (.int .i64 0)).stored (j := 1) (by simp) (.int .i64 0)).stored (j := 2) (by simp) (.slice none 0 0)).stored (j := 3) (by simp) (.slice none 0 0))
        obtain ⟨k0, _⟩ := C11.get 0 _ rfl
        obtain ⟨k1, _⟩ := C11.get 1 _ rfl
        obtain ⟨k2, _⟩ := C11.get 2 _ rfl
        obtain ⟨k3, _⟩ := C11.get 3 _ rfl
        have BF := hide (Q3.out.bel.trans (K11.below Q3.out.bel.size (fun i hi q => by omega)))
        clear K11 C11
        go_wp2_with fail
        refine R3.mono ?_
        rintro e w4 ⟨rfl, hw4⟩
        obtain rfl : w3 = w4 := hw4.symm
        clear hw4
        go_wp2_with fail
        refine bodyPost_ret (v := .tuple #[.agg #[.int .i64 0, .int .i64 0, .slice none 0 0, .slice none 0 0], .int .i64 23]) (by simp only [results, Tryd.results14]; simp [go_sem, k0, k1, k2, k3]) rfl ?_
        refine ⟨_, by rw [HV.out], ?_, BF.out⟩
        rw [HVP.out]
        exact PageOut.nil _ _ _
      | true =>
        have HV := hide (show RE = 0 from by rw [HRE.out]; simp)
        have HVP := hide (HPP0.out HV.out)
        have K11 := (((((Keep.refl (fun i => i = w.heap.size) w3).setCell (g := w.heap.size) (j := 0) (fun _ => rfl) (.int .i64 (n2 : Int))).setCell (g := w.heap.size) (j := 1) (fun _ => rfl) (.int .i64 (n5 : Int))).setCell (g := w.heap.size) (j := 2) (fun _ => rfl) (.slice av k cv)).setCell (g := w.heap.size) (j := 3) (fun _ => rfl) (.slice none 0 0))
        have C11 := ((((Q3.out.zero.stored (j := 0) (by simp) (.int .i64 (n2 : Int))).stored (j := 1) (by simp) (.int .i64 (n5 : Int))).stored (j := 2) (by simp) (.slice av k cv)).stored (j := 3) (by simp) (.slice none 0 0))
        obtain ⟨k0, _⟩ := C11.get 0 _ rfl
        obtain ⟨k1, _⟩ := C11.get 1 _ rfl
        obtain ⟨k2, _⟩ := C11.get 2 _ rfl
        obtain ⟨k3, _⟩ := C11.get 3 _ rfl
        have BF := hide (Q3.out.bel.trans (K11.below Q3.out.bel.size (fun i hi q => by omega)))
        have GR := hide (GRow.mono (B' := w.heap.size) (Q3.out.row.keep K11 (fun g hg q => HROW.out g hg q)) (by omega))
        clear K11 C11
        go_wp2_with fail
        refine R3.mono ?_
        rintro e w4 ⟨rfl, hw4⟩
        obtain rfl : w3 = w4 := hw4.symm
        clear hw4
        go_wp2_with fail
        refine bodyPost_ret (v := .tuple #[.agg #[.int .i64 (n2 : Int), .int .i64 (n5 : Int), .slice av k cv, .slice none 0 0], .int .i64 0]) (by simp only [results, Tryd.results14]; simp [go_sem, k0, k1, k2, k3]) rfl ?_
        refine ⟨_, by rw [HV.out], ?_, BF.out⟩
        rw [HVP.out]
        refine ⟨_, _, rfl, ?_, ?_⟩
        · simp only [readC_length]; exact GR.out
        · exact World.ownsRow_nil _ _ _ _
end Go.Proofs.YtakjpljpdlhicabDoor
