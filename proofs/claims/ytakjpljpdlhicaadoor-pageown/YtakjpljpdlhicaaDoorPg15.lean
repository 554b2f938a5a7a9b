import Derived.Test.YtakjpljpdlhicaaDoorPg8
namespace Go.Proofs.YtakjpljpdlhicaaDoor
open Go.RowKit Go.QK Go.Pg
set_option maxRecDepth 100000
theorem info57 : (Tryd.prog.info? 57).map (fun i => (i.zero, i.size, i.bytes)) = some (some (.agg #[.int .i64 0, .int .i64 0, .int .i64 0, .int .i64 0, .int .i64 0]), 5, 40) := by kernel_rfl
theorem info59 : (Tryd.prog.info? 59).map (fun i => (i.zero, i.size, i.bytes)) = some (some (.agg #[.int .i64 0, .int .i64 0]), 2, 16) := by kernel_rfl
theorem readC_succ : (k : Nat) → (l : List Nat) → readC (k + 1) l = readC k l ++ [ctrOf (takeN ctrS (l.drop (32 * k)))]
  | 0, l => by simp [readC]
  | k + 1, l => by
    have q : 32 + 32 * k = 32 * (k + 1) := by omega
    rw [readC, readC_succ k (l.drop 32), readC, List.drop_drop, List.cons_append, q]
theorem readG_succ : (k : Nat) → (l : List Nat) → readG (k + 1) l = readG k l ++ [grpOf (takeN grpS (l.drop (12 * k)))]
  | 0, l => by simp [readG]
  | k + 1, l => by
    have q : 12 + 12 * k = 12 * (k + 1) := by omega
    rw [readG, readG_succ k (l.drop 12), readG, List.drop_drop, List.cons_append, q]
theorem rowsC_snoc {α : Type} (f : α → List Value) (l : List α) (x : α) : rowsC f (l ++ [x]) = rowsC f l ++ f x := by simp [rowsC]
theorem five {l : List Nat} (h : l.length = 5) : ∃ a b c d e, l = [a, b, c, d, e] := by
  match l, h with
  | [a, b, c, d, e], _ => exact ⟨a, b, c, d, e, rfl⟩
theorem two {l : List Nat} (h : l.length = 2) : ∃ a b, l = [a, b] := by
  match l, h with
  | [a, b], _ => exact ⟨a, b, rfl⟩
/-- What stands while a page is read. -/
structure Rp (w ws : World) (e : TypeId) (size k : Nat) (head page : List Value) (v : Value) (xs : List Value) : Prop where
  head : Cells ws w.heap.size head
  zero : Cells ws (w.heap.size + 1) [.int .i64 0, .int .i64 0, .slice none 0 0, .slice none 0 0]
  page : Cells ws (w.heap.size + 2) page
  row : GRow ws (w.heap.size + 3) e size v k xs
  bel : Below w.heap.size w ws
theorem Rp.below {w ws w' : World} {e : TypeId} {size k : Nat} {head page : List Value} {v : Value} {xs : List Value} (h : Rp w ws e size k head page v xs) (b : Below ws.heap.size ws w') : Rp w w' e size k head page v xs :=
  ⟨h.head.below b, h.zero.below b, h.page.below b, h.row.below b, bnext h.bel b (Nat.le_refl _)⟩
theorem Rp.grown {w ws w' : World} {e : TypeId} {size k k' : Nat} {head page : List Value} {v v' : Value} {xs xs' : List Value} (h : Rp w ws e size k head page v xs) (g : ws.grownBy w' v.ownBlock) (r : GRow w' (w.heap.size + 3) e size v' k' xs') : Rp w w' e size k' head page v' xs' := by
  have hlt := World.ownsRow.lt h.row
  have K : Keep (fun j => v.ownBlock = some j) ws w' := (Keep.refl _ _).grown g (fun j hj _ => hj)
  have hn : ∀ j, j < w.heap.size + 3 → ¬ v.ownBlock = some j := fun j hj q => by have := (hlt j q).1; omega
  exact ⟨h.head.keep K (hn _ (by omega)), h.zero.keep K (hn _ (by omega)), h.page.keep K (hn _ (by omega)), r, h.bel.trans (K.below h.bel.size (fun j hj => hn j (by omega)))⟩
theorem Rp.stored {w ws : World} {e : TypeId} {size k j : Nat} {head page : List Value} {v u : Value} {xs : List Value} (h : Rp w ws e size k head page v xs) (hj : j < page.length) : Rp w (ws.setCell ⟨w.heap.size + 2, j, none⟩ u) e size k head (page.set j u) v xs := by
  have hlt := World.ownsRow.lt h.row
  have K : Keep (fun i => i = w.heap.size + 2) ws (ws.setCell ⟨w.heap.size + 2, j, none⟩ u) := (Keep.refl (fun i => i = w.heap.size + 2) ws).setCell (g := w.heap.size + 2) (j := j) (fun _ => rfl) u
  exact ⟨h.head.other (by omega), h.zero.other (by omega), h.page.stored hj u, h.row.keep K (fun g hg q => by have := (hlt g hg).1; omega), h.bel.trans (K.below h.bel.size (fun i hi q => by omega))⟩
set_option maxHeartbeats 16000000 in
theorem readPage1_any (a : Option Addr) (c n0 n2 n3 n4 n5 n6 : Nat) (l : List Nat) (w : World) (hs : Bytes w a l) (hb : AllB l) (hl : l.length = 1008) (hc : 1008 ≤ c) (h2 : n2 < 65536) (h3 : n3 ≤ 31) (h5 : n5 < 4294967296) :
    Calls Tryd.prog 29 #[head7 n0 1 n2 n3 n4 n5 n6, .slice a l.length c] w fun e w' => ∃ v a', e = .returned (.tuple #[.agg #[.int .i64 (n2 : Int), .int .i64 (n5 : Int), v, .slice none 0 0], .slice a' (l.drop (32 * n3)).length (c - 32 * n3)]) ∧ GRow w' (w.heap.size + 3) 57 5 v n3 (ctrsC (readC n3 l)) ∧ (∀ W, Bytes W a l → Bytes W a' (l.drop (32 * n3))) ∧ Below w.heap.size w w' := by
  have e2 : IntKind.i64.wrap (n2 : Int) = (n2 : Int) := by rw [IntKind.wrap_i64]; omega
  have e5 : IntKind.i64.wrap (n5 : Int) = (n5 : Int) := by rw [IntKind.wrap_i64]; omega
  have HL := hide hl
  clear hl
  go_enter Tryd.func29, Tryd.ntmps29
  go_upto_region 2 with fail
  refine named (P := Code.wp _ _ _ _) ?_
  intro w2 hw2
  have rp0 : Rp w w2 57 5 0 [.int .u64 (n0 : Int), .int .u64 1, .int .u64 (n2 : Int), .int .u64 (n3 : Int), .int .u64 (n4 : Int), .int .u64 (n5 : Int), .int .u64 (n6 : Int)] [.int .i64 (n2 : Int), .int .i64 (n5 : Int), .slice none 0 0, .slice none 0 0] (.slice none 0 0) [] := by
    rw [hw2]
    have q1 := Cells.new w #[.int .u64 (n0 : Int), .int .u64 1, .int .u64 (n2 : Int), .int .u64 (n3 : Int), .int .u64 (n4 : Int), .int .u64 (n5 : Int), .int .u64 (n6 : Int)] 65
    have q2 := Cells.new (w.alloc (.cells #[.int .u64 (n0 : Int), .int .u64 1, .int .u64 (n2 : Int), .int .u64 (n3 : Int), .int .u64 (n4 : Int), .int .u64 (n5 : Int), .int .u64 (n6 : Int)] 65)) #[.int .i64 0, .int .i64 0, .slice none 0 0, .slice none 0 0] 27
    have q3 := Cells.new ((w.alloc (.cells #[.int .u64 (n0 : Int), .int .u64 1, .int .u64 (n2 : Int), .int .u64 (n3 : Int), .int .u64 (n4 : Int), .int .u64 (n5 : Int), .int .u64 (n6 : Int)] 65)).alloc (.cells #[.int .i64 0, .int .i64 0, .slice none 0 0, .slice none 0 0] 27)) #[.int .i64 (n2 : Int), .int .i64 (n5 : Int), .slice none 0 0, .slice none 0 0] 27
    simp only [World.size_alloc] at q2 q3
    exact ⟨(q1.below (alloc_below _ _)).below (alloc_below _ _), q2.below (alloc_below _ _), q3, World.ownsRow_nil _ _ _ _, bnext (bnext (alloc_below _ _) (alloc_below _ _) (Nat.le_refl _)) (alloc_below _ _) (Nat.le_refl _)⟩
  have R0 := hide rp0
  clear hw2 rp0
  obtain ⟨g3, x3⟩ := R0.out.head.get 3 _ rfl
  go_wp2_with fail
  go_loopw [1, 17] (fun bv i ws => ∃ (k : Nat) (ak : Option Addr) (v : Value), i = .int .u64 (k : Int) ∧ k ≤ n3 ∧ bv = .slice ak (l.drop (32 * k)).length (c - 32 * k) ∧ (∀ W, Bytes W a l → Bytes W ak (l.drop (32 * k))) ∧
    Rp w ws 57 5 k [.int .u64 (n0 : Int), .int .u64 1, .int .u64 (n2 : Int), .int .u64 (n3 : Int), .int .u64 (n4 : Int), .int .u64 (n5 : Int), .int .u64 (n6 : Int)] [.int .i64 (n2 : Int), .int .i64 (n5 : Int), v, .slice none 0 0] v (ctrsC (readC k l))) (fun _ i _ => n3 - (intOf i).toNat)
  case atStart => exact ⟨0, a, .slice none 0 0, rfl, Nat.zero_le _, rfl, fun _ h => h, R0.out⟩
  case round =>
    obtain ⟨k, ak, v, rfl, hk, rfl, hbk, hrp⟩ := hrel
    by_cases hlt : k < n3
    · have HR := hide hrp
      have HBK := hide hbk
      obtain ⟨g1, x1⟩ := hrp.head.get 1 _ rfl
      have hll := HL.out
      have hdl : (l.drop (32 * k)).length = 1008 - 32 * k := by rw [List.length_drop, hll]
      have hsz : 32 ≤ (l.drop (32 * k)).length := by omega
      have hcc : (l.drop (32 * k)).length ≤ c - 32 * k := by omega
      have hab : AllB (l.drop (32 * k)) := hb.drop _
      have hdd : (l.drop (32 * k)).drop 32 = l.drop (32 * (k + 1)) := by rw [List.drop_drop]; congr 1
      have hfit := takeN_fit ctrS (l.drop (32 * k)) hab hsz
      have hln := takeN_length ctrS (l.drop (32 * k))
      have hsucc := readC_succ k l
      have TK := fun w sa (h1 : Seen .i64 w (some ⟨sa, 0, none⟩) (ints ctrS)) (h2 : Bytes w ak (l.drop (32 * k))) => take_any ak (some ⟨sa, 0, none⟩) (c - 32 * k) 5 (l.drop (32 * k)) ctrS w h2 hab (by omega) hcc sizesC h1 (by decide) hsz
      have TK : ∀ w sa, Seen .i64 w (some ⟨sa, 0, none⟩) (ints ctrS) → Bytes w ak (l.drop (32 * k)) → Calls Tryd.prog 45 #[.slice ak (l.drop (32 * k)).length (c - 32 * k), .slice (some ⟨sa, 0, none⟩) 5 5] w fun e w' => ∃ v a', e = .returned (.tuple #[v, .slice a' ((l.drop (32 * k)).drop 32).length (c - 32 * k - 32)]) ∧ OwnU w' w.heap.size v (takeN ctrS (l.drop (32 * k))) ∧ (∀ W, Bytes W ak (l.drop (32 * k)) → Bytes W a' ((l.drop (32 * k)).drop 32)) ∧ Below w.heap.size w w' := TK
      simp only [hdd] at TK
      obtain ⟨m0, m1, m2, m3, m4, hm⟩ := five hln
      rw [hm] at TK hfit hsucc
      obtain ⟨b0, b1, b2, b3, b4, -⟩ := hfit
      have b0 := lt4 b0
      have b1 := lt4 b1
      have b2 := lt8 b2
      have b3 := lt8 b3
      have b4 := lt8 b4
      have CO := fun (g cap : Nat) w (h : Seen .u64 w (some ⟨g, 0, none⟩) (ints [m0, m1, m2, m3, m4])) => counterOf_any (some ⟨g, 0, none⟩) cap m0 m1 m2 m3 m4 w h (by omega) (by omega) b2 b3 b4
      simp only [ctrOf, List.getD_cons_zero, List.getD_cons_succ] at hsucc
      generalize sg m0 = s0 at *
      generalize sg m1 = s1 at *
      generalize sg m2 = s2 at *
      generalize sg m3 = s3 at *
      generalize sg m4 = s4 at *
      have HSU := hide hsucc
      have HTK := hide TK
      have HDL := hide hdl
      clear hsucc TK hdl hsz hcc hab hdd hm hln hll hbk hrp b0 b1 b2 b3 b4 g3 x3
      generalize hmm : (l.drop (32 * k)).length = M at *
      generalize hm2 : c - 32 * k = M2 at *
      have HMM := hide hmm
      have HM2 := hide hm2
      clear hmm hm2
      go_wp2_with fail
      refine (counterSizes_any wr).mono ?_
      rintro e w3 ⟨rfl, hss, b3, z3⟩
      have R3 := hide (HR.out.below b3)
      have TK3 := HTK.out w3 wr.heap.size hss (HBK.out w3 (hs.below R3.out.bel))
      clear hss b3 z3
      go_wp2_with fail
      refine TK3.mono ?_
      rintro e w4 ⟨nv, a', rfl, ho, hba, b4⟩
      have R4 := hide (R3.out.below b4)
      obtain ⟨gv, cap, rfl, -, hBg, hgl⟩ := Owns.form ho (by simp)
      have hsee := Owns.seen_at ho
      have z3 := R3.out.page.1
      have HBA := hide hba
      have HGV := hide (show w.heap.size + 3 ≤ gv by omega)
      clear ho b4 hba TK3
      have hlen : (ints [m0, m1, m2, m3, m4]).length = 5 := rfl
      rw [hlen] at *
      clear hlen z3 hBg
      have CO4 := hide (CO gv cap w4.drew (hsee.below (Below.refl _ _).drew))
      have R5 := hide (R4.out.below (Below.refl _ _).drew)
      clear hsee CO
      go_upto_region 7 with fail
      refine wp_region_held_drew (S := fun _ => True) (by kernel_rfl) trivial (fun hS => ?_)
      generalize w4.drew = w5 at *
      obtain ⟨gc, xc⟩ := R5.out.page.get 2 _ rfl
      refine take_at 0 (some 28) (v := ?_) rfl rfl (by kernel_rfl) (by kernel_rfl) (by kernel_rfl) (fun _ _ _ h => h) ⟨by rfl, ?_⟩ hS ?_
      rotate_left
      · intro wq hSw; go_simp; try rfl
      simp only [Act.put, List.setIfInBounds_toArray, List.set_cons_zero, List.set_cons_succ]
      refine take_at 2 (some 30) (v := ?_) rfl rfl (by kernel_rfl) (by kernel_rfl) (by kernel_rfl) (fun _ _ _ h => h) ⟨by rfl, ?_⟩ hS ?_
      rotate_left
      · intro wq hSw; go_simp; try rfl
      simp only [Act.put, List.setIfInBounds_toArray, List.set_cons_zero, List.set_cons_succ]
      refine wpAnyH_ready (rs := [1, 3]) (by kernel_rfl) (by simp) ?_
      refine AllReadyH.cons rfl (fun K hK => ?_) (AllReadyH.cons rfl (fun K hK => ?_) AllReadyH.nil)
      · go_simp
        go_wp2_with fail
        refine hK.out _ _ trivial (fun hS => ?_)
        clear hK K
        (try simp only [Act.put, List.setIfInBounds_toArray, List.set_cons_zero, List.set_cons_succ])
        refine wpAnyH_ready (rs := [3]) (by kernel_rfl) (by simp) ?_
        refine AllReadyH.cons rfl (fun K hK => ?_) AllReadyH.nil
        go_simp
        go_wp2_with fail
        refine CO4.out.mono ?_
        rintro e w6 ⟨rfl, b6⟩
        have R6 := hide (R5.out.below b6)
        obtain ⟨gd, xd⟩ := R6.out.page.get 2 _ rfl
        clear b6 gc xc
        go_wp2_with fail
        refine hK.out _ _ trivial (fun hS => ?_)
        clear hK K
        (try simp only [Act.put, List.setIfInBounds_toArray, List.set_cons_zero, List.set_cons_succ])
        refine wpAnyH_ready (rs := [4]) (by kernel_rfl) (by simp) ?_
        refine AllReadyH.cons rfl (fun K hK => ?_) AllReadyH.nil
        go_simp
        go_wp2_with fail
        have R7 := hide (R6.out.below (alloc_below w6 (.cells #[.int .i64 s0, .int .i64 s1, .int .i64 s2, .int .i64 s3, .int .i64 s4] 57)))
        have hlie : Lies (w6.alloc (.cells #[.int .i64 s0, .int .i64 s1, .int .i64 s2, .int .i64 s3, .int .i64 s4] 57)) (some ⟨w6.heap.size, 0, none⟩) (ctrC ⟨s0, s1, s2, s3, s4⟩) := .inr ⟨w6.heap.size, 0, rfl, by simp, fun i hi => by rw [Nat.zero_add]; exact ((Cells.new w6 #[.int .i64 s0, .int .i64 s1, .int .i64 s2, .int .i64 s3, .int .i64 s4] 57).get i _ (List.getElem?_eq_getElem hi)).1⟩
        obtain ⟨ge, xe⟩ := R7.out.page.get 2 _ rfl
        obtain ⟨v', w8, hrun, hr8, hg8, hv8⟩ := run_pushR Tryd.underlying24 info57 rfl (by decide) (by decide) 24 (w6.alloc (.cells #[.int .i64 s0, .int .i64 s1, .int .i64 s2, .int .i64 s3, .int .i64 s4] 57)) (w.heap.size + 3) v k (ctrsC (readC k l)) R7.out.row ⟨w6.heap.size, 0, none⟩ 1 1 (ctrC ⟨s0, s1, s2, s3, s4⟩) rfl hlie (by intro u hu; simp [ctrC] at hu; rcases hu with rfl | rfl | rfl | rfl | rfl <;> rfl) (by omega) (by have := R7.out.page.1; omega)
        obtain ⟨av, cv, rfl, -, -, -, -, -⟩ := GRow.lies hr8
        have R8 := hide (R7.out.grown hg8 hr8)
        have HRUN := hide hrun
        clear hrun hlie hg8 hr8 hv8 gd xd
        refine hK.out _ _ trivial (fun hS => ?_)
        clear hK K
        (try simp only [Act.put, List.setIfInBounds_toArray, List.set_cons_zero, List.set_cons_succ])
        refine wpAnyH_ready (rs := [5]) (by kernel_rfl) (by simp) ?_
        refine AllReadyH.cons rfl (fun K hK => ?_) AllReadyH.nil
        refine wp_run 33 (.tmp 29) (.tmp 32) rfl rfl rfl rfl rfl HRUN.out ?_
        refine hK.out _ _ trivial (fun hS => ?_)
        clear hK K
        (try simp only [Act.put, List.setIfInBounds_toArray, List.set_cons_zero, List.set_cons_succ])
        refine take_at 6 (some 34) (v := ?_) rfl rfl (by kernel_rfl) (by kernel_rfl) (by kernel_rfl) (fun _ _ _ h => h) ⟨by rfl, ?_⟩ hS ?_
        rotate_left
        · intro wq hSw; go_simp; try rfl
        simp only [Act.put, List.setIfInBounds_toArray, List.set_cons_zero, List.set_cons_succ]
        obtain ⟨gf, xf⟩ := R8.out.page.get 2 _ rfl
        have R9 := hide (R8.out.stored (j := 2) (u := .slice av (k + 1) cv) (by simp))
        refine wpAnyH_ready (rs := [7]) (by kernel_rfl) (by simp) ?_
        refine AllReadyH.cons rfl (fun K hK => ?_) AllReadyH.nil
        go_simp
        go_wp2_with fail
        refine hK.out _ _ trivial (fun hS => ?_)
        clear hK K
        (try simp only [Act.put, List.setIfInBounds_toArray, List.set_cons_zero, List.set_cons_succ])
        refine wpAnyH_done (by kernel_rfl) ?_ _
        go_wp2_with fail
        go_roundw
        case rel =>
          refine ⟨k + 1, a', .slice av (k + 1) cv, by go_num, by omega, ?_, ?_, ?_⟩
          · have q1 : c - 32 * (k + 1) = M2 - 32 := by have := HM2.out; omega
            rw [q1, List.length_drop]
          · exact fun W hW => HBA.out W (HBK.out W hW)
          · have := R9.out
            have q2 : ctrsC (readC (k + 1) l) = ctrsC (readC k l) ++ ctrC ⟨s0, s1, s2, s3, s4⟩ := by rw [HSU.out]; exact rowsC_snoc _ _ _
            rw [q2]
            exact this
        case measure => simp [intOf]; omega
      · go_simp
        go_wp2_with fail
        refine CO4.out.mono ?_
        rintro e w6 ⟨rfl, b6⟩
        have R6 := hide (R5.out.below b6)
        obtain ⟨gd, xd⟩ := R6.out.page.get 2 _ rfl
        clear b6 gc xc
        go_wp2_with fail
        refine hK.out _ _ trivial (fun hS => ?_)
        clear hK K
        (try simp only [Act.put, List.setIfInBounds_toArray, List.set_cons_zero, List.set_cons_succ])
        refine wpAnyH_ready (rs := [1, 4]) (by kernel_rfl) (by simp) ?_
        refine AllReadyH.cons rfl (fun K hK => ?_) (AllReadyH.cons rfl (fun K hK => ?_) AllReadyH.nil)
        · go_simp
          go_wp2_with fail
          refine hK.out _ _ trivial (fun hS => ?_)
          clear hK K
          (try simp only [Act.put, List.setIfInBounds_toArray, List.set_cons_zero, List.set_cons_succ])
          refine wpAnyH_ready (rs := [4]) (by kernel_rfl) (by simp) ?_
          refine AllReadyH.cons rfl (fun K hK => ?_) AllReadyH.nil
          go_simp
          go_wp2_with fail
          have R7 := hide (R6.out.below (alloc_below w6 (.cells #[.int .i64 s0, .int .i64 s1, .int .i64 s2, .int .i64 s3, .int .i64 s4] 57)))
          have hlie : Lies (w6.alloc (.cells #[.int .i64 s0, .int .i64 s1, .int .i64 s2, .int .i64 s3, .int .i64 s4] 57)) (some ⟨w6.heap.size, 0, none⟩) (ctrC ⟨s0, s1, s2, s3, s4⟩) := .inr ⟨w6.heap.size, 0, rfl, by simp, fun i hi => by rw [Nat.zero_add]; exact ((Cells.new w6 #[.int .i64 s0, .int .i64 s1, .int .i64 s2, .int .i64 s3, .int .i64 s4] 57).get i _ (List.getElem?_eq_getElem hi)).1⟩
          obtain ⟨ge, xe⟩ := R7.out.page.get 2 _ rfl
          obtain ⟨v', w8, hrun, hr8, hg8, hv8⟩ := run_pushR Tryd.underlying24 info57 rfl (by decide) (by decide) 24 (w6.alloc (.cells #[.int .i64 s0, .int .i64 s1, .int .i64 s2, .int .i64 s3, .int .i64 s4] 57)) (w.heap.size + 3) v k (ctrsC (readC k l)) R7.out.row ⟨w6.heap.size, 0, none⟩ 1 1 (ctrC ⟨s0, s1, s2, s3, s4⟩) rfl hlie (by intro u hu; simp [ctrC] at hu; rcases hu with rfl | rfl | rfl | rfl | rfl <;> rfl) (by omega) (by have := R7.out.page.1; omega)
          obtain ⟨av, cv, rfl, -, -, -, -, -⟩ := GRow.lies hr8
          have R8 := hide (R7.out.grown hg8 hr8)
          have HRUN := hide hrun
          clear hrun hlie hg8 hr8 hv8 gd xd
          refine hK.out _ _ trivial (fun hS => ?_)
          clear hK K
          (try simp only [Act.put, List.setIfInBounds_toArray, List.set_cons_zero, List.set_cons_succ])
          refine wpAnyH_ready (rs := [5]) (by kernel_rfl) (by simp) ?_
          refine AllReadyH.cons rfl (fun K hK => ?_) AllReadyH.nil
          refine wp_run 33 (.tmp 29) (.tmp 32) rfl rfl rfl rfl rfl HRUN.out ?_
          refine hK.out _ _ trivial (fun hS => ?_)
          clear hK K
          (try simp only [Act.put, List.setIfInBounds_toArray, List.set_cons_zero, List.set_cons_succ])
          refine take_at 6 (some 34) (v := ?_) rfl rfl (by kernel_rfl) (by kernel_rfl) (by kernel_rfl) (fun _ _ _ h => h) ⟨by rfl, ?_⟩ hS ?_
          rotate_left
          · intro wq hSw; go_simp; try rfl
          simp only [Act.put, List.setIfInBounds_toArray, List.set_cons_zero, List.set_cons_succ]
          obtain ⟨gf, xf⟩ := R8.out.page.get 2 _ rfl
          have R9 := hide (R8.out.stored (j := 2) (u := .slice av (k + 1) cv) (by simp))
          refine wpAnyH_ready (rs := [7]) (by kernel_rfl) (by simp) ?_
          refine AllReadyH.cons rfl (fun K hK => ?_) AllReadyH.nil
          go_simp
          go_wp2_with fail
          refine hK.out _ _ trivial (fun hS => ?_)
          clear hK K
          (try simp only [Act.put, List.setIfInBounds_toArray, List.set_cons_zero, List.set_cons_succ])
          refine wpAnyH_done (by kernel_rfl) ?_ _
          go_wp2_with fail
          go_roundw
          case rel =>
            refine ⟨k + 1, a', .slice av (k + 1) cv, by go_num, by omega, ?_, ?_, ?_⟩
            · have q1 : c - 32 * (k + 1) = M2 - 32 := by have := HM2.out; omega
              rw [q1, List.length_drop]
            · exact fun W hW => HBA.out W (HBK.out W hW)
            · have := R9.out
              have q2 : ctrsC (readC (k + 1) l) = ctrsC (readC k l) ++ ctrC ⟨s0, s1, s2, s3, s4⟩ := by rw [HSU.out]; exact rowsC_snoc _ _ _
              rw [q2]
              exact this
          case measure => simp [intOf]; omega
        · go_simp
          go_wp2_with fail
          have R7 := hide (R6.out.below (alloc_below w6 (.cells #[.int .i64 s0, .int .i64 s1, .int .i64 s2, .int .i64 s3, .int .i64 s4] 57)))
          have hlie : Lies (w6.alloc (.cells #[.int .i64 s0, .int .i64 s1, .int .i64 s2, .int .i64 s3, .int .i64 s4] 57)) (some ⟨w6.heap.size, 0, none⟩) (ctrC ⟨s0, s1, s2, s3, s4⟩) := .inr ⟨w6.heap.size, 0, rfl, by simp, fun i hi => by rw [Nat.zero_add]; exact ((Cells.new w6 #[.int .i64 s0, .int .i64 s1, .int .i64 s2, .int .i64 s3, .int .i64 s4] 57).get i _ (List.getElem?_eq_getElem hi)).1⟩
          obtain ⟨ge, xe⟩ := R7.out.page.get 2 _ rfl
          obtain ⟨v', w8, hrun, hr8, hg8, hv8⟩ := run_pushR Tryd.underlying24 info57 rfl (by decide) (by decide) 24 (w6.alloc (.cells #[.int .i64 s0, .int .i64 s1, .int .i64 s2, .int .i64 s3, .int .i64 s4] 57)) (w.heap.size + 3) v k (ctrsC (readC k l)) R7.out.row ⟨w6.heap.size, 0, none⟩ 1 1 (ctrC ⟨s0, s1, s2, s3, s4⟩) rfl hlie (by intro u hu; simp [ctrC] at hu; rcases hu with rfl | rfl | rfl | rfl | rfl <;> rfl) (by omega) (by have := R7.out.page.1; omega)
          obtain ⟨av, cv, rfl, -, -, -, -, -⟩ := GRow.lies hr8
          have R8 := hide (R7.out.grown hg8 hr8)
          have HRUN := hide hrun
          clear hrun hlie hg8 hr8 hv8 gd xd
          refine hK.out _ _ trivial (fun hS => ?_)
          clear hK K
          (try simp only [Act.put, List.setIfInBounds_toArray, List.set_cons_zero, List.set_cons_succ])
          refine wpAnyH_ready (rs := [1]) (by kernel_rfl) (by simp) ?_
          refine AllReadyH.cons rfl (fun K hK => ?_) AllReadyH.nil
          go_simp
          go_wp2_with fail
          refine hK.out _ _ trivial (fun hS => ?_)
          clear hK K
          (try simp only [Act.put, List.setIfInBounds_toArray, List.set_cons_zero, List.set_cons_succ])
          refine wpAnyH_ready (rs := [5]) (by kernel_rfl) (by simp) ?_
          refine AllReadyH.cons rfl (fun K hK => ?_) AllReadyH.nil
          refine wp_run 33 (.tmp 29) (.tmp 32) rfl rfl rfl rfl rfl HRUN.out ?_
          refine hK.out _ _ trivial (fun hS => ?_)
          clear hK K
          (try simp only [Act.put, List.setIfInBounds_toArray, List.set_cons_zero, List.set_cons_succ])
          refine take_at 6 (some 34) (v := ?_) rfl rfl (by kernel_rfl) (by kernel_rfl) (by kernel_rfl) (fun _ _ _ h => h) ⟨by rfl, ?_⟩ hS ?_
          rotate_left
          · intro wq hSw; go_simp; try rfl
          simp only [Act.put, List.setIfInBounds_toArray, List.set_cons_zero, List.set_cons_succ]
          obtain ⟨gf, xf⟩ := R8.out.page.get 2 _ rfl
          have R9 := hide (R8.out.stored (j := 2) (u := .slice av (k + 1) cv) (by simp))
          refine wpAnyH_ready (rs := [7]) (by kernel_rfl) (by simp) ?_
          refine AllReadyH.cons rfl (fun K hK => ?_) AllReadyH.nil
          go_simp
          go_wp2_with fail
          refine hK.out _ _ trivial (fun hS => ?_)
          clear hK K
          (try simp only [Act.put, List.setIfInBounds_toArray, List.set_cons_zero, List.set_cons_succ])
          refine wpAnyH_done (by kernel_rfl) ?_ _
          go_wp2_with fail
          go_roundw
          case rel =>
            refine ⟨k + 1, a', .slice av (k + 1) cv, by go_num, by omega, ?_, ?_, ?_⟩
            · have q1 : c - 32 * (k + 1) = M2 - 32 := by have := HM2.out; omega
              rw [q1, List.length_drop]
            · exact fun W hW => HBA.out W (HBK.out W hW)
            · have := R9.out
              have q2 : ctrsC (readC (k + 1) l) = ctrsC (readC k l) ++ ctrC ⟨s0, s1, s2, s3, s4⟩ := by rw [HSU.out]; exact rowsC_snoc _ _ _
              rw [q2]
              exact this
          case measure => simp [intOf]; omega
    · obtain rfl : k = n3 := by omega
      have HR := hide hrp
      have HBK := hide hbk
      obtain ⟨av, cv, rfl, -, -, -, -, -⟩ := GRow.lies hrp.row
      obtain ⟨g0, x0⟩ := hrp.page.get 0 _ rfl
      obtain ⟨g1, x1⟩ := hrp.page.get 1 _ rfl
      obtain ⟨g2, x2⟩ := hrp.page.get 2 _ rfl
      obtain ⟨g3', x3'⟩ := hrp.page.get 3 _ rfl
      obtain ⟨y0, z0⟩ := hrp.zero.get 0 _ rfl
      obtain ⟨y1, z1⟩ := hrp.zero.get 1 _ rfl
      obtain ⟨y2, z2⟩ := hrp.zero.get 2 _ rfl
      obtain ⟨y3, z3⟩ := hrp.zero.get 3 _ rfl
      have C6 := (((hrp.zero.stored (j := 0) (by simp) (.int .i64 (n2 : Int))).stored (j := 1) (by simp) (.int .i64 (n5 : Int))).stored (j := 2) (by simp) (.slice av k cv)).stored (j := 3) (by simp) (.slice none 0 0)
      have K6 := ((((Keep.refl (fun i => i = w.heap.size + 1) wr).setCell (g := w.heap.size + 1) (j := 0) (fun _ => rfl) (.int .i64 (n2 : Int))).setCell (g := w.heap.size + 1) (j := 1) (fun _ => rfl) (.int .i64 (n5 : Int))).setCell (g := w.heap.size + 1) (j := 2) (fun _ => rfl) (.slice av k cv)).setCell (g := w.heap.size + 1) (j := 3) (fun _ => rfl) (.slice none 0 0)
      have hlt9 := World.ownsRow.lt hrp.row
      have GR := hide (hrp.row.keep K6 (fun g hg q => by have := (hlt9 g hg).1; omega))
      have BF := hide (hrp.bel.trans (K6.below hrp.bel.size (fun i hi q => by omega)))
      obtain ⟨k0, _⟩ := C6.get 0 _ rfl
      obtain ⟨k1, _⟩ := C6.get 1 _ rfl
      obtain ⟨k2, _⟩ := C6.get 2 _ rfl
      obtain ⟨k3, _⟩ := C6.get 3 _ rfl
      have hll := HL.out
      have hdl : (l.drop (32 * k)).length = l.length - 32 * k := List.length_drop
      rw [hdl]
      clear hbk hrp g3 x3 C6 K6 hlt9 hll hdl
      go_wp2_with fail
      refine bodyPost_ret (v := .tuple #[.agg #[.int .i64 (n2 : Int), .int .i64 (n5 : Int), .slice av k cv, .slice none 0 0], .slice ak (l.length - 32 * k) (c - 32 * k)]) (by simp only [results, Tryd.results29]; simp [go_sem, k0, k1, k2, k3]) rfl ?_
      exact ⟨_, ak, by rw [List.length_drop], GR.out, HBK.out, BF.out⟩
set_option maxHeartbeats 16000000 in
theorem readPage2_any (a : Option Addr) (c n0 n2 n3 n4 n5 n6 : Nat) (l : List Nat) (w : World) (hs : Bytes w a l) (hb : AllB l) (hl : l.length = 1008) (hc : 1008 ≤ c) (h2 : n2 < 65536) (h3 : n3 ≤ 84) (h5 : n5 < 4294967296) :
    Calls Tryd.prog 29 #[head7 n0 2 n2 n3 n4 n5 n6, .slice a l.length c] w fun e w' => ∃ v a', e = .returned (.tuple #[.agg #[.int .i64 (n2 : Int), .int .i64 (n5 : Int), .slice none 0 0, v], .slice a' (l.drop (12 * n3)).length (c - 12 * n3)]) ∧ GRow w' (w.heap.size + 3) 59 2 v n3 (grpsC (readG n3 l)) ∧ (∀ W, Bytes W a l → Bytes W a' (l.drop (12 * n3))) ∧ Below w.heap.size w w' := by
  have e2 : IntKind.i64.wrap (n2 : Int) = (n2 : Int) := by rw [IntKind.wrap_i64]; omega
  have e5 : IntKind.i64.wrap (n5 : Int) = (n5 : Int) := by rw [IntKind.wrap_i64]; omega
  have HL := hide hl
  clear hl
  go_enter Tryd.func29, Tryd.ntmps29
  go_upto_region 2 with fail
  refine named (P := Code.wp _ _ _ _) ?_
  intro w2 hw2
  have rp0 : Rp w w2 59 2 0 [.int .u64 (n0 : Int), .int .u64 2, .int .u64 (n2 : Int), .int .u64 (n3 : Int), .int .u64 (n4 : Int), .int .u64 (n5 : Int), .int .u64 (n6 : Int)] [.int .i64 (n2 : Int), .int .i64 (n5 : Int), .slice none 0 0, .slice none 0 0] (.slice none 0 0) [] := by
    rw [hw2]
    have q1 := Cells.new w #[.int .u64 (n0 : Int), .int .u64 2, .int .u64 (n2 : Int), .int .u64 (n3 : Int), .int .u64 (n4 : Int), .int .u64 (n5 : Int), .int .u64 (n6 : Int)] 65
    have q2 := Cells.new (w.alloc (.cells #[.int .u64 (n0 : Int), .int .u64 2, .int .u64 (n2 : Int), .int .u64 (n3 : Int), .int .u64 (n4 : Int), .int .u64 (n5 : Int), .int .u64 (n6 : Int)] 65)) #[.int .i64 0, .int .i64 0, .slice none 0 0, .slice none 0 0] 27
    have q3 := Cells.new ((w.alloc (.cells #[.int .u64 (n0 : Int), .int .u64 2, .int .u64 (n2 : Int), .int .u64 (n3 : Int), .int .u64 (n4 : Int), .int .u64 (n5 : Int), .int .u64 (n6 : Int)] 65)).alloc (.cells #[.int .i64 0, .int .i64 0, .slice none 0 0, .slice none 0 0] 27)) #[.int .i64 (n2 : Int), .int .i64 (n5 : Int), .slice none 0 0, .slice none 0 0] 27
    simp only [World.size_alloc] at q2 q3
    exact ⟨(q1.below (alloc_below _ _)).below (alloc_below _ _), q2.below (alloc_below _ _), q3, World.ownsRow_nil _ _ _ _, bnext (bnext (alloc_below _ _) (alloc_below _ _) (Nat.le_refl _)) (alloc_below _ _) (Nat.le_refl _)⟩
  have R0 := hide rp0
  clear hw2 rp0
  obtain ⟨g3, x3⟩ := R0.out.head.get 3 _ rfl
  go_wp2_with fail
  go_loopw [1, 17] (fun bv i ws => ∃ (k : Nat) (ak : Option Addr) (v : Value), i = .int .u64 (k : Int) ∧ k ≤ n3 ∧ bv = .slice ak (l.drop (12 * k)).length (c - 12 * k) ∧ (∀ W, Bytes W a l → Bytes W ak (l.drop (12 * k))) ∧
    Rp w ws 59 2 k [.int .u64 (n0 : Int), .int .u64 2, .int .u64 (n2 : Int), .int .u64 (n3 : Int), .int .u64 (n4 : Int), .int .u64 (n5 : Int), .int .u64 (n6 : Int)] [.int .i64 (n2 : Int), .int .i64 (n5 : Int), .slice none 0 0, v] v (grpsC (readG k l))) (fun _ i _ => n3 - (intOf i).toNat)
  case atStart => exact ⟨0, a, .slice none 0 0, rfl, Nat.zero_le _, rfl, fun _ h => h, R0.out⟩
  case round =>
    obtain ⟨k, ak, v, rfl, hk, rfl, hbk, hrp⟩ := hrel
    by_cases hlt : k < n3
    · have HR := hide hrp
      have HBK := hide hbk
      obtain ⟨g1, x1⟩ := hrp.head.get 1 _ rfl
      have hll := HL.out
      have hdl : (l.drop (12 * k)).length = 1008 - 12 * k := by rw [List.length_drop, hll]
      have hsz : 12 ≤ (l.drop (12 * k)).length := by omega
      have hcc : (l.drop (12 * k)).length ≤ c - 12 * k := by omega
      have hab : AllB (l.drop (12 * k)) := hb.drop _
      have hdd : (l.drop (12 * k)).drop 12 = l.drop (12 * (k + 1)) := by rw [List.drop_drop]; congr 1
      have hfit := takeN_fit grpS (l.drop (12 * k)) hab hsz
      have hln := takeN_length grpS (l.drop (12 * k))
      have hsucc := readG_succ k l
      have TK := fun w sa (h1 : Seen .i64 w (some ⟨sa, 0, none⟩) (ints grpS)) (h2 : Bytes w ak (l.drop (12 * k))) => take_any ak (some ⟨sa, 0, none⟩) (c - 12 * k) 2 (l.drop (12 * k)) grpS w h2 hab (by omega) hcc sizesG h1 (by decide) hsz
      have TK : ∀ w sa, Seen .i64 w (some ⟨sa, 0, none⟩) (ints grpS) → Bytes w ak (l.drop (12 * k)) → Calls Tryd.prog 45 #[.slice ak (l.drop (12 * k)).length (c - 12 * k), .slice (some ⟨sa, 0, none⟩) 2 2] w fun e w' => ∃ v a', e = .returned (.tuple #[v, .slice a' ((l.drop (12 * k)).drop 12).length (c - 12 * k - 12)]) ∧ OwnU w' w.heap.size v (takeN grpS (l.drop (12 * k))) ∧ (∀ W, Bytes W ak (l.drop (12 * k)) → Bytes W a' ((l.drop (12 * k)).drop 12)) ∧ Below w.heap.size w w' := TK
      simp only [hdd] at TK
      obtain ⟨m0, m1, hm⟩ := two hln
      rw [hm] at TK hfit hsucc
      obtain ⟨b0, b1, -⟩ := hfit
      have b0 := lt4 b0
      have b1 := lt8 b1
      have w0 := wrap_sg (n := m0) (by omega)
      have w1 := wrap_sg (n := m1) b1
      simp only [grpOf, List.getD_cons_zero, List.getD_cons_succ] at hsucc
      generalize sg m0 = s0 at *
      generalize sg m1 = s1 at *
      have HSU := hide hsucc
      have HTK := hide TK
      have HDL := hide hdl
      clear hsucc TK hdl hsz hcc hab hdd hm hln hll hbk hrp b0 b1 g3 x3
      generalize hmm : (l.drop (12 * k)).length = M at *
      generalize hm2 : c - 12 * k = M2 at *
      have HMM := hide hmm
      have HM2 := hide hm2
      clear hmm hm2
      go_wp2_with fail
      refine (groupSizes_any wr).mono ?_
      rintro e w3 ⟨rfl, hss, b3, z3⟩
      have R3 := hide (HR.out.below b3)
      have TK3 := HTK.out w3 wr.heap.size hss (HBK.out w3 (hs.below R3.out.bel))
      have HZR := hide b3.size
      clear hss b3 z3
      go_wp2_with fail
      refine TK3.mono ?_
      rintro e w4 ⟨nv, a', rfl, ho, hba, b4⟩
      have R4 := hide (R3.out.below b4)
      obtain ⟨gv, cap, rfl, -, hBg, hgl⟩ := Owns.form ho (by simp)
      have hsee := Owns.seen_at ho
      have z3 := R3.out.page.1
      have HBA := hide hba
      have HGV := hide (show w.heap.size + 3 ≤ gv by omega)
      clear ho b4 hba TK3
      have hlen : (ints [m0, m1]).length = 2 := rfl
      rw [hlen] at *
      have HGR := hide (show wr.heap.size ≤ gv from Nat.le_trans HZR.out hBg)
      clear hlen z3 hBg
      obtain ⟨bq, oq, hab, _, r⟩ : ∃ b off, (some ⟨gv, 0, none⟩ : Option Addr) = some ⟨b, off, none⟩ ∧ b < w4.heap.size ∧ w4.cell? ⟨b, off, none⟩ = some (.int .u64 (m0 : Int)) ∧ w4.cell? ⟨b, off + 1, none⟩ = some (.int .u64 (m1 : Int)) := by
        rcases hsee with h | ⟨b, off, q, hb, hc⟩
        · simp [ints] at h
        · exact ⟨b, off, q, hb, hc 0 (by simp), hc 1 (by simp)⟩
      simp only [Option.some.injEq, Addr.mk.injEq, and_true] at hab
      obtain ⟨rfl, rfl⟩ := hab
      simp only [Nat.zero_add] at r
      have R5 := hide (R4.out.below (Below.refl _ _).drew)
      have FX := hide r
      have HGL := hide (show gv < w4.drew.heap.size from hgl)
      clear hsee r
      go_upto_region 9 with fail
      refine wp_region_held_drew (S := fun wq => wq.cell? ⟨gv, 0, none⟩ = some (.int .u64 (m0 : Int)) ∧ wq.cell? ⟨gv, 1, none⟩ = some (.int .u64 (m1 : Int))) (by kernel_rfl) FX.out (fun hS => ?_)
      generalize w4.drew = w6 at *
      have R6 := R5
      obtain ⟨gc, xc⟩ := R6.out.page.get 3 _ rfl
      clear R5 FX
      refine take_at 0 (some 41) (v := ?_) rfl rfl (by kernel_rfl) (by kernel_rfl) (by kernel_rfl) (fun _ _ _ h => h) ⟨by rfl, ?_⟩ hS ?_
      rotate_left
      · intro wq hSw; go_simp; try rfl
      simp only [Act.put, List.setIfInBounds_toArray, List.set_cons_zero, List.set_cons_succ]
      refine take_at 2 (some 43) (v := ?_) rfl rfl (by kernel_rfl) (by kernel_rfl) (by kernel_rfl) (fun _ _ _ h => h) ⟨by rfl, ?_⟩ hS ?_
      rotate_left
      · intro wq hSw; go_simp; try rfl
      simp only [Act.put, List.setIfInBounds_toArray, List.set_cons_zero, List.set_cons_succ]
      refine take_at 3 (some 44) (v := ?_) rfl rfl (by kernel_rfl) (by kernel_rfl) (by kernel_rfl) (fun _ _ _ h => h) ⟨by rfl, ?_⟩ hS ?_
      rotate_left
      · intro wq hSw; go_simp; try rfl
      simp only [Act.put, List.setIfInBounds_toArray, List.set_cons_zero, List.set_cons_succ]
      refine take_at 4 (some 45) (v := ?_) rfl rfl (by kernel_rfl) (by kernel_rfl) (by kernel_rfl) (fun _ _ _ h => h) ⟨by rfl, ?_⟩ hS ?_
      rotate_left
      · intro wq hSw; obtain ⟨y0, y1⟩ := hSw; go_simp; try rfl
      simp only [Act.put, List.setIfInBounds_toArray, List.set_cons_zero, List.set_cons_succ]
      refine take_at 5 (some 46) (v := ?_) rfl rfl (by kernel_rfl) (by kernel_rfl) (by kernel_rfl) (fun _ _ _ h => h) ⟨by rfl, ?_⟩ hS ?_
      rotate_left
      · intro wq hSw; go_simp; try rfl
      simp only [Act.put, List.setIfInBounds_toArray, List.set_cons_zero, List.set_cons_succ]
      refine take_at 6 (some 47) (v := ?_) rfl rfl (by kernel_rfl) (by kernel_rfl) (by kernel_rfl) (fun _ _ _ h => h) ⟨by rfl, ?_⟩ hS ?_
      rotate_left
      · intro wq hSw; go_simp; try rfl
      simp only [Act.put, List.setIfInBounds_toArray, List.set_cons_zero, List.set_cons_succ]
      refine take_at 7 (some 48) (v := ?_) rfl rfl (by kernel_rfl) (by kernel_rfl) (by kernel_rfl) (fun _ _ _ h => h) ⟨by rfl, ?_⟩ hS ?_
      rotate_left
      · intro wq hSw; go_simp; try rfl
      simp only [Act.put, List.setIfInBounds_toArray, List.set_cons_zero, List.set_cons_succ]
      refine take_at 8 (some 49) (v := ?_) rfl rfl (by kernel_rfl) (by kernel_rfl) (by kernel_rfl) (fun _ _ _ h => h) ⟨by rfl, ?_⟩ hS ?_
      rotate_left
      · intro wq hSw; obtain ⟨y0, y1⟩ := hSw; go_simp; try rfl
      simp only [Act.put, List.setIfInBounds_toArray, List.set_cons_zero, List.set_cons_succ]
      refine take_at 9 (some 50) (v := ?_) rfl rfl (by kernel_rfl) (by kernel_rfl) (by kernel_rfl) (fun _ _ _ h => h) ⟨by rfl, ?_⟩ hS ?_
      rotate_left
      · intro wq hSw; go_simp; try rfl
      simp only [Act.put, List.setIfInBounds_toArray, List.set_cons_zero, List.set_cons_succ]
      refine take_at 10 (some 51) (v := ?_) rfl rfl (by kernel_rfl) (by kernel_rfl) (by kernel_rfl) (fun _ _ _ h => h) ⟨by rfl, ?_⟩ hS ?_
      rotate_left
      · intro wq hSw; go_simp; try rfl
      simp only [Act.put, List.setIfInBounds_toArray, List.set_cons_zero, List.set_cons_succ]
      have VNE : Hid (¬ v.ownBlock = some gv) := hide (fun q => by have := (World.ownsRow.lt HR.out.row gv q).2; have := HGR.out; omega)
      refine wpAnyH_ready (rs := [1, 11]) (by kernel_rfl) (by simp) ?_
      refine AllReadyH.cons rfl (fun K hK => ?_) (AllReadyH.cons rfl (fun K hK => ?_) AllReadyH.nil)
      · go_simp
        go_wp2_with fail
        refine hK.out _ _ hS (fun hS => ?_)
        clear hK K
        (try simp only [Act.put, List.setIfInBounds_toArray, List.set_cons_zero, List.set_cons_succ])
        refine wpAnyH_ready (rs := [11]) (by kernel_rfl) (by simp) ?_
        refine AllReadyH.cons rfl (fun K hK => ?_) AllReadyH.nil
        go_simp
        go_wp2_with fail
        have R7 := hide (R6.out.below (alloc_below w6 (.cells #[.int .i64 s0, .int .i64 s1] 59)))
        have hlie : Lies (w6.alloc (.cells #[.int .i64 s0, .int .i64 s1] 59)) (some ⟨w6.heap.size, 0, none⟩) (grpC ⟨s0, s1⟩) := .inr ⟨w6.heap.size, 0, rfl, by simp, fun i hi => by rw [Nat.zero_add]; exact ((Cells.new w6 #[.int .i64 s0, .int .i64 s1] 59).get i _ (List.getElem?_eq_getElem hi)).1⟩
        obtain ⟨ge, xe⟩ := R7.out.page.get 3 _ rfl
        obtain ⟨v', w8, hrun, hr8, hg8, hv8⟩ := run_pushR Tryd.underlying25 info59 rfl (by decide) (by decide) 25 (w6.alloc (.cells #[.int .i64 s0, .int .i64 s1] 59)) (w.heap.size + 3) v k (grpsC (readG k l)) R7.out.row ⟨w6.heap.size, 0, none⟩ 1 1 (grpC ⟨s0, s1⟩) rfl hlie (by intro u hu; simp [grpC] at hu; rcases hu with rfl | rfl <;> rfl) (by omega) (by have := R7.out.page.1; omega)
        obtain ⟨av, cv, rfl, -, -, -, -, -⟩ := GRow.lies hr8
        have R8 := hide (R7.out.grown hg8 hr8)
        have HRUN := hide hrun
        have hlt7 := World.ownsRow.lt R7.out.row
        have hS7 : (w6.alloc (.cells #[.int .i64 s0, .int .i64 s1] 59)).cell? ⟨gv, 0, none⟩ = some (.int .u64 (m0 : Int)) ∧ (w6.alloc (.cells #[.int .i64 s0, .int .i64 s1] 59)).cell? ⟨gv, 1, none⟩ = some (.int .u64 (m1 : Int)) := ⟨((alloc_below w6 (.cells #[.int .i64 s0, .int .i64 s1] 59)).cell (p := ⟨gv, 0, none⟩) HGL.out).trans hS.1, ((alloc_below w6 (.cells #[.int .i64 s0, .int .i64 s1] 59)).cell (p := ⟨gv, 1, none⟩) HGL.out).trans hS.2⟩
        have HNV := hide (show ¬ v.ownBlock = some gv from VNE.out)
        have KG : Keep (fun j => v.ownBlock = some j) (w6.alloc (.cells #[.int .i64 s0, .int .i64 s1] 59)) w8 := (Keep.refl _ _).grown hg8 (fun j hj _ => hj)
        have hgl7 : gv < (w6.alloc (.cells #[.int .i64 s0, .int .i64 s1] 59)).heap.size := by have := HGL.out; simp; omega
        have HS8 := hide (show w8.cell? ⟨gv, 0, none⟩ = some (.int .u64 (m0 : Int)) ∧ w8.cell? ⟨gv, 1, none⟩ = some (.int .u64 (m1 : Int)) from ⟨(KG.cell (p := ⟨gv, 0, none⟩) hgl7 HNV.out).trans hS7.1, (KG.cell (p := ⟨gv, 1, none⟩) hgl7 HNV.out).trans hS7.2⟩)
        have HGL8 := hide (Nat.lt_of_lt_of_le hgl7 KG.size)
        have HS7 := hide hS7
        clear hrun hlie hg8 hr8 hv8 gc xc hlt7 hS7 KG hgl7
        refine hK.out _ _ HS7.out (fun hS => ?_)
        clear hK K
        (try simp only [Act.put, List.setIfInBounds_toArray, List.set_cons_zero, List.set_cons_succ])
        refine wpAnyH_ready (rs := [12]) (by kernel_rfl) (by simp) ?_
        refine AllReadyH.cons rfl (fun K hK => ?_) AllReadyH.nil
        refine wp_run 53 (.tmp 42) (.tmp 52) rfl rfl rfl rfl rfl HRUN.out ?_
        refine hK.out _ _ HS8.out (fun hS => ?_)
        clear hK K
        (try simp only [Act.put, List.setIfInBounds_toArray, List.set_cons_zero, List.set_cons_succ])
        refine take_at 13 (some 54) (v := ?_) rfl rfl (by kernel_rfl) (by kernel_rfl) (by kernel_rfl) (fun _ _ _ h => h) ⟨by rfl, ?_⟩ hS ?_
        rotate_left
        · intro wq hSw; go_simp; try rfl
        simp only [Act.put, List.setIfInBounds_toArray, List.set_cons_zero, List.set_cons_succ]
        obtain ⟨gf, xf⟩ := R8.out.page.get 3 _ rfl
        have R9 := hide (R8.out.stored (j := 3) (u := .slice av (k + 1) cv) (by simp))
        have hS9 : (w8.setCell ⟨w.heap.size + 2, 3, none⟩ (.slice av (k + 1) cv)).cell? ⟨gv, 0, none⟩ = some (.int .u64 (m0 : Int)) ∧ (w8.setCell ⟨w.heap.size + 2, 3, none⟩ (.slice av (k + 1) cv)).cell? ⟨gv, 1, none⟩ = some (.int .u64 (m1 : Int)) := by
          have K9 : Keep (fun i => i = w.heap.size + 2) w8 (w8.setCell ⟨w.heap.size + 2, 3, none⟩ (.slice av (k + 1) cv)) := (Keep.refl (fun i => i = w.heap.size + 2) w8).setCell (g := w.heap.size + 2) (j := 3) (fun _ => rfl) _
          have := HGV.out
          exact ⟨(K9.cell (p := ⟨gv, 0, none⟩) HGL8.out (by simp; omega)).trans hS.1, (K9.cell (p := ⟨gv, 1, none⟩) HGL8.out (by simp; omega)).trans hS.2⟩
        have HS9 := hide hS9
        clear hS9
        refine wpAnyH_ready (rs := [14]) (by kernel_rfl) (by simp) ?_
        refine AllReadyH.cons rfl (fun K hK => ?_) AllReadyH.nil
        go_simp
        go_wp2_with fail
        refine hK.out _ _ HS9.out (fun hS => ?_)
        clear hK K
        (try simp only [Act.put, List.setIfInBounds_toArray, List.set_cons_zero, List.set_cons_succ])
        refine wpAnyH_done (by kernel_rfl) ?_ _
        go_wp2_with fail
        go_roundw
        case rel =>
          refine ⟨k + 1, a', .slice av (k + 1) cv, by go_num, by omega, ?_, ?_, ?_⟩
          · have q1 : c - 12 * (k + 1) = M2 - 12 := by have := HM2.out; omega
            rw [q1, List.length_drop]
          · exact fun W hW => HBA.out W (HBK.out W hW)
          · have := R9.out
            have q2 : grpsC (readG (k + 1) l) = grpsC (readG k l) ++ grpC ⟨s0, s1⟩ := by rw [HSU.out]; exact rowsC_snoc _ _ _
            rw [q2]
            exact this
        case measure => simp [intOf]; omega
      · go_simp
        go_wp2_with fail
        have R7 := hide (R6.out.below (alloc_below w6 (.cells #[.int .i64 s0, .int .i64 s1] 59)))
        have hlie : Lies (w6.alloc (.cells #[.int .i64 s0, .int .i64 s1] 59)) (some ⟨w6.heap.size, 0, none⟩) (grpC ⟨s0, s1⟩) := .inr ⟨w6.heap.size, 0, rfl, by simp, fun i hi => by rw [Nat.zero_add]; exact ((Cells.new w6 #[.int .i64 s0, .int .i64 s1] 59).get i _ (List.getElem?_eq_getElem hi)).1⟩
        obtain ⟨ge, xe⟩ := R7.out.page.get 3 _ rfl
        obtain ⟨v', w8, hrun, hr8, hg8, hv8⟩ := run_pushR Tryd.underlying25 info59 rfl (by decide) (by decide) 25 (w6.alloc (.cells #[.int .i64 s0, .int .i64 s1] 59)) (w.heap.size + 3) v k (grpsC (readG k l)) R7.out.row ⟨w6.heap.size, 0, none⟩ 1 1 (grpC ⟨s0, s1⟩) rfl hlie (by intro u hu; simp [grpC] at hu; rcases hu with rfl | rfl <;> rfl) (by omega) (by have := R7.out.page.1; omega)
        obtain ⟨av, cv, rfl, -, -, -, -, -⟩ := GRow.lies hr8
        have R8 := hide (R7.out.grown hg8 hr8)
        have HRUN := hide hrun
        have hlt7 := World.ownsRow.lt R7.out.row
        have hS7 : (w6.alloc (.cells #[.int .i64 s0, .int .i64 s1] 59)).cell? ⟨gv, 0, none⟩ = some (.int .u64 (m0 : Int)) ∧ (w6.alloc (.cells #[.int .i64 s0, .int .i64 s1] 59)).cell? ⟨gv, 1, none⟩ = some (.int .u64 (m1 : Int)) := ⟨((alloc_below w6 (.cells #[.int .i64 s0, .int .i64 s1] 59)).cell (p := ⟨gv, 0, none⟩) HGL.out).trans hS.1, ((alloc_below w6 (.cells #[.int .i64 s0, .int .i64 s1] 59)).cell (p := ⟨gv, 1, none⟩) HGL.out).trans hS.2⟩
        have HNV := hide (show ¬ v.ownBlock = some gv from VNE.out)
        have KG : Keep (fun j => v.ownBlock = some j) (w6.alloc (.cells #[.int .i64 s0, .int .i64 s1] 59)) w8 := (Keep.refl _ _).grown hg8 (fun j hj _ => hj)
        have hgl7 : gv < (w6.alloc (.cells #[.int .i64 s0, .int .i64 s1] 59)).heap.size := by have := HGL.out; simp; omega
        have HS8 := hide (show w8.cell? ⟨gv, 0, none⟩ = some (.int .u64 (m0 : Int)) ∧ w8.cell? ⟨gv, 1, none⟩ = some (.int .u64 (m1 : Int)) from ⟨(KG.cell (p := ⟨gv, 0, none⟩) hgl7 HNV.out).trans hS7.1, (KG.cell (p := ⟨gv, 1, none⟩) hgl7 HNV.out).trans hS7.2⟩)
        have HGL8 := hide (Nat.lt_of_lt_of_le hgl7 KG.size)
        have HS7 := hide hS7
        clear hrun hlie hg8 hr8 hv8 gc xc hlt7 hS7 KG hgl7
        refine hK.out _ _ HS7.out (fun hS => ?_)
        clear hK K
        (try simp only [Act.put, List.setIfInBounds_toArray, List.set_cons_zero, List.set_cons_succ])
        refine wpAnyH_ready (rs := [1]) (by kernel_rfl) (by simp) ?_
        refine AllReadyH.cons rfl (fun K hK => ?_) AllReadyH.nil
        go_simp
        go_wp2_with fail
        refine hK.out _ _ hS (fun hS => ?_)
        clear hK K
        (try simp only [Act.put, List.setIfInBounds_toArray, List.set_cons_zero, List.set_cons_succ])
        refine wpAnyH_ready (rs := [12]) (by kernel_rfl) (by simp) ?_
        refine AllReadyH.cons rfl (fun K hK => ?_) AllReadyH.nil
        refine wp_run 53 (.tmp 42) (.tmp 52) rfl rfl rfl rfl rfl HRUN.out ?_
        refine hK.out _ _ HS8.out (fun hS => ?_)
        clear hK K
        (try simp only [Act.put, List.setIfInBounds_toArray, List.set_cons_zero, List.set_cons_succ])
        refine take_at 13 (some 54) (v := ?_) rfl rfl (by kernel_rfl) (by kernel_rfl) (by kernel_rfl) (fun _ _ _ h => h) ⟨by rfl, ?_⟩ hS ?_
        rotate_left
        · intro wq hSw; go_simp; try rfl
        simp only [Act.put, List.setIfInBounds_toArray, List.set_cons_zero, List.set_cons_succ]
        obtain ⟨gf, xf⟩ := R8.out.page.get 3 _ rfl
        have R9 := hide (R8.out.stored (j := 3) (u := .slice av (k + 1) cv) (by simp))
        have hS9 : (w8.setCell ⟨w.heap.size + 2, 3, none⟩ (.slice av (k + 1) cv)).cell? ⟨gv, 0, none⟩ = some (.int .u64 (m0 : Int)) ∧ (w8.setCell ⟨w.heap.size + 2, 3, none⟩ (.slice av (k + 1) cv)).cell? ⟨gv, 1, none⟩ = some (.int .u64 (m1 : Int)) := by
          have K9 : Keep (fun i => i = w.heap.size + 2) w8 (w8.setCell ⟨w.heap.size + 2, 3, none⟩ (.slice av (k + 1) cv)) := (Keep.refl (fun i => i = w.heap.size + 2) w8).setCell (g := w.heap.size + 2) (j := 3) (fun _ => rfl) _
          have := HGV.out
          exact ⟨(K9.cell (p := ⟨gv, 0, none⟩) HGL8.out (by simp; omega)).trans hS.1, (K9.cell (p := ⟨gv, 1, none⟩) HGL8.out (by simp; omega)).trans hS.2⟩
        have HS9 := hide hS9
        clear hS9
        refine wpAnyH_ready (rs := [14]) (by kernel_rfl) (by simp) ?_
        refine AllReadyH.cons rfl (fun K hK => ?_) AllReadyH.nil
        go_simp
        go_wp2_with fail
        refine hK.out _ _ HS9.out (fun hS => ?_)
        clear hK K
        (try simp only [Act.put, List.setIfInBounds_toArray, List.set_cons_zero, List.set_cons_succ])
        refine wpAnyH_done (by kernel_rfl) ?_ _
        go_wp2_with fail
        go_roundw
        case rel =>
          refine ⟨k + 1, a', .slice av (k + 1) cv, by go_num, by omega, ?_, ?_, ?_⟩
          · have q1 : c - 12 * (k + 1) = M2 - 12 := by have := HM2.out; omega
            rw [q1, List.length_drop]
          · exact fun W hW => HBA.out W (HBK.out W hW)
          · have := R9.out
            have q2 : grpsC (readG (k + 1) l) = grpsC (readG k l) ++ grpC ⟨s0, s1⟩ := by rw [HSU.out]; exact rowsC_snoc _ _ _
            rw [q2]
            exact this
        case measure => simp [intOf]; omega
    · obtain rfl : k = n3 := by omega
      have HR := hide hrp
      have HBK := hide hbk
      obtain ⟨av, cv, rfl, -, -, -, -, -⟩ := GRow.lies hrp.row
      obtain ⟨g0, x0⟩ := hrp.page.get 0 _ rfl
      obtain ⟨g1, x1⟩ := hrp.page.get 1 _ rfl
      obtain ⟨g2, x2⟩ := hrp.page.get 2 _ rfl
      obtain ⟨g3', x3'⟩ := hrp.page.get 3 _ rfl
      obtain ⟨y0, z0⟩ := hrp.zero.get 0 _ rfl
      obtain ⟨y1, z1⟩ := hrp.zero.get 1 _ rfl
      obtain ⟨y2, z2⟩ := hrp.zero.get 2 _ rfl
      obtain ⟨y3, z3⟩ := hrp.zero.get 3 _ rfl
      have C6 := (((hrp.zero.stored (j := 0) (by simp) (.int .i64 (n2 : Int))).stored (j := 1) (by simp) (.int .i64 (n5 : Int))).stored (j := 2) (by simp) (.slice none 0 0)).stored (j := 3) (by simp) (.slice av k cv)
      have K6 := ((((Keep.refl (fun i => i = w.heap.size + 1) wr).setCell (g := w.heap.size + 1) (j := 0) (fun _ => rfl) (.int .i64 (n2 : Int))).setCell (g := w.heap.size + 1) (j := 1) (fun _ => rfl) (.int .i64 (n5 : Int))).setCell (g := w.heap.size + 1) (j := 2) (fun _ => rfl) (.slice none 0 0)).setCell (g := w.heap.size + 1) (j := 3) (fun _ => rfl) (.slice av k cv)
      have hlt9 := World.ownsRow.lt hrp.row
      have GR := hide (hrp.row.keep K6 (fun g hg q => by have := (hlt9 g hg).1; omega))
      have BF := hide (hrp.bel.trans (K6.below hrp.bel.size (fun i hi q => by omega)))
      obtain ⟨k0, _⟩ := C6.get 0 _ rfl
      obtain ⟨k1, _⟩ := C6.get 1 _ rfl
      obtain ⟨k2, _⟩ := C6.get 2 _ rfl
      obtain ⟨k3, _⟩ := C6.get 3 _ rfl
      have hll := HL.out
      have hdl : (l.drop (12 * k)).length = l.length - 12 * k := List.length_drop
      rw [hdl]
      clear hbk hrp g3 x3 C6 K6 hlt9 hll hdl
      go_wp2_with fail
      refine bodyPost_ret (v := .tuple #[.agg #[.int .i64 (n2 : Int), .int .i64 (n5 : Int), .slice none 0 0, .slice av k cv], .slice ak (l.length - 12 * k) (c - 12 * k)]) (by simp only [results, Tryd.results29]; simp [go_sem, k0, k1, k2, k3]) rfl ?_
      exact ⟨_, ak, by rw [List.length_drop], GR.out, HBK.out, BF.out⟩
end Go.Proofs.YtakjpljpdlhicaaDoor
