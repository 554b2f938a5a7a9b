import Derived.Test.YtokcocmenndlmaaTx26
namespace Go.Proofs.Ytokcocmenndlmaa
open Go.RowKit Go.QK Go.Maps Go.QM Go.QT
set_option maxRecDepth 100000
theorem lies_at4 {w : World} {g : Nat} {L : List Lv} (h : Lies w (some ⟨g, 0, none⟩) (rowsC lvC L)) {k : Nat} (hk : k < L.length) : ∃ x : Lv, w.cell? ⟨g, k * 4, none⟩ = some (.int .i64 x.tx) ∧ w.cell? ⟨g, k * 4 + 1, none⟩ = some (.int .i64 x.last) ∧ w.cell? ⟨g, k * 4 + 2, none⟩ = some (.bool x.com) ∧ w.cell? ⟨g, k * 4 + 3, none⟩ = some (.bool x.und) := by
  obtain ⟨b9, o9, ha9, -, p0, p1, p2, p3⟩ := row_at h (Below.refl _ _) hk
  cases ha9
  rw [Nat.zero_add] at p0 p1 p2 p3
  exact ⟨_, p0, p1, p2, p3⟩
set_option maxHeartbeats 8000000 in
theorem keep_any (lab : Nat → Nat) (B : Nat) (T : Tab) (gb cap : Nat) (xs : List Lv) (w : World) (h : Tb lab w B T) (ho : GRow w B 26 4 (.slice (some ⟨gb, 0, none⟩) xs.length cap) xs.length (rowsC lvC xs)) (hlb : lab gb = 9) (hn : xs.length ≤ 10000) (hm : T.ls.length + 1 ≤ 100000) :
    Calls Try.prog 59 #[.pointer (some ⟨T.t, 4, none⟩), .slice (some ⟨gb, 0, none⟩) xs.length cap] w fun e w' => e = .returned (.tuple #[]) ∧ KeepPost lab w B T gb w' := by
  obtain ⟨kl, -⟩ := h.box.get 4 _ rfl
  obtain ⟨aL, cL, hvL, -⟩ := GRow.lies h.rl
  have HT := hide h
  have HVL := hide hvL
  rw [hvL] at kl
  have hgl : gb < w.heap.size := (World.ownsRow.lt ho gb rfl).2
  have hgB : B ≤ gb := (World.ownsRow.lt ho gb rfl).1
  have HO := hide ho
  have HLB := hide hlb
  have hne : gb ≠ T.t := by intro q; rw [q] at hlb; have := h.l1; omega
  obtain ⟨mk, hmk⟩ : ∃ x, x = -1 - (T.ls.length : Int) := ⟨_, rfl⟩
  have ewm : wrap64 (-1 - (T.ls.length : Int)) = mk := by rw [hmk]; exact wrapI (by unfold I64; omega)
  have ewn : (-1 : Int) - (T.ls.length : Int) = mk := hmk.symm
  have HMK := hide (show (⟨mk, 0, false, false⟩ : Lv) = mkL T.ls.length by rw [hmk]; rfl)
  clear h ho hlb hvL hmk
  go_enter Try.func59, Try.ntmps59
  go_upto_region 1 with fail
  refine named (P := Code.wp _ _ _ _) ?_
  intro w0 hw0
  obtain ⟨mb, hmb⟩ : ∃ mb, mb = w.heap.size := ⟨_, rfl⟩
  have M0 := hide (show Cells w0 mb [.int .i64 mk, .int .i64 0, .bool false, .bool false] by rw [hw0, hmb]; exact Cells.new _ _ _)
  have KW0 := hide (show Keep (fun z => z = gb) w w0 by rw [hw0]; exact (Keep.refl _ w).alloc _)
  have OW0 := hide (show GRow w0 B 26 4 (.slice (some ⟨gb, 0, none⟩) xs.length cap) xs.length (rowsC lvC xs) by rw [hw0]; exact GRow.below HO.out (alloc_below _ _))
  have MB := hide (show gb < mb ∧ T.t < mb ∧ w.heap.size = mb by rw [hmb]; exact ⟨hgl, HT.out.box.1, rfl⟩)
  rw [← hmb]
  clear hw0 hmb
  go_wp2_with fail
  go_loopw [5] (fun v wr => ∃ k : Nat, v = .int .i64 (k : Int) ∧ k ≤ xs.length ∧ GRow wr B 26 4 (.slice (some ⟨gb, 0, none⟩) xs.length cap) xs.length (rowsC lvC (filledL xs (⟨mk, 0, false, false⟩ : Lv) k)) ∧ Keep (fun z => z = gb) w wr ∧ Cells wr mb [.int .i64 mk, .int .i64 0, .bool false, .bool false]) (fun v _ => xs.length - (intOf v).toNat)
  case atStart => exact ⟨0, rfl, Nat.zero_le _, by simpa [filledL] using OW0.out, KW0.out, M0.out⟩
  case round =>
    obtain ⟨k, rfl, hk, o1, kp, mc⟩ := hrel
    have O1 := hide o1
    have K1 := hide kp
    have M1 := hide mc
    clear o1 kp mc M0 KW0 OW0
    by_cases hlt : k < xs.length
    · have hlf : (filledL xs (⟨mk, 0, false, false⟩ : Lv) k).length = xs.length := filled_len (by omega)
      obtain ⟨a9, c9, e9, l9, -⟩ := GRow.lies O1.out
      cases e9
      obtain ⟨x, p0, p1, p2, p3⟩ := lies_at4 l9 (k := k) (by rw [hlf]; exact hlt)
      have hf := row_frozen O1.out
      have fr0 := hf (k * 4)
      have fr1 := hf (k * 4 + 1)
      have fr2 := hf (k * 4 + 2)
      have fr3 := hf (k * 4 + 3)
      obtain ⟨c0, -⟩ := M1.out.get 0 _ rfl
      obtain ⟨c1, -⟩ := M1.out.get 1 _ rfl
      obtain ⟨c2, -⟩ := M1.out.get 2 _ rfl
      obtain ⟨c3, -⟩ := M1.out.get 3 _ rfl
      have hnm : ¬ mb = gb := by have := MB.out; omega
      have hnm2 : ¬ gb = mb := by have := MB.out; omega
      have OF := hide (row_set4 O1.out (r := k) (by rw [hlf]; exact hlt) (⟨mk, 0, false, false⟩ : Lv))
      have MF := hide (((((Keep.refl (fun z => z = gb) wr).setCell (g := gb) (j := k * 4) (fun _ => rfl) (.int .i64 mk)).setCell (g := gb) (j := k * 4 + 1) (fun _ => rfl) (.int .i64 0)).setCell (g := gb) (j := k * 4 + 2) (fun _ => rfl) (.bool false)).setCell (g := gb) (j := k * 4 + 3) (fun _ => rfl) (.bool false))
      clear l9 hlf hf
      go_wp2_with fail
      go_roundw
      case rel =>
        have OG := OF.out
        rw [filled_step hlt] at OG
        exact ⟨k + 1, by go_num, by omega, OG, K1.out.trans MF.out (fun _ _ q => q), M1.out.keep MF.out (fun q => hnm q)⟩
      case measure => simp [intOf]; omega
    · obtain rfl : k = xs.length := by omega
      have hx2 : T.t < w.heap.size := HT.out.box.1
      have kt : wr.cell? ⟨T.t, 4, none⟩ = some (.slice aL T.ls.length cL) := (K1.out.cell (p := ⟨T.t, 4, none⟩) hx2 (fun q => hne q.symm)).trans kl
      have O1' := hide (show GRow wr B 26 4 (.slice (some ⟨gb, 0, none⟩) xs.length cap) xs.length (rowsC lvC (List.replicate xs.length (⟨mk, 0, false, false⟩ : Lv))) by have := O1.out; rw [filled_all] at this; exact this)
      have RL := hide (show GRow wr B 33 1 (.slice aL T.ls.length cL) T.ls.length (T.ls.map (fun e => e.1)) by
        have := GRow.keep HT.out.rl K1.out (fun x hx q => by have := HT.out.l6 x hx; rw [q] at this; have := HLB.out; omega)
        rw [HVL.out] at this
        exact this)
      have BX := hide (HT.out.box.keep K1.out (fun q => hne q.symm))
      clear kl O1
      go_upto_region 6 with (at_builtin; refine wpList_appR Try.underlying67 info33 rfl (by decide) (by decide) rfl (.tmp _) (.tmp _) rfl B (.slice aL T.ls.length cL) T.ls.length (T.ls.map (fun e => e.1)) rfl (GRow.below RL.out (alloc_below _ _)) (some ⟨wr.heap.size, 0, none⟩) 1 1 [.slice (some ⟨gb, 0, none⟩) xs.length cap] rfl rfl (lies_val _ _ _) (by simp [Value.oneCell']) (by nofun) (by omega) (by have := K1.out.size; simp; omega) ?_; intro vLn w2 q1 q2 q3; obtain ⟨av, cv, hv, -⟩ := GRow.lies q1; subst hv; have k2 : Keep (fun z => (Value.slice aL T.ls.length cL).ownBlock = some z) wr w2 := (Keep.of_below (S := fun z => (Value.slice aL T.ls.length cL).ownBlock = some z) (alloc_below wr (.cells #[.slice (some ⟨gb, 0, none⟩) xs.length cap] 33))).trans (grown_keep q2) (fun _ _ h => h); have BX2 := hide (BX.out.keep k2 (fun q => by have := HT.out.l6 _ (by rw [HVL.out]; exact q); have := HT.out.l1; omega)); obtain ⟨kd, kdf⟩ := BX2.out.get 4 _ rfl; clear kt)
      refine named (P := Code.wp _ _ _ _) ?_
      intro w3 hw3
      have hx3 : w3.cell? ⟨T.t, 5, none⟩ = some T.vM := by
        rw [hw3]
        have := (BX2.out.stored (j := 4) (by simp) (.slice av (T.ls.length + 1) cv)).get 5 T.vM (by simp)
        exact this.1
      have hf3 : w3.frozen? ⟨T.t, 5, none⟩ = false := by
        rw [hw3]
        have := (BX2.out.stored (j := 4) (by simp) (.slice av (T.ls.length + 1) cv)).get 5 T.vM (by simp)
        exact this.2
      have lgw : gb < wr.heap.size := Nat.lt_of_lt_of_le hgl K1.out.size
      have kw3 : Keep (fun z => (Value.slice aL T.ls.length cL).ownBlock = some z ∨ z = T.t) wr w3 := by rw [hw3]; exact (k2.mono (fun _ _ q => .inl q)).setCell (g := T.t) (j := 4) (fun _ => .inr rfl) _
      have notL : ¬ ((Value.slice aL T.ls.length cL).ownBlock = some gb ∨ gb = T.t) := by
        rintro (q | q)
        · have := HT.out.l6 gb (by rw [HVL.out]; exact q); have := HLB.out; omega
        · exact hne q
      have lvb := fun q (hq : (Value.slice aL T.ls.length cL).ownBlock = some q) => own_lt HT.out.rl (by rw [HVL.out]; exact hq)
      have mw3 : Cells w3 mb [.int .i64 mk, .int .i64 0, .bool false, .bool false] := M1.out.keep kw3 (by rintro (q | q); (have := lvb _ q; have := MB.out; omega); (have := MB.out; omega))
      obtain ⟨x0, hx0⟩ : ∃ x, x = w3.drew := ⟨_, rfl⟩
      have m0d : Cells w3.drew mb [.int .i64 mk, .int .i64 0, .bool false, .bool false] := mw3.below (Below.refl _ _).drew
      have m0 : Cells x0 mb [.int .i64 mk, .int .i64 0, .bool false, .bool false] := by rw [hx0]; exact m0d
      have O0 : GRow x0 B 26 4 (.slice (some ⟨gb, 0, none⟩) xs.length cap) xs.length (rowsC lvC (List.replicate xs.length (⟨mk, 0, false, false⟩ : Lv))) := by
        rw [hx0]
        exact GRow.below (GRow.keep O1'.out kw3 (fun g hg q => by cases hg; exact notL q)) (Below.refl _ _).drew
      have t0 : x0.cell? ⟨T.t, 5, none⟩ = some T.vM := by rw [hx0]; exact hx3
      have tf0 : x0.frozen? ⟨T.t, 5, none⟩ = false := by rw [hx0]; exact hf3
      have lt0 : T.t < x0.heap.size := by rw [hx0]; show T.t < w3.heap.size; exact Nat.lt_of_lt_of_le hx2 (Nat.le_trans K1.out.size kw3.size)
      have b0 : Below w3.heap.size w3 x0 := by rw [hx0]; exact (Below.refl _ _).drew
      have RM0 : GRow x0 B 33 1 T.vM T.ls.length (T.ls.map (fun e => e.2.1)) := by
        have h1 := GRow.keep HT.out.rm K1.out (fun x hx q => by have := HT.out.l7 x hx; rw [q] at this; have := HLB.out; omega)
        have h2 := GRow.keep h1 kw3 (fun x hx q => by
          have l := HT.out.l7 x hx
          rcases q with q | q
          · have := HT.out.l6 x (by rw [HVL.out]; exact q); omega
          · rw [q] at l; have := HT.out.l1; omega)
        exact GRow.below h2 b0
      have sB : B ≤ x0.heap.size := by have := HT.out.low.1; omega
      obtain ⟨x1, hx1⟩ : ∃ x, x = x0.alloc (.cells #[.int .i64 mk, .int .i64 0, .bool false, .bool false] 26) := ⟨_, rfl⟩
      have b1 : Below x0.heap.size x0 x1 := by rw [hx1]; exact alloc_below _ _
      have m1 : Cells x1 mb [.int .i64 mk, .int .i64 0, .bool false, .bool false] := m0.below b1
      have sz1 : x1.heap.size = x0.heap.size + 1 := by rw [hx1]; simp
      have O0' : GRow x1 B 26 4 (.slice (some ⟨gb, 0, none⟩) xs.length cap) (List.replicate xs.length (⟨mk, 0, false, false⟩ : Lv)).length (rowsC lvC (List.replicate xs.length (⟨mk, 0, false, false⟩ : Lv))) := by rw [List.length_replicate]; exact GRow.below O0 b1
      obtain ⟨vMo, x2, hr2, o2, gr2, s3, hse⟩ := run_moreL 33 x1 B _ _ O0' ⟨x0.heap.size, 0, none⟩ (⟨mk, 0, false, false⟩ : Lv) (by rw [hx1]; exact lies_new4 x0 (⟨mk, 0, false, false⟩ : Lv) 26) (by simp; omega) (by omega)
      have hse2 := hse _ _ (by rw [List.length_replicate])
      have k3 : Keep (fun z => z = gb) x0 x2 := (Keep.of_below (S := fun z => z = gb) b1).trans ((Keep.refl (fun z => z = gb) x1).grown gr2 (fun g hg _ => by cases hg; rfl)) (fun _ _ h => h)
      have m2 : Cells x2 mb [.int .i64 mk, .int .i64 0, .bool false, .bool false] := m0.keep k3 (by have := MB.out; omega)
      rw [List.length_replicate, ← List.replicate_succ'] at o2
      obtain ⟨aO, cO, hvO, -⟩ := GRow.lies o2
      obtain ⟨x3, hx3'⟩ : ∃ x, x = x2.alloc (.cells #[vMo] 33) := ⟨_, rfl⟩
      have b3 : Below x2.heap.size x2 x3 := by rw [hx3']; exact alloc_below _ _
      have m3 : Cells x3 mb [.int .i64 mk, .int .i64 0, .bool false, .bool false] := m2.below b3
      have sz3 : x3.heap.size = x2.heap.size + 1 := by rw [hx3']; simp
      have RM2 : GRow x2 B 33 1 T.vM T.ls.length (T.ls.map (fun e => e.2.1)) := GRow.keep RM0 k3 (fun x hx q => by have := HT.out.l7 x hx; rw [q] at this; have := HLB.out; omega)
      obtain ⟨vMn, x4, hr4, q4, gr4, s4⟩ := run_pushR Try.underlying67 info33 rfl (by decide) (by decide) 67 x3 B T.vM T.ls.length _ (GRow.below RM2 b3) ⟨x2.heap.size, 0, none⟩ 1 1 [vMo] rfl (by rw [hx3']; exact lies_val _ _ _) (by rw [hvO]; simp [Value.oneCell']) (by omega) (by have := k3.size; omega)
      have k4 : Keep (fun z => T.vM.ownBlock = some z) x2 x4 := (Keep.of_below (S := fun z => T.vM.ownBlock = some z) b3).trans (grown_keep gr4) (fun _ _ h => h)
      have m4 : Cells x4 mb [.int .i64 mk, .int .i64 0, .bool false, .bool false] := m2.keep k4 (fun q => by have := own_lt HT.out.rm q; have := MB.out; omega)
      have m5 : Cells (x4.setCell ⟨T.t, 5, none⟩ vMn) mb [.int .i64 mk, .int .i64 0, .bool false, .bool false] := m4.other (by have := MB.out; omega)
      obtain ⟨aN, cN, hvN, -⟩ := GRow.lies q4
      have FIN := hide (HT.out.booked (w5 := x4.setCell ⟨T.t, 5, none⟩ vMn) HLB.out hgl hn K1.out (n := xs.length) (cap := cap) (by have := O1'.out; rw [HMK.out] at this; exact this) (vLn := .slice av (T.ls.length + 1) cv) q1 (by rw [HVL.out]; exact k2) (by rw [HVL.out]; simpa using q3) hw3 b0 (vMo := vMo) (by rw [HMK.out] at o2; exact o2) k3 (by rcases s3 with e | e; exact .inl e; exact .inr (by rw [e, sz1])) (by rw [HMK.out] at hse2; exact hse2) q4 k4 (by rcases s4 with e | e; exact .inl e; exact .inr (by rw [e, sz3])) rfl hm)
      have t2 : x2.cell? ⟨T.t, 5, none⟩ = some T.vM := (k3.cell (p := ⟨T.t, 5, none⟩) lt0 (fun q => hne q.symm)).trans t0
      have t1 : x1.cell? ⟨T.t, 5, none⟩ = some T.vM := (b1.cell (p := ⟨T.t, 5, none⟩) lt0).trans t0
      have lt2 : T.t < x2.heap.size := Nat.lt_of_lt_of_le lt0 k3.size
      have t3 : x3.cell? ⟨T.t, 5, none⟩ = some T.vM := (b3.cell (p := ⟨T.t, 5, none⟩) lt2).trans t2
      have notM : ¬ T.vM.ownBlock = some T.t := fun q => by have := HT.out.l7 _ q; have := HT.out.l1; omega
      have t4 : x4.cell? ⟨T.t, 5, none⟩ = some T.vM := (k4.cell (p := ⟨T.t, 5, none⟩) lt2 notM).trans t2
      have tf4 : x4.frozen? ⟨T.t, 5, none⟩ = false := (k4.frozen (p := ⟨T.t, 5, none⟩) lt2 notM).trans ((k3.frozen (p := ⟨T.t, 5, none⟩) lt0 (fun q => hne q.symm)).trans tf0)
      obtain ⟨aM, cM, hvM, -⟩ := GRow.lies RM0
      have HX0 := hide hx0
      have HX1 := hide hx1
      have HX3 := hide hx3'
      subst hvO
      subst hvN
      rw [hvM] at t0 t1 t2 t3 t4
      rw [hvM] at hr4
      clear hx0 hx1 hx3' hw3 q1 q2 q3 k2 BX2 kd kdf kw3 notL O0 O0' RM0 b0 b1 sz1 o2 gr2 s3 hse hse2 k3 b3 sz3 RM2 q4 gr4 s4 k4 hvM lgw hx3 hf3 notM RL BX O1' HO M1 mw3 lvb
      refine wp_region_held_drew (S := fun wq => Cells wq mb [.int .i64 mk, .int .i64 0, .bool false, .bool false]) (by kernel_rfl) m0d (fun hS => ?_)
      rw [← HX0.out] at hS ⊢
      refine take_at 0 (some 33) (v := ?_) rfl rfl (by kernel_rfl) (by kernel_rfl) (by kernel_rfl) (fun _ _ _ h => h) ⟨by rfl, ?_⟩ hS ?_
      rotate_left
      · intro wq hSw; go_simp; try rfl
      simp only [Act.put, List.setIfInBounds_toArray, List.set_cons_zero, List.set_cons_succ]
      refine take_at 1 (some 34) (v := ?_) rfl rfl (by kernel_rfl) (by kernel_rfl) (by kernel_rfl) (fun _ _ _ h => h) ⟨by rfl, ?_⟩ hS ?_
      rotate_left
      · intro wq hSw; go_simp; try rfl
      simp only [Act.put, List.setIfInBounds_toArray, List.set_cons_zero, List.set_cons_succ]
      refine take_at 2 (some 35) (v := ?_) rfl rfl (by kernel_rfl) (by kernel_rfl) (by kernel_rfl) (fun _ _ _ h => h) ⟨by rfl, ?_⟩ hS ?_
      rotate_left
      · intro wq hSw; go_simp; try rfl
      simp only [Act.put, List.setIfInBounds_toArray, List.set_cons_zero, List.set_cons_succ]
      refine take_at 3 (some 36) (v := ?_) rfl rfl (by kernel_rfl) (by kernel_rfl) (by kernel_rfl) (fun _ _ _ h => h) ⟨by rfl, ?_⟩ hS ?_
      rotate_left
      · intro wq hSw; go_simp; try rfl
      simp only [Act.put, List.setIfInBounds_toArray, List.set_cons_zero, List.set_cons_succ]
      refine take_at 5 (some 38) (v := ?_) rfl rfl (by kernel_rfl) (by kernel_rfl) (by kernel_rfl) (fun _ _ _ h => h) ⟨by rfl, ?_⟩ hS ?_
      rotate_left
      · intro wq hSw; go_simp; try rfl
      simp only [Act.put, List.setIfInBounds_toArray, List.set_cons_zero, List.set_cons_succ]
      refine take_at 6 (some 39) (v := ?_) rfl rfl (by kernel_rfl) (by kernel_rfl) (by kernel_rfl) (fun _ _ _ h => h) ⟨by rfl, ?_⟩ hS ?_
      rotate_left
      · intro wq hSw; have qq := hSw; obtain ⟨q0, _⟩ := qq.get 0 _ rfl; obtain ⟨q1, _⟩ := qq.get 1 _ rfl; obtain ⟨q2, _⟩ := qq.get 2 _ rfl; obtain ⟨q3, _⟩ := qq.get 3 _ rfl; clear qq; go_simp; try rfl
      simp only [Act.put, List.setIfInBounds_toArray, List.set_cons_zero, List.set_cons_succ]
      refine wpAnyH_ready (rs := [4, 7]) (by kernel_rfl) (by simp) ?_
      refine AllReadyH.cons rfl (fun K hK => ?_) (AllReadyH.cons rfl (fun K hK => ?_) AllReadyH.nil)
      · go_simp
        go_wp2_with fail
        refine hK.out _ _ m0 (fun hS => ?_)
        clear hK K
        (try simp only [Act.put, List.setIfInBounds_toArray, List.set_cons_zero, List.set_cons_succ])
        refine wpAnyH_ready (rs := [7]) (by kernel_rfl) (by simp) ?_
        refine AllReadyH.cons rfl (fun K hK => ?_) AllReadyH.nil
        go_simp
        go_wp2_with fail
        rw [← HX1.out]
        refine hK.out _ _ m1 (fun hS => ?_)
        clear hK K
        (try simp only [Act.put, List.setIfInBounds_toArray, List.set_cons_zero, List.set_cons_succ])
        refine wpAnyH_ready (rs := [8]) (by kernel_rfl) (by simp) ?_
        refine AllReadyH.cons rfl (fun K hK => ?_) AllReadyH.nil
        refine wp_run 41 (.tmp 38) (.tmp 40) rfl rfl rfl rfl rfl hr2 ?_
        refine hK.out _ _ m2 (fun hS => ?_)
        clear hK K
        (try simp only [Act.put, List.setIfInBounds_toArray, List.set_cons_zero, List.set_cons_succ])
        refine wpAnyH_ready (rs := [9]) (by kernel_rfl) (by simp) ?_
        refine AllReadyH.cons rfl (fun K hK => ?_) AllReadyH.nil
        go_simp
        go_wp2_with fail
        rw [← HX3.out]
        refine hK.out _ _ m3 (fun hS => ?_)
        clear hK K
        (try simp only [Act.put, List.setIfInBounds_toArray, List.set_cons_zero, List.set_cons_succ])
        refine wpAnyH_ready (rs := [10]) (by kernel_rfl) (by simp) ?_
        refine AllReadyH.cons rfl (fun K hK => ?_) AllReadyH.nil
        refine wp_run 43 (.tmp 37) (.tmp 42) rfl rfl rfl rfl rfl hr4 ?_
        refine hK.out _ _ m4 (fun hS => ?_)
        clear hK K
        (try simp only [Act.put, List.setIfInBounds_toArray, List.set_cons_zero, List.set_cons_succ])
        refine take_at 11 (some 44) (v := ?_) rfl rfl (by kernel_rfl) (by kernel_rfl) (by kernel_rfl) (fun _ _ _ h => h) ⟨by rfl, ?_⟩ hS ?_
        rotate_left
        · intro wq hSw; go_simp; try rfl
        simp only [Act.put, List.setIfInBounds_toArray, List.set_cons_zero, List.set_cons_succ]
        refine take_at 12 (some 45) (v := ?_) rfl rfl (by kernel_rfl) (by kernel_rfl) (by kernel_rfl) (fun _ _ _ h => h) ⟨by rfl, ?_⟩ hS ?_
        rotate_left
        · intro wq hSw; go_simp; try rfl
        simp only [Act.put, List.setIfInBounds_toArray, List.set_cons_zero, List.set_cons_succ]
        refine wpAnyH_ready (rs := [13]) (by kernel_rfl) (by simp) ?_
        refine AllReadyH.cons rfl (fun K hK => ?_) AllReadyH.nil
        go_simp
        go_wp2_with fail
        refine hK.out _ _ m5 (fun hS => ?_)
        clear hK K
        (try simp only [Act.put])
        refine wpAnyH_done (by kernel_rfl) ?_ _
        go_wp2_with fail
        go_end0
        exact ⟨rfl, FIN.out⟩
      · go_simp
        go_wp2_with fail
        rw [← HX1.out]
        refine hK.out _ _ m1 (fun hS => ?_)
        clear hK K
        (try simp only [Act.put, List.setIfInBounds_toArray, List.set_cons_zero, List.set_cons_succ])
        refine wpAnyH_ready (rs := [4, 8]) (by kernel_rfl) (by simp) ?_
        refine AllReadyH.cons rfl (fun K hK => ?_) (AllReadyH.cons rfl (fun K hK => ?_) AllReadyH.nil)
        · go_simp
          go_wp2_with fail
          refine hK.out _ _ m1 (fun hS => ?_)
          clear hK K
          (try simp only [Act.put, List.setIfInBounds_toArray, List.set_cons_zero, List.set_cons_succ])
          refine wpAnyH_ready (rs := [8]) (by kernel_rfl) (by simp) ?_
          refine AllReadyH.cons rfl (fun K hK => ?_) AllReadyH.nil
          refine wp_run 41 (.tmp 38) (.tmp 40) rfl rfl rfl rfl rfl hr2 ?_
          refine hK.out _ _ m2 (fun hS => ?_)
          clear hK K
          (try simp only [Act.put, List.setIfInBounds_toArray, List.set_cons_zero, List.set_cons_succ])
          refine wpAnyH_ready (rs := [9]) (by kernel_rfl) (by simp) ?_
          refine AllReadyH.cons rfl (fun K hK => ?_) AllReadyH.nil
          go_simp
          go_wp2_with fail
          rw [← HX3.out]
          refine hK.out _ _ m3 (fun hS => ?_)
          clear hK K
          (try simp only [Act.put, List.setIfInBounds_toArray, List.set_cons_zero, List.set_cons_succ])
          refine wpAnyH_ready (rs := [10]) (by kernel_rfl) (by simp) ?_
          refine AllReadyH.cons rfl (fun K hK => ?_) AllReadyH.nil
          refine wp_run 43 (.tmp 37) (.tmp 42) rfl rfl rfl rfl rfl hr4 ?_
          refine hK.out _ _ m4 (fun hS => ?_)
          clear hK K
          (try simp only [Act.put, List.setIfInBounds_toArray, List.set_cons_zero, List.set_cons_succ])
          refine take_at 11 (some 44) (v := ?_) rfl rfl (by kernel_rfl) (by kernel_rfl) (by kernel_rfl) (fun _ _ _ h => h) ⟨by rfl, ?_⟩ hS ?_
          rotate_left
          · intro wq hSw; go_simp; try rfl
          simp only [Act.put, List.setIfInBounds_toArray, List.set_cons_zero, List.set_cons_succ]
          refine take_at 12 (some 45) (v := ?_) rfl rfl (by kernel_rfl) (by kernel_rfl) (by kernel_rfl) (fun _ _ _ h => h) ⟨by rfl, ?_⟩ hS ?_
          rotate_left
          · intro wq hSw; go_simp; try rfl
          simp only [Act.put, List.setIfInBounds_toArray, List.set_cons_zero, List.set_cons_succ]
          refine wpAnyH_ready (rs := [13]) (by kernel_rfl) (by simp) ?_
          refine AllReadyH.cons rfl (fun K hK => ?_) AllReadyH.nil
          go_simp
          go_wp2_with fail
          refine hK.out _ _ m5 (fun hS => ?_)
          clear hK K
          (try simp only [Act.put])
          refine wpAnyH_done (by kernel_rfl) ?_ _
          go_wp2_with fail
          go_end0
          exact ⟨rfl, FIN.out⟩
        · refine wp_run 41 (.tmp 38) (.tmp 40) rfl rfl rfl rfl rfl hr2 ?_
          refine hK.out _ _ m2 (fun hS => ?_)
          clear hK K
          (try simp only [Act.put, List.setIfInBounds_toArray, List.set_cons_zero, List.set_cons_succ])
          refine wpAnyH_ready (rs := [4, 9]) (by kernel_rfl) (by simp) ?_
          refine AllReadyH.cons rfl (fun K hK => ?_) (AllReadyH.cons rfl (fun K hK => ?_) AllReadyH.nil)
          · go_simp
            go_wp2_with fail
            refine hK.out _ _ m2 (fun hS => ?_)
            clear hK K
            (try simp only [Act.put, List.setIfInBounds_toArray, List.set_cons_zero, List.set_cons_succ])
            refine wpAnyH_ready (rs := [9]) (by kernel_rfl) (by simp) ?_
            refine AllReadyH.cons rfl (fun K hK => ?_) AllReadyH.nil
            go_simp
            go_wp2_with fail
            rw [← HX3.out]
            refine hK.out _ _ m3 (fun hS => ?_)
            clear hK K
            (try simp only [Act.put, List.setIfInBounds_toArray, List.set_cons_zero, List.set_cons_succ])
            refine wpAnyH_ready (rs := [10]) (by kernel_rfl) (by simp) ?_
            refine AllReadyH.cons rfl (fun K hK => ?_) AllReadyH.nil
            refine wp_run 43 (.tmp 37) (.tmp 42) rfl rfl rfl rfl rfl hr4 ?_
            refine hK.out _ _ m4 (fun hS => ?_)
            clear hK K
            (try simp only [Act.put, List.setIfInBounds_toArray, List.set_cons_zero, List.set_cons_succ])
            refine take_at 11 (some 44) (v := ?_) rfl rfl (by kernel_rfl) (by kernel_rfl) (by kernel_rfl) (fun _ _ _ h => h) ⟨by rfl, ?_⟩ hS ?_
            rotate_left
            · intro wq hSw; go_simp; try rfl
            simp only [Act.put, List.setIfInBounds_toArray, List.set_cons_zero, List.set_cons_succ]
            refine take_at 12 (some 45) (v := ?_) rfl rfl (by kernel_rfl) (by kernel_rfl) (by kernel_rfl) (fun _ _ _ h => h) ⟨by rfl, ?_⟩ hS ?_
            rotate_left
            · intro wq hSw; go_simp; try rfl
            simp only [Act.put, List.setIfInBounds_toArray, List.set_cons_zero, List.set_cons_succ]
            refine wpAnyH_ready (rs := [13]) (by kernel_rfl) (by simp) ?_
            refine AllReadyH.cons rfl (fun K hK => ?_) AllReadyH.nil
            go_simp
            go_wp2_with fail
            refine hK.out _ _ m5 (fun hS => ?_)
            clear hK K
            (try simp only [Act.put])
            refine wpAnyH_done (by kernel_rfl) ?_ _
            go_wp2_with fail
            go_end0
            exact ⟨rfl, FIN.out⟩
          · go_simp
            go_wp2_with fail
            rw [← HX3.out]
            refine hK.out _ _ m3 (fun hS => ?_)
            clear hK K
            (try simp only [Act.put, List.setIfInBounds_toArray, List.set_cons_zero, List.set_cons_succ])
            refine wpAnyH_ready (rs := [4]) (by kernel_rfl) (by simp) ?_
            refine AllReadyH.cons rfl (fun K hK => ?_) AllReadyH.nil
            go_simp
            go_wp2_with fail
            refine hK.out _ _ m3 (fun hS => ?_)
            clear hK K
            (try simp only [Act.put, List.setIfInBounds_toArray, List.set_cons_zero, List.set_cons_succ])
            refine wpAnyH_ready (rs := [10]) (by kernel_rfl) (by simp) ?_
            refine AllReadyH.cons rfl (fun K hK => ?_) AllReadyH.nil
            refine wp_run 43 (.tmp 37) (.tmp 42) rfl rfl rfl rfl rfl hr4 ?_
            refine hK.out _ _ m4 (fun hS => ?_)
            clear hK K
            (try simp only [Act.put, List.setIfInBounds_toArray, List.set_cons_zero, List.set_cons_succ])
            refine take_at 11 (some 44) (v := ?_) rfl rfl (by kernel_rfl) (by kernel_rfl) (by kernel_rfl) (fun _ _ _ h => h) ⟨by rfl, ?_⟩ hS ?_
            rotate_left
            · intro wq hSw; go_simp; try rfl
            simp only [Act.put, List.setIfInBounds_toArray, List.set_cons_zero, List.set_cons_succ]
            refine take_at 12 (some 45) (v := ?_) rfl rfl (by kernel_rfl) (by kernel_rfl) (by kernel_rfl) (fun _ _ _ h => h) ⟨by rfl, ?_⟩ hS ?_
            rotate_left
            · intro wq hSw; go_simp; try rfl
            simp only [Act.put, List.setIfInBounds_toArray, List.set_cons_zero, List.set_cons_succ]
            refine wpAnyH_ready (rs := [13]) (by kernel_rfl) (by simp) ?_
            refine AllReadyH.cons rfl (fun K hK => ?_) AllReadyH.nil
            go_simp
            go_wp2_with fail
            refine hK.out _ _ m5 (fun hS => ?_)
            clear hK K
            (try simp only [Act.put])
            refine wpAnyH_done (by kernel_rfl) ?_ _
            go_wp2_with fail
            go_end0
            exact ⟨rfl, FIN.out⟩
end Go.Proofs.Ytokcocmenndlmaa
