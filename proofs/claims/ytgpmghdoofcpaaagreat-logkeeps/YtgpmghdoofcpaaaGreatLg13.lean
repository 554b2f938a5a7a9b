import Derived.Test.YtgpmghdoofcpaaaGreatLg12
namespace Go.Proofs.YtgpmghdoofcpaaaGreat.Lg
open Go.RowKit Go.QK
open Dv (hide bnext alloc_below load_arr store_arr slice_arr wp_load_arr wp_store_arr neq_arr info91)

theorem settle_go {g : Dev} (hg : g.Ok) (h : settleE g = 0) : (settleD g).down = false ∧ (settleD g).n = g.n ∧ (settleD g).pend = [] ∧ (settleD g).calls ≤ g.calls + 1 := by
  unfold settleE at h
  unfold settleD
  cases hd : g.down
  · rw [hd] at h
    simp only [Bool.false_eq_true, if_false] at h ⊢
    by_cases hp : g.pend = []
    · rw [if_pos hp]
      exact ⟨hd, rfl, hp, Nat.le_succ _⟩
    · rw [if_neg hp] at h ⊢
      unfold Dev.syncE at h
      have hl : g.left ≠ 1 := fun q => by simp [q] at h
      have hs : g.sync = g.strike.settle := by unfold Dev.sync; rw [if_neg (by simp [hd]), if_neg hl]
      rw [hs]
      refine ⟨hd, ?_, rfl, Nat.le_refl _⟩
      unfold Dev.n Dev.settle
      show (syncAll g.pend g.img).length / 512 = _
      rw [(syncAll_ok g.pend g.img hg.pend rfl hg.bytes).1]
  · rw [hd] at h
    simp at h
theorem findM_len (f : Nat → List Nat) : (k s : Nat) → (findM f k s).1.length ≤ k
  | 0, s => by simp [findM]
  | k + 1, s => by
    rw [findM]
    split
    · split
      · have := findM_len f k (s + 1)
        simp
        omega
      · simp
    · simp
/-- What Open answers. -/
def OpenPost (w : World) (S : Nat → Prop) (d : Nat) (g : Dev) (f c : Nat) (e : Ending) (w' : World) : Prop :=
  ∃ S', PDev w' S' d (openD g f c) ∧ Keep S w w' ∧ (∀ k, S' k → S k ∨ w.heap.size ≤ k) ∧
    ((openE g f c = 0 ∧ ∃ l T, e = .returned (.tuple #[.pointer (some ⟨l, 0, none⟩), .nilIface]) ∧ LD w' S' T l d (openD g f c) ⟨f, c, openR g f c, (openR g f c).length, false⟩ ∧ w.heap.size ≤ l ∧ (∀ k, T k → w.heap.size ≤ k)) ∨
     (openE g f c ≠ 0 ∧ ∃ v, e = .returned (.tuple #[.pointer none, v]) ∧ ErrNew w' w.heap.size v openS (openAt g f c) (openE g f c)))

section
variable {w w' : World} {S S' T : Nat → Prop} {d l : Nat} {g g1 : Dev} {f c : Nat} {v rv : Value} {rs : List (List Nat)} {vs : List Value}
theorem OpenPost.sett (h : settleE g ≠ 0) (p : PDev w' S d (settleD g)) (k : Keep S w w') (e : ErrNew w' w.heap.size v openS ((0 : Nat) : Int) ((settleE g : Nat) : Int)) : OpenPost w S d g f c (.returned (.tuple #[.pointer none, v])) w' := by
  have e1 : openD g f c = settleD g := by unfold openD; rw [if_pos h]
  have e2 : openE g f c = settleE g := by unfold openE; rw [if_pos h]
  have e3 : openAt g f c = 0 := by unfold openAt; rw [if_pos h]
  exact ⟨S, by rw [e1]; exact p, k, fun _ q => .inl q, .inr ⟨by rw [e2]; exact h, v, rfl, by rw [e2, e3]; exact e⟩⟩
theorem OpenPost.bad (h : settleE g = 0) (hg : settleD g = g1) (hb : (fnd g1 f c).2 ≠ 0) (p : PDev w' S d g1) (k : Keep S w w') (e : ErrNew w' w.heap.size v openS (((fnd g1 f c).2 : Nat) : Int) ((60 : Nat) : Int)) : OpenPost w S d g f c (.returned (.tuple #[.pointer none, v])) w' := by
  subst hg
  have e1 : openD g f c = settleD g := by unfold openD; rw [if_neg (by omega), if_pos hb]
  have e2 : openE g f c = 60 := by unfold openE; rw [if_neg (by omega), if_pos hb]
  have e3 : openAt g f c = (fnd (settleD g) f c).2 := by unfold openAt; rw [if_neg (by omega)]
  exact ⟨S, by rw [e1]; exact p, k, fun _ q => .inl q, .inr ⟨by rw [e2]; omega, v, rfl, by rw [e2, e3]; exact e⟩⟩
theorem OpenPost.wipe (h : settleE g = 0) (hg : settleD g = g1) (hb : (fnd g1 f c).2 = 0) (hr : (fnd g1 f c).1 = rs) (hw : wipeE g1 f c rs.length ≠ 0) (p : PDev w' S' d (wipeD g1 f c rs.length)) (k : Keep S w w') (ns : ∀ k, S' k → S k ∨ w.heap.size ≤ k)
    (e : ErrNew w' w.heap.size v openS ((0 : Nat) : Int) ((wipeE g1 f c rs.length : Nat) : Int)) : OpenPost w S d g f c (.returned (.tuple #[.pointer none, v])) w' := by
  subst hg hr
  have e1 : openD g f c = wipeD (settleD g) f c (fnd (settleD g) f c).1.length := by unfold openD; rw [if_neg (by omega), if_neg (by omega)]
  have e2 : openE g f c = wipeE (settleD g) f c (fnd (settleD g) f c).1.length := by unfold openE; rw [if_neg (by omega), if_neg (by omega)]
  have e3 : openAt g f c = 0 := by unfold openAt; rw [if_neg (by omega), hb]
  exact ⟨S', by rw [e1]; exact p, k, ns, .inr ⟨by rw [e2]; exact hw, v, rfl, by rw [e2, e3]; exact e⟩⟩
theorem OpenPost.ok (h : settleE g = 0) (hg : settleD g = g1) (hb : (fnd g1 f c).2 = 0) (hr : (fnd g1 f c).1 = rs) (hw : wipeE g1 f c rs.length = 0) (p : PDev w' S' d (wipeD g1 f c rs.length)) (k : Keep S w w') (ns : ∀ k, S' k → S k ∨ w.heap.size ≤ k)
    (r : Recs w' T rv rs vs) (hd : Hd w' l d f c rv rs.length false) (nT : ¬ T l) (nS : ¬ S' l) (ap : ∀ b, S' b → ¬ T b) (hl : w.heap.size ≤ l) (new : ∀ k, T k → w.heap.size ≤ k) : OpenPost w S d g f c (.returned (.tuple #[.pointer (some ⟨l, 0, none⟩), .nilIface])) w' := by
  subst hg hr
  have e1 : openD g f c = wipeD (settleD g) f c (fnd (settleD g) f c).1.length := by unfold openD; rw [if_neg (by omega), if_neg (by omega)]
  have e2 : openE g f c = 0 := by unfold openE; rw [if_neg (by omega), if_neg (by omega)]; exact hw
  exact ⟨S', by rw [e1]; exact p, k, ns, .inl ⟨e2, l, T, rfl, ⟨by rw [e1]; exact p, ⟨rv, vs, r, hd⟩, nT, nS, ap⟩, hl, new⟩⟩
end
set_option maxRecDepth 100000 in
set_option maxHeartbeats 2000000 in
theorem open_any {w : World} {S : Nat → Prop} {d : Nat} {g : Dev} (h : PDev w S d g) (f c : Nat) (h1 : 1 ≤ c) (h2 : f + c ≤ g.n) (hpl : g.pend.length ≤ 800000) (hcl : g.calls ≤ 800000) :
    Calls Tryz.prog 32 #[.pointer (some ⟨d, 0, none⟩), .int .i64 (f : Int), .int .i64 (c : Int)] w fun e w' => OpenPost w S d g f c e w' := by
  have hmf : ∀ (fn : Fn) (first cap : Array Value) (w : World), (Instr.makeFunc fn first cap).run Tryz.prog w = .ok (.func fn first cap) w := fun _ _ _ _ => rfl
  obtain ⟨nn, n1, n2, hn3⟩ := h.ok.size
  have hgn : g.n ≤ 8192 := by unfold Dev.n; omega
  obtain ⟨w2, hw2, b2, z2, c6, c7⟩ := two_new w
  have KS := hide (Dv.sectors_any (h.below b2))
  have HW := hide hw2
  have C6 := hide c6
  have C7 := hide c7
  have d1 : decide ((f : Int) < 0) = false := by simp
  have d2 : decide ((c : Int) < 1) = false := by simp; omega
  have d3 : decide ((g.n : Int) - (f : Int) < (c : Int)) = false := by simp; omega
  have d4 : ¬ ((g.n : Int) - (f : Int) < (c : Int)) := by omega
  obtain ⟨w4, hw4⟩ : ∃ w4, w4 = (w2.setCell ⟨w.heap.size, 0, none⟩ (.pointer (some ⟨w.heap.size + 2, 0, none⟩))).alloc (.cells #[.pointer (some ⟨d, 0, none⟩), .int .i64 (f : Int), .int .i64 (c : Int), .slice none 0 0, .int .i64 0, .bool false] 109) := ⟨_, rfl⟩
  have k6 := c6.get 0 _ rfl
  have bs : Below w.heap.size w (w2.setCell ⟨w.heap.size, 0, none⟩ (.pointer (some ⟨w.heap.size + 2, 0, none⟩))) := b2.trans (((Keep.refl (fun b => b = w.heap.size) w2).setCell (fun _ => rfl) _).below (by omega) (fun k hk q => by omega))
  have b4 : Below w.heap.size w w4 := by rw [hw4]; exact bnext bs (alloc_below _ _) (Nat.le_refl _)
  have z4 : w4.heap.size = w.heap.size + 3 := by rw [hw4]; simp [z2]
  have c64 : Cells w4 w.heap.size [.pointer (some ⟨w.heap.size + 2, 0, none⟩)] := by rw [hw4]; exact (c6.stored (j := 0) (by simp) _).below (alloc_below _ _)
  have c74 : Cells w4 (w.heap.size + 1) [.nilIface] := by rw [hw4]; exact (c7.other (by omega)).below (alloc_below _ _)
  have hh4 : Hd w4 (w.heap.size + 2) d f c (.slice none 0 0) 0 false := by
    have := Cells.new (w2.setCell ⟨w.heap.size, 0, none⟩ (.pointer (some ⟨w.heap.size + 2, 0, none⟩))) #[.pointer (some ⟨d, 0, none⟩), .int .i64 (f : Int), .int .i64 (c : Int), .slice none 0 0, .int .i64 0, .bool false] 109
    rw [World.size_setCell, z2] at this
    rw [hw4]
    exact this
  have p4 := h.below b4
  have hSlt := h.lt
  have hlS : ¬ S (w.heap.size + 2) := fun q => by have := hSlt _ q; omega
  have h6S : ¬ S w.heap.size := fun q => by have := hSlt _ q; omega
  have h7S : ¬ S (w.heap.size + 1) := fun q => by have := hSlt _ q; omega
  have KT := hide (settle_any p4 (w.heap.size + 2) (by omega) hlS (hh4.get 0 _ rfl).1 (by omega) (by omega))
  have SG := hide (settle_go h.ok)
  have HW4 := hide hw4
  have C64 := hide c64
  have C74 := hide c74
  have HH4 := hide hh4
  have B4 := hide b4
  have HLT := hide hSlt
  obtain ⟨k6, f6⟩ := k6
  clear hw2 c6 c7 n1 n2 hn3 hw4 c64 c74 hh4 p4 bs h b4 hSlt
  have gl : w.heap.size + 2 = w.heap.size + 2 := rfl
  go_enter_defers Tryz.func32, Tryz.ntmps32
  go_wp2_with fail
  rw [← HW.out]
  refine KS.out.mono ?_
  rintro e w3 ⟨rfl, rfl⟩
  clear KS
  go_wp2_with fail
  rw [← HW4.out]
  refine KT.out.mono ?_
  rintro e w5 ⟨he5, p5, k5⟩
  have C65 := hide (C64.out.keep k5 h6S)
  have C75 := hide (C74.out.keep k5 h7S)
  have HH5 := hide (HH4.out.keep k5 hlS)
  have B5 := hide ((Keep.of_below (S := S) B4.out).trans k5 (fun _ _ q => q))
  have P5 := hide p5
  have z5 := k5.size
  rw [z4] at z5
  clear KT C64 C74 HH4 B4 HW4 k6 f6 p5 k5 HW
  by_cases se : settleE g = 0
  · rw [se, fin_zero] at he5
    subst he5
    obtain ⟨sg1, sg2, sg3, sg4⟩ := SG.out se
    obtain ⟨g1, hg1⟩ : ∃ g1, settleD g = g1 := ⟨_, rfl⟩
    rw [hg1] at P5 sg1 sg2 sg3 sg4
    have HG1 := hide hg1
    have HSE := hide se
    clear hg1
    have KF := hide (lfind_any P5.out (w.heap.size + 2) f c HH5.out hlS (by omega) sg1 (by rw [sg3]; simp))
    have hlen : (fnd g1 f c).1.length ≤ c := findM_len _ _ _
    obtain ⟨k6, -⟩ := C65.out.get 0 _ rfl
    clear se SG
    go_wp2_with fail
    refine KF.out.mono ?_
    rintro e w6 ⟨he6, kl6, h6⟩
    have P6 := hide (P5.out.keep kl6 (fun b q r => hlS (q ▸ r)))
    have C66 := hide (C65.out.keep kl6 (by omega))
    have C76 := hide (C75.out.keep kl6 (by omega))
    have B6 := hide (B5.out.trans kl6 (fun j hj q => by omega))
    have z6 := Nat.le_trans z5 kl6.size
    clear KF C65 C75 HH5 k6 P5
    by_cases hb0 : (fnd g1 f c).2 = 0
    · rw [hb0] at he6
      have he6 : e = .returned (.tuple #[]) := he6
      subst he6
      obtain ⟨T, rv, vs, r6, hh6, new6⟩ := h6 hb0
      obtain ⟨ra, rc, erv⟩ := r6.form
      have HB0 := hide hb0
      have KW := hide (wipe_any P6.out (w.heap.size + 2) f c (fnd g1 f c).1.length ra rc (by omega) hlS (hh6.get 0 _ rfl).1 (hh6.get 1 _ rfl).1 (hh6.get 2 _ rfl).1 (by rw [← erv]; exact (hh6.get 3 _ rfl).1) hlen (by omega) sg1 (by rw [sg3]; simp) (by omega))
      obtain ⟨k6, -⟩ := C66.out.get 0 _ rfl
      have N6T := hide (show ¬ T w.heap.size ∧ ¬ T (w.heap.size + 1) from ⟨fun q => by have := new6 _ q; omega, fun q => by have := new6 _ q; omega⟩)
      have nTl : ¬ T (w.heap.size + 2) := fun q => by have := new6 _ q; omega
      have STap : ∀ b, S b → ¬ T b := fun b q r => by have := new6 _ r; have := HLT.out b q; omega
      have R6 := hide r6
      have HH6 := hide hh6
      have N6 := hide new6
      clear hb0 r6 hh6 h6 new6 sg1 sg3 hlen
      obtain ⟨rs, hrs⟩ : ∃ rs, (fnd g1 f c).1 = rs := ⟨_, rfl⟩
      rw [hrs] at KW R6 erv
      have HRS := hide hrs
      clear hrs
      go_wp2_with fail
      refine KW.out.mono ?_
      rintro e w7 ⟨S7, he7, p7, st7⟩
      have lS7 : ¬ S7 (w.heap.size + 2) := fun q => by
        rcases st7.2 _ q with r | r
        · exact hlS r
        · omega
      have R7 := hide (R6.out.keep st7.1 STap)
      have HH7 := hide (HH6.out.keep st7.1 hlS)
      have C67 := hide (C66.out.keep st7.1 h6S)
      have C77 := hide (C76.out.keep st7.1 h7S)
      have B7 := hide (B6.out.trans st7.1 (fun _ _ q => q))
      have NS7 := hide (show ∀ k, S7 k → S k ∨ w.heap.size ≤ k from fun k q => (st7.2 k q).imp id (fun r => by omega))
      have AP7 := hide (show ∀ b, S7 b → ¬ T b from fun b q r => by
        rcases st7.2 b q with x | x
        · exact STap b x r
        · have := R6.out.lt b r; omega)
      have N67 := hide (show ¬ S7 w.heap.size ∧ ¬ S7 (w.heap.size + 1) from ⟨fun q => by rcases st7.2 _ q with r | r; exact h6S r; omega, fun q => by rcases st7.2 _ q with r | r; exact h7S r; omega⟩)
      have P7 := hide p7
      have z7 := Nat.le_trans z6 st7.1.size
      clear KW R6 HH6 C66 C76 B6 k6 P6 p7 st7
      by_cases we : wipeE g1 f c rs.length = 0
      · rw [we, fin_zero] at he7
        subst he7
        have HWE := hide we
        clear we
        obtain ⟨k7, -⟩ := C67.out.get 0 _ rfl
        have erv7 := erv
        obtain ⟨c37, -⟩ := HH7.out.get 3 _ rfl
        rw [erv] at c37
        have KL := hide (last_any (w.heap.size + 2) rs.length rc ra w7.drew c37)
        have K7 := hide k7
        have HH8 := hide (HH7.out.drew)
        obtain ⟨c4, f4⟩ := HH8.out.get 4 _ rfl
        have C68 := hide (C67.out.drew)
        have C78 := hide (C77.out.drew)
        obtain ⟨_, f6⟩ := C68.out.get 0 _ rfl
        obtain ⟨k77, f77⟩ := C78.out.get 0 _ rfl
        have ksx : Keep (fun b => b = w.heap.size + 2 ∨ b = w.heap.size ∨ b = w.heap.size + 1) w7 (((w7.drew.setCell ⟨w.heap.size + 2, 4, none⟩ (.int .i64 (rs.length : Int))).setCell ⟨w.heap.size, 0, none⟩ (.pointer (some ⟨w.heap.size + 2, 0, none⟩))).setCell ⟨w.heap.size + 1, 0, none⟩ .nilIface) :=
          (((Keep.refl _ w7).drew.setCell (fun _ => .inl rfl) _).setCell (fun _ => .inr (.inl rfl)) _).setCell (fun _ => .inr (.inr rfl)) _
        have HHX : Hd (((w7.drew.setCell ⟨w.heap.size + 2, 4, none⟩ (.int .i64 (rs.length : Int))).setCell ⟨w.heap.size, 0, none⟩ (.pointer (some ⟨w.heap.size + 2, 0, none⟩))).setCell ⟨w.heap.size + 1, 0, none⟩ .nilIface) (w.heap.size + 2) d f c rv rs.length false :=
          (((HH8.out.stored (j := 4) (by simp [hdC]) (.int .i64 (rs.length : Int)) : Cells _ _ (hdC d f c rv rs.length false))).other (by omega)).other (by omega)
        have FINAL := hide (show OpenPost w S d g f c (.returned (.tuple #[.pointer (some ⟨w.heap.size + 2, 0, none⟩), .nilIface])) (((w7.drew.setCell ⟨w.heap.size + 2, 4, none⟩ (.int .i64 (rs.length : Int))).setCell ⟨w.heap.size, 0, none⟩ (.pointer (some ⟨w.heap.size + 2, 0, none⟩))).setCell ⟨w.heap.size + 1, 0, none⟩ .nilIface) from
          OpenPost.ok HSE.out HG1.out HB0.out HRS.out HWE.out (P7.out.keep ksx (fun b q r => by rcases q with q | q | q <;> subst q; exact lS7 r; exact N67.out.1 r; exact N67.out.2 r)) (B7.out.trans ksx (fun j hj q => by omega)) NS7.out
            (R7.out.keep ksx (fun b q r => by rcases q with q | q | q <;> subst q; exact nTl r; exact N6T.out.1 r; exact N6T.out.2 r)) HHX nTl lS7 AP7.out (by omega) (fun k q => by have := N6.out k q; omega))
        have C6F := hide (show Cells (((w7.drew.setCell ⟨w.heap.size + 2, 4, none⟩ (.int .i64 (rs.length : Int))).setCell ⟨w.heap.size, 0, none⟩ (.pointer (some ⟨w.heap.size + 2, 0, none⟩))).setCell ⟨w.heap.size + 1, 0, none⟩ .nilIface) w.heap.size [.pointer (some ⟨w.heap.size + 2, 0, none⟩)] from Cells.other (Cells.stored (Cells.other C68.out (show w.heap.size + 2 ≠ w.heap.size by omega)) (j := 0) (by simp) _) (show w.heap.size + 1 ≠ w.heap.size by omega))
        have C7F := hide (show Cells (((w7.drew.setCell ⟨w.heap.size + 2, 4, none⟩ (.int .i64 (rs.length : Int))).setCell ⟨w.heap.size, 0, none⟩ (.pointer (some ⟨w.heap.size + 2, 0, none⟩))).setCell ⟨w.heap.size + 1, 0, none⟩ .nilIface) (w.heap.size + 1) [.nilIface] from Cells.stored (Cells.other (Cells.other C78.out (show w.heap.size + 2 ≠ w.heap.size + 1 by omega)) (show w.heap.size ≠ w.heap.size + 1 by omega)) (j := 0) (by simp) _)
        clear ksx HHX
        clear k7 c37
        have k7 : w7.drew.cell? ⟨w.heap.size, 0, none⟩ = some (.pointer (some ⟨w.heap.size + 2, 0, none⟩)) := K7.out
        go_upto_region 10 with fail
        refine wp_region_held_drew (S := fun _ => True) (by kernel_rfl) trivial (fun _ => ?_)
        generalize w7.drew = w8 at *
        refine wpAnyH_ready (rs := [0, 1]) (by kernel_rfl) (by simp) ?_
        refine AllReadyH.cons rfl (fun K hK => ?_) (AllReadyH.cons rfl (fun K hK => ?_) AllReadyH.nil)
        · go_simp
          go_wp2_with fail
          refine hK.out _ _ trivial (fun _ => ?_)
          clear hK K
          (try simp only [Act.put, List.setIfInBounds_toArray, List.set_cons_zero, List.set_cons_succ])
          refine wpAnyH_ready (rs := [1]) (by kernel_rfl) (by simp) ?_
          refine AllReadyH.cons rfl (fun K hK => ?_) AllReadyH.nil
          go_simp
          go_wp2_with fail
          refine hK.out _ _ trivial (fun _ => ?_)
          clear hK K
          (try simp only [Act.put, List.setIfInBounds_toArray, List.set_cons_zero, List.set_cons_succ])
          refine wpAnyH_ready (rs := [2]) (by kernel_rfl) (by simp) ?_
          refine AllReadyH.cons rfl (fun K hK => ?_) AllReadyH.nil
          go_simp
          go_wp2_with fail
          refine KL.out.mono ?_
          rintro e w8' ⟨rfl, rfl⟩
          go_wp2_with fail
          refine hK.out _ _ trivial (fun _ => ?_)
          clear hK K
          (try simp only [Act.put, List.setIfInBounds_toArray, List.set_cons_zero, List.set_cons_succ])
          refine wpAnyH_ready (rs := [3]) (by kernel_rfl) (by simp) ?_
          refine AllReadyH.cons rfl (fun K hK => ?_) AllReadyH.nil
          go_simp
          go_wp2_with fail
          refine hK.out _ _ trivial (fun _ => ?_)
          clear hK K
          (try simp only [Act.put, List.setIfInBounds_toArray, List.set_cons_zero, List.set_cons_succ])
          refine wpAnyH_ready (rs := [4]) (by kernel_rfl) (by simp) ?_
          refine AllReadyH.cons rfl (fun K hK => ?_) AllReadyH.nil
          go_simp
          go_wp2_with fail
          refine hK.out _ _ trivial (fun _ => ?_)
          clear hK K
          (try simp only [Act.put, List.setIfInBounds_toArray, List.set_cons_zero, List.set_cons_succ])
          refine wpAnyH_ready (rs := [5]) (by kernel_rfl) (by simp) ?_
          refine AllReadyH.cons rfl (fun K hK => ?_) AllReadyH.nil
          go_simp
          go_wp2_with fail
          refine hK.out _ _ trivial (fun _ => ?_)
          clear hK K
          (try simp only [Act.put, List.setIfInBounds_toArray, List.set_cons_zero, List.set_cons_succ])
          refine wpAnyH_done (by kernel_rfl) ?_ _
          go_wp2_with fail
          refine open_done _ _ w.heap.size (w.heap.size + 1) (w.heap.size + 2) rfl rfl C6F.out C7F.out ?_
          exact FINAL.out
        · go_simp
          go_wp2_with fail
          refine hK.out _ _ trivial (fun _ => ?_)
          clear hK K
          (try simp only [Act.put, List.setIfInBounds_toArray, List.set_cons_zero, List.set_cons_succ])
          refine wpAnyH_ready (rs := [0, 2]) (by kernel_rfl) (by simp) ?_
          refine AllReadyH.cons rfl (fun K hK => ?_) (AllReadyH.cons rfl (fun K hK => ?_) AllReadyH.nil)
          · go_simp
            go_wp2_with fail
            refine hK.out _ _ trivial (fun _ => ?_)
            clear hK K
            (try simp only [Act.put, List.setIfInBounds_toArray, List.set_cons_zero, List.set_cons_succ])
            refine wpAnyH_ready (rs := [2]) (by kernel_rfl) (by simp) ?_
            refine AllReadyH.cons rfl (fun K hK => ?_) AllReadyH.nil
            go_simp
            go_wp2_with fail
            refine KL.out.mono ?_
            rintro e w8' ⟨rfl, rfl⟩
            go_wp2_with fail
            refine hK.out _ _ trivial (fun _ => ?_)
            clear hK K
            (try simp only [Act.put, List.setIfInBounds_toArray, List.set_cons_zero, List.set_cons_succ])
            refine wpAnyH_ready (rs := [3]) (by kernel_rfl) (by simp) ?_
            refine AllReadyH.cons rfl (fun K hK => ?_) AllReadyH.nil
            go_simp
            go_wp2_with fail
            refine hK.out _ _ trivial (fun _ => ?_)
            clear hK K
            (try simp only [Act.put, List.setIfInBounds_toArray, List.set_cons_zero, List.set_cons_succ])
            refine wpAnyH_ready (rs := [4]) (by kernel_rfl) (by simp) ?_
            refine AllReadyH.cons rfl (fun K hK => ?_) AllReadyH.nil
            go_simp
            go_wp2_with fail
            refine hK.out _ _ trivial (fun _ => ?_)
            clear hK K
            (try simp only [Act.put, List.setIfInBounds_toArray, List.set_cons_zero, List.set_cons_succ])
            refine wpAnyH_ready (rs := [5]) (by kernel_rfl) (by simp) ?_
            refine AllReadyH.cons rfl (fun K hK => ?_) AllReadyH.nil
            go_simp
            go_wp2_with fail
            refine hK.out _ _ trivial (fun _ => ?_)
            clear hK K
            (try simp only [Act.put, List.setIfInBounds_toArray, List.set_cons_zero, List.set_cons_succ])
            refine wpAnyH_done (by kernel_rfl) ?_ _
            go_wp2_with fail
            refine open_done _ _ w.heap.size (w.heap.size + 1) (w.heap.size + 2) rfl rfl C6F.out C7F.out ?_
            exact FINAL.out
          · go_simp
            go_wp2_with fail
            refine KL.out.mono ?_
            rintro e w8' ⟨rfl, rfl⟩
            go_wp2_with fail
            refine hK.out _ _ trivial (fun _ => ?_)
            clear hK K
            (try simp only [Act.put, List.setIfInBounds_toArray, List.set_cons_zero, List.set_cons_succ])
            refine wpAnyH_ready (rs := [0]) (by kernel_rfl) (by simp) ?_
            refine AllReadyH.cons rfl (fun K hK => ?_) AllReadyH.nil
            go_simp
            go_wp2_with fail
            refine hK.out _ _ trivial (fun _ => ?_)
            clear hK K
            (try simp only [Act.put, List.setIfInBounds_toArray, List.set_cons_zero, List.set_cons_succ])
            refine wpAnyH_ready (rs := [3]) (by kernel_rfl) (by simp) ?_
            refine AllReadyH.cons rfl (fun K hK => ?_) AllReadyH.nil
            go_simp
            go_wp2_with fail
            refine hK.out _ _ trivial (fun _ => ?_)
            clear hK K
            (try simp only [Act.put, List.setIfInBounds_toArray, List.set_cons_zero, List.set_cons_succ])
            refine wpAnyH_ready (rs := [4]) (by kernel_rfl) (by simp) ?_
            refine AllReadyH.cons rfl (fun K hK => ?_) AllReadyH.nil
            go_simp
            go_wp2_with fail
            refine hK.out _ _ trivial (fun _ => ?_)
            clear hK K
            (try simp only [Act.put, List.setIfInBounds_toArray, List.set_cons_zero, List.set_cons_succ])
            refine wpAnyH_ready (rs := [5]) (by kernel_rfl) (by simp) ?_
            refine AllReadyH.cons rfl (fun K hK => ?_) AllReadyH.nil
            go_simp
            go_wp2_with fail
            refine hK.out _ _ trivial (fun _ => ?_)
            clear hK K
            (try simp only [Act.put, List.setIfInBounds_toArray, List.set_cons_zero, List.set_cons_succ])
            refine wpAnyH_done (by kernel_rfl) ?_ _
            go_wp2_with fail
            refine open_done _ _ w.heap.size (w.heap.size + 1) (w.heap.size + 2) rfl rfl C6F.out C7F.out ?_
            exact FINAL.out
      · have HNE := hide we
        rw [fin_no we] at he7
        subst he7
        refine open_door _ w7 w.heap.size (w.heap.size + 1) 0 _ _ _ rfl rfl C67.out C77.out (by omega) ?_
        intro v w' hev hk
        exact OpenPost.wipe HSE.out HG1.out HB0.out HRS.out HNE.out (P7.out.keep hk (fun b q r => by rcases q with q | q <;> subst q; exact N67.out.1 r; exact N67.out.2 r)) (B7.out.trans hk (fun j hj q => by omega)) NS7.out (hev.mono (by omega))
    · have HNE := hide hb0
      rw [if_neg hb0] at he6
      rw [fin_no (by omega)] at he6
      subst he6
      refine open_door _ w6 w.heap.size (w.heap.size + 1) _ 60 _ _ rfl rfl C66.out C76.out (by omega) ?_
      intro v w' hev hk
      exact OpenPost.bad HSE.out HG1.out HNE.out (P6.out.keep hk (fun b q r => by have := HLT.out b r; omega)) (B6.out.trans hk (fun j hj q => by omega)) (hev.mono (by omega))
  · have HNE := hide se
    rw [fin_no se] at he5
    subst he5
    refine open_door _ w5 w.heap.size (w.heap.size + 1) 0 _ _ _ rfl rfl C65.out C75.out (by omega) ?_
    intro v w' hev hk
    exact OpenPost.sett HNE.out (P5.out.keep hk (fun b q r => by have := HLT.out b r; omega)) (B5.out.trans hk (fun j hj q => by omega)) (hev.mono (by omega))
end Go.Proofs.YtgpmghdoofcpaaaGreat.Lg
