import Derived.Test.YtgpmghdoofcpaaaGreatG46
namespace Go.Proofs.YtgpmghdoofcpaaaGreat.Lg
open Go.RowKit Go.QK
set_option maxRecDepth 100000

/-! The disk stays as long as it is. -/
theorem ok_fitsW {g : Dev} (h : g.Ok) : ∀ p ∈ g.pend, FitsW g.img.length p := fun p hp => ⟨(h.pend p hp).1, (h.pend p hp).2.1⟩
theorem syncImg_len (g : Dev) (h : g.Ok) : g.sync.img.length = g.img.length := by
  unfold Dev.sync
  split
  · rfl
  · split
    · unfold Dev.crashes
      split
      · unfold Dev.fall
        exact (fallFrom_ok _ _ 0 _ h.strike.pend rfl h.strike.bytes).1
      · rfl
    · exact syncAll_len g.pend g.img rfl (ok_fitsW h)
theorem put_len (first : Nat) (rs : List (List Nat)) (hr : ∀ j, AllB (rs.getD j [])) : (k s : Nat) → (g : Dev) → g.Ok → (putM first rs k s g).1.Ok ∧ (putM first rs k s g).1.img.length = g.img.length
  | 0, _, g, h => ⟨h, rfl⟩
  | k + 1, s, g, h => by
    have hb : AllB (filledB s (rs.getD (s - 1) [])) := filledB_all (hr _)
    have hw := h.write ((first + s - 1 : Nat) : Int) _ hb
    have hl := write_n g h ((first + s - 1 : Nat) : Int) _ hb
    rw [putM]
    split
    · exact ⟨hw, hl⟩
    · obtain ⟨q1, q2⟩ := put_len first rs hr k (s + 1) _ hw
      exact ⟨q1, q2.trans hl⟩
theorem wipe_len (first : Nat) : (k s : Nat) → (g : Dev) → (q : Bool) → g.Ok → (wipeM first k s g q).1.Ok ∧ (wipeM first k s g q).1.img.length = g.img.length
  | 0, _, g, _, h => ⟨h, rfl⟩
  | k + 1, s, g, q, h => by
    have hw := h.write ((first + s - 1 : Nat) : Int) _ zerosB_all
    have hl := write_n g h ((first + s - 1 : Nat) : Int) _ zerosB_all
    rw [wipeM]
    split
    · exact wipe_len first k (s + 1) g q h
    · split
      · exact ⟨hw, hl⟩
      · obtain ⟨q1, q2⟩ := wipe_len first k (s + 1) _ true hw
        exact ⟨q1, q2.trans hl⟩
theorem forD_len (m : LogM) (g : Dev) (n : Int) (h : g.Ok) (hr : ∀ j, AllB (m.recs.getD j [])) : (m.forD g n).img.length = g.img.length := by
  unfold LogM.forD
  split
  · rfl
  · split
    · rfl
    · split
      · rfl
      · obtain ⟨q1, q2⟩ := put_len m.first m.recs hr (n.toNat - m.forced) (m.forced + 1) g h
        unfold wpD
        split
        · exact q2
        · exact (syncImg_len _ q1).trans q2
theorem settleD_len (g : Dev) (h : g.Ok) : (settleD g).Ok ∧ (settleD g).img.length = g.img.length := by
  unfold settleD
  split
  · exact ⟨h, rfl⟩
  · split
    · exact ⟨h, rfl⟩
    · exact ⟨h.sync, syncImg_len g h⟩
theorem openD_len (g : Dev) (h : g.Ok) (f c : Nat) : (openD g f c).img.length = g.img.length := by
  obtain ⟨s1, s2⟩ := settleD_len g h
  unfold openD
  split
  · exact s2
  · split
    · exact s2
    · unfold wipeD
      obtain ⟨q1, q2⟩ := wipe_len f (c - (fnd (settleD g) f c).1.length) ((fnd (settleD g) f c).1.length + 1) (settleD g) false s1
      split
      · exact q2.trans s2
      · split
        · exact (syncImg_len _ q1).trans (q2.trans s2)
        · exact q2.trans s2
theorem crash_len (g : Dev) (h : g.Ok) (l : Loss) : (g.crash l).img.length = g.img.length := by
  unfold Dev.crash
  split
  · rfl
  · unfold Dev.fall
    exact (fallFrom_ok _ _ 0 _ h.pend rfl h.bytes).1
theorem Holds.allB {rs : List RecM} {bs : List (List Nat)} (h : Holds rs bs) : ∀ j, AllB (bs.getD j []) := by
  intro j
  by_cases hj : j < rs.length
  · obtain ⟨r, _, _, _, _, e⟩ := h.at_ j hj
    rw [e]
    exact bytes_all
  · rw [List.getD_eq_getElem?_getD, List.getElem?_eq_none (by rw [h.len]; omega)]
    exact AllB.nil
theorem set_mix (b pl : List Nat) (k : Nat) (hk : k < b.length) (h : pl.length = b.length) : (b.take k ++ pl.drop k).set k (b.getD k 0) = b.take (k + 1) ++ pl.drop (k + 1) := by
  apply List.ext_getElem?
  intro j
  rw [List.getElem?_set, List.getElem?_append, List.getElem?_append]
  simp only [List.length_append, List.length_take, List.length_drop, List.getElem?_take, List.getElem?_drop]
  have h1 : min k b.length = k := by omega
  have h2 : min (k + 1) b.length = k + 1 := by omega
  rw [h1, h2]
  by_cases e : k = j
  · subst e
    rw [if_pos rfl, if_pos (by omega), if_pos (by omega), if_pos (by omega)]
    simp [List.getD_eq_getElem?_getD, hk]
  · rw [if_neg e]
    by_cases q : j < k
    · rw [if_pos q, if_pos q, if_pos (by omega), if_pos (by omega)]
    · rw [if_neg q, if_neg (by omega)]
      congr 1
      omega
end Go.Proofs.YtgpmghdoofcpaaaGreat.Lg

namespace Go.Proofs.YtgpmghdoofcpaaaGreat.Lg
open Go.RowKit Go.QK
open Dv (hide bnext alloc_below LossAt)
set_option maxRecDepth 100000

theorem FallsAt.keep {U : Nat → Prop} {w w' : World} {a : Option Addr} {xs : List FallM} (h : FallsAt w a xs) (hk : Keep U w w') (h1 : xs ≠ [] → ∀ ad, a = some ad → ¬ U ad.block) (h2 : ∀ x ∈ xs, x.l.keep ≠ [] → ∀ ad, x.a = some ad → ¬ U ad.block) : FallsAt w' a xs := by
  refine ⟨?_, fun x hx => ⟨Seen.keep' (h.loss x hx).seen hk (fun q => h2 x hx (fun e => q (by rw [e]; rfl))), (h.loss x hx).nil, (h.loss x hx).cap, (h.loss x hx).ok⟩⟩
  by_cases q : xs = []
  · exact .inl (by rw [q]; rfl)
  · exact h.row.keep hk (h1 q)
/-- How again's loop stands. -/
structure AgSt (w : World) (S : Nat → Prop) (d : Nat) (g : Dev) (count : Nat) (bs : List (List Nat)) (k : Nat) (X : Nat → List Nat) (fs : List FallM) (wr : World) (i : Nat) (S' : Nat → Prop) (g' : Dev) : Prop where
  dev : PDev wr S' d g'
  wip : Wip g' 2 count bs k X
  down : g'.down = true
  pend : g'.pend = []
  cl : g'.calls ≤ g.calls + i * 100
  st : Step w S wr S'
  ln : g'.img.length = g.img.length
  hi : i ≤ fs.length
theorem Wip.openn {g : Dev} {first count k : Nat} {bs : List (List Nat)} {X : Nat → List Nat} (h : Wip g first count bs k X) : first + count ≤ g.n := by
  have := h.len
  have := h.n
  omega
set_option maxHeartbeats 8000000 in
theorem again_any {w : World} {S : Nat → Prop} {d : Nat} {g : Dev} (h : PDev w S d g) (count : Nat) (bs : List (List Nat)) (rs : List RecM) (k : Nat) (X : Nat → List Nat) (hw : Wip g 2 count bs k X) (hh : Holds rs bs) (hk : k ≤ rs.length) (hd : g.down = true) (hp : g.pend = []) (hcl : g.calls ≤ 100000) (hc : 1 ≤ count) (hc2 : count ≤ 40)
    (fs : List FallM) (fa : Option Addr) (fc : Nat) (hf : FallsAt w fa fs) (h1 : fs ≠ [] → ∀ ad, fa = some ad → ¬ S ad.block) (h2 : ∀ x ∈ fs, x.l.keep ≠ [] → ∀ ad, x.a = some ad → ¬ S ad.block) (hfl : ∀ x ∈ fs, x.l.keep.length ≤ 17592186044415) (hlen : fs.length ≤ 12) :
    Calls Tryz.prog 26 #[.pointer (some ⟨d, 0, none⟩), .int .i64 (count : Int), .slice fa fs.length fc] w fun e w' => ∃ S' T l g', e = .returned (.pointer (some ⟨l, 0, none⟩)) ∧ LD w' S' T l d g' ⟨2, count, bs.take k, (bs.take k).length, false⟩ ∧ Wip g' 2 count bs k X ∧ g'.down = false ∧ g'.pend = [] ∧ (∀ i, k ≤ i → i < count → sector g'.img (2 + i) = zerosB) ∧ g'.calls ≤ g.calls + 1300 ∧ g'.img.length = g.img.length ∧ Step w S w' S' ∧ w.heap.size ≤ l ∧ (∀ b, T b → w.heap.size ≤ b) := by
  have HI : AgSt w S d g count bs k X fs w 0 S g := ⟨h, hw, hd, hp, by omega, Step.refl _ _, rfl, Nat.zero_le _⟩
  have HF := hide hf
  have HFL := hide hfl
  clear hf h hw hd hp hfl
  go_enter Tryz.func26, Tryz.ntmps26
  go_wp2_with fail
  go_loopw [7] (fun iv wr => ∃ (i : Nat) (S' : Nat → Prop) (g' : Dev), iv = .int .i64 (i : Int) ∧ AgSt w S d g count bs k X fs wr i S' g') (fun iv _ => (fs.length + 1 - (intOf iv).toNat))
  case atStart => exact ⟨0, S, g, rfl, HI⟩
  case round =>
    obtain ⟨i, S', g', rfl, hst⟩ := hrel
    have hi := hst.hi
    have ht : decide ((i : Int) ≤ (fs.length : Int)) = true := by simp; omega
    have KD := Dv.down_any hst.dev
    rw [hst.down] at KD
    have KD := hide KD
    have KU := hide (Dv.up_any hst.dev)
    have HST := hide hst
    clear hst HI
    go_wp2_with fail
    refine KD.out.mono ?_
    rintro e w' ⟨rfl, hww⟩
    obtain rfl : wr = w' := hww.symm
    go_wp2_with fail
    refine KU.out.mono ?_
    rintro e w2 ⟨rfl, p2, k2⟩
    have P2 := hide p2
    have ST2 := hide (HST.out.st.trans (Step.of_keep k2))
    have W2 := hide (HST.out.wip.up)
    clear KD KU p2 k2
    by_cases hlt : i < fs.length
    · have FA := HF.out.keep ST2.out.1 h1 h2
      obtain ⟨hla0, b, off, efa, hb, _⟩ := HF.out.fall i hlt
      obtain ⟨hla, b2, off2, efa2, _, q0, q1, q2, q3⟩ := FA.fall i hlt
      obtain ⟨rfl, rfl⟩ : b = b2 ∧ off = off2 := by rw [efa] at efa2; cases efa2; exact ⟨rfl, rfl⟩
      have hbS : ¬ S b := h1 (fun q => by rw [q] at hlt; simp at hlt) _ efa
      have hlow : fs[i].l.keep ≠ [] → ∀ ad, fs[i].a = some ad → ad.block < w.heap.size := by
        intro hk0 ad ha
        rcases hla0.seen with q | ⟨b3, off3, q5, q6, _⟩
        · exact absurd q (by simpa [ints] using hk0)
        · rw [ha] at q5
          cases q5
          exact q6
      clear hla0 efa2
      have hlm := HFL.out fs[i] (List.getElem_mem hlt)
      have hla2 := h2 fs[i] (List.getElem_mem hlt)
      generalize fs[i] = fm at *
      obtain ⟨step, ls, la, lc⟩ := fm
      dsimp only at *
      have FX := hide (show w2.drew.cell? ⟨b, off + i * 4, none⟩ = some (.int .i64 step) ∧ w2.drew.cell? ⟨b, off + i * 4 + 1, none⟩ = some (.slice la ls.keep.length lc) ∧ w2.drew.cell? ⟨b, off + i * 4 + 2, none⟩ = some (.int .i64 ls.torn) ∧ w2.drew.cell? ⟨b, off + i * 4 + 3, none⟩ = some (.int .i64 ls.off) from ⟨q0, q1, q2, q3⟩)
      have dB : Below w2.heap.size w2 w2.drew := (Below.refl _ _).drew
      have P3 := hide (P2.out.below dB)
      have LA := hide (show LossAt w2.drew ls la lc from ⟨hla.seen.below dB, hla.nil, hla.cap, hla.ok⟩)
      have ST3 := hide (ST2.out.trans (Step.of_below dB))
      subst efa
      have ht2 : decide ((i : Int) < (fs.length : Int)) = true := by simp; omega
      clear FA hla q0 q1 q2 q3 dB
      go_upto_region 7 with fail
      refine wp_region_held_drew (S := fun wq => wq.cell? ⟨b, off + i * 4, none⟩ = some (.int .i64 step) ∧ wq.cell? ⟨b, off + i * 4 + 1, none⟩ = some (.slice la ls.keep.length lc) ∧ wq.cell? ⟨b, off + i * 4 + 2, none⟩ = some (.int .i64 ls.torn) ∧ wq.cell? ⟨b, off + i * 4 + 3, none⟩ = some (.int .i64 ls.off)) (by kernel_rfl) FX.out (fun hS => ?_)
      generalize w2.drew = w3 at *
      clear FX
      refine take_at 0 (some 24) (v := ?_) rfl rfl (by kernel_rfl) (by kernel_rfl) (by kernel_rfl) (fun _ _ _ h => h) ⟨by rfl, ?_⟩ hS ?_
      rotate_left
      · intro wq hSw; go_simp; try rfl
      simp only [Act.put, List.setIfInBounds_toArray, List.set_cons_zero, List.set_cons_succ]
      refine take_at 1 (some 25) (v := ?_) rfl rfl (by kernel_rfl) (by kernel_rfl) (by kernel_rfl) (fun _ _ _ h => h) ⟨by rfl, ?_⟩ hS ?_
      rotate_left
      · intro wq hSw; go_simp; try rfl
      simp only [Act.put, List.setIfInBounds_toArray, List.set_cons_zero, List.set_cons_succ]
      refine take_at 2 (some 26) (v := ?_) rfl rfl (by kernel_rfl) (by kernel_rfl) (by kernel_rfl) (fun _ _ _ h => h) ⟨by rfl, ?_⟩ hS ?_
      rotate_left
      · intro wq hSw; go_simp; try rfl
      simp only [Act.put, List.setIfInBounds_toArray, List.set_cons_zero, List.set_cons_succ]
      refine take_at 3 (some 27) (v := ?_) rfl rfl (by kernel_rfl) (by kernel_rfl) (by kernel_rfl) (fun _ _ _ h => h) ⟨by rfl, ?_⟩ hS ?_
      rotate_left
      · intro wq hSw; go_simp; try rfl
      simp only [Act.put, List.setIfInBounds_toArray, List.set_cons_zero, List.set_cons_succ]
      refine take_at 4 (some 28) (v := ?_) rfl rfl (by kernel_rfl) (by kernel_rfl) (by kernel_rfl) (fun _ _ _ h => h) ⟨by rfl, ?_⟩ hS ?_
      rotate_left
      · intro wq hSw; go_simp; try rfl
      simp only [Act.put, List.setIfInBounds_toArray, List.set_cons_zero, List.set_cons_succ]
      refine take_at 5 (some 29) (v := ?_) rfl rfl (by kernel_rfl) (by kernel_rfl) (by kernel_rfl) (fun _ _ _ h => h) ⟨by rfl, ?_⟩ hS ?_
      rotate_left
      · intro wq hSw; obtain ⟨y0, y1, y2, y3⟩ := hSw; go_simp; try rfl
      simp only [Act.put, List.setIfInBounds_toArray, List.set_cons_zero, List.set_cons_succ]
      refine take_at 8 (some 32) (v := ?_) rfl rfl (by kernel_rfl) (by kernel_rfl) (by kernel_rfl) (fun _ _ _ h => h) ⟨by rfl, ?_⟩ hS ?_
      rotate_left
      · intro wq hSw; go_simp; try rfl
      simp only [Act.put, List.setIfInBounds_toArray, List.set_cons_zero, List.set_cons_succ]
      refine take_at 9 (some 33) (v := ?_) rfl rfl (by kernel_rfl) (by kernel_rfl) (by kernel_rfl) (fun _ _ _ h => h) ⟨by rfl, ?_⟩ hS ?_
      rotate_left
      · intro wq hSw; go_simp; try rfl
      simp only [Act.put, List.setIfInBounds_toArray, List.set_cons_zero, List.set_cons_succ]
      refine take_at 10 (some 34) (v := ?_) rfl rfl (by kernel_rfl) (by kernel_rfl) (by kernel_rfl) (fun _ _ _ h => h) ⟨by rfl, ?_⟩ hS ?_
      rotate_left
      · intro wq hSw; go_simp; try rfl
      simp only [Act.put, List.setIfInBounds_toArray, List.set_cons_zero, List.set_cons_succ]
      refine take_at 11 (some 35) (v := ?_) rfl rfl (by kernel_rfl) (by kernel_rfl) (by kernel_rfl) (fun _ _ _ h => h) ⟨by rfl, ?_⟩ hS ?_
      rotate_left
      · intro wq hSw; go_simp; try rfl
      simp only [Act.put, List.setIfInBounds_toArray, List.set_cons_zero, List.set_cons_succ]
      refine take_at 12 (some 36) (v := ?_) rfl rfl (by kernel_rfl) (by kernel_rfl) (by kernel_rfl) (fun _ _ _ h => h) ⟨by rfl, ?_⟩ hS ?_
      rotate_left
      · intro wq hSw; obtain ⟨y0, y1, y2, y3⟩ := hSw; go_simp; try rfl
      simp only [Act.put, List.setIfInBounds_toArray, List.set_cons_zero, List.set_cons_succ]
      refine wpAnyH_ready (rs := [6]) (by kernel_rfl) (by simp) ?_
      refine AllReadyH.cons rfl (fun K hK => ?_) AllReadyH.nil
      go_simp
      go_wp2_with fail
      refine (brought_lit step 9 9 rfl _ (by decide) (by decide)).mono ?_
      rintro e w4 ⟨sb, rfl, hsb, hww⟩
      obtain rfl : w3 = w4 := hww.symm
      go_wp2_with fail
      refine hK.out _ _ hS (fun hS => ?_)
      clear hK K
      (try simp only [Act.put, List.setIfInBounds_toArray, List.set_cons_zero, List.set_cons_succ])
      obtain ⟨sq, hsq⟩ : ∃ q : Nat, q = 1 + sb := ⟨_, rfl⟩
      have hsw : IntKind.i64.wrap (1 + (sb : Int)) = (sq : Int) := by rw [IntKind.wrap_i64]; omega
      have hsq9 : sq ≤ 9 := by omega
      have HSQ := hide hsq
      clear hsq
      refine take_at 7 (some 31) (v := ?_) rfl rfl (by kernel_rfl) (by kernel_rfl) (by kernel_rfl) (fun _ _ _ h => h) ⟨by rfl, ?_⟩ hS ?_
      rotate_left
      · intro wq hSw; go_simp; try rfl
      simp only [Act.put, List.setIfInBounds_toArray, List.set_cons_zero, List.set_cons_succ]
      have W3 := hide (W2.out.arm' rfl (sq : Int) (by omega) ls)
      obtain ⟨a1, a2, a3, a4, _⟩ := arm_still g'.up (sq : Int) ls
      have LN := hide (show (g'.up.arm (sq : Int) ls).img.length = g.img.length by rw [a4]; exact HST.out.ln)
      have DN := hide (a1.trans rfl : (g'.up.arm (sq : Int) ls).down = false)
      have PN := hide (a2.trans HST.out.pend)
      have CL := hide (show (g'.up.arm (sq : Int) ls).calls ≤ g.calls + i * 100 from a3.symm ▸ HST.out.cl)
      have KA := hide (Dv.arm_any P3.out (sq : Int) (by omega) ls la lc LA.out (fun hk0 ad ha q => (ST3.out.2 ad.block q).elim (hla2 hk0 ad ha) (fun r => by have := hlow hk0 ad ha; omega)) hlm)
      clear a1 a2 a3 a4 KD W2 LA
      generalize g'.up.arm (sq : Int) ls = g3 at *
      refine wpAnyH_ready (rs := [13]) (by kernel_rfl) (by simp) ?_
      refine AllReadyH.cons rfl (fun K hK => ?_) AllReadyH.nil
      go_simp
      go_wp2_with fail
      refine KA.out.mono ?_
      rintro e w5 ⟨S5, rfl, p5, s5⟩
      have P5 := hide p5
      have ST5 := hide (ST3.out.trans s5)
      have hS5 := hide (show w5.cell? ⟨b, off + i * 4, none⟩ = some (.int .i64 step) ∧ w5.cell? ⟨b, off + i * 4 + 1, none⟩ = some (.slice la ls.keep.length lc) ∧ w5.cell? ⟨b, off + i * 4 + 2, none⟩ = some (.int .i64 ls.torn) ∧ w5.cell? ⟨b, off + i * 4 + 3, none⟩ = some (.int .i64 ls.off) from by
        have kk : ∀ o, w5.cell? ⟨b, o, none⟩ = w3.cell? ⟨b, o, none⟩ := fun o => s5.1.cell (p := ⟨b, o, none⟩) (Nat.lt_of_lt_of_le hb ST3.out.1.size) (fun q => (ST3.out.2 b q).elim hbS (fun r => by omega))
        obtain ⟨y0, y1, y2, y3⟩ := hS
        exact ⟨(kk _).trans y0, (kk _).trans y1, (kk _).trans y2, (kk _).trans y3⟩)
      clear KA p5 s5
      go_wp2_with fail
      refine hK.out _ _ hS5.out (fun hS => ?_)
      clear hK K
      (try simp only [Act.put, List.setIfInBounds_toArray, List.set_cons_zero, List.set_cons_succ])
      refine wpAnyH_done (by kernel_rfl) ?_ _
      have O := W3.out.open_ hh hk DN.out PN.out (by decide)
      have KO := hide (open_any P5.out 2 count hc W3.out.openn (by rw [PN.out]; exact Nat.zero_le _) (by have := CL.out; omega))
      have OC := hide (openD_calls g3 2 count)
      have OL := hide ((openD_len g3 P5.out.ok 2 count).trans LN.out)
      obtain ⟨o1, o2, o3⟩ := O
      have O1 := hide o1
      have O3 := hide o3
      clear o1 o2 o3
      go_wp2_with fail
      refine KO.out.mono ?_
      rintro e w6 ⟨S6, p6, k6, n6, h6⟩
      have ST6 := hide (ST5.out.trans ⟨k6, n6⟩)
      have P6 := hide p6
      clear KO k6 n6 p6
      rcases h6 with ⟨he, l, T6, rfl, ld6, hl6, hT6⟩ | ⟨he, v, rfl, hv⟩
      · rw [O1.out] at ld6
        have L6 := hide ld6
        have HL6 := hide (show w.heap.size ≤ l from Nat.le_trans ST5.out.1.size hl6)
        have HT6 := hide (show ∀ b, T6 b → w.heap.size ≤ b from fun b q => Nat.le_trans ST5.out.1.size (hT6 b q))
        clear ld6 hl6 hT6
        have O4 := O3.out.resolve_right (fun q => by rw [q.1] at he; exact absurd he (by decide))
        have O4 := hide O4
        clear he O3
        go_wp2_with fail
        go_ret
        obtain ⟨q1, q2, q3, q4, q5⟩ := O4.out
        exact ⟨S6, T6, l, _, rfl, L6.out, q2, q3, q4, q5, by have := OC.out; have := CL.out; omega, OL.out, ST6.out, HL6.out, HT6.out⟩
      · have O4 := O3.out.resolve_left (fun q => he q.1)
        have O4 := hide O4
        have KE := Dv.down_any P6.out
        rw [O4.out.2.2.1] at KE
        have KE := hide KE
        obtain ⟨en, rfl, hv2⟩ := hv
        clear he O3 hv2
        go_wp2_with fail
        refine KE.out.mono ?_
        rintro e w7 ⟨rfl, hww⟩
        obtain rfl : w6 = w7 := hww.symm
        go_wp2_with fail
        go_roundw
        case rel => exact ⟨i + 1, S6, _, by go_num, P6.out, O4.out.2.1, O4.out.2.2.1, O4.out.2.2.2.1, by have := OC.out; have := CL.out; omega, ST6.out, OL.out, by omega⟩
        case measure => simp [intOf]; omega
    · have hie : i = fs.length := by omega
      have ht2 : decide ((i : Int) < (fs.length : Int)) = false := by simp; omega
      obtain ⟨a1, a2, a3, a4, _⟩ := arm_still g'.up 0 ⟨[], 0, 0⟩
      have LN := hide (show (g'.up.arm 0 ⟨[], 0, 0⟩).img.length = g.img.length by rw [a4]; exact HST.out.ln)
      have W3 := hide (W2.out.arm' rfl 0 (by decide) ⟨[], 0, 0⟩)
      have DN := hide (a1.trans rfl : (g'.up.arm 0 ⟨[], 0, 0⟩).down = false)
      have PN := hide (a2.trans HST.out.pend)
      have CL := hide (show (g'.up.arm 0 ⟨[], 0, 0⟩).calls ≤ g.calls + i * 100 from a3.symm ▸ HST.out.cl)
      have ZL := hide (arm_zero g'.up rfl ⟨[], 0, 0⟩)
      have KA := Dv.arm_any P2.out 0 (by decide) ⟨[], 0, 0⟩ none 0 ⟨.inl rfl, fun _ => rfl, Nat.le_refl _, ⟨nofun, by decide, by decide⟩⟩ (fun q => absurd rfl q) (by decide)
      have KA := hide KA
      clear a1 a2 a3 a4 W2
      generalize g'.up.arm 0 ⟨[], 0, 0⟩ = g3 at *
      go_wp2_with fail
      refine KA.out.mono ?_
      rintro e w5 ⟨S5, rfl, p5, s5⟩
      have P5 := hide p5
      have ST5 := hide (ST2.out.trans s5)
      clear KA p5 s5
      have O := W3.out.open_ hh hk DN.out PN.out (by decide)
      have KO := hide (open_any P5.out 2 count hc W3.out.openn (by rw [PN.out]; exact Nat.zero_le _) (by have := CL.out; omega))
      have OC := hide (openD_calls g3 2 count)
      have OL := hide ((openD_len g3 P5.out.ok 2 count).trans LN.out)
      obtain ⟨o1, o2, o3⟩ := O
      have O1 := hide o1
      have O3 := hide o3
      clear o1 o2 o3
      go_wp2_with fail
      refine KO.out.mono ?_
      rintro e w6 ⟨S6, p6, k6, n6, h6⟩
      have ST6 := hide (ST5.out.trans ⟨k6, n6⟩)
      have P6 := hide p6
      clear KO k6 n6 p6
      rcases h6 with ⟨he, l, T6, rfl, ld6, hl6, hT6⟩ | ⟨he, v, rfl, hv⟩
      · rw [O1.out] at ld6
        have L6 := hide ld6
        have HL6 := hide (show w.heap.size ≤ l from Nat.le_trans ST5.out.1.size hl6)
        have HT6 := hide (show ∀ b, T6 b → w.heap.size ≤ b from fun b q => Nat.le_trans ST5.out.1.size (hT6 b q))
        clear ld6 hl6 hT6
        have O4 := O3.out.resolve_right (fun q => by rw [q.1] at he; exact absurd he (by decide))
        have O4 := hide O4
        clear he O3
        go_wp2_with fail
        go_ret
        obtain ⟨q1, q2, q3, q4, q5⟩ := O4.out
        exact ⟨S6, T6, l, _, rfl, L6.out, q2, q3, q4, q5, by have := OC.out; have := CL.out; omega, OL.out, ST6.out, HL6.out, HT6.out⟩
      · exact absurd (O3.out.elim (fun q => q.1) (fun q => absurd ZL.out q.2.2.2.2)) he
end Go.Proofs.YtgpmghdoofcpaaaGreat.Lg
