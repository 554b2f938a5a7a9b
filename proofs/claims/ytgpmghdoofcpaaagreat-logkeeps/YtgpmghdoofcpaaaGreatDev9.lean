import Derived.Test.YtgpmghdoofcpaaaGreatG14
namespace Go.Proofs.YtgpmghdoofcpaaaGreat.Dv
open Go.RowKit Go.QK

theorem _root_.Go.QK.Owns.low {k : IntKind} {e : TypeId} {w : World} {B : Nat} {v : Value} {xs : List Int} (q : Owns k e w B v xs) : Owns k e w 0 v xs :=
  ⟨q.1, by
    rcases q.2 with r | ⟨g, cap, cur, r1, r2, r3⟩
    · exact .inl r
    · exact .inr ⟨g, cap, cur, r1, Nat.zero_le _, r3⟩⟩

def loads (n : Nat) : Prop := n % 512 = 0 ∧ 1 ≤ n / 512 ∧ n / 512 ≤ 8192
theorem rem512 (p : Nat) : (p : Int).tmod 512 = ((p % 512 : Nat) : Int) := by rw [Int.tmod_eq_emod_of_nonneg (by omega)]; omega

set_option maxHeartbeats 400000 in
set_option maxRecDepth 100000 in
theorem load_ok (a : Option Addr) (l : List Nat) (c : Nat) (w : World) (hs : Bytes w a l) (hc : l.length ≤ c) (ha : a = none → c = 0) (hb : AllB l) (hl : loads l.length) :
    Calls Tryz.prog 31 #[.slice a l.length c] w fun e w' => ∃ d S, e = .returned (.tuple #[.pointer (some ⟨d, 0, none⟩), .int .i64 0]) ∧ PDev w' S d (Dev.load l) ∧ (∀ b, S b → w.heap.size ≤ b) ∧ Below w.heap.size w w' := by
  obtain ⟨h1, h2, h3⟩ := hl
  have K := hide (clone_any a l c w hs hc ha (by omega))
  have e1 := quo512 l.length
  have e2 := rem512 l.length
  have OKL := hide (show (Dev.load l).Ok from Dev.Ok.load ⟨l.length / 512, h2, h3, by omega⟩ hb)
  obtain ⟨q, hq⟩ : ∃ q, q = l.length / 512 := ⟨_, rfl⟩
  rw [← hq] at e1 h2 h3
  rw [h1] at e2
  have g1 : decide ((q : Int) < 1) = false := by simp; omega
  have g2 : decide ((8192 : Int) < (q : Int)) = false := by simp; omega
  have hq' : wrap64 (q : Int) = (q : Int) := by unfold wrap64; omega
  have HQ := hide hq
  have hpos : 0 < l.length := by omega
  clear hq hs h1
  go_enter Tryz.func31, Tryz.ntmps31
  go_wp2_with fail
  refine K.out.mono ?_
  rintro e w1 ⟨v, rfl, o1, b1⟩
  obtain ⟨g, cap, rfl, hcap, hBg, hg⟩ := o1.form (by simpa using hpos)
  rw [ints_length] at o1
  have O1 := hide o1
  clear o1 K
  rw [ints_length]
  go_wp2_with fail
  go_ret2
  have bA := alloc_below w1 (.cells #[.slice (some ⟨g, 0, none⟩) l.length cap, .slice none 0 0, .int .i64 0, .bool false, .int .i64 0, .slice none 0 0, .int .i64 0, .int .i64 0] 114)
  refine ⟨w1.heap.size, fun b => b = g ∨ b = w1.heap.size, rfl, ⟨g, cap, .slice none 0 0, [], .slice none 0 0, 0, 0, Cells.new w1 _ 114, ⟨.inr rfl, (Owns.below O1.out bA).low, ⟨.inl rfl, by omega⟩, PRow.nil _ _, nofun, nofun, nofun, ?_⟩, rfl, OKL.out⟩, ?_, ?_⟩
  · intro b hb
    have hb : b = g ∨ b = w1.heap.size := hb
    rw [World.size_alloc]
    omega
  · intro b hb
    have hb : b = g ∨ b = w1.heap.size := hb
    have := b1.size
    omega
  · exact bnext b1 bA (Nat.le_refl _)

set_option maxRecDepth 100000 in
theorem load_no (a : Option Addr) (n c : Nat) (w : World) (hn : n ≤ 4611686018427387904) (hl : ¬ loads n) :
    Calls Tryz.prog 31 #[.slice a n c] w fun e w' => e = .returned (.tuple #[.pointer none, .int .i64 43]) ∧ w' = w := by
  have e1 := quo512 n
  have e2 := rem512 n
  unfold loads at hl
  generalize hq : n / 512 = q at *
  generalize hr : n % 512 = r at *
  have hq' : wrap64 (q : Int) = (q : Int) := by unfold wrap64; omega
  by_cases h1 : r = 0
  · subst h1
    clear hr
    by_cases h2 : q < 1
    · obtain rfl : q = 0 := by omega
      clear hq hl
      go_enter Tryz.func31, Tryz.ntmps31
      go_wp2_with fail
      go_ret2
      exact ⟨rfl, rfl⟩
    · have g1 : decide ((q : Int) < 1) = false := by simp; omega
      have g2 : (8192 : Int) < (q : Int) := by omega
      clear hq hl h2
      go_enter Tryz.func31, Tryz.ntmps31
      go_wp2_with fail
      go_ret2
      exact ⟨rfl, rfl⟩
  · have g : ((r : Int) != 0) = true := by simp; omega
    clear hq hl hr
    go_enter Tryz.func31, Tryz.ntmps31
    go_wp2_with fail
    go_ret2
    exact ⟨rfl, rfl⟩

set_option maxHeartbeats 400000 in
set_option maxRecDepth 100000 in
theorem arm_any {w : World} {S : Nat → Prop} {d : Nat} {g : Dev} (h : PDev w S d g) (step : Int) (hst : step ≤ 9223372036854775807) (l : Loss) (a : Option Addr) (c : Nat) (hl : LossAt w l a c) (ha : l.keep ≠ [] → ∀ ad, a = some ad → ¬ S ad.block) (hkl : l.keep.length ≤ 17592186044415) :
    Calls Tryz.prog 20 #[.pointer (some ⟨d, 0, none⟩), .int .i64 step, .agg #[.slice a l.keep.length c, .int .i64 l.torn, .int .i64 l.off]] w fun e w' => ∃ S', e = .returned (.int .i64 ((g.armE step : Nat) : Int)) ∧ PDev w' S' d (g.arm step l) ∧ Step w S w' S' := by
  have okA := hide (h.ok.arm' step l hl.ok hst)
  obtain ⟨ib, ic, pv, ps, kv, tn, off, hc, hb, hp, ok⟩ := h
  obtain ⟨c3, f3⟩ := hc.get 3 _ rfl
  have hdl := hc.1
  have B0 := alloc_below w (.cells #[.slice a l.keep.length c, .int .i64 l.torn, .int .i64 l.off] 64)
  have C0 := hide (hc.below B0)
  have HB := hide hb
  have LB := hide (hb.below B0)
  unfold Dev.armE
  have OKG := hide ok
  by_cases hd : g.down = true
  · rw [hd] at c3
    rw [if_pos hd]
    have e0 : g.arm step l = g := by unfold Dev.arm; rw [if_pos (Or.inl hd)]
    rw [e0]
    clear hc hb okA
    go_enter Tryz.func20, Tryz.ntmps20
    go_wp2_with fail
    go_ret
    exact ⟨S, rfl, ⟨ib, ic, pv, ps, kv, tn, off, C0.out, LB.out, hp, OKG.out⟩, Step.of_below B0⟩
  · rw [if_neg hd]
    have hdf := hide hd
    simp only [Bool.not_eq_true] at hd
    rw [hd] at c3
    by_cases hs : step < 0
    · rw [if_pos hs]
      have e0 : g.arm step l = g := by unfold Dev.arm; rw [if_pos (Or.inr hs)]
      rw [e0]
      clear hc hb okA
      go_enter Tryz.func20, Tryz.ntmps20
      go_wp2_with fail
      go_ret
      exact ⟨S, rfl, ⟨ib, ic, pv, ps, kv, tn, off, C0.out, LB.out, hp, OKG.out⟩, Step.of_below B0⟩
    · rw [if_neg hs]
      have e0 := hide (show g.arm step l = { g with left := step.toNat, loss := if 0 < step then some l else none } by unfold Dev.arm; rw [if_neg (by rintro (q | q); exact hdf.out q; exact hs q)])
      have hs' : decide (step < 0) = false := by simpa using hs
      clear hc hb
      by_cases hz : 0 < step
      · clear hs
        have hk0 : (w.alloc (.cells #[.slice a l.keep.length c, .int .i64 l.torn, .int .i64 l.off] 64)).cell? ⟨w.heap.size, 0, none⟩ = some (.slice a l.keep.length c) := by rw [World.cell?_alloc_new]; rfl
        have hk1 : (w.alloc (.cells #[.slice a l.keep.length c, .int .i64 l.torn, .int .i64 l.off] 64)).cell? ⟨w.heap.size, 1, none⟩ = some (.int .i64 l.torn) := by rw [World.cell?_alloc_new]; rfl
        have hk2 : (w.alloc (.cells #[.slice a l.keep.length c, .int .i64 l.torn, .int .i64 l.off] 64)).cell? ⟨w.heap.size, 2, none⟩ = some (.int .i64 l.off) := by rw [World.cell?_alloc_new]; rfl
        go_enter Tryz.func20, Tryz.ntmps20
        go_wp2_with fail
        refine (disarm_at C0.out).mono ?_
        rintro e w1 ⟨⟨v, rfl⟩, c1, k1⟩
        obtain ⟨u4, g4⟩ := c1.get 4 _ rfl
        obtain ⟨u5, g5⟩ := c1.get 5 _ rfl
        obtain ⟨u6, g6⟩ := c1.get 6 _ rfl
        obtain ⟨u7, g7⟩ := c1.get 7 _ rfl
        have n0 : ¬ w.heap.size = d := by omega
        have y0 := (k1.cell (p := ⟨w.heap.size, 0, none⟩) (by simp) n0).trans hk0
        have y1 := (k1.cell (p := ⟨w.heap.size, 1, none⟩) (by simp) n0).trans hk1
        have y2 := (k1.cell (p := ⟨w.heap.size, 2, none⟩) (by simp) n0).trans hk2
        have C1 := hide c1
        have K1 := hide k1
        clear c1 k1 hk0 hk1 hk2
        go_wp2_with fail
        obtain ⟨w2, hw2⟩ : ∃ w2, w2 = ((((w1.setCell ⟨d, 4, none⟩ (.int .i64 step)).setCell ⟨d, 5, none⟩ (.slice a l.keep.length c)).setCell ⟨d, 6, none⟩ (.int .i64 l.torn)).setCell ⟨d, 7, none⟩ (.int .i64 l.off)) := ⟨_, rfl⟩
        rw [← hw2]
        have c2 := (((C1.out.stored (j := 4) (by simp) (.int .i64 step)).stored (j := 5) (by simp) (.slice a l.keep.length c)).stored (j := 6) (by simp) (.int .i64 l.torn)).stored (j := 7) (by simp) (.int .i64 l.off)
        have k2 : Keep (fun j => j = d) w1 w2 := by
          rw [hw2]
          exact ((((Keep.refl (fun j => j = d) w1).setCell (fun _ => rfl) _).setCell (fun _ => rfl) _).setCell (fun _ => rfl) _).setCell (fun _ => rfl) _
        rw [← hw2] at c2
        have C2 := hide c2
        have KW2 := hide ((Keep.of_below B0).trans (K1.out.trans k2 (fun _ _ q => q)) (fun _ _ q => q))
        have hs2 := Seen.keep' hl.seen KW2.out (fun hx ad had q => ha (ints_ne hx) ad had (by rw [q]; exact HB.out.dS))
        clear c2 hw2 k2 u4 g4 u5 g5 u6 g6 u7 g7 y0 y1 y2 C0 C1 K1
        refine (cloneW_any a l.keep c w2 hs2 hl.cap hl.nil hkl).mono ?_
        rintro e w3 ⟨v3, rfl, o3, b3⟩
        obtain ⟨a3, c3', hv3, s3, n3, l3, m3⟩ := o3.seen
        rw [ints_length] at hv3
        have hw3 : ∀ ad, a3 = some ad → w2.heap.size ≤ ad.block ∧ ad.block < w3.heap.size := fun ad had => World.ownsRow.lt o3 _ (by rw [hv3, had]; rfl)
        subst hv3
        obtain ⟨u5, g5⟩ := (C2.out.below b3).get 5 _ rfl
        have C3 := hide ((C2.out.below b3).stored (j := 5) (by simp) (.slice a3 l.keep.length c3'))
        have S3 := hide s3
        have KB := hide (KW2.out.then_below b3)
        have hsz := KW2.out.size
        have hd3 := Nat.lt_of_lt_of_le hdl KB.out.size
        have B3 := hide (HB.out.keep KB.out (fun _ q _ => q))
        clear o3 s3 b3 hs2 C2 KW2
        go_wp2_with fail
        go_ret
        have KD : Keep (fun j => j = d) w (w3.setCell ⟨d, 5, none⟩ (.slice a3 l.keep.length c3')) := KB.out.setCell (fun _ => rfl) _
        rw [e0.out] at okA ⊢
        have nS : ∀ ad, a3 = some ad → ¬ S ad.block := fun ad had q => by
          have := HB.out.lt _ q
          have := hw3 ad had
          omega
        refine ⟨fun b => S b ∨ ∃ ad, a3 = some ad ∧ ad.block = b, rfl, ⟨ib, ic, pv, ps, .slice a3 l.keep.length c3', l.torn, l.off, ?_, ?_, hp, okA.out⟩, KD.mono (fun j _ q => by subst q; exact HB.out.dS), ?_⟩
        · have e : ((step.toNat : Nat) : Int) = step := by omega
          have q := C3.out
          simp only [pcs, e]
          exact q
        · have B4 := B3.out.set 5 (.slice a3 l.keep.length c3')
          rw [if_pos hz]
          refine ⟨.inl B4.dS, B4.img, ⟨.inl B4.iS.1, B4.iS.2⟩, B4.row, fun b hb => ⟨.inl (B4.rS b hb).1, (B4.rS b hb).2⟩, fun p hp => ?_, fun l' hl' => ?_, fun b hb => ?_⟩
          · obtain ⟨h1, h2, h3, h4, h5⟩ := B4.en p hp
            exact ⟨h1, h2, h3, .inl h4, h5⟩
          · cases hl'
            refine ⟨rfl, rfl, a3, c3', rfl, Seen.keep S3.out (((Keep.refl (fun j => j = d) w3)).setCell (fun _ => rfl) _) (fun ad had q => nS ad had (by rw [q]; exact HB.out.dS)), n3, fun ad had => ⟨.inr ⟨ad, had, rfl⟩, fun q => nS ad had (by rw [q]; exact HB.out.dS), fun q => nS ad had (by rw [q]; exact HB.out.iS.1), fun q => nS ad had (HB.out.rS _ q).1⟩⟩
          · rcases hb with q | ⟨ad, had, rfl⟩
            · exact B4.lt b q
            · simp
              exact (hw3 ad had).2
        · rintro b (q | ⟨ad, had, rfl⟩)
          · exact .inl q
          · have := (hw3 ad had).1
            have hz : w.heap.size ≤ w2.heap.size := hsz
            exact .inr (by omega)
      · obtain rfl : step = 0 := by omega
        clear hs hs' hz
        go_enter Tryz.func20, Tryz.ntmps20
        go_wp2_with fail
        refine (disarm_at C0.out).mono ?_
        rintro e w1 ⟨⟨v, rfl⟩, c1, k1⟩
        have C1 := hide c1
        have K1 := hide ((Keep.of_below B0).trans k1 (fun _ _ q => q))
        clear c1 k1
        go_wp2_with fail
        go_ret
        rw [e0.out] at okA ⊢
        refine ⟨S, rfl, ⟨ib, ic, pv, ps, .slice none 0 0, 0, 0, C1.out, (HB.out.keep K1.out (fun _ q _ => q)).forget _ _ _, hp, okA.out⟩, Step.of_keep (K1.out.mono (fun j _ q => by subst q; exact HB.out.dS))⟩
end Go.Proofs.YtgpmghdoofcpaaaGreat.Dv
