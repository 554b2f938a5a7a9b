import Derived.Test.YtgpmghdoofcpaaaGreatDev5
import Derived.Laws.MakeOwn
import Derived.Laws.OwnMore
namespace Go.Proofs.YtgpmghdoofcpaaaGreat.Dv
open Go.RowKit Go.QK

theorem pend_fits {g : Dev} {ps : List PE} (hp : g.pend = ps.map PE.out) (ok : g.Ok) : ∀ p ∈ ps, Fits g.img.length p.out := fun p hm => ok.pend _ (by rw [hp]; exact List.mem_map.2 ⟨p, hm, rfl⟩)
theorem _root_.Go.QK.PRow.form' {w : World} {B : Nat} {a : Option Addr} {n c : Nat} {ps : List PE} (h : PRow w B (.slice a n c) ps) (k : Nat) (hk : k < ps.length) : ∃ b, a = some ⟨b, 0, none⟩ ∧ b < w.heap.size ∧ w.cell? ⟨b, k * 2, none⟩ = some (.int .i64 (ps[k].s : Int)) ∧ w.cell? ⟨b, k * 2 + 1, none⟩ = some ps[k].v := by
  obtain ⟨a', c', e, _, _, _, f⟩ := h.form
  cases e
  exact f k hk
theorem img_le' {g : Dev} (ok : g.Ok) : g.img.length ≤ 4194304 := by
  obtain ⟨n, n1, n2, hn⟩ := ok.size
  omega

set_option maxRecDepth 100000 in
theorem up_any {w : World} {S : Nat → Prop} {d : Nat} {g : Dev} (h : PDev w S d g) :
    Calls Tryz.prog 54 #[.pointer (some ⟨d, 0, none⟩)] w fun e w' => e = .returned (.int .i64 0) ∧ PDev w' S d g.up ∧ Keep S w w' := by
  obtain ⟨ib, ic, pv, ps, kv, tn, off, hc, hb, hp, ok⟩ := h
  obtain ⟨c3, f3⟩ := hc.get 3 _ rfl
  have hdl := hc.1
  have HC := hide hc
  have HB := hide hb
  clear hc hb
  go_enter Tryz.func54, Tryz.ntmps54
  go_wp2_with fail
  refine (disarm_at (HC.out.stored (j := 3) (by simp [pcs]) _)).mono ?_
  rintro e w1 ⟨⟨v, rfl⟩, c1, k1⟩
  have C1 := hide c1
  have K1 := hide k1
  clear c1 k1
  go_wp2_with fail
  go_ret
  have KD : Keep (fun j => j = d) w w1 := ((Keep.refl (fun j => j = d) w).setCell (fun _ => rfl) _).trans K1.out (fun _ _ q => q)
  refine ⟨rfl, ⟨ib, ic, pv, ps, .slice none 0 0, 0, 0, C1.out, (HB.out.keep KD (fun _ q _ => q)).forget _ _ _, hp, ok.up⟩, KD.mono (fun j _ q => by subst q; exact HB.out.dS)⟩

/-- A loss that is handed in. -/
structure LossAt (w : World) (l : Loss) (a : Option Addr) (c : Nat) : Prop where
  seen : Seen .u64 w a (ints l.keep)
  nil : a = none → c = 0
  cap : l.keep.length ≤ c
  ok : l.Ok

set_option maxHeartbeats 400000 in
set_option maxRecDepth 100000 in
theorem crash_any {w : World} {S : Nat → Prop} {d : Nat} {g : Dev} (h : PDev w S d g) (l : Loss) (a : Option Addr) (c : Nat) (hl : LossAt w l a c) (ha : l.keep ≠ [] → ∀ ad, a = some ad → ¬ S ad.block) (hpl : g.pend.length ≤ 1000000) :
    Calls Tryz.prog 25 #[.pointer (some ⟨d, 0, none⟩), .agg #[.slice a l.keep.length c, .int .i64 l.torn, .int .i64 l.off]] w fun e w' => e = .returned (.int .i64 ((g.crashE : Nat) : Int)) ∧ PDev w' S d (g.crash l) ∧ Keep S w w' := by
  obtain ⟨ib, ic, pv, ps, kv, tn, off, hc, hb, hp, ok⟩ := h
  obtain ⟨c3, f3⟩ := hc.get 3 _ rfl
  have hdl := hc.1
  have B0 := alloc_below w (.cells #[.slice a l.keep.length c, .int .i64 l.torn, .int .i64 l.off] 64)
  unfold Dev.crashE Dev.crash
  by_cases hd : g.down = true
  · rw [hd] at c3
    rw [if_pos hd, if_pos hd]
    have HC := hide hc
    have HB := hide hb
    clear hc hb
    go_enter Tryz.func25, Tryz.ntmps25
    go_wp2_with fail
    go_ret
    exact ⟨rfl, ⟨ib, ic, pv, ps, kv, tn, off, HC.out.below B0, HB.out.below B0, hp, ok⟩, Keep.of_below B0⟩
  · rw [if_neg hd, if_neg hd]
    simp only [Bool.not_eq_true] at hd
    have G := hide (giveUp_at (hc.below B0) (hb.below B0) (pend_fits hp ok) ok.bytes (img_le' ok) (by rw [hp] at hpl; simpa using hpl) l a c (hl.seen.below B0) (fun hx ad had => ⟨fun q => ha hx ad had (by rw [q]; exact hb.dS), fun q => ha hx ad had (by rw [q]; exact hb.iS.1)⟩) hl.ok)
    rw [hd] at c3
    have HB := hide hb
    clear hc hb
    go_enter Tryz.func25, Tryz.ntmps25
    go_wp2_with fail
    refine G.out.mono ?_
    rintro e w1 ⟨⟨v, rfl⟩, c1, b1, k1⟩
    have C1 := hide c1
    have K1 := hide k1
    have B1 := hide b1
    clear c1 k1 b1 G
    go_wp2_with fail
    go_ret
    refine ⟨rfl, ⟨ib, ic, .slice none 0 0, [], .slice none 0 0, 0, 0, ?_, ?_, rfl, ok.fall l⟩, ?_⟩
    · have e : (g.fall l).img.length = g.img.length := (fallFrom_ok l g.pend 0 g.img ok.pend rfl ok.bytes).1
      rw [e]
      exact C1.out
    · show Body w1 S d (fallFrom l 0 g.pend g.img) _ _ _ _ _ _ _ _
      rw [hp]
      exact B1.out
    · exact (Keep.of_below B0).trans K1.out (fun j _ q => by rcases q with rfl | rfl; exact HB.out.dS; exact HB.out.iS.1)
end Go.Proofs.YtgpmghdoofcpaaaGreat.Dv

namespace Go.Proofs.YtgpmghdoofcpaaaGreat.Dv
open Go.RowKit Go.QK

set_option maxHeartbeats 1000000 in
set_option maxRecDepth 100000 in
theorem sync_any {w : World} {S : Nat → Prop} {d : Nat} {g : Dev} (h : PDev w S d g) (hpl : g.pend.length ≤ 1000000) (hcl : g.calls ≤ 1000000) :
    Calls Tryz.prog 43 #[.pointer (some ⟨d, 0, none⟩)] w fun e w' => e = .returned (.int .i64 ((g.syncE : Nat) : Int)) ∧ PDev w' S d g.sync ∧ Keep S w w' := by
  obtain ⟨ib, ic, pv, ps, kv, tn, off, hc, hb, hp, ok⟩ := h
  obtain ⟨c3, f3⟩ := hc.get 3 _ rfl
  have hdl := hc.1
  have hps : ps.length ≤ 1000000 := by rw [hp] at hpl; simpa using hpl
  unfold Dev.syncE Dev.sync
  by_cases hd : g.down = true
  · rw [hd] at c3
    rw [if_pos (Or.inl hd), if_pos hd]
    have HC := hide hc
    have HB := hide hb
    clear hc hb
    go_enter Tryz.func43, Tryz.ntmps43
    go_wp2_with fail
    go_ret
    exact ⟨rfl, ⟨ib, ic, pv, ps, kv, tn, off, HC.out, HB.out, hp, ok⟩, Keep.refl _ _⟩
  · simp only [Bool.not_eq_true] at hd
    rw [hd] at c3
    have ST := hide (strikes_at hc hcl ok.left)
    have HB := hide hb
    clear hc hb
    by_cases hl : g.left = 1
    · rw [if_pos (Or.inr hl), if_neg (by rw [hd]; decide), if_pos hl]
      obtain ⟨l, hgl⟩ := ok.arm (by omega)
      obtain ⟨rfl, rfl, a, c, rfl, hseen, hnil, hap⟩ := HB.out.loss l hgl
      have hD : decide (g.left = 1) = true := by simp [hl]
      rw [hD] at ST
      go_enter Tryz.func43, Tryz.ntmps43
      go_wp2_with fail
      refine ST.out.mono ?_
      rintro e w1 ⟨rfl, hc1, hk1⟩
      have hb1 := HB.out.keep hk1 (fun _ q _ => q)
      have hs1 := Seen.keep hseen hk1 (fun ad had => (hap ad had).2.1)
      have G := hide (giveUp_at hc1 hb1 (pend_fits hp ok) ok.bytes (img_le' ok) hps l a c hs1 (fun _ ad had => ⟨(hap ad had).2.1, (hap ad had).2.2.1⟩) (ok.loss l hgl))
      obtain ⟨u5, _⟩ := hc1.get 5 _ rfl
      obtain ⟨u6, _⟩ := hc1.get 6 _ rfl
      obtain ⟨u7, _⟩ := hc1.get 7 _ rfl
      have HK1 := hide hk1
      clear hc1 hk1 hb1 hs1 hseen ST
      go_wp2_with fail
      refine G.out.mono ?_
      rintro e w2 ⟨⟨v, rfl⟩, c2, b2, k2⟩
      have C2 := hide c2
      have K2 := hide k2
      have B2 := hide b2
      clear c2 k2 b2 G u5 u6 u7
      go_wp2_with fail
      go_ret
      have e0 : g.strike.crashes = g.strike.fall l := by unfold Dev.crashes; rw [show g.strike.loss = some l from hgl]
      rw [e0]
      refine ⟨rfl, ⟨ib, ic, .slice none 0 0, [], .slice none 0 0, 0, 0, ?_, ?_, rfl, ok.strike.fall l⟩, ?_⟩
      · have e : (g.strike.fall l).img.length = g.img.length := (fallFrom_ok l g.pend 0 g.img ok.pend rfl ok.bytes).1
        rw [e]
        exact C2.out
      · show Body w2 S d (fallFrom l 0 g.pend g.img) _ _ _ _ _ _ _ _
        rw [hp]
        exact B2.out
      · exact (HK1.out.mono (fun j _ q => by subst q; exact HB.out.dS)).trans K2.out (fun j _ q => by rcases q with rfl | rfl; exact HB.out.dS; exact HB.out.iS.1)
    · rw [if_neg (by rintro (q | q); rw [hd] at q; cases q; exact hl q), if_neg (by rw [hd]; decide), if_neg hl]
      have hD : decide (g.left = 1) = false := by simp [hl]
      rw [hD] at ST
      obtain ⟨pa, pc, hpv, hpn, hple, hpm, hrow⟩ := HB.out.row.form
      subst hpv
      have HROW := hide hrow
      have HF := hide (pend_fits hp ok)
      have him := img_le' ok
      have hibl : ib < w.heap.size := HB.out.lt _ HB.out.iS.1
      clear hrow
      go_enter Tryz.func43, Tryz.ntmps43
      go_wp2_with fail
      refine ST.out.mono ?_
      rintro e w1 ⟨rfl, hc1, hk1⟩
      obtain ⟨u1, _⟩ := hc1.get 1 _ rfl
      have hs1 := hk1.size
      have C1 := hide hc1
      have HK1 := hide hk1
      have B1 := hide (HB.out.keep hk1 (fun _ q _ => q))
      clear hc1 hk1 ST
      go_wp2_with fail
      go_loopw [22] (fun i wr => ∃ k : Nat, k ≤ ps.length ∧ i = .int .i64 (k : Int) ∧ OwnB wr 0 (.slice (some ⟨ib, 0, none⟩) g.img.length ic) (syncAll (g.pend.take k) g.img) ∧ Keep (fun j => j = ib) w1 wr) (fun i _ => ps.length - (intOf i).toNat)
      case atStart => exact ⟨0, Nat.zero_le _, rfl, B1.out.img, Keep.refl _ _⟩
      case round =>
        obtain ⟨k, hk, rfl, hown, hkeep⟩ := hrel
        have gsz := hkeep.size
        have LEN := hide (syncAll_ok (g.pend.take k) g.img (fun p hp => ok.pend p (List.mem_of_mem_take hp)) rfl ok.bytes).1
        by_cases hlt : k < ps.length
        · obtain ⟨pb, rfl, hpb, p0, p1⟩ := B1.out.row.form' k hlt
          have hpr := B1.out.rS pb rfl
          have q0 := (hkeep.cell (p := ⟨pb, k * 2, none⟩) hpb hpr.2.2).trans p0
          have q1 := (hkeep.cell (p := ⟨pb, k * 2 + 1, none⟩) hpb hpr.2.2).trans p1
          obtain ⟨e1, e2, e2', e3, e4, e5, e6⟩ := B1.out.en ps[k] (List.getElem_mem hlt)
          obtain ⟨f1, f2, f3⟩ := HF.out ps[k] (List.getElem_mem hlt)
          have hbl : ps[k].b.length = 512 := f2
          unfold PE.v at q1
          rw [hbl] at q1
          have hlk : (k : Int) < (ps.length : Int) := by omega
          have c0 := (hkeep.cell (p := ⟨d, 0, none⟩) C1.out.1 (fun q => HB.out.iS.2 q.symm)).trans (C1.out.get 0 _ rfl).1
          have P1 := hide (Seen.keep e1 hkeep (fun ad had => by cases had; exact e5))
          have STEP := hide (syncAll_take g.pend g.img k (by rw [hp]; simpa using hlt))
          have EK := hide (show g.pend[k]'(by rw [hp]; simpa using hlt) = ps[k].out by simp [hp])
          have hH := hide hown
          have hKP := hide hkeep
          have bA := alloc_below wr (.cells #[.int .i64 (ps[k].s : Int), .slice (some ⟨ps[k].k, 0, none⟩) 512 ps[k].c] 124)
          clear hown hkeep p0 p1
          go_wp2_with fail
          refine (land_at (img := syncAll (g.pend.take k) g.img) (n := 512) (by rw [LEN.out]; exact (bA.cell (p := ⟨d, 0, none⟩) (by show d < _; omega)).trans c0) (by simp; omega) (by rw [LEN.out]; exact Owns.below hH.out bA) (Seen.below P1.out bA) hbl (by omega) (by rw [LEN.out]; exact f1) (by rw [LEN.out]; exact him) (Nat.le_refl _)).mono ?_
          rintro e w3 ⟨⟨v3, rfl⟩, o3, k3⟩
          have o4 : OwnB w3 0 (.slice (some ⟨ib, 0, none⟩) g.img.length ic) (syncAll (g.pend.take (k + 1)) g.img) := by
            rw [STEP.out, EK.out]
            have e := o3
            rw [LEN.out] at e
            exact e
          have O4 := hide o4
          have K4 := hide ((hKP.out.then_below bA).trans k3 (fun _ _ q => q))
          clear o3 o4 k3 P1 c0 q0 q1
          go_wp2_with fail
          go_roundw
          case rel => exact ⟨k + 1, by omega, by go_num, O4.out, K4.out⟩
          case measure => simp [intOf]; omega
        · obtain rfl : k = ps.length := by omega
          have hpe : g.pend.length = ps.length := by rw [hp]; simp
          rw [List.take_of_length_le (by omega)] at hown LEN
          have BB := hide (B1.out.image (img' := syncAll g.pend g.img) hkeep (by rw [LEN.out]; exact hown))
          have CC := hide (C1.out.keep hkeep (fun q => HB.out.iS.2 q.symm))
          obtain ⟨v1, g1⟩ := CC.out.get 1 _ rfl
          have HKK := hide hkeep
          clear hown hkeep u1
          go_wp2_with fail
          go_ret
          refine ⟨rfl, ⟨ib, ic, .slice none 0 0, [], kv, tn, off, ?_, ?_, rfl, ok.strike.settle⟩, ?_⟩
          · have e : g.strike.settle.img.length = g.img.length := LEN.out
            rw [e]
            exact CC.out.stored (j := 1) (by simp) _
          · exact (BB.out.set 1 _).drop
          · refine ((HK1.out.mono (fun j _ q => by subst q; exact HB.out.dS)).trans HKK.out (fun j _ q => by subst q; exact HB.out.iS.1)).trans ((Keep.refl (fun j => j = d) wr).setCell (fun _ => rfl) _) (fun j _ q => by subst q; exact HB.out.dS)
end Go.Proofs.YtgpmghdoofcpaaaGreat.Dv

namespace Go.Proofs.YtgpmghdoofcpaaaGreat.Dv
open Go.RowKit Go.QK

/-- 'make([]byte, n)'. -/
theorem makeB (w : World) (n : Nat) (hn : n ≤ 5000000) : ∃ w1, (Instr.makeSlice 80 (.int .i64 (n : Int)) (.int .i64 (n : Int))).run Tryz.prog w = .ok (.slice (some ⟨w.heap.size, 0, none⟩) n n) w1 ∧
    OwnB w1 w.heap.size (.slice (some ⟨w.heap.size, 0, none⟩) n n) (List.replicate n 0) ∧ Below w.heap.size w w1 ∧ w.heap.size < w1.heap.size := by
  obtain ⟨i0, hi, hz0, hz1, hz2⟩ := info_parts info5
  obtain ⟨w1, h1, h2, h3⟩ := run_makeSlice_full (P := Tryz.prog) (w := w) w.heap.size 80 5 i0 (.int .u8 0) 1 Tryz.underlying80 hi hz0 hz1 .i64 .i64 n (by omega) (by rw [hz2]; omega) (by unfold maxLen; omega) (Nat.le_refl _)
  refine ⟨w1, h1, ?_, (Below.refl _ _).grown h3 (Nat.le_refl _) (by nofun), (World.ownsRow.lt h2 _ rfl).2⟩
  have e : (madeCells (Value.cells (.int .u8 0)) (n * 1)).toList = (ints (List.replicate n 0)).map (Value.int .u8) := by
    simp only [madeCells, Value.cells, ints, Nat.mul_one]
    apply List.ext_getElem
    · simp
    · intro i _ _
      simp [Nat.mod_one]
  unfold OwnB Owns
  rw [← e]
  simpa using h2

set_option maxHeartbeats 400000 in
set_option maxRecDepth 100000 in
theorem new_ok (n : Nat) (w : World) (h1 : 1 ≤ n) (h2 : n ≤ 8192) :
    Calls Tryz.prog 44 #[.int .i64 (n : Int)] w fun e w' => ∃ d S, e = .returned (.tuple #[.pointer (some ⟨d, 0, none⟩), .int .i64 0]) ∧ PDev w' S d (Dev.new n) ∧ (∀ b, S b → w.heap.size ≤ b) ∧ Below w.heap.size w w' := by
  have e1 : IntKind.i64.wrap ((n : Int) * 512) = ((512 * n : Nat) : Int) := by rw [IntKind.wrap_i64]; omega
  obtain ⟨w1, m1, o1, b1, z1⟩ := makeB w (512 * n) (by omega)
  have O1 := hide o1
  have g1 : ¬ ((n : Int) < 1) := by omega
  have g2 : ¬ ((8192 : Int) < (n : Int)) := by omega
  obtain ⟨m, hm⟩ : ∃ m, m = 512 * n := ⟨_, rfl⟩
  rw [← hm] at e1 m1 O1
  have HM := hide hm
  clear hm o1
  go_enter Tryz.func44, Tryz.ntmps44
  go_wp2_with fail
  go_ret2
  have bA := alloc_below w1 (.cells #[.slice (some ⟨w.heap.size, 0, none⟩) m m, .slice none 0 0, .int .i64 0, .bool false, .int .i64 0, .slice none 0 0, .int .i64 0, .int .i64 0] 114)
  refine ⟨w1.heap.size, rfl, fun b => b = w.heap.size ∨ b = w1.heap.size, ⟨w.heap.size, m, .slice none 0 0, [], .slice none 0 0, 0, 0, ?_, ?_, rfl, Dev.Ok.new h1 h2⟩, ?_, ?_⟩
  · have e : (Dev.new n).img.length = m := by rw [HM.out]; simp [Dev.new]
    rw [e]
    exact Cells.new w1 _ 114
  · refine ⟨.inr rfl, ?_, ⟨.inl rfl, by omega⟩, PRow.nil _ _, nofun, nofun, nofun, ?_⟩
    · have e : (Dev.new n).img.length = m := by rw [HM.out]; simp [Dev.new]
      rw [e]
      have q := Owns.below O1.out bA
      have e2 : (Dev.new n).img = List.replicate m 0 := by rw [HM.out]; rfl
      rw [e2]
      exact ⟨q.1, by
        rcases q.2 with r | ⟨g, cap, cur, r1, r2, r3⟩
        · exact .inl r
        · exact .inr ⟨g, cap, cur, r1, Nat.zero_le _, r3⟩⟩
    · intro b hb
      have hb : b = w.heap.size ∨ b = w1.heap.size := hb
      rw [World.size_alloc]
      omega
  · intro b hb
    have hb : b = w.heap.size ∨ b = w1.heap.size := hb
    have := b1.size
    omega
  · exact bnext b1 bA (Nat.le_refl _)

set_option maxRecDepth 100000 in
theorem new_no (i : Int) (w : World) (h : i < 1 ∨ 8192 < i) :
    Calls Tryz.prog 44 #[.int .i64 i] w fun e w' => e = .returned (.tuple #[.pointer none, .int .i64 4]) ∧ w' = w := by
  by_cases q : i < 1
  · go_enter Tryz.func44, Tryz.ntmps44
    go_wp2_with fail
    go_ret2
    exact ⟨rfl, rfl⟩
  · have q2 : 8192 < i := by omega
    have q1 : decide (i < 1) = false := by simpa using q
    clear h
    go_enter Tryz.func44, Tryz.ntmps44
    go_wp2_with fail
    go_ret2
    exact ⟨rfl, rfl⟩
end Go.Proofs.YtgpmghdoofcpaaaGreat.Dv
