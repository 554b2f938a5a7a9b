import Derived.Test.YtohkmigahbellaaNew2
namespace Go.Proofs.Ytohkmigahbellaa
open Go.RowKit Go.QK

def mkB (k : Nat) : Nat := (3 + 7 * k) % 256
theorem marks_step (l : List Nat) (m q : Nat) (h : q < l.length) : (List.replicate q m ++ l.drop q).set q m = List.replicate (q + 1) m ++ l.drop (q + 1) := by
  rw [List.set_append_right _ _ (by simp), List.length_replicate, Nat.sub_self, List.drop_eq_getElem_cons h, List.set_cons_zero, List.replicate_succ']
  simp

set_option maxHeartbeats 4000000 in
set_option maxRecDepth 100000 in
theorem apart_any {w : World} {lab : Nat → Nat} {B hb : Nat} {gv wv : Value} {gs ws : List PE} (h : Held w lab B hb gv wv gs ws) (hn : gs.length ≤ 100000) (hB : B ≤ w.heap.size) :
    Calls Try.prog 33 #[.pointer (some ⟨hb, 0, none⟩)] w fun e w' => e = .returned (.bool true) ∧ Keep (fun b => ∃ i, lab b = 10 + 3 * i) w w' := by
  have hwl := h.len
  obtain ⟨ga, gc, hgv, hgc, _, _, hgcell⟩ := h.got.form
  obtain ⟨wa, wc, hwv, hwc, _, _, hwcell⟩ := h.want.form
  rw [List.length_map] at hgv hwv hgc hwc
  have hhb := h.box.1
  have cell0 : Hid (∀ wr, Keep (fun b => ∃ i, lab b = 10 + 3 * i) w wr → wr.cell? ⟨hb, 0, none⟩ = some (.slice ga gs.length gc) ∧ wr.cell? ⟨hb, 1, none⟩ = some (.slice wa ws.length wc)) := by
    intro wr hk
    have no : ¬ ∃ i, lab hb = 10 + 3 * i := fun ⟨i, q⟩ => by have := h.lb; omega
    have C := h.box.keep hk no
    rw [← hgv, ← hwv]
    exact ⟨(C.get 0 _ rfl).1, (C.get 1 _ rfl).1⟩
  have gcell : Hid (∀ i (_ : i < gs.length), ∃ gb, ga = some ⟨gb, 0, none⟩ ∧ ∀ wr, Keep (fun b => ∃ i, lab b = 10 + 3 * i) w wr → wr.cell? ⟨gb, i, none⟩ = some (.slice (some ⟨gs[i].k, 0, none⟩) gs[i].b.length gs[i].c)) := by
    intro i hi
    obtain ⟨b, hb1, hb2, hb3⟩ := hgcell i (by simpa using hi)
    refine ⟨b, hb1, fun wr hk => ?_⟩
    have hlb : lab b = 2 := h.lg b (by rw [hgv, hb1]; rfl)
    have e : (gs.map PE.v)[i]'(by simpa using hi) = .slice (some ⟨gs[i].k, 0, none⟩) gs[i].b.length gs[i].c := by simp [PE.v]
    rw [← e]
    exact (hk.cell (p := ⟨b, i, none⟩) hb2 (fun ⟨j, q⟩ => by have q : lab b = _ := q; omega)).trans hb3
  have wcell : Hid (∀ i (_ : i < ws.length), ∃ gb, wa = some ⟨gb, 0, none⟩ ∧ ∀ wr, Keep (fun b => ∃ i, lab b = 10 + 3 * i) w wr → wr.cell? ⟨gb, i, none⟩ = some (.slice (some ⟨ws[i].k, 0, none⟩) ws[i].b.length ws[i].c)) := by
    intro i hi
    obtain ⟨b, hb1, hb2, hb3⟩ := hwcell i (by simpa using hi)
    refine ⟨b, hb1, fun wr hk => ?_⟩
    have hlb : lab b = 3 := h.lw b (by rw [hwv, hb1]; rfl)
    have e : (ws.map PE.v)[i]'(by simpa using hi) = .slice (some ⟨ws[i].k, 0, none⟩) ws[i].b.length ws[i].c := by simp [PE.v]
    rw [← e]
    exact (hk.cell (p := ⟨b, i, none⟩) hb2 (fun ⟨j, q⟩ => by have q : lab b = _ := q; omega)).trans hb3
  have HH := hide h
  have HWL := hide hwl
  clear h hgv hwv hgcell hwcell hwl
  go_enter Try.func33, Try.ntmps33
  go_wp2_with fail
  go_loopw [4] (fun i wr => ∃ q : Nat, q ≤ gs.length ∧ i = .int .i64 (q : Int) ∧ Below w.heap.size w wr) (fun i _ => gs.length - (intOf i).toNat)
  case atStart => exact ⟨0, Nat.zero_le _, rfl, Below.refl _ _⟩
  case round =>
    obtain ⟨q, hq, rfl, hbel⟩ := hrel
    obtain ⟨x0, x1⟩ := cell0.out _ (Keep.of_below hbel)
    by_cases hlt : q < gs.length
    · have hlt2 : q < ws.length := by rw [HWL.out]; exact hlt
      obtain ⟨gb, rfl, hgb⟩ := gcell.out q hlt
      obtain ⟨wb, rfl, hwb⟩ := wcell.out q hlt2
      have y0 := hgb _ (Keep.of_below hbel)
      have y1 := hwb _ (Keep.of_below hbel)
      have heq : ws[q].b = gs[q].b := by
        have := congrArg (fun l => l[q]?) HH.out.eq
        simpa [hlt, hlt2] using this
      rw [heq] at y1
      obtain ⟨o1, _, o3, o4, o5⟩ := HH.out.gi q hlt
      obtain ⟨b1, _, _⟩ := HH.out.wi q hlt2
      rw [heq] at b1
      have SA := fun (n : Nat) => same_any (some ⟨gs[q].k, 0, none⟩) (some ⟨ws[q].k, 0, none⟩) gs[q].b gs[q].b gs[q].c ws[q].c (wr.drewN n) (Seen.below (Owns.seen_at o1) (below_drewN hbel n)) (Seen.below b1 (below_drewN hbel n)) o3 o3
      rw [decide_eq_true rfl] at SA
      have HSA := hide SA
      have hlk : (q : Int) < (gs.length : Int) := by omega
      have hlk2 : (q : Int) < (ws.length : Int) := by omega
      clear SA o1 b1 heq hgb hwb
      go_upto_region 5 with fail
      go_quiet (first | (go_at_call 19; exact Calls.quiet_of_same (HSA.out _)))
      go_wp2_with fail
      go_roundw
      case rel => exact ⟨q + 1, by omega, by go_num, below_drewN hbel _⟩
      case measure => simp [intOf]; omega
    · obtain rfl : q = gs.length := by omega
      have K0 := hide (Keep.of_below (S := fun b => ∃ i, lab b = 10 + 3 * i) hbel)
      have O0 := hide (fun i (hi : i < gs.length) => Owns.below (HH.out.gi i hi).1 hbel)
      clear hbel
      go_wp2_with fail
      go_loopw [5] (fun i wr => ∃ q : Nat, q ≤ gs.length ∧ i = .int .i64 (q : Int) ∧ Keep (fun b => ∃ i, lab b = 10 + 3 * i) w wr ∧ ∀ i (_ : i < gs.length), OwnB wr B gs[i].v (if i < q then List.replicate gs[i].b.length (mkB i) else gs[i].b)) (fun i _ => gs.length - (intOf i).toNat)
      case atStart => exact ⟨0, Nat.zero_le _, rfl, K0.out, fun i hi => by rw [if_neg (by omega)]; exact O0.out i hi⟩
      case round =>
        obtain ⟨q, hq, rfl, hkeep, hown⟩ := hrel
        obtain ⟨x0, x1⟩ := cell0.out _ hkeep
        by_cases hlt : q < gs.length
        · obtain ⟨gb, rfl, hgb⟩ := gcell.out q hlt
          have HK := hide hkeep
          have HO := hide hown
          have hlk : (q : Int) < (gs.length : Int) := by omega
          obtain ⟨_, hlab, _, o4, o5⟩ := HH.out.gi q hlt
          have e1 : IntKind.u8.wrap (3 + 7 * (q : Int)) = ((mkB q : Nat) : Int) := by rw [IntKind.wrap_u8]; unfold mkB; omega
          clear hkeep hown K0 O0
          go_wp2_with fail
          go_loopw [6] (fun i wr => ∃ t : Nat, t ≤ gs[q].b.length ∧ i = .int .i64 (t : Int) ∧ Keep (fun b => ∃ i, lab b = 10 + 3 * i) w wr ∧ OwnB wr B gs[q].v (List.replicate t (mkB q) ++ gs[q].b.drop t) ∧ ∀ i (_ : i < gs.length), i ≠ q → OwnB wr B gs[i].v (if i < q then List.replicate gs[i].b.length (mkB i) else gs[i].b)) (fun i _ => gs[q].b.length - (intOf i).toNat)
          case atStart =>
            refine ⟨0, Nat.zero_le _, rfl, HK.out, ?_, fun i hi _ => HO.out i hi⟩
            have := HO.out q hlt
            rw [if_neg (by omega)] at this
            simpa using this
          case round =>
            obtain ⟨t, ht, rfl, hkeep, hown, hoth⟩ := hrel
            obtain ⟨x0, x1⟩ := cell0.out _ hkeep
            have y0 := hgb _ hkeep
            by_cases hlt2 : t < gs[q].b.length
            · have hin : t < (ints (List.replicate t (mkB q) ++ gs[q].b.drop t)).length := by simp; omega
              have hw : gs[q].v = .slice (some ⟨gs[q].k, 0, none⟩) gs[q].b.length gs[q].c := rfl
              rw [hw] at hown
              obtain ⟨b2, off2, hab, hb2, hc2⟩ := Seen.at (Owns.seen_at hown) hin
              cases hab
              rw [Nat.zero_add] at hc2
              obtain ⟨z, hz⟩ : ∃ z, wr.cell? ⟨gs[q].k, t, none⟩ = some (.int .u8 z) := ⟨_, hc2⟩
              clear hc2
              have hfz := Owns.frozen hown t
              have st := Owns.stored hown t ((mkB q : Nat) : Int)
              rw [← ints_set, marks_step _ _ _ hlt2] at st
              have O2 := hide st
              have K2 := hide (hkeep.setCell (fun _ => ⟨q, hlab⟩) (j := t) (g := gs[q].k) (.int .u8 ((mkB q : Nat) : Int)))
              have OT := hide (fun i (hi : i < gs.length) (hne : i ≠ q) => Owns.other (g := gs[q].k) (j := t) (y := .int .u8 ((mkB q : Nat) : Int)) (hoth i hi hne) (fun e => by
                have e : gs[i].k = gs[q].k := Option.some.inj e
                have := (HH.out.gi i hi).2.1
                rw [e] at this
                omega))
              have hlk2 : (t : Int) < (gs[q].b.length : Int) := by omega
              clear hown hkeep hoth st hin hw hgb
              go_wp2_with fail
              go_roundw
              case rel => exact ⟨t + 1, by omega, by go_num, K2.out, O2.out, OT.out⟩
              case measure => simp [intOf]; omega
            · obtain rfl : t = gs[q].b.length := by omega
              rw [List.drop_length, List.append_nil] at hown
              have K2 := hide hkeep
              have O2 : Hid (∀ i (_ : i < gs.length), OwnB wr B gs[i].v (if i < q + 1 then List.replicate gs[i].b.length (mkB i) else gs[i].b)) := by
                intro i hi
                by_cases hne : i = q
                · subst hne
                  rw [if_pos (by omega)]
                  exact hown
                · have := hoth i hi hne
                  by_cases hl : i < q
                  · rw [if_pos hl] at this
                    rw [if_pos (by omega)]
                    exact this
                  · rw [if_neg hl] at this
                    rw [if_neg (by omega)]
                    exact this
              clear hown hkeep hoth hgb
              go_wp2_with fail
              go_roundw
              case rel => exact ⟨q + 1, by omega, by go_num, K2.out, O2.out⟩
              case measure => simp [intOf]; omega
        · obtain rfl : q = gs.length := by omega
          have K0 := hide hkeep
          have O0 : Hid (∀ i (_ : i < gs.length), OwnB wr B gs[i].v (List.replicate gs[i].b.length (mkB i))) := by
            intro i hi
            have := hown i hi
            rw [if_pos hi] at this
            exact this
          clear hkeep hown
          go_wp2_with fail
          go_loopw [3, 7] (fun mv i wr => ∃ q : Nat, q ≤ gs.length ∧ i = .int .i64 (q : Int) ∧ Keep (fun b => ∃ i, lab b = 10 + 3 * i) w wr ∧ (∀ i (_ : i < gs.length), q ≤ i → OwnB wr B gs[i].v (List.replicate gs[i].b.length (mkB i))) ∧ (∀ i (_ : i < gs.length), Bytes wr (some ⟨gs[i].k, 0, none⟩) (List.replicate gs[i].b.length (mkB i))) ∧
            ∃ ms : List PE, ms.length = q ∧ SRow 37 wr w.heap.size mv (ms.map PE.v) ∧ ∀ i (_ : i < gs.length) (h2 : i < ms.length), ms[i].b = List.replicate (gs[i].b.length + 1) (mkB i) ∧ Bytes wr (some ⟨ms[i].k, 0, none⟩) ms[i].b ∧ (ms[i].k = gs[i].k ∨ w.heap.size ≤ ms[i].k) ∧ ms[i].k < wr.heap.size ∧ mv.ownBlock ≠ some ms[i].k) (fun _ i _ => gs.length - (intOf i).toNat)
          case atStart => exact ⟨0, Nat.zero_le _, rfl, K0.out, fun i hi _ => O0.out i hi, fun i hi => Owns.seen_at (O0.out i hi), [], rfl, SRow.nil _ _ _, fun i _ h2 => by simp at h2⟩
          case round =>
            obtain ⟨q, hq, rfl, hkeep, hown, hbyt, ms, hml, hrow, hms⟩ := hrel
            obtain ⟨x0, x1⟩ := cell0.out _ hkeep
            have z0 : w.heap.size ≤ wr.heap.size := hkeep.size
            obtain ⟨ma, mc, hmv, hmc, _, _, hmcell⟩ := hrow.form
            rw [List.length_map] at hmv hmc
            subst hmv
            by_cases hlt : q < gs.length
            · obtain ⟨gb, rfl, hgb⟩ := gcell.out q hlt
              have y0 := hgb _ hkeep
              obtain ⟨_, hlab, _, o4, o5⟩ := HH.out.gi q hlt
              have hgk : gs[q].k < w.heap.size := own_lt (HH.out.gi q hlt).1
              have e1 : IntKind.u8.wrap (3 + 7 * (q : Int)) = ((mkB q : Nat) : Int) := by rw [IntKind.wrap_u8]; unfold mkB; omega
              have hlk : (q : Int) < (gs.length : Int) := by omega
              have bA := alloc_below wr (.cells #[.int .u8 ((mkB q : Nat) : Int)] 5)
              have zA : (wr.alloc (.cells #[.int .u8 ((mkB q : Nat) : Int)] 5)).cell? ⟨wr.heap.size, 0, none⟩ = some (.int .u8 ((mkB q : Nat) : Int)) := by rw [World.cell?_alloc_new]; rfl
              obtain ⟨v2, w2, hr2, o2, g2, m2, bb2⟩ := run_more 37 (wr.alloc (.cells #[.int .u8 ((mkB q : Nat) : Int)] 5)) B gs[q].k gs[q].b.length gs[q].c (List.replicate gs[q].b.length (mkB q)) (by simp) (Owns.below (hown q hlt (Nat.le_refl _)) bA) ⟨wr.heap.size, 0, none⟩ (mkB q) zA (by omega) (by rw [World.size_alloc]; omega)
              have erep : List.replicate gs[q].b.length (mkB q) ++ [mkB q] = List.replicate (gs[q].b.length + 1) (mkB q) := by rw [List.replicate_succ']
              rw [erep] at o2
              obtain ⟨km, cm, hv2, hcm, hBm, hkm⟩ := o2.form (by simp)
              rw [ints_length, List.length_replicate] at hv2
              subst hv2
              have k12 : Keep (fun b => b = gs[q].k) wr w2 := ((Keep.refl (fun b => b = gs[q].k) wr).alloc _).grown g2 (fun b q _ => (Option.some.inj q).symm)
              have hmk : km = gs[q].k ∨ wr.heap.size < km := by
                rcases m2 with e | e
                · exact .inl (Option.some.inj e)
                · have e := Option.some.inj e
                  rw [World.size_alloc] at e
                  have e : km = wr.heap.size + 1 := e
                  exact .inr (by omega)
              have z2 := g2.size
              rw [World.size_alloc] at z2
              have hrow2 := hrow.keep k12 (fun b hb q => by have := (hrow.lt b hb).1; have q : b = _ := q; omega)
              have bC := alloc_below w2 (.cells #[.slice (some ⟨km, 0, none⟩) (gs[q].b.length + 1) cm] 37)
              have zC : (w2.alloc (.cells #[.slice (some ⟨km, 0, none⟩) (gs[q].b.length + 1) cm] 37)).cell? ⟨w2.heap.size, 0, none⟩ = some (.slice (some ⟨km, 0, none⟩) (gs[q].b.length + 1) cm) := by rw [World.cell?_alloc_new]; rfl
              obtain ⟨mv', w3, hr3, r3, g3, m3⟩ := run_pushS und59 info37 59 (w2.alloc (.cells #[.slice (some ⟨km, 0, none⟩) (gs[q].b.length + 1) cm] 37)) w.heap.size _ (ms.map PE.v) ⟨w2.heap.size, 0, none⟩ _ (hrow2.below bC) zC rfl (by simp; omega) (by rw [World.size_alloc]; omega)
              obtain ⟨ma', mc', hmv', _⟩ := r3.form
              rw [List.length_append, List.length_map, List.length_singleton] at hmv'
              subst hmv'
              have k23 : Keep (fun b => (Value.slice ma ms.length mc).ownBlock = some b) w2 w3 := ((Keep.refl (fun b => (Value.slice ma ms.length mc).ownBlock = some b) w2).alloc _).grown g3 (fun _ q _ => q)
              have z3 := g3.size
              rw [World.size_alloc] at z3
              have mvf : ∀ b, (Value.slice ma ms.length mc).ownBlock = some b → w.heap.size ≤ b ∧ b < wr.heap.size := fun b hb => hrow.lt b hb
              have mv3 : ∀ b, (Value.slice ma' (ms.length + 1) mc').ownBlock = some b → (Value.slice ma ms.length mc).ownBlock = some b ∨ w2.heap.size < b := fun b q => by
                rcases m3 with e | e
                · exact .inl (e ▸ q)
                · rw [e, World.size_alloc] at q
                  cases q
                  exact .inr (by omega)
              have NE : ∀ i (hi : i < gs.length), i ≠ q → gs[i].k ≠ gs[q].k := fun i hi hne e => by
                have := (HH.out.gi i hi).2.1
                rw [e] at this
                omega
              have GL : ∀ i (hi : i < gs.length), gs[i].k < w.heap.size := fun i hi => own_lt (HH.out.gi i hi).1
              have REL : Hid (Keep (fun b => ∃ i, lab b = 10 + 3 * i) w w3 ∧ (∀ i (_ : i < gs.length), q + 1 ≤ i → OwnB w3 B gs[i].v (List.replicate gs[i].b.length (mkB i))) ∧ (∀ i (_ : i < gs.length), Bytes w3 (some ⟨gs[i].k, 0, none⟩) (List.replicate gs[i].b.length (mkB i))) ∧
                ∃ ms' : List PE, ms'.length = q + 1 ∧ SRow 37 w3 w.heap.size (.slice ma' (ms.length + 1) mc') (ms'.map PE.v) ∧ ∀ i (_ : i < gs.length) (h2 : i < ms'.length), ms'[i].b = List.replicate (gs[i].b.length + 1) (mkB i) ∧ Bytes w3 (some ⟨ms'[i].k, 0, none⟩) ms'[i].b ∧ (ms'[i].k = gs[i].k ∨ w.heap.size ≤ ms'[i].k) ∧ ms'[i].k < w3.heap.size ∧ (Value.slice ma' (ms.length + 1) mc').ownBlock ≠ some ms'[i].k) := by
                refine ⟨(hkeep.trans k12 (fun b _ e => e ▸ ⟨q, hlab⟩)).trans k23 (fun b hb e => by have := (mvf b e).1; omega), fun i hi hq => ?_, fun i hi => ?_, ms ++ [⟨0, km, cm, List.replicate (gs[q].b.length + 1) (mkB q)⟩], by simp [hml], ?_, fun i hi h2 => ?_⟩
                · refine Owns.keep (Owns.keep (hown i hi (by omega)) k12 (fun b hb e => ?_)) k23 (fun b hb e => ?_)
                  · have hb : gs[i].k = b := Option.some.inj hb
                    exact NE i hi (by omega) (hb.trans e)
                  · have hb : gs[i].k = b := Option.some.inj hb
                    have := (mvf b e).1
                    have := GL i hi
                    omega
                · by_cases hne : i = q
                  · subst hne
                    refine Seen.keep bb2 k23 (fun ad had e => ?_)
                    cases had
                    have := (mvf gs[i].k e).1
                    omega
                  · refine Seen.keep (Seen.keep (hbyt i hi) k12 (fun ad had e => ?_)) k23 (fun ad had e => ?_)
                    · cases had
                      exact NE i hi hne e
                    · cases had
                      have := (mvf gs[i].k e).1
                      have := GL i hi
                      omega
                · rw [List.map_append]
                  have e : [(⟨0, km, cm, List.replicate (gs[q].b.length + 1) (mkB q)⟩ : PE)].map PE.v = [Value.slice (some ⟨km, 0, none⟩) (gs[q].b.length + 1) cm] := by simp [PE.v]
                  rw [e]
                  exact r3
                · rcases Nat.lt_or_ge i ms.length with hl | hl
                  · rw [List.getElem_append_left hl]
                    obtain ⟨t1, t2, t3, t4, t5⟩ := hms i hi hl
                    refine ⟨t1, Seen.keep (Seen.keep t2 k12 (fun ad had e => ?_)) k23 (fun ad had e => ?_), t3, by omega, fun e => ?_⟩
                    · cases had
                      have e : ms[i].k = gs[q].k := e
                      rcases t3 with t3 | t3
                      · exact NE i hi (by omega) (t3.symm.trans e)
                      · omega
                    · cases had
                      exact t5 e
                    · rcases mv3 _ e with r | r
                      · exact t5 r
                      · omega
                  · obtain rfl : i = ms.length := by simp at h2; omega
                    rw [List.getElem_append_right (Nat.le_refl _)]
                    simp only [Nat.sub_self, List.getElem_cons_zero]
                    have hiq : ms.length = q := hml
                    subst hiq
                    refine ⟨rfl, Seen.keep (Owns.seen_at o2) k23 (fun ad had e => ?_), hmk.imp id (fun r => by omega), by show km < _; omega, fun e => ?_⟩
                    · cases had
                      have := mvf km e
                      omega
                    · rcases mv3 km e with r | r
                      · have := mvf km r
                        omega
                      · omega
              have HR2 := hide hr2
              have HR3 := hide hr3
              have HML := hide hml
              clear hml hr2 hr3 hkeep hown hbyt hrow hms o2 g2 m2 bb2 k12 hrow2 bC zC r3 g3 m3 k23 bA zA hgb hmcell NE GL erep
              go_wp2_with (first | (at_builtin; refine wpList_run (t := 37) rfl (.tmp 85) (.tmp 90) rfl rfl rfl HR2.out ?_) | (at_builtin; refine wpList_run (t := 59) rfl (.tmp 78) (.tmp 92) rfl rfl rfl HR3.out ?_))
              go_roundw
              case rel =>
                obtain ⟨s1, s2, s3, s4⟩ := REL.out
                exact ⟨q + 1, by omega, by go_num, s1, s2, s3, s4⟩
              case measure => simp [intOf]; omega
            · obtain rfl : q = gs.length := by omega
              have KF := hide hkeep
              have FACT : Hid (∀ i (_ : i < gs.length), ∃ mb mk mc' n, ma = some ⟨mb, 0, none⟩ ∧ n = gs[i].b.length ∧ ∀ wx, Below wr.heap.size wr wx → wx.cell? ⟨mb, i, none⟩ = some (.slice (some ⟨mk, 0, none⟩) (n + 1) mc') ∧ (∀ j, j < n + 1 → wx.cell? ⟨mk, j, none⟩ = some (.int .u8 ((mkB i : Nat) : Int))) ∧ (∀ j, j < n → wx.cell? ⟨gs[i].k, j, none⟩ = some (.int .u8 ((mkB i : Nat) : Int)))) := by
                intro i hi
                have hi2 : i < ms.length := by omega
                obtain ⟨t1, t2, t3, t4, t5⟩ := hms i hi hi2
                obtain ⟨mb, hb1, hb2, hb3⟩ := hmcell i (by simpa using hi2)
                refine ⟨mb, ms[i].k, ms[i].c, gs[i].b.length, hb1, rfl, fun wx hb => ⟨?_, fun j hj => ?_, fun j hj => ?_⟩⟩
                · rw [hb.cell (p := ⟨mb, i, none⟩) hb2, hb3]
                  simp [PE.v, t1]
                · obtain ⟨b, o, hab, hbl, hc⟩ := Bytes.at (Seen.below t2 hb) (i := j) (by rw [t1]; simpa using hj)
                  cases hab
                  rw [Nat.zero_add, t1] at hc
                  rw [hc]
                  simp [hj]
                · obtain ⟨b, o, hab, hbl, hc⟩ := Bytes.at (Seen.below (hbyt i hi) hb) (i := j) (by simpa using hj)
                  cases hab
                  rw [Nat.zero_add] at hc
                  rw [hc]
                  simp [hj]
              obtain ⟨w9, hw9⟩ : ∃ w9, w9 = wr := ⟨_, rfl⟩
              have HML := hide hml
              clear hml hkeep hown hbyt hrow hms hmcell
              rw [HML.out]
              go_wp2_with fail
              rw [← hw9]
              rw [← hw9] at FACT KF z0
              clear hw9
              go_loopw [8] (fun i wr => ∃ t : Nat, t ≤ gs.length ∧ i = .int .i64 (t : Int) ∧ Below w9.heap.size w9 wr) (fun i _ => gs.length - (intOf i).toNat)
              case atStart => exact ⟨0, Nat.zero_le _, rfl, Below.refl _ _⟩
              case round =>
                obtain ⟨t, ht, rfl, hbel⟩ := hrel
                by_cases hlt : t < gs.length
                · obtain ⟨mb, mk, mc', n, rfl, hnn, hF⟩ := FACT.out t hlt
                  have HNN := hide hnn
                  have hlk : (t : Int) < (gs.length : Int) := by omega
                  have HBE := hide hbel
                  have hn4 : n ≤ 4096 := by rw [hnn]; exact (HH.out.gi t hlt).2.2.2.2
                  have e1 : IntKind.u8.wrap (3 + 7 * (t : Int)) = ((mkB t : Nat) : Int) := by rw [IntKind.wrap_u8]; unfold mkB; omega
                  have ne : (((mkB t : Nat) : Int) != ((mkB t : Nat) : Int)) = false := by simp
                  have HF := hide hF
                  clear hbel hnn hF
                  go_wp2_with fail
                  go_loopw [9] (fun i wr => ∃ j : Nat, j ≤ n + 1 ∧ i = .int .i64 (j : Int) ∧ Below w9.heap.size w9 wr) (fun i _ => n + 1 - (intOf i).toNat)
                  case atStart => exact ⟨0, Nat.zero_le _, rfl, HBE.out⟩
                  case round =>
                    obtain ⟨j, hj, rfl, hbel⟩ := hrel
                    obtain ⟨f1, f2, f3⟩ := HF.out _ hbel
                    have HB2 := hide hbel
                    by_cases hlt2 : j < n + 1
                    · have g1 := f2 j hlt2
                      obtain ⟨x0, x1⟩ := cell0.out _ (KF.out.then_below hbel)
                      obtain ⟨gb, rfl, hgb⟩ := gcell.out t hlt
                      have y0 := hgb _ (KF.out.then_below hbel)
                      rw [← HNN.out] at y0
                      have hlk2 : (j : Int) < (n : Int) + 1 := by omega
                      by_cases hj2 : j < n
                      · have g2 := f3 j hj2
                        have d1 : decide ((j : Int) < (n : Int)) = true := by simp; omega
                        have d2 : (j : Int) < (n : Int) := by omega
                        clear f2 f3 hbel hgb
                        go_upto_region 24 with fail
                        go_quiet (fail)
                        go_wp2_with fail
                        go_roundw
                        case rel => exact ⟨j + 1, by omega, by go_num, below_drewN HB2.out _⟩
                        case measure => simp [intOf]; omega
                      · have d1 : decide ((j : Int) < (n : Int)) = false := by simp; omega
                        clear f2 f3 hbel hgb
                        go_upto_region 24 with fail
                        go_quiet (fail)
                        go_wp2_with fail
                        go_roundw
                        case rel => exact ⟨j + 1, by omega, by go_num, below_drewN HB2.out _⟩
                        case measure => simp [intOf]; omega
                    · obtain rfl : j = n + 1 := by omega
                      clear f2 f3 hbel
                      go_wp2_with fail
                      go_roundw
                      case rel => exact ⟨t + 1, by omega, by go_num, HB2.out⟩
                      case measure => simp [intOf]; omega
                · obtain rfl : t = gs.length := by omega
                  have KE := hide (KF.out.then_below hbel)
                  clear hbel
                  go_wp2_with fail
                  go_ret
                  exact ⟨rfl, KE.out⟩
end Go.Proofs.Ytohkmigahbellaa
