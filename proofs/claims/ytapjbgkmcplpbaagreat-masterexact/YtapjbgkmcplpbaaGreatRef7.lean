import Derived.Test.YtapjbgkmcplpbaaGreatRef6
import Derived.Test.YtapjbgkmcplpbaaGreatTwo
namespace Go.Proofs.YtapjbgkmcplpbaaGreat
open Go.RowKit Go.QK

set_option maxHeartbeats 400000 in
set_option maxRecDepth 100000 in
theorem rNew_ok (n : Nat) (w : World) (h1 : 1 ≤ n) (h2 : n ≤ 8192) :
    Calls Tryz.prog 19 #[.int .i64 (n : Int)] w fun e w' => ∃ d S, e = .returned (.tuple #[.pointer (some ⟨d, 0, none⟩), .int .i64 0]) ∧ RDev w' S d (Dev.new n) ∧ (∀ b, S b → w.heap.size ≤ b) ∧ Below w.heap.size w w' := by
  have e1 : IntKind.i64.wrap ((n : Int) * 512) = ((512 * n : Nat) : Int) := by rw [IntKind.wrap_i64]; omega
  obtain ⟨w1, m1, o1, b1, z1⟩ := makeB w (512 * n) (by omega)
  have O1 := hide o1
  have g1 : ¬ ((n : Int) < 1) := by omega
  have g2 : ¬ ((8192 : Int) < (n : Int)) := by omega
  obtain ⟨m, hm⟩ : ∃ m, m = 512 * n := ⟨_, rfl⟩
  rw [← hm] at e1 m1 O1
  have HM := hide hm
  clear hm o1
  go_enter Tryz.func19, Tryz.ntmps19
  go_wp2_with fail
  go_ret2
  have bA := alloc_below w1 (.cells #[.slice (some ⟨w.heap.size, 0, none⟩) m m, .slice none 0 0, .bool false, .int .i64 0, .int .i64 0, .slice none 0 0, .int .i64 0, .int .i64 0] 89)
  refine ⟨w1.heap.size, rfl, fun b => b = w.heap.size ∨ b = w1.heap.size, ⟨w.heap.size, m, .slice none 0 0, [], .slice none 0 0, 0, 0, ?_, ?_, rfl, Dev.Ok.new h1 h2⟩, ?_, ?_⟩
  · have e : (Dev.new n).img.length = m := by rw [HM.out]; simp [Dev.new]
    rw [e]
    exact Cells.new w1 _ 89
  · refine ⟨.inr rfl, ?_, ⟨.inl rfl, by omega⟩, PRow.nil _ _, nofun, nofun, nofun, ?_⟩
    · have e : (Dev.new n).img.length = m := by rw [HM.out]; simp [Dev.new]
      rw [e]
      have q := Owns.below O1.out bA
      have e2 : (Dev.new n).img = List.replicate m 0 := by rw [HM.out]; rfl
      rw [e2]
      exact q.low
    · intro b hb
      have hb : b = w.heap.size ∨ b = w1.heap.size := hb
      rw [World.size_alloc]
      omega
  · intro b hb
    have hb : b = w.heap.size ∨ b = w1.heap.size := hb
    have := b1.size
    omega
  · exact bnext b1 bA (Nat.le_refl _)

set_option maxRecDepth 100000 in
theorem rNew_no (i : Int) (w : World) (h : i < 1 ∨ 8192 < i) :
    Calls Tryz.prog 19 #[.int .i64 i] w fun e w' => e = .returned (.tuple #[.pointer none, .int .i64 4]) ∧ w' = w := by
  by_cases q : i < 1
  · go_enter Tryz.func19, Tryz.ntmps19
    go_wp2_with fail
    go_ret2
    exact ⟨rfl, rfl⟩
  · have q2 : 8192 < i := by omega
    have q1 : decide (i < 1) = false := by simpa using q
    clear h
    go_enter Tryz.func19, Tryz.ntmps19
    go_wp2_with fail
    go_ret2
    exact ⟨rfl, rfl⟩

set_option maxHeartbeats 1000000 in
set_option maxRecDepth 100000 in
theorem rRead_any {w : World} {S : Nat → Prop} {d : Nat} {g : Dev} (h : RDev w S d g) (i : Int) (hpl : g.pend.length ≤ 1000000) :
    Calls Tryz.prog 65 #[.pointer (some ⟨d, 0, none⟩), .int .i64 i] w fun e w' => ∃ v, e = .returned (.tuple #[v, .int .i64 ((g.reach i : Nat) : Int)]) ∧ OwnB w' w.heap.size v (g.readB i) ∧ Below w.heap.size w w' := by
  have RE := hide (there_any i h)
  by_cases hd : g.down = true
  · obtain ⟨ib, ic, pv, ps, kv, tn, off, hc, _⟩ := h
    have c2 := (hc.get 2 _ rfl).1
    rw [hd] at c2
    have hre : g.reach i = 40 := by unfold Dev.reach; rw [if_pos hd]
    have hrb : g.readB i = [] := by unfold Dev.readB; rw [if_neg (by omega)]
    rw [hrb, hre]
    clear hc RE hre hrb
    go_enter Tryz.func65, Tryz.ntmps65
    go_wp2_with fail
    go_ret2
    exact ⟨_, rfl, Owns.nil _ _ _ _, Below.refl _ _⟩
  · simp only [Bool.not_eq_true] at hd
    have RR := there_reach hd i
    by_cases ht : g.there i = true
    · rw [if_pos ht] at RR
      obtain ⟨_, h0, h1, _⟩ := Dev.reach_ok h.ok RR
      have hlenf := hide (fun k => foldl_512 i.toNat (g.pend.take k) (sector g.img i.toNat) (by simp [sector]; omega) (fun p hp => (h.ok.pend p (List.mem_of_mem_take hp)).2.1))
      have hrb : g.readB i = g.content i.toNat := by unfold Dev.readB; rw [if_pos RR]
      rw [hrb, RR]
      rw [ht] at RE
      obtain ⟨ib, ic, pv, ps, kv, tn, off, hc, hb, hp, ok⟩ := h
      have hps : ps.length ≤ 1000000 := by rw [hp] at hpl; simpa using hpl
      obtain ⟨pa, pc, hpv, hpn, hple, hpm, hrow⟩ := hb.row.form
      subst hpv
      have c2 := (hc.get 2 _ rfl).1
      rw [hd] at c2
      obtain ⟨c0, _⟩ := hc.get 0 _ rfl
      obtain ⟨c1, _⟩ := hc.get 1 _ rfl
      have hdl := hc.1
      obtain ⟨j, rfl⟩ : ∃ j : Nat, i = (j : Int) := ⟨i.toNat, by omega⟩
      rw [Int.toNat_natCast] at *
      obtain ⟨a0, cap0, hv0, hs0, _, hle0, _⟩ := hb.img.seen
      rw [ints_length] at hv0 hle0
      cases hv0
      have him := img_le' ok
      have hbs : Bytes w (some ⟨ib, 512 * j, none⟩) (sector g.img j) := by
        have q := (Bytes.drop (cap := ic) hs0 (512 * j) hle0).take 512
        have e : dropA (some ⟨ib, 0, none⟩) ic (512 * j) = some ⟨ib, 512 * j, none⟩ := by
          unfold dropA
          rw [if_neg (by omega)]
          simp [addr_add]
        rw [e] at q
        exact q
      have hsl : (sector g.img j).length = 512 := by simp [sector]; omega
      have OW := hide (own_any (some ⟨ib, 512 * j, none⟩) (sector g.img j) (ic - 512 * j) w hbs nofun (by omega))
      rw [hsl] at OW
      have HROW := hide hrow
      have HEN := hide hb.en
      have HFT := hide (pend_fits hp ok)
      have CT := hide (fun k hk => contentOf_take g.img j g.pend k hk)
      have EC := hide (show g.content j = contentOf g.img j g.pend from rfl)
      have e1 : IntKind.i64.wrap ((j : Int) * 512) = ((512 * j : Nat) : Int) := by rw [IntKind.wrap_i64]; omega
      have e2 : IntKind.i64.wrap (((512 * j : Nat) : Int) + 512) = ((512 * j + 512 : Nat) : Int) := by rw [IntKind.wrap_i64]; omega
      have hu2 : 512 * j + 512 ≤ ic := by omega
      have HBD := hide (show ∀ b, b = d ∨ (Value.slice pa ps.length pc).ownBlock = some b → b < w.heap.size from fun b q => q.elim (fun r => r ▸ hdl) (fun r => hb.lt _ (hb.rS b r).1))
      generalize 512 * j = u at *
      clear hc hb hrow hbs hs0 hrb RR ht h0 hd
      go_enter Tryz.func65, Tryz.ntmps65
      go_wp2_with fail
      refine RE.out.mono ?_
      rintro e w' ⟨rfl, hw⟩
      obtain rfl : w = w' := hw.symm
      go_wp2_with fail
      refine OW.out.mono ?_
      rintro e w1 ⟨v1, rfl, o1, b1⟩
      have O1 := hide o1
      clear o1 OW RE
      go_wp2_with fail
      go_loopw [6, 7] (fun v k wr => ∃ q : Nat, q ≤ ps.length ∧ k = .int .i64 (q : Int) ∧ OwnB wr w.heap.size v (contentOf g.img j (g.pend.take q)) ∧ Below w.heap.size w wr) (fun _ k _ => ps.length - (intOf k).toNat)
      case atStart => exact ⟨0, Nat.zero_le _, rfl, O1.out, b1⟩
      case round =>
        obtain ⟨q, hq, rfl, hown, hbel⟩ := hrel
        have d1 := (hbel.cell (p := ⟨d, 1, none⟩) hdl).trans c1
        by_cases hlt : q < ps.length
        · obtain ⟨pb, rfl, hpb, p0, p1⟩ := HROW.out q hlt
          have q0 := (hbel.cell (p := ⟨pb, q * 2, none⟩) hpb).trans p0
          have q1 := (hbel.cell (p := ⟨pb, q * 2 + 1, none⟩) hpb).trans p1
          have hbl : ps[q].b.length = 512 := (HFT.out ps[q] (List.getElem_mem hlt)).2.1
          unfold PE.v at q1
          rw [hbl] at q1
          have hlk : (q : Int) < (ps.length : Int) := by omega
          have hpq : q < g.pend.length := by rw [hp]; simpa using hlt
          have ct := CT.out q hpq
          have EK : g.pend[q] = ps[q].out := by simp [hp]
          rw [EK] at ct
          clear p0 p1
          by_cases hx : ps[q].s = j
          · have hx' : ((ps[q].s : Int) == (j : Int)) = true := by simp [hx]
            rw [if_pos (show ps[q].out.1 = j from hx)] at ct
            have OB := hide (own_any (some ⟨ps[q].k, 0, none⟩) ps[q].b ps[q].c wr (Seen.below (HEN.out ps[q] (List.getElem_mem hlt)).1 hbel) nofun (by omega))
            rw [hbl] at OB
            have HCT := hide ct
            have HBEL := hide hbel
            clear hx ct EK hown hbel
            go_wp2_with fail
            refine OB.out.mono ?_
            rintro e w2 ⟨v2, rfl, o2, b2⟩
            have O2 := hide (Owns.base o2 HBEL.out.size)
            have B2 := hide (bnext HBEL.out b2 (Nat.le_refl _))
            clear o2 OB b2
            go_wp2_with fail
            go_roundw
            case rel => exact ⟨q + 1, by omega, by go_num, by rw [HCT.out]; exact O2.out, B2.out⟩
            case measure => simp [intOf]; omega
          · have hx' : ((ps[q].s : Int) == (j : Int)) = false := by simp; omega
            rw [if_neg (show ¬ ps[q].out.1 = j from hx)] at ct
            rw [← ct] at hown
            have HO := hide hown
            have HBEL := hide hbel
            clear hx ct EK hown hbel
            go_wp2_with fail
            go_roundw
            case rel => exact ⟨q + 1, by omega, by go_num, HO.out, HBEL.out⟩
            case measure => simp [intOf]; omega
        · obtain rfl : q = ps.length := by omega
          have hpe : g.pend.length = ps.length := by rw [hp]; simp
          rw [List.take_of_length_le (by omega), ← EC.out] at hown
          have HO := hide hown
          have HBEL := hide hbel
          clear hown hbel
          go_wp2_with fail
          go_ret2
          exact ⟨_, rfl, HO.out, HBEL.out⟩
    · rw [if_neg ht] at RR
      simp only [Bool.not_eq_true] at ht
      have hrb : g.readB i = [] := by unfold Dev.readB; rw [if_neg (by omega)]
      rw [hrb, RR]
      rw [ht] at RE
      obtain ⟨ib, ic, pv, ps, kv, tn, off, hc, _⟩ := h
      have c2 := (hc.get 2 _ rfl).1
      rw [hd] at c2
      clear hc hrb RR ht
      go_enter Tryz.func65, Tryz.ntmps65
      go_wp2_with fail
      refine RE.out.mono ?_
      rintro e w' ⟨rfl, hw⟩
      obtain rfl : w = w' := hw.symm
      go_wp2_with fail
      go_ret2
      exact ⟨_, rfl, Owns.nil _ _ _ _, Below.refl _ _⟩

set_option maxHeartbeats 1000000 in
set_option maxRecDepth 100000 in
theorem rCache_any {w : World} {S : Nat → Prop} {d : Nat} {g : Dev} (h : RDev w S d g) (hpl : g.pend.length ≤ 1000000) :
    Calls Tryz.prog 43 #[.pointer (some ⟨d, 0, none⟩)] w fun e w' => ∃ v qs, e = .returned v ∧ qs.map PE.out = g.pend ∧ PRow w' w.heap.size v qs ∧ (∀ q ∈ qs, Bytes w' (some ⟨q.k, 0, none⟩) q.b) ∧ Below w.heap.size w w' := by
  obtain ⟨ib, ic, pv, ps, kv, tn, off, hc, hb, hp, ok⟩ := h
  have hps : ps.length ≤ 1000000 := by rw [hp] at hpl; simpa using hpl
  obtain ⟨pa, pc, hpv, hpn, hple, hpm, hrow⟩ := hb.row.form
  subst hpv
  have hdl := hc.1
  obtain ⟨c1, _⟩ := hc.get 1 _ rfl
  have HROW := hide hrow
  have HEN := hide hb.en
  have HFT := hide (pend_fits hp ok)
  clear hb hc hrow
  go_enter Tryz.func43, Tryz.ntmps43
  go_wp2_with fail
  go_loopw [3, 4] (fun v i wr => ∃ k : Nat, k ≤ ps.length ∧ i = .int .i64 (k : Int) ∧ ∃ qs, qs.length = k ∧ qs.map PE.out = (ps.take k).map PE.out ∧ PRow wr w.heap.size v qs ∧ (∀ q ∈ qs, Bytes wr (some ⟨q.k, 0, none⟩) q.b ∧ v.ownBlock ≠ some q.k ∧ q.k < wr.heap.size) ∧ Below w.heap.size w wr) (fun _ i _ => ps.length - (intOf i).toNat)
  case atStart => exact ⟨0, Nat.zero_le _, rfl, [], rfl, rfl, PRow.nil _ _, nofun, Below.refl _ _⟩
  case round =>
    obtain ⟨k, hk, rfl, qs, hql, hqm, hrw, hfr, hbl⟩ := hrel
    have d1 := (hbl.cell (p := ⟨d, 1, none⟩) hdl).trans c1
    obtain ⟨oa, oc, hov, hon, hole, hom, _⟩ := hrw.form
    rw [hql] at hov
    subst hov
    by_cases hlt : k < ps.length
    · obtain ⟨pb, rfl, hpb, p0, p1⟩ := HROW.out k hlt
      have q0 := (hbl.cell (p := ⟨pb, k * 2, none⟩) hpb).trans p0
      have q1 := (hbl.cell (p := ⟨pb, k * 2 + 1, none⟩) hpb).trans p1
      have hb5 : ps[k].b.length = 512 := (HFT.out ps[k] (List.getElem_mem hlt)).2.1
      unfold PE.v at q1
      rw [hb5] at q1
      have hlk : (k : Int) < (ps.length : Int) := by omega
      have OB := hide (own_any (some ⟨ps[k].k, 0, none⟩) ps[k].b ps[k].c wr.drew (Seen.below (HEN.out ps[k] (List.getElem_mem hlt)).1 hbl.drew) nofun (by omega))
      rw [hb5] at OB
      have HTK := hide (show (ps.take (k + 1)).map PE.out = (ps.take k).map PE.out ++ [ps[k].out] by rw [take_snoc ps k hlt, List.map_append]; rfl)
      have HRW := hide hrw
      have HFR := hide hfr
      have HQM := hide hqm
      have HQL := hide hql
      have HBL := hide hbl
      have hwl : w.heap.size ≤ wr.heap.size := hbl.size
      clear p0 p1 hrw hfr hqm hql hbl
      go_upto_region 5 with fail
      refine wp_region_held_drew (S := fun wq => wq.cell? ⟨d, 1, none⟩ = some (.slice (some ⟨pb, 0, none⟩) ps.length pc) ∧ wq.cell? ⟨pb, k * 2, none⟩ = some (.int .i64 (ps[k].s : Int)) ∧ wq.cell? ⟨pb, k * 2 + 1, none⟩ = some (.slice (some ⟨ps[k].k, 0, none⟩) 512 ps[k].c)) (by kernel_rfl) ⟨d1, q0, q1⟩ (fun hS => ?_)
      refine take_at 0 (some 14) (v := ?_) rfl rfl (by kernel_rfl) (by kernel_rfl) (by kernel_rfl) (fun _ _ _ h => h) ⟨by rfl, ?_⟩ hS ?_
      rotate_left
      · intro wq hSw; obtain ⟨x0, x1, x2⟩ := hSw; go_simp; try rfl
      simp only [Act.put, List.setIfInBounds_toArray, List.set_cons_zero, List.set_cons_succ]
      refine take_at 1 (some 15) (v := ?_) rfl rfl (by kernel_rfl) (by kernel_rfl) (by kernel_rfl) (fun _ _ _ h => h) ⟨by rfl, ?_⟩ hS ?_
      rotate_left
      · intro wq hSw; obtain ⟨x0, x1, x2⟩ := hSw; go_simp; try rfl
      simp only [Act.put, List.setIfInBounds_toArray, List.set_cons_zero, List.set_cons_succ]
      refine take_at 2 (some 16) (v := ?_) rfl rfl (by kernel_rfl) (by kernel_rfl) (by kernel_rfl) (fun _ _ _ h => h) ⟨by rfl, ?_⟩ hS ?_
      rotate_left
      · intro wq hSw; obtain ⟨x0, x1, x2⟩ := hSw; go_simp; try rfl
      simp only [Act.put, List.setIfInBounds_toArray, List.set_cons_zero, List.set_cons_succ]
      refine take_at 3 (some 17) (v := ?_) rfl rfl (by kernel_rfl) (by kernel_rfl) (by kernel_rfl) (fun _ _ _ h => h) ⟨by rfl, ?_⟩ hS ?_
      rotate_left
      · intro wq hSw; obtain ⟨x0, x1, x2⟩ := hSw; go_simp; try rfl
      simp only [Act.put, List.setIfInBounds_toArray, List.set_cons_zero, List.set_cons_succ]
      refine take_at 4 (some 18) (v := ?_) rfl rfl (by kernel_rfl) (by kernel_rfl) (by kernel_rfl) (fun _ _ _ h => h) ⟨by rfl, ?_⟩ hS ?_
      rotate_left
      · intro wq hSw; obtain ⟨x0, x1, x2⟩ := hSw; go_simp; try rfl
      simp only [Act.put, List.setIfInBounds_toArray, List.set_cons_zero, List.set_cons_succ]
      refine take_at 5 (some 19) (v := ?_) rfl rfl (by kernel_rfl) (by kernel_rfl) (by kernel_rfl) (fun _ _ _ h => h) ⟨by rfl, ?_⟩ hS ?_
      rotate_left
      · intro wq hSw; obtain ⟨x0, x1, x2⟩ := hSw; go_simp; try rfl
      simp only [Act.put, List.setIfInBounds_toArray, List.set_cons_zero, List.set_cons_succ]
      refine take_at 6 (some 20) (v := ?_) rfl rfl (by kernel_rfl) (by kernel_rfl) (by kernel_rfl) (fun _ _ _ h => h) ⟨by rfl, ?_⟩ hS ?_
      rotate_left
      · intro wq hSw; obtain ⟨x0, x1, x2⟩ := hSw; go_simp; try rfl
      simp only [Act.put, List.setIfInBounds_toArray, List.set_cons_zero, List.set_cons_succ]
      refine take_at 7 (some 21) (v := ?_) rfl rfl (by kernel_rfl) (by kernel_rfl) (by kernel_rfl) (fun _ _ _ h => h) ⟨by rfl, ?_⟩ hS ?_
      rotate_left
      · intro wq hSw; obtain ⟨x0, x1, x2⟩ := hSw; go_simp; try rfl
      simp only [Act.put, List.setIfInBounds_toArray, List.set_cons_zero, List.set_cons_succ]
      refine take_at 8 (some 22) (v := ?_) rfl rfl (by kernel_rfl) (by kernel_rfl) (by kernel_rfl) (fun _ _ _ h => h) ⟨by rfl, ?_⟩ hS ?_
      rotate_left
      · intro wq hSw; obtain ⟨x0, x1, x2⟩ := hSw; go_simp; try rfl
      simp only [Act.put, List.setIfInBounds_toArray, List.set_cons_zero, List.set_cons_succ]
      refine take_at 9 (some 23) (v := ?_) rfl rfl (by kernel_rfl) (by kernel_rfl) (by kernel_rfl) (fun _ _ _ h => h) ⟨by rfl, ?_⟩ hS ?_
      rotate_left
      · intro wq hSw; obtain ⟨x0, x1, x2⟩ := hSw; go_simp; try rfl
      simp only [Act.put, List.setIfInBounds_toArray, List.set_cons_zero, List.set_cons_succ]
      refine take_at 10 (some 24) (v := ?_) rfl rfl (by kernel_rfl) (by kernel_rfl) (by kernel_rfl) (fun _ _ _ h => h) ⟨by rfl, ?_⟩ hS ?_
      rotate_left
      · intro wq hSw; obtain ⟨x0, x1, x2⟩ := hSw; go_simp; try rfl
      simp only [Act.put, List.setIfInBounds_toArray, List.set_cons_zero, List.set_cons_succ]
      refine take_at 11 (some 25) (v := ?_) rfl rfl (by kernel_rfl) (by kernel_rfl) (by kernel_rfl) (fun _ _ _ h => h) ⟨by rfl, ?_⟩ hS ?_
      rotate_left
      · intro wq hSw; obtain ⟨x0, x1, x2⟩ := hSw; go_simp; try rfl
      simp only [Act.put, List.setIfInBounds_toArray, List.set_cons_zero, List.set_cons_succ]
      refine take_at 12 (some 26) (v := ?_) rfl rfl (by kernel_rfl) (by kernel_rfl) (by kernel_rfl) (fun _ _ _ h => h) ⟨by rfl, ?_⟩ hS ?_
      rotate_left
      · intro wq hSw; obtain ⟨x0, x1, x2⟩ := hSw; go_simp; try rfl
      simp only [Act.put, List.setIfInBounds_toArray, List.set_cons_zero, List.set_cons_succ]
      refine take_at 13 (some 27) (v := ?_) rfl rfl (by kernel_rfl) (by kernel_rfl) (by kernel_rfl) (fun _ _ _ h => h) ⟨by rfl, ?_⟩ hS ?_
      rotate_left
      · intro wq hSw; obtain ⟨x0, x1, x2⟩ := hSw; go_simp; try rfl
      simp only [Act.put, List.setIfInBounds_toArray, List.set_cons_zero, List.set_cons_succ]
      refine take_at 14 (some 28) (v := ?_) rfl rfl (by kernel_rfl) (by kernel_rfl) (by kernel_rfl) (fun _ _ _ h => h) ⟨by rfl, ?_⟩ hS ?_
      rotate_left
      · intro wq hSw; obtain ⟨x0, x1, x2⟩ := hSw; go_simp; try rfl
      simp only [Act.put, List.setIfInBounds_toArray, List.set_cons_zero, List.set_cons_succ]
      refine take_at 15 (some 29) (v := ?_) rfl rfl (by kernel_rfl) (by kernel_rfl) (by kernel_rfl) (fun _ _ _ h => h) ⟨by rfl, ?_⟩ hS ?_
      rotate_left
      · intro wq hSw; obtain ⟨x0, x1, x2⟩ := hSw; go_simp; try rfl
      simp only [Act.put, List.setIfInBounds_toArray, List.set_cons_zero, List.set_cons_succ]
      refine take_at 16 (some 30) (v := ?_) rfl rfl (by kernel_rfl) (by kernel_rfl) (by kernel_rfl) (fun _ _ _ h => h) ⟨by rfl, ?_⟩ hS ?_
      rotate_left
      · intro wq hSw; obtain ⟨x0, x1, x2⟩ := hSw; go_simp; try rfl
      simp only [Act.put, List.setIfInBounds_toArray, List.set_cons_zero, List.set_cons_succ]
      refine wpAnyH_ready (rs := [17]) (by kernel_rfl) (by simp) ?_
      refine AllReadyH.cons rfl (fun K hK => ?_) AllReadyH.nil
      go_simp
      go_wp2_with fail
      refine OB.out.mono ?_
      rintro e w1 ⟨v1, rfl, o1, b1⟩
      obtain ⟨kb, cb, hv1, hcb, hB1, hkb⟩ := o1.form (by simp; omega)
      rw [ints_length, hb5] at hv1
      subst hv1
      have b1' := below_undrew b1
      have hdw : d < wr.heap.size := by omega
      have hpw : pb < wr.heap.size := by omega
      have hS1 : w1.cell? ⟨d, 1, none⟩ = some (.slice (some ⟨pb, 0, none⟩) ps.length pc) ∧ w1.cell? ⟨pb, k * 2, none⟩ = some (.int .i64 (ps[k].s : Int)) ∧ w1.cell? ⟨pb, k * 2 + 1, none⟩ = some (.slice (some ⟨ps[k].k, 0, none⟩) 512 ps[k].c) := ⟨(b1'.cell (p := ⟨d, 1, none⟩) hdw).trans d1, (b1'.cell (p := ⟨pb, k * 2, none⟩) hpw).trans q0, (b1'.cell (p := ⟨pb, k * 2 + 1, none⟩) hpw).trans q1⟩
      have O1 := hide (Owns.seen_at o1)
      have RW1 := hide (HRW.out.keep (S := fun _ => False) (Keep.of_below b1') (fun _ _ q => q))
      have B1 := hide b1'
      have z1 : wr.heap.size ≤ w1.heap.size := b1'.size
      have hB1' : wr.heap.size ≤ kb := hB1
      clear o1 OB b1 b1'
      go_wp2_with fail
      refine hK.out _ _ hS1 (fun hS => ?_)
      clear hK K d1 q0 q1
      (try simp only [Act.put, List.setIfInBounds_toArray, List.set_cons_zero, List.set_cons_succ])
      refine take_at 18 (some 32) (v := ?_) rfl rfl (by kernel_rfl) (by kernel_rfl) (by kernel_rfl) (fun _ _ _ h => h) ⟨by rfl, ?_⟩ hS ?_
      rotate_left
      · intro wq hSw; obtain ⟨x0, x1, x2⟩ := hSw; go_simp; try rfl
      simp only [Act.put, List.setIfInBounds_toArray, List.set_cons_zero, List.set_cons_succ]
      refine wpAnyH_ready (rs := [19]) (by kernel_rfl) (by simp) ?_
      refine AllReadyH.cons rfl (fun K hK => ?_) AllReadyH.nil
      go_simp
      go_wp2_with fail
      have bA := alloc_below w1 (.cells #[.int .i64 (ps[k].s : Int), .slice (some ⟨kb, 0, none⟩) 512 cb] 98)
      have hS2 := And.intro ((bA.cell (p := ⟨d, 1, none⟩) (by show d < _; omega)).trans hS1.1) (And.intro ((bA.cell (p := ⟨pb, k * 2, none⟩) (by show pb < _; omega)).trans hS1.2.1) ((bA.cell (p := ⟨pb, k * 2 + 1, none⟩) (by show pb < _; omega)).trans hS1.2.2))
      refine hK.out _ _ hS2 (fun hS => ?_)
      clear hK K
      (try simp only [Act.put, List.setIfInBounds_toArray, List.set_cons_zero, List.set_cons_succ])
      refine wpAnyH_ready (rs := [20]) (by kernel_rfl) (by simp) ?_
      refine AllReadyH.cons rfl (fun K hK => ?_) AllReadyH.nil
      refine wp_pushP 34 (.tmp 14) (.tmp 33) rfl rfl rfl w.heap.size (.slice oa k oc) qs rfl ⟨w1.heap.size, 0, none⟩ ⟨ps[k].s, kb, cb, ps[k].b⟩ rfl (RW1.out.keep (S := fun _ => False) (Keep.of_below bA) (fun _ _ q => q)) (by rw [World.cell?_alloc_new]; rfl) (by show World.cell? _ ⟨_, 1, none⟩ = _; rw [World.cell?_alloc_new]; simp [PE.v, hb5]) (by rw [HQL.out]; omega) (by rw [World.size_alloc]; omega) ?_
      intro v2 w2 r2 g2 m2
      have KW : Keep (fun b => (Value.slice oa k oc).ownBlock = some b) w1 w2 := ((Keep.refl (fun b => (Value.slice oa k oc).ownBlock = some b) w1).alloc _).grown g2 (fun _ q _ => q)
      have hvlt : ∀ b, (Value.slice oa k oc).ownBlock = some b → w.heap.size ≤ b ∧ b < wr.heap.size := fun b hb => HRW.out.lt b hb
      have hdn : ¬ ((Value.slice oa k oc).ownBlock = some d) := fun q => by have := hvlt d q; omega
      have hpn : ¬ ((Value.slice oa k oc).ownBlock = some pb) := fun q => by have := hvlt pb q; omega
      have hS3 : w2.cell? ⟨d, 1, none⟩ = some (.slice (some ⟨pb, 0, none⟩) ps.length pc) ∧ w2.cell? ⟨pb, k * 2, none⟩ = some (.int .i64 (ps[k].s : Int)) ∧ w2.cell? ⟨pb, k * 2 + 1, none⟩ = some (.slice (some ⟨ps[k].k, 0, none⟩) 512 ps[k].c) := ⟨(KW.cell (p := ⟨d, 1, none⟩) (by show d < _; omega) hdn).trans hS1.1, (KW.cell (p := ⟨pb, k * 2, none⟩) (by show pb < _; omega) hpn).trans hS1.2.1, (KW.cell (p := ⟨pb, k * 2 + 1, none⟩) (by show pb < _; omega) hpn).trans hS1.2.2⟩
      have BW : Hid (Below w.heap.size w w2) := (bnext HBL.out B1.out (Nat.le_refl _)).trans (KW.below (by omega) (fun j hj q => by have := hvlt j q; omega))
      have EN : Hid (∀ q ∈ qs ++ [(⟨ps[k].s, kb, cb, ps[k].b⟩ : PE)], Bytes w2 (some ⟨q.k, 0, none⟩) q.b ∧ v2.ownBlock ≠ some q.k ∧ q.k < w2.heap.size) := by
        intro q hq
        have hv2 : ∀ b, v2.ownBlock = some b → b < w1.heap.size → (Value.slice oa k oc).ownBlock = some b := fun b hb hl => by
          rcases m2 with r | r
          · rw [← r]; exact hb
          · rw [r] at hb
            have e := Option.some.inj hb
            simp at e
            omega
        rcases List.mem_append.1 hq with r | r
        · obtain ⟨t1, t2, t3⟩ := HFR.out q r
          exact ⟨Seen.keep (Seen.below t1 B1.out) KW (fun ad had => by cases had; exact t2), fun e => t2 (hv2 _ e (by omega)), by have := KW.size; omega⟩
        · simp at r
          subst r
          have hn : ¬ ((Value.slice oa k oc).ownBlock = some kb) := fun q => by have := hvlt kb q; omega
          exact ⟨Seen.keep O1.out KW (fun ad had => by cases had; exact hn), fun e => hn (hv2 _ e hkb), by have := KW.size; show kb < _; omega⟩
      obtain ⟨a2, c2, hv2, _⟩ := r2.form
      rw [List.length_append, List.length_singleton] at hv2
      subst hv2
      have R2 := hide r2
      clear r2 g2 m2 KW hS
      refine hK.out _ _ hS3 (fun hS => ?_)
      clear hK K
      (try simp only [Act.put, List.setIfInBounds_toArray, List.set_cons_zero, List.set_cons_succ])
      refine take_at 21 (some 3) (v := ?_) rfl rfl (by kernel_rfl) (by kernel_rfl) (by kernel_rfl) (fun _ _ _ h => h) ⟨by rfl, ?_⟩ hS ?_
      rotate_left
      · intro wq hSw; obtain ⟨x0, x1, x2⟩ := hSw; go_simp; try rfl
      simp only [Act.put, List.setIfInBounds_toArray, List.set_cons_zero, List.set_cons_succ]
      refine wpAnyH_done (by kernel_rfl) ?_ _
      go_wp2_with fail
      go_roundw
      case rel => exact ⟨k + 1, by omega, by go_num, qs ++ [⟨ps[k].s, kb, cb, ps[k].b⟩], by simp [HQL.out], by rw [HTK.out, List.map_append, HQM.out]; rfl, R2.out, EN.out, BW.out⟩
      case measure => simp [intOf]; omega
    · obtain rfl : k = ps.length := by omega
      rw [List.take_length] at hqm
      have HRW := hide hrw
      have HFR := hide hfr
      have HQM := hide hqm
      clear hrw hfr hqm hql
      go_wp2_with fail
      go_ret
      exact ⟨_, qs, rfl, by rw [HQM.out, hp], HRW.out, fun q hq => (HFR.out q hq).1, hbl⟩
end Go.Proofs.YtapjbgkmcplpbaaGreat
