import Derived.Test.YtaohdmaenplbpaaGreatBE
set_option linter.all false
namespace Go.Proofs.YtaohdmaenplbpaaGreat
open Go.RowKit Go.QK Quota Go.Maps Go.QM
set_option maxRecDepth 100000
/-! LedgerEnds: the law. -/
theorem info38 : (Tryz.prog.info? 38).map (fun i => (i.zero, i.size, i.bytes)) = some (some (.agg #[.int .i64 0, .int .i64 0]), 2, 16) := by kernel_rfl
theorem rows_take (f : SE → List Value) {es : List SE} {i : Nat} (hi : i < es.length) : rowsC f (es.take (i + 1)) = rowsC f (es.take i) ++ f es[i] := by
  unfold rowsC
  rw [List.take_add_one, List.getElem?_eq_getElem hi, List.flatMap_append]
  simp
def bsC (x : SE) : List Value := wdC x.e.base
theorem rows_bs (es : List SE) : rowsC bsC es = rowsC wdC (es.map (fun x => x.e.base)) := by
  unfold rowsC
  rw [List.flatMap_map]
  rfl
/-- The two rows while they are made. -/
structure Two (wr : World) (B : Nat) (rv wv : Value) (es : List SE) (i : Nat) : Prop where
  rr : GRow wr B 38 2 rv i (rowsC rgC (es.take i))
  ww : GRow wr B 59 2 wv i (rowsC bsC (es.take i))
  ne : ∀ g, wv.ownBlock = some g → rv.ownBlock ≠ some g
theorem Two.below {wr wz : World} {B : Nat} {rv wv : Value} {es : List SE} {i : Nat} (h : Two wr B rv wv es i) (k : Below wr.heap.size wr wz) : Two wz B rv wv es i := ⟨GRow.below h.rr k, GRow.below h.ww k, h.ne⟩
theorem Ends.wat {w wr : World} {sb ab g n c : Nat} {rv : Value} {A : Nat → Int × Int} {T : Nat → Prop} {es fs : List SE} {ws : List Int} {H : Helds} (h : Ends w wr sb ab rv (.slice (some ⟨g, 0, none⟩) n c) A T es fs ws H) {r : Nat} (hr : r < ws.length) : wr.cell? ⟨g, r * 2, none⟩ = some (.int .i64 (wh ws[r])) ∧ wr.frozen? ⟨g, r * 2, none⟩ = false ∧ wr.cell? ⟨g, r * 2 + 1, none⟩ = some (.int .i64 (wl ws[r])) ∧ wr.frozen? ⟨g, r * 2 + 1, none⟩ = false := by
  obtain ⟨a, c', e, hl, -⟩ := GRow.lies h.ww
  simp only [Value.slice.injEq] at e
  obtain ⟨e1, e2, -⟩ := e
  subst e1
  obtain ⟨b, o, e, -, sel⟩ := hl.rowAt wdC 2 (fun _ => rfl) r hr (by decide)
  cases e
  have s0 := sel 0 _ rfl
  have s1 := sel 1 _ rfl
  simp only [Nat.zero_add, Nat.add_zero] at s0 s1
  have ww := h.ww
  rw [← e2] at ww
  exact ⟨s0, World.ownsRow.frozenAt ww (r * 2), s1, World.ownsRow.frozenAt ww (r * 2 + 1)⟩
theorem wnt_Bd (s : Bool) (t : Int) (l : List SE) {x : SE} (ok : x.e.Ok) : Bd (wnt s t l x) := by
  have b := ok.rng.2.2.2
  have nv : I64 (netV x.e.nets t) := by
    cases h : holdB x.e.nets t with
    | true => exact ok.all _ (netV_mem h)
    | false => rw [netV_none (holdB_false h)]; unfold I64; omega
  unfold I64 at b nv
  unfold wnt Bd
  split <;> omega
theorem settle_same (s : Bool) (t : Int) (fs : List SE) : endL setN (ctrsOf (endF s t fs)) t = ctrsOf (endF s t fs) := (endF_ctrs true t (endF s t fs)).symm.trans (congrArg ctrsOf (endF_again s true t fs))
theorem release_same (s : Bool) (t : Int) (fs : List SE) : endL relN (ctrsOf (endF s t fs)) t = ctrsOf (endF s t fs) := (endF_ctrs false t (endF s t fs)).symm.trans (congrArg ctrsOf (endF_again s false t fs))
set_option maxHeartbeats 40000000 in
theorem law_ends (rs : List Rm) (ra : Option Addr) (nR rc : Nat) (ds : List Dd) (da : Option Addr) (nD dc : Nat) (bs : List Bool) (ba : Option Addr) (nB bc : Nat) (turn : Int) (w : World) (hr : Lies w ra (rowsC rmC rs)) (hn : nR = rs.length) (hin : ∀ x ∈ rs, x.In) (hmax : nR ≤ 9223372036854775807) (hd : Lies w da (rowsC ddC ds)) (hdn : nD = ds.length) (hdi : ∀ x ∈ ds, I64 x.d) (hbl : Lies w ba (bs.map Value.bool)) (hbn : nB = bs.length) : Calls Tryz.prog 7 #[.slice ra nR rc, .slice da nD dc, .slice ba nB bc, .int .i64 turn] w fun r w' => r = .returned (.bool true) ∧ Below w.heap.size w w' := by
  have KB := hide (begun_any rs ra nR rc w hr hn hin hmax)
  have KF := hide (fun w' => first_any w')
  have HD := hide hd
  have HN := hide hdn
  have HI := hide hdi
  have HBL := hide hbl
  have HBN := hide hbn
  clear hr hn hin hmax hd hdn hdi hbl hbn
  go_enter Tryz.func7, Tryz.ntmps7
  go_upto_region 2 with (go_at_call 9; refine KB.out.mono ?_; rintro r w1 ⟨sb, T, es, rfl, hs, hT, hb⟩; have B1 := hide (show Btw w w1 sb T es [] from ⟨hs, hT, hb⟩); clear hs hT hb)
  clear KB
  go_upto_region 4 with (go_at_call 10; refine (KF.out _).mono ?_; rintro r w2 ⟨rfl, hb⟩; have B2 := hide (B1.out.below hb); clear hb B1)
  clear KF
  go_wp2_with fail
  go_loopw [11] (fun v wr => ∃ (i : Nat) (T : Nat → Prop) (es : List SE) (H : Helds), v = .int .i64 (i : Int) ∧ i ≤ nD ∧ i ≤ 60 ∧ Btw w wr sb T es H) (fun v _ => nD + 1 - (intOf v).toNat)
  case atStart => exact ⟨0, T, es, [], rfl, Nat.zero_le _, Nat.zero_le _, B2.out⟩
  case round =>
    clear B2 T es
    obtain ⟨i, T, es, H, rfl, hi, hi60, hB⟩ := hrel
    go_upto_region 5 with fail
    go_cut [48] from 41 to 58 (fun s w' => (∃ q : Bool, s = .bool q ∧ (q = true → i < nD ∧ i < 60)) ∧ wr = w')
    case first =>
      by_cases hlt : i < nD
      · by_cases h60 : i < 60
        · go_wp2_with fail
          go_meet
          exact ⟨⟨_, rfl, fun _ => ⟨hlt, h60⟩⟩, rfl⟩
        · go_wp2_with fail
          go_meet
          exact ⟨⟨_, rfl, fun q => by first | cases q | (have := of_decide_eq_true q; omega)⟩, rfl⟩
      · go_wp2_with fail
        go_meet
        exact ⟨⟨_, rfl, fun q => by first | cases q | (have := of_decide_eq_true q; omega)⟩, rfl⟩
    case rest =>
      obtain ⟨⟨q, rfl, hq⟩, rfl⟩ := hcut
      cases q with
      | true =>
        obtain ⟨hlt, h60⟩ := hq rfl
        have hid : i < ds.length := by rw [← HN.out]; exact hlt
        obtain ⟨dq, doo, rfl, dlt, sel⟩ := HD.out.rowAt ddC 4 ddC_len i hid (by decide)
        have KD := hide (hB.call ds[i] (HI.out _ (List.getElem_mem hid)))
        have f0 := (hB.bel.cell (p := ⟨dq, doo + i * 4 + 0, none⟩) dlt).trans (sel 0 _ rfl)
        have f1 := (hB.bel.cell (p := ⟨dq, doo + i * 4 + 1, none⟩) dlt).trans (sel 1 _ rfl)
        have f2 := (hB.bel.cell (p := ⟨dq, doo + i * 4 + 2, none⟩) dlt).trans (sel 2 _ rfl)
        have f3 := (hB.bel.cell (p := ⟨dq, doo + i * 4 + 3, none⟩) dlt).trans (sel 3 _ rfl)
        simp only [Nat.add_zero] at f0
        generalize ds[i] = x at *
        obtain ⟨kd', tx', ct', d'⟩ := x
        simp only at f0 f1 f2 f3 KD
        clear sel hB hq
        go_wp2_with (go_at_call 11; refine KD.out.mono ?_; rintro r w2 ⟨rfl, T2, es2, H2, hB⟩)
        go_roundw
        case rel => exact ⟨i + 1, _, _, _, by go_num, by omega, by omega, hB⟩
        case measure => simp [intOf]; omega
      | false =>
        clear hq
        obtain ⟨wo, rfl⟩ : ∃ z : World, z = wr := ⟨_, rfl⟩
        obtain ⟨⟨ok, lab, lb, vc, ve, hst⟩, hlow, hbel⟩ := hB
        obtain ⟨a1, c1, a2, c2, rfl, rfl⟩ := hst.form
        obtain ⟨n, hn⟩ : ∃ n, n = es.length := ⟨_, rfl⟩
        rw [← hn] at hst
        have n8 : n ≤ 8 := by rw [hn]; exact ok.few
        have NE := hide hn
        obtain ⟨S, hl⟩ := hst.lg
        have LOK := hide hl.ok
        have OK := hide ok
        have HS := hide hst
        have HL := hide hl
        have LOW := hide hlow
        have BEL := hide hbel
        clear ok hst hl hn hlow hbel
        go_upto_region 11 with fail
        refine named (P := Code.wp _ _ _ _) ?_
        intro w3 hw3
        obtain ⟨ab, hab⟩ : ∃ z, z = wo.heap.size := ⟨_, rfl⟩
        have A3 := hide (show Cells w3 ab (aheadC (fun _ => (0, 0))) by rw [hw3, hab]; exact Cells.new _ _ _)
        have b3 : Below wo.heap.size wo w3 := by rw [hw3]; exact alloc_below _ _
        have B3 := hide b3
        have AW := hide (show wo.heap.size ≤ ab by omega)
        rw [← hab]
        clear hw3 hab b3
        go_wp2_with fail
        go_loopw [13] (fun v wz => ∃ (g : Nat) (A : Nat → Int × Int), v = .int .i64 (g : Int) ∧ 1 ≤ g ∧ g ≤ 4 ∧ Cells wz ab (aheadC A) ∧ (∀ j : Nat, 1 ≤ j → j < g → thereG (ctrsOf es) (j : Int) = true → A j = (lowG (ctrsOf es) (j : Int), highG (ctrsOf es) (j : Int))) ∧ Below wo.heap.size wo wz) (fun v _ => 5 - (intOf v).toNat)
        case atStart => exact ⟨1, _, rfl, Nat.le_refl _, by omega, A3.out, fun j h1 h2 => by omega, B3.out⟩
        case round =>
          clear A3 B3 w3
          obtain ⟨g, A, rfl, hg1, hg4, hac, hA, hbz⟩ := hrel
          by_cases hg : g ≤ 3
          · have gi : I64 (g : Int) := by unfold I64; omega
            have g4 : (g : Int) < 4 := by omega
            have KW := hide (lg_worst (HL.out.below hbz) (g := (g : Int)) gi)
            have f0 := ((HS.out.below hbz).box.get 0 _ rfl).1
            have AS := hide (ahead_set (A := A) hg1 hg (sumA (ctrsOf es) (g : Int)).2.1 (sumA (ctrsOf es) (g : Int)).2.2)
            have ST := hide (fun (h : thereG (ctrsOf es) (g : Int) = true) => (sumA_there h).1)
            obtain ⟨sa, hsa⟩ : ∃ z, z = sumA (ctrsOf es) (g : Int) := ⟨_, rfl⟩
            rw [← hsa] at KW AS ST
            obtain ⟨av, al, au⟩ := sa
            simp only at KW AS
            have HA := hide hA
            have BZ := hide hbz
            have AC := hide hac
            clear hsa hac hA hbz
            obtain ⟨se, hse⟩ : ∃ z, z = sumE (ctrsOf es) (g : Int) := ⟨_, rfl⟩
            rw [← hse] at KW
            clear hse
            have lw8 : g * 2 + 1 < 8 := by omega
            go_wp2_with (go_at_call 37; refine KW.out.mono ?_; rintro r w4 ⟨rfl, hb4⟩; have c4 := AC.out.below hb4; obtain ⟨y0, z0⟩ := c4.2 (g * 2) (by simp [aheadC]; omega); obtain ⟨y1, z1⟩ := c4.2 (g * 2 + 1) (by simp [aheadC]; omega); have B4 := hide (BZ.out.trans (hb4.mono BZ.out.size)); have C4 := hide c4; clear c4 hb4 f0 BZ AC KW)
            go_roundw
            case rel =>
              have kk := ((Keep.refl (fun z => z = ab) w4).setCell (g := ab) (j := g * 2) (fun _ => rfl) (.int .i64 al)).setCell (g := ab) (j := g * 2 + 1) (fun _ => rfl) (.int .i64 au)
              have cc := (C4.out.stored (j := g * 2) (by simp [aheadC]; omega) (.int .i64 al)).stored (j := g * 2 + 1) (by simp [aheadC]; omega) (.int .i64 au)
              rw [AS.out] at cc
              refine ⟨g + 1, _, by go_num, by omega, by omega, cc, fun j h1 h2 h3 => ?_, B4.out.trans (kk.below B4.out.size (fun z hz q => by have := AW.out; omega))⟩
              by_cases e : j = g
              · subst e
                have := ST.out h3
                simp only [if_pos rfl]
                cases this
                rfl
              · simp only [if_neg e]
                exact HA.out j h1 (by omega) h3
            case measure => simp [intOf]; omega
          · obtain rfl : g = 4 := by omega
            have AH := hide (show Ahead A es from fun j h1 h2 h3 => hA j h1 (by omega) h3)
            have A5 := hide hac
            have B5 := hide hbz
            clear hac hA hbz
            obtain ⟨w5, rfl⟩ : ∃ z : World, z = wr := ⟨_, rfl⟩
            go_wp2_with fail
            have S5 := hide (HS.out.below B5.out)
            have L5 := hide (HL.out.below B5.out)
            go_loopw [16, 14, 15] (fun v u1 u2 wz => ∃ i : Nat, v = .int .i64 (i : Int) ∧ i ≤ n ∧ Two wz w5.heap.size u1 u2 es i ∧ Below w5.heap.size w5 wz) (fun v _ _ _ => n + 1 - (intOf v).toNat)
            case atStart => exact ⟨0, rfl, Nat.zero_le _, ⟨World.ownsRow_nil _ _ _ _, World.ownsRow_nil _ _ _ _, fun g hg => by cases hg⟩, Below.refl _ _⟩
            case round =>
              obtain ⟨i, rfl, hi, h2, hbi⟩ := hrel
              obtain ⟨ra', rc', rfl, -⟩ := GRow.lies h2.rr
              obtain ⟨wa', wc', rfl, -⟩ := GRow.lies h2.ww
              have BI := hide hbi
              have H2 := hide h2
              have g1 := ((S5.out.below hbi).box.get 1 _ rfl).1
              clear h2 hbi
              by_cases hin : i < n
              · have hie : i < es.length := by rw [← NE.out]; exact hin
                obtain ⟨cb, co, eb, eo, rfl, rfl, sees⟩ := S5.out.see hie
                have XC := hide sees
                obtain ⟨hR1, hR2⟩ := read_at LOK.out.1.up hie
                have KR := hide (fun (wz : World) (h : Below w5.heap.size w5 wz) => lg_read (L5.out.below h) (id := es[i].id) (by have := (OK.out.ids _ (List.getElem_mem hie)).1; unfold I64; omega))
                rw [hR1, hR2] at KR
                have KT := hide (fun (wz : World) (h : Below w5.heap.size w5 wz) => settled_any _ _ _ wz ((S5.out.esc i hie).keep (Keep.of_below (S := fun _ => False) h) id id))
                have R1 := hide (rows_take rgC hie)
                have R2 := hide (rows_take bsC hie)
                clear sees hR1 hR2
                have RG := hide (show rgC es[i] = [.int .i64 es[i].e.low, .int .i64 es[i].e.high] from rfl)
                have RB := hide (show bsC es[i] = [.int .i64 (wh es[i].e.base), .int .i64 (wl es[i].e.base)] from rfl)
                rw [RG.out] at R1
                rw [RB.out] at R2
                obtain ⟨lo, hlo⟩ : ∃ z, z = es[i].e.low := ⟨_, rfl⟩
                obtain ⟨hh', hhi⟩ : ∃ z, z = es[i].e.high := ⟨_, rfl⟩
                obtain ⟨bv, hbv⟩ : ∃ z, z = es[i].e.base := ⟨_, rfl⟩
                rw [← hlo, ← hhi] at KR R1
                rw [← hbv] at KT R2
                have KO := hide (fun wz => of_any bv wz)
                clear hlo hhi hbv RG RB
                generalize es[i] = x at *
                obtain ⟨id, grp, v0, xb, xm, e⟩ := x
                simp only at KR KT XC
                go_upto_region 20 with fail
                go_cut [17] from 74 to 114 (fun p w' => ∃ rb, p = ptr rb ∧ Cells w' rb [.int .i64 lo, .int .i64 hh'] ∧ Below wr.heap.size wr w')
                case first =>
                  refine wp_region_held_drew (S := fun wz => Below wr.heap.size wr wz) (by kernel_rfl) (Below.refl _ _).drew (fun hS => ?_)
                  generalize wr.drew = y0 at *
                  refine take_at 0 (some 84) (v := ?_) rfl rfl (by kernel_rfl) (by kernel_rfl) (by kernel_rfl) (fun _ _ _ h => h) ⟨by rfl, ?_⟩ hS ?_
                  rotate_left
                  · intro wz hSw; obtain ⟨m0, m1, m2, x0, x1, x2, x3, x4, xe⟩ := XC.out _ (BI.out.trans (hSw.mono BI.out.size)); go_simp; try rfl
                  simp only [Act.put, List.setIfInBounds_toArray, List.set_cons_zero, List.set_cons_succ]
                  refine take_at 1 (some 85) (v := ?_) rfl rfl (by kernel_rfl) (by kernel_rfl) (by kernel_rfl) (fun _ _ _ h => h) ⟨by rfl, ?_⟩ hS ?_
                  rotate_left
                  · intro wz hSw; obtain ⟨m0, m1, m2, x0, x1, x2, x3, x4, xe⟩ := XC.out _ (BI.out.trans (hSw.mono BI.out.size)); go_simp; try rfl
                  simp only [Act.put, List.setIfInBounds_toArray, List.set_cons_zero, List.set_cons_succ]
                  refine take_at 2 (some 86) (v := ?_) rfl rfl (by kernel_rfl) (by kernel_rfl) (by kernel_rfl) (fun _ _ _ h => h) ⟨by rfl, ?_⟩ hS ?_
                  rotate_left
                  · intro wz hSw; obtain ⟨m0, m1, m2, x0, x1, x2, x3, x4, xe⟩ := XC.out _ (BI.out.trans (hSw.mono BI.out.size)); go_simp; try rfl
                  simp only [Act.put, List.setIfInBounds_toArray, List.set_cons_zero, List.set_cons_succ]
                  refine take_at 3 (some 87) (v := ?_) rfl rfl (by kernel_rfl) (by kernel_rfl) (by kernel_rfl) (fun _ _ _ h => h) ⟨by rfl, ?_⟩ hS ?_
                  rotate_left
                  · intro wz hSw; obtain ⟨m0, m1, m2, x0, x1, x2, x3, x4, xe⟩ := XC.out _ (BI.out.trans (hSw.mono BI.out.size)); go_simp; try rfl
                  simp only [Act.put, List.setIfInBounds_toArray, List.set_cons_zero, List.set_cons_succ]
                  refine take_at 4 (some 88) (v := ?_) rfl rfl (by kernel_rfl) (by kernel_rfl) (by kernel_rfl) (fun _ _ _ h => h) ⟨by rfl, ?_⟩ hS ?_
                  rotate_left
                  · intro wz hSw; obtain ⟨m0, m1, m2, x0, x1, x2, x3, x4, xe⟩ := XC.out _ (BI.out.trans (hSw.mono BI.out.size)); go_simp; try rfl
                  simp only [Act.put, List.setIfInBounds_toArray, List.set_cons_zero, List.set_cons_succ]
                  refine take_at 5 (some 89) (v := ?_) rfl rfl (by kernel_rfl) (by kernel_rfl) (by kernel_rfl) (fun _ _ _ h => h) ⟨by rfl, ?_⟩ hS ?_
                  rotate_left
                  · intro wz hSw; obtain ⟨m0, m1, m2, x0, x1, x2, x3, x4, xe⟩ := XC.out _ (BI.out.trans (hSw.mono BI.out.size)); go_simp; try rfl
                  simp only [Act.put, List.setIfInBounds_toArray, List.set_cons_zero, List.set_cons_succ]
                  refine take_at 6 (some 90) (v := ?_) rfl rfl (by kernel_rfl) (by kernel_rfl) (by kernel_rfl) (fun _ _ _ h => h) ⟨by rfl, ?_⟩ hS ?_
                  rotate_left
                  · intro wz hSw; obtain ⟨m0, m1, m2, x0, x1, x2, x3, x4, xe⟩ := XC.out _ (BI.out.trans (hSw.mono BI.out.size)); go_simp; try rfl
                  simp only [Act.put, List.setIfInBounds_toArray, List.set_cons_zero, List.set_cons_succ]
                  refine take_at 7 (some 91) (v := ?_) rfl rfl (by kernel_rfl) (by kernel_rfl) (by kernel_rfl) (fun _ _ _ h => h) ⟨by rfl, ?_⟩ hS ?_
                  rotate_left
                  · intro wz hSw; obtain ⟨m0, m1, m2, x0, x1, x2, x3, x4, xe⟩ := XC.out _ (BI.out.trans (hSw.mono BI.out.size)); go_simp; try rfl
                  simp only [Act.put, List.setIfInBounds_toArray, List.set_cons_zero, List.set_cons_succ]
                  refine take_at 8 (some 92) (v := ?_) rfl rfl (by kernel_rfl) (by kernel_rfl) (by kernel_rfl) (fun _ _ _ h => h) ⟨by rfl, ?_⟩ hS ?_
                  rotate_left
                  · intro wz hSw; obtain ⟨m0, m1, m2, x0, x1, x2, x3, x4, xe⟩ := XC.out _ (BI.out.trans (hSw.mono BI.out.size)); go_simp; try rfl
                  simp only [Act.put, List.setIfInBounds_toArray, List.set_cons_zero, List.set_cons_succ]
                  refine take_at 9 (some 93) (v := ?_) rfl rfl (by kernel_rfl) (by kernel_rfl) (by kernel_rfl) (fun _ _ _ h => h) ⟨by rfl, ?_⟩ hS ?_
                  rotate_left
                  · intro wz hSw; obtain ⟨m0, m1, m2, x0, x1, x2, x3, x4, xe⟩ := XC.out _ (BI.out.trans (hSw.mono BI.out.size)); go_simp; try rfl
                  simp only [Act.put, List.setIfInBounds_toArray, List.set_cons_zero, List.set_cons_succ]
                  refine take_at 10 (some 94) (v := ?_) rfl rfl (by kernel_rfl) (by kernel_rfl) (by kernel_rfl) (fun _ _ _ h => h) ⟨by rfl, ?_⟩ hS ?_
                  rotate_left
                  · intro wz hSw; obtain ⟨m0, m1, m2, x0, x1, x2, x3, x4, xe⟩ := XC.out _ (BI.out.trans (hSw.mono BI.out.size)); go_simp; try rfl
                  simp only [Act.put, List.setIfInBounds_toArray, List.set_cons_zero, List.set_cons_succ]
                  refine take_at 11 (some 95) (v := ?_) rfl rfl (by kernel_rfl) (by kernel_rfl) (by kernel_rfl) (fun _ _ _ h => h) ⟨by rfl, ?_⟩ hS ?_
                  rotate_left
                  · intro wz hSw; obtain ⟨m0, m1, m2, x0, x1, x2, x3, x4, xe⟩ := XC.out _ (BI.out.trans (hSw.mono BI.out.size)); go_simp; try rfl
                  simp only [Act.put, List.setIfInBounds_toArray, List.set_cons_zero, List.set_cons_succ]
                  refine wpAnyH_ready (rs := [12, 16]) (by kernel_rfl) (by simp) ?_
                  refine AllReadyH.cons rfl (fun K hK => ?_) (AllReadyH.cons rfl (fun K hK => ?_) AllReadyH.nil)
                  · go_simp
                    go_wp2_with fail
                    refine (KR.out _ (BI.out.trans (hS.mono BI.out.size))).mono ?_
                    rintro e x3 ⟨rfl, hh⟩
                    have s_x3 : Below wr.heap.size wr x3 := hS.trans (hh.mono hS.size)
                    clear hh hS
                    go_wp2_with fail
                    refine hK.out _ _ s_x3 (fun hS => ?_)
                    clear hK K s_x3
                    (try simp only [Act.put, List.setIfInBounds_toArray, List.set_cons_zero, List.set_cons_succ])
                    refine take_at 13 (some 83) (v := ?_) rfl rfl (by kernel_rfl) (by kernel_rfl) (by kernel_rfl) (fun _ _ _ h => h) ⟨by rfl, ?_⟩ hS ?_
                    rotate_left
                    · intro wz hSw; go_simp; try rfl
                    simp only [Act.put, List.setIfInBounds_toArray, List.set_cons_zero, List.set_cons_succ]
                    refine take_at 14 (some 97) (v := ?_) rfl rfl (by kernel_rfl) (by kernel_rfl) (by kernel_rfl) (fun _ _ _ h => h) ⟨by rfl, ?_⟩ hS ?_
                    rotate_left
                    · intro wz hSw; go_simp; try rfl
                    simp only [Act.put, List.setIfInBounds_toArray, List.set_cons_zero, List.set_cons_succ]
                    refine take_at 15 (some 98) (v := ?_) rfl rfl (by kernel_rfl) (by kernel_rfl) (by kernel_rfl) (fun _ _ _ h => h) ⟨by rfl, ?_⟩ hS ?_
                    rotate_left
                    · intro wz hSw; go_simp; try rfl
                    simp only [Act.put, List.setIfInBounds_toArray, List.set_cons_zero, List.set_cons_succ]
                    refine wpAnyH_ready (rs := [16]) (by kernel_rfl) (by simp) ?_
                    refine AllReadyH.cons rfl (fun K hK => ?_) AllReadyH.nil
                    have LO := hide hS.size
                    go_simp
                    go_wp2_with fail
                    refine hK.out _ _ (hS.alloc hS.size _) (fun hS => ?_)
                    clear hK K
                    (try simp only [Act.put, List.setIfInBounds_toArray, List.set_cons_zero, List.set_cons_succ])
                    refine named (P := wpAnyH _ _ _ _ _ _ _ _) ?_
                    intro xa hxa
                    rw [← hxa] at hS
                    obtain ⟨qb, hqb⟩ : ∃ qb, qb = x3.heap.size := ⟨_, rfl⟩
                    have Z := hide (show Cells xa qb [.int .i64 0, .int .i64 0] by rw [hxa, hqb]; exact Cells.new _ _ _)
                    have QB := hide (show wr.heap.size ≤ qb by rw [hqb]; exact LO.out)
                    rw [← hqb]
                    clear hxa hqb LO
                    have K8 := hide (((Keep.refl (fun i => i = qb) xa).setCell (g := qb) (j := 0) (fun _ => rfl) (.int .i64 lo)).setCell (g := qb) (j := 1) (fun _ => rfl) (.int .i64 hh'))
                    have C8 := hide ((Z.out.stored (j := 0) (by simp) (.int .i64 lo)).stored (j := 1) (by simp) (.int .i64 hh'))
                    obtain ⟨y0, z0⟩ := Z.out.get 0 _ rfl
                    obtain ⟨y1, z1⟩ := Z.out.get 1 _ rfl
                    have S8 := hide (hS.trans (K8.out.below hS.size (fun i hi q => by have := QB.out; omega)))
                    clear hS
                    refine wpAnyH_ready (rs := [17]) (by kernel_rfl) (by simp) ?_
                    refine AllReadyH.cons rfl (fun K hK => ?_) AllReadyH.nil
                    go_simp
                    go_wp2_with fail
                    refine hK.out _ _ S8.out (fun hS => ?_)
                    clear hK K
                    (try simp only [Act.put, List.setIfInBounds_toArray, List.set_cons_zero, List.set_cons_succ])
                    clear y0 z0 y1 z1
                    refine take_at 18 (some 18) (v := ?_) rfl rfl (by kernel_rfl) (by kernel_rfl) (by kernel_rfl) (fun _ _ _ h => h) ⟨by rfl, ?_⟩ hS ?_
                    rotate_left
                    · intro wz hSw; go_simp; try rfl
                    simp only [Act.put, List.setIfInBounds_toArray, List.set_cons_zero, List.set_cons_succ]
                    refine wpAnyH_done (by kernel_rfl) ?_ _
                    clear hS
                    go_wp2_with fail
                    go_meet
                    exact ⟨qb, rfl, C8.out, S8.out⟩
                  · have LO := hide hS.size
                    go_simp
                    go_wp2_with fail
                    refine hK.out _ _ (hS.alloc hS.size _) (fun hS => ?_)
                    clear hK K
                    (try simp only [Act.put, List.setIfInBounds_toArray, List.set_cons_zero, List.set_cons_succ])
                    refine named (P := wpAnyH _ _ _ _ _ _ _ _) ?_
                    intro xa hxa
                    rw [← hxa] at hS
                    obtain ⟨qb, hqb⟩ : ∃ qb, qb = y0.heap.size := ⟨_, rfl⟩
                    have Z := hide (show Cells xa qb [.int .i64 0, .int .i64 0] by rw [hxa, hqb]; exact Cells.new _ _ _)
                    have QB := hide (show wr.heap.size ≤ qb by rw [hqb]; exact LO.out)
                    rw [← hqb]
                    clear hxa hqb LO
                    refine wpAnyH_ready (rs := [12]) (by kernel_rfl) (by simp) ?_
                    refine AllReadyH.cons rfl (fun K hK => ?_) AllReadyH.nil
                    go_simp
                    go_wp2_with fail
                    refine (KR.out _ (BI.out.trans (hS.mono BI.out.size))).mono ?_
                    rintro e x3 ⟨rfl, hh⟩
                    have s_x3 : Below wr.heap.size wr x3 := hS.trans (hh.mono hS.size)
                    have Z1 := hide (Z.out.below hh)
                    clear Z
                    have Z := Z1
                    clear Z1
                    clear hh hS
                    go_wp2_with fail
                    refine hK.out _ _ s_x3 (fun hS => ?_)
                    clear hK K s_x3
                    (try simp only [Act.put, List.setIfInBounds_toArray, List.set_cons_zero, List.set_cons_succ])
                    refine take_at 13 (some 83) (v := ?_) rfl rfl (by kernel_rfl) (by kernel_rfl) (by kernel_rfl) (fun _ _ _ h => h) ⟨by rfl, ?_⟩ hS ?_
                    rotate_left
                    · intro wz hSw; go_simp; try rfl
                    simp only [Act.put, List.setIfInBounds_toArray, List.set_cons_zero, List.set_cons_succ]
                    refine take_at 14 (some 97) (v := ?_) rfl rfl (by kernel_rfl) (by kernel_rfl) (by kernel_rfl) (fun _ _ _ h => h) ⟨by rfl, ?_⟩ hS ?_
                    rotate_left
                    · intro wz hSw; go_simp; try rfl
                    simp only [Act.put, List.setIfInBounds_toArray, List.set_cons_zero, List.set_cons_succ]
                    refine take_at 15 (some 98) (v := ?_) rfl rfl (by kernel_rfl) (by kernel_rfl) (by kernel_rfl) (fun _ _ _ h => h) ⟨by rfl, ?_⟩ hS ?_
                    rotate_left
                    · intro wz hSw; go_simp; try rfl
                    simp only [Act.put, List.setIfInBounds_toArray, List.set_cons_zero, List.set_cons_succ]
                    have K8 := hide (((Keep.refl (fun i => i = qb) x3).setCell (g := qb) (j := 0) (fun _ => rfl) (.int .i64 lo)).setCell (g := qb) (j := 1) (fun _ => rfl) (.int .i64 hh'))
                    have C8 := hide ((Z.out.stored (j := 0) (by simp) (.int .i64 lo)).stored (j := 1) (by simp) (.int .i64 hh'))
                    obtain ⟨y0, z0⟩ := Z.out.get 0 _ rfl
                    obtain ⟨y1, z1⟩ := Z.out.get 1 _ rfl
                    have S8 := hide (hS.trans (K8.out.below hS.size (fun i hi q => by have := QB.out; omega)))
                    clear hS
                    refine wpAnyH_ready (rs := [17]) (by kernel_rfl) (by simp) ?_
                    refine AllReadyH.cons rfl (fun K hK => ?_) AllReadyH.nil
                    go_simp
                    go_wp2_with fail
                    refine hK.out _ _ S8.out (fun hS => ?_)
                    clear hK K
                    (try simp only [Act.put, List.setIfInBounds_toArray, List.set_cons_zero, List.set_cons_succ])
                    clear y0 z0 y1 z1
                    refine take_at 18 (some 18) (v := ?_) rfl rfl (by kernel_rfl) (by kernel_rfl) (by kernel_rfl) (fun _ _ _ h => h) ⟨by rfl, ?_⟩ hS ?_
                    rotate_left
                    · intro wz hSw; go_simp; try rfl
                    simp only [Act.put, List.setIfInBounds_toArray, List.set_cons_zero, List.set_cons_succ]
                    refine wpAnyH_done (by kernel_rfl) ?_ _
                    clear hS
                    go_wp2_with fail
                    go_meet
                    exact ⟨qb, rfl, C8.out, S8.out⟩
                case rest =>
                  obtain ⟨rb, rfl, hrb, hb4⟩ := hcut
                  have B4 := hide hb4
                  have H4 := hide (H2.out.below hb4)
                  obtain ⟨r0, -⟩ := hrb.get 0 _ rfl
                  obtain ⟨r1, -⟩ := hrb.get 1 _ rfl
                  have al := alloc_below wc (.cells #[.int .i64 lo, .int .i64 hh'] 38)
                  have H4a := hide (H4.out.below al)
                  have B4a := hide (B4.out.trans (al.mono B4.out.size))
                  have LI := hide (lies_lit wc #[.int .i64 lo, .int .i64 hh'] 38)
                  have sz : w5.heap.size ≤ wc.heap.size := Nat.le_trans BI.out.size hb4.size
                  clear hrb hb4 al KR
                  go_upto_region 22 with (at_builtin; refine wpList_appR Tryz.underlying87 info38 rfl (by decide) (by decide) rfl (.tmp _) (.tmp _) rfl w5.heap.size _ i _ rfl H4a.out.rr (some ⟨wc.heap.size, 0, none⟩) 1 1 [.int .i64 lo, .int .i64 hh'] rfl rfl LI.out (by simp [Value.oneCell']) (by nofun) (by omega) (by simp; omega) ?_; intro v' w6 q1 q2 q3; obtain ⟨av, cv, rfl, -⟩ := GRow.lies q1)
                  have kp := (Keep.refl (fun z => (Value.slice ra' i rc').ownBlock = some z) _).grown q2 (fun g hg _ => hg)
                  have bk : Below w5.heap.size _ w6 := kp.below (by simp; omega) (fun z hz q => by have := (World.ownsRow.lt H4a.out.rr z q).1; omega)
                  have W6 := hide (GRow.keep H4a.out.ww kp (fun g hg q => H4a.out.ne g hg q))
                  have G6 := hide (show GRow w6 w5.heap.size 38 2 (.slice av (i + 1) cv) (i + 1) (rowsC rgC (es.take (i + 1))) by rw [R1.out]; exact q1)
                  have N6 := hide (show ∀ g, (Value.slice wa' i wc').ownBlock = some g → (Value.slice av (i + 1) cv).ownBlock ≠ some g from fun g hg q => by
                    rcases q3 with r | r
                    · rw [r] at q; exact H4a.out.ne g hg q
                    · rw [r] at q
                      have := (World.ownsRow.lt H4a.out.ww g hg).2
                      cases q
                      omega)
                  have Y6 := hide (show Below w5.heap.size w5 w6 from (BI.out.trans (B4a.out.mono BI.out.size)).trans bk)
                  clear q1 q2 q3 kp bk H4 H4a B4 B4a LI r0 r1 H2 R1
                  obtain ⟨m0, m1, m2, x0, x1, x2, x3, x4, xe⟩ := XC.out _ Y6.out
                  go_wp2_with fail
                  refine (KT.out _ Y6.out).mono ?_
                  rintro r w7 ⟨rfl, hb7⟩
                  go_wp2_with fail
                  refine (KO.out _).mono ?_
                  rintro r w8 ⟨rfl, hb8⟩
                  have b68 := hb7.trans (hb8.mono hb7.size)
                  have al8 := alloc_below w8 (.cells #[.int .i64 (wh bv), .int .i64 (wl bv)] 59)
                  have b69 := b68.trans (al8.mono b68.size)
                  have W9 := hide (GRow.below W6.out b69)
                  have G9 := hide (GRow.below G6.out b69)
                  have Y9 := hide (Y6.out.trans (b69.mono Y6.out.size))
                  have LI8 := hide (lies_lit w8 #[.int .i64 (wh bv), .int .i64 (wl bv)] 59)
                  have sz8 : w5.heap.size ≤ w8.heap.size := Nat.le_trans Y6.out.size b68.size
                  clear hb7 hb8 b68 al8 b69 m0 m1 m2 x0 x1 x2 x3 x4 xe W6 G6 Y6 KT KO XC
                  go_wp2_with (at_builtin; refine wpList_appR Tryz.underlying88 info59 rfl (by decide) (by decide) rfl (.tmp _) (.tmp _) rfl w5.heap.size _ i _ rfl W9.out (some ⟨w8.heap.size, 0, none⟩) 1 1 [.int .i64 (wh bv), .int .i64 (wl bv)] rfl rfl LI8.out (by simp [Value.oneCell']) (by nofun) (by omega) (by simp; omega) ?_; intro v2 w10 q1 q2 q3; obtain ⟨av2, cv2, rfl, -⟩ := GRow.lies q1)
                  have kp := (Keep.refl (fun z => (Value.slice wa' i wc').ownBlock = some z) _).grown q2 (fun g hg _ => hg)
                  have bk : Below w5.heap.size _ w10 := kp.below (by simp; omega) (fun z hz q => by have := (World.ownsRow.lt W9.out z q).1; omega)
                  have G10 := hide (GRow.keep G9.out kp (fun g hg q => N6.out g q hg))
                  have W10 := hide (show GRow w10 w5.heap.size 59 2 (.slice av2 (i + 1) cv2) (i + 1) (rowsC bsC (es.take (i + 1))) by rw [R2.out]; exact q1)
                  have N10 := hide (show ∀ g, (Value.slice av2 (i + 1) cv2).ownBlock = some g → (Value.slice av (i + 1) cv).ownBlock ≠ some g from fun g hg q => by
                    rcases q3 with r | r
                    · rw [r] at hg; exact N6.out g hg q
                    · rw [r] at hg
                      have := (World.ownsRow.lt G9.out g q).2
                      cases hg
                      omega)
                  have Y10 := hide (show Below w5.heap.size w5 w10 from Y9.out.trans bk)
                  clear q1 q2 q3 kp bk W9 G9 Y9 LI8 N6 R2
                  go_roundw
                  case rel => first | exact ⟨i + 1, by go_num, by omega, ⟨G10.out, W10.out, N10.out⟩, Y10.out⟩ | ((repeat apply Exists.intro); exact ⟨⟨i + 1, by go_num, by omega, ⟨G10.out, W10.out, N10.out⟩, Y10.out⟩, rfl⟩)
                  case measure => simp [intOf]; omega
              · obtain rfl : i = n := by omega
                have et : es.take i = es := by rw [NE.out, List.take_length]
                obtain ⟨T', hT'⟩ : ∃ T', T' = T := ⟨_, rfl⟩
                have EN := hide (show Ends w wr sb ab (.slice ra' i rc') (.slice wa' i wc') A T es es (es.map (fun x => x.e.base)) H from by
                  have hr := H2.out.rr
                  have hw := H2.out.ww
                  rw [et] at hr hw
                  rw [rows_bs] at hw
                  rw [NE.out] at hr hw ⊢
                  have lt5 := fun z hz => HS.out.lt z hz
                  have s5 := B5.out.size
                  have awo := AW.out
                  have alt := A5.out.1
                  have rl := World.ownsRow.lt hr
                  have wl' := World.ownsRow.lt hw
                  have sb0 := BEL.out.size
                  have bb := BEL.out.trans (B5.out.mono BEL.out.size)
                  refine ⟨⟨lab, lb, _, _, S5.out.below BI.out⟩, LOW.out, bb.trans (BI.out.mono bb.size), Lat.refl _, A5.out.below BI.out, GRow.mono hr (by omega), GRow.mono hw (by omega), fun q => by have := lt5 _ q; omega, fun g q => ⟨fun q' => by have := lt5 _ q'; have := (rl g q).1; omega, fun e => by have := (rl g q).1; omega⟩, fun g q => ⟨fun q' => by have := lt5 _ q'; have := (wl' g q).1; omega, fun e => by have := (wl' g q).1; omega, fun q2 => ?_⟩⟩
                  have ne := H2.out.ne g
                  rw [NE.out] at ne
                  exact ne q q2)
                clear hT' T'
                have STL := hide (Still.first OK.out (turn % 6))
                obtain ⟨c, hc⟩ : ∃ c, c = turn % 6 := ⟨_, rfl⟩
                have C6 := hide (show 0 ≤ c ∧ c < 6 by omega)
                have KM := hide (fun wz => modulo_any turn 6 wz (by omega) (by omega))
                rw [← hc] at STL KM
                clear hc et H2
                go_wp2_with fail
                go_loopw [19] (fun v wz => ∃ (nn : Nat) (T : Nat → Prop) (fs : List SE) (H : Helds), v = .int .i64 (nn : Int) ∧ nn ≤ 6 ∧ Still c (nn : Int) fs ∧ Ends w wz sb ab (.slice ra' i rc') (.slice wa' i wc') A T es fs (fs.map (fun x => x.e.base)) H) (fun v _ => 7 - (intOf v).toNat)
                case atStart => exact ⟨0, T, es, H, rfl, by omega, STL.out, EN.out⟩
                case round =>
                  have UPE := hide LOK.out.1.up
                  clear EN STL S5 L5 B5 A5 AW HS HL LOW BEL BI g1 LOK
                  obtain ⟨nn, T, fs, H, rfl, hnn, hst, hen⟩ := hrel
                  have STL := hide hst
                  have EN := hide hen
                  clear hst hen
                  obtain ⟨w11, rfl⟩ : ∃ z : World, z = wr := ⟨_, rfl⟩
                  by_cases hn6 : nn < 6
                  · obtain ⟨nc, hnc⟩ : ∃ z, z = (nn : Int) + c := ⟨_, rfl⟩
                    have i1 : wrap64 ((nn : Int) + c) = nc := by have := C6.out; unfold wrap64; omega
                    have i2 : IntKind.i64.wrap ((nn : Int) + c) = nc := by rw [IntKind.wrap_i64]; have := C6.out; omega
                    obtain ⟨t, ht⟩ : ∃ z, z = 1 + nc % 6 := ⟨_, rfl⟩
                    have j1 : wrap64 (1 + nc % 6) = t := by unfold wrap64; omega
                    have j2 : IntKind.i64.wrap (1 + nc % 6) = t := by rw [IntKind.wrap_i64]; omega
                    obtain ⟨tt, htt⟩ : ∃ tt : Nat, (tt : Int) = t - 1 := ⟨(t - 1).toNat, by omega⟩
                    have t6 : tt < 6 := by omega
                    have TT := hide htt
                    have HX := hide (show I64 t by unfold I64; omega)
                    have SN := hide (fun s => STL.out.next s)
                    have TE := hide (show t = 1 + ((nn : Int) + c) % 6 by rw [ht, hnc])
                    rw [← TE.out] at SN
                    have KM2 := hide (fun wz => modulo_any nc 6 wz (by omega) (by omega))
                    clear hnc ht htt
                    go_wp2_with fail
                    refine (KM.out _).mono ?_
                    rintro r u1 ⟨rfl, hb1⟩
                    go_wp2_with fail
                    refine (KM2.out _).mono ?_
                    rintro r u2 ⟨rfl, hb2⟩
                    have b12 := hb1.trans (hb2.mono hb1.size)
                    have E2 := hide (EN.out.below b12)
                    clear hb1 hb2 b12 EN KM2
                    go_upto_region 27 with fail
                    clear i1 i2 j1 j2
                    obtain ⟨lb0, S0, hl0, f0, -⟩ := E2.out.ledger
                    have KH := hide (lg_holdings hl0 HX.out)
                    obtain ⟨hr1, hr2⟩ := held_rows E2.out.ok.1.up E2.out.ok.2 t
                    rw [hr1, hr2] at KH
                    have FUP := hide E2.out.ok.1.up
                    have HOK := hide E2.out.ok.2
                    have FOK := hide E2.out.eok
                    have LAT := hide E2.out.lat
                    clear hl0 hr1 hr2
                    obtain ⟨m, hm⟩ : ∃ m, m = (hldr t fs).length := ⟨_, rfl⟩
                    rw [← hm] at KH
                    have HM := hide hm
                    have m8 : m ≤ 8 := by rw [hm]; exact Nat.le_trans (List.length_filter_le _ _) (by rw [LAT.out.len]; exact OK.out.few)
                    clear hm
                    go_upto_region 28 with (go_at_call 17; refine KH.out.mono ?_; rintro r u3 ⟨hv, rfl, hg3, hb3⟩)
                    clear KH f0
                    obtain ⟨ha, hc', rfl, -⟩ := GRow.lies hg3
                    have E3 := hide (E2.out.below hb3)
                    have HG3 := hide hg3
                    have HN3 := hide (show ∀ g, (Value.slice ha m hc').ownBlock = some g → (Value.slice wa' i wc').ownBlock ≠ some g from fun g q q' => by have := (World.ownsRow.lt hg3 g q).1; have := (World.ownsRow.lt E2.out.ww g q').2; omega)
                    clear hg3 hb3 E2
                    go_upto_region 28 with fail
                    go_cut [22] from 115 to 227 (fun s w' => (∃ q : Bool, s = .bool q) ∧ u3 = w')
                    case first =>
                      have k1 : wrap64 (t - 1) = (tt : Int) := by have := TT.out; unfold wrap64; omega
                      have k2 : IntKind.i64.wrap (t - 1) = (tt : Int) := by rw [IntKind.wrap_i64]; have := TT.out; omega
                      by_cases hq : tt < nB
                      · have l1 : decide (t ≤ (nB : Int)) = true := by rw [decide_eq_true_iff]; have := TT.out; omega
                        have hqb : tt < bs.length := by rw [← HBN.out]; exact hq
                        obtain ⟨bb, bo, rfl, bl', bcell⟩ := HBL.out.cellAt tt (.bool bs[tt]) (by simp [hqb])
                        have bc' := (E3.out.bel.cell (p := ⟨bb, bo + tt, none⟩) bl').trans bcell
                        generalize bs[tt] = bq at *
                        clear bcell
                        go_wp2_with fail
                        go_meet
                        exact ⟨⟨_, rfl⟩, rfl⟩
                      · have l1 : decide (t ≤ (nB : Int)) = false := by rw [decide_eq_false_iff_not]; have := TT.out; omega
                        go_wp2_with fail
                        go_meet
                        exact ⟨⟨_, rfl⟩, rfl⟩
                    case rest =>
                      obtain ⟨⟨sg, rfl⟩, rfl⟩ := hcut
                      go_wp2_with fail
                      go_loopw [23] (fun v wz => ∃ k : Nat, v = .int .i64 (k : Int) ∧ k ≤ m ∧ Ends w wz sb ab (.slice ra' i rc') (.slice wa' i wc') A T es fs (fs.map (wnt sg t ((hldr t fs).take k))) H ∧ GRow wz u2.heap.size 53 3 (.slice ha m hc') m (rowsC (hdF t) (hldr t fs))) (fun v _ => m + 1 - (intOf v).toNat)
                      case atStart => exact ⟨0, rfl, Nat.zero_le _, by rw [List.take_zero, wnt_base]; exact E3.out, HG3.out⟩
                      case round =>
                        clear E3 HG3
                        obtain ⟨k, rfl, hk, hek, hgk⟩ := hrel
                        obtain ⟨w12, rfl⟩ : ∃ z : World, z = wr := ⟨_, rfl⟩
                        have EK := hide hek
                        have GK := hide hgk
                        by_cases hkm : k < m
                        · have hkl : k < (hldr t fs).length := by rw [← HM.out]; exact hkm
                          obtain ⟨ha0, hc0, e0, hlies, -⟩ := GRow.lies hgk
                          simp only [Value.slice.injEq] at e0
                          obtain ⟨rfl, -, -⟩ := e0
                          obtain ⟨hb, ho, rfl, hbt, sel⟩ := hlies.rowAt (hdF t) 3 (fun _ => rfl) k hkl (by decide)
                          have hyf : (hldr t fs)[k] ∈ fs := (List.mem_filter.1 (List.getElem_mem hkl)).1
                          have hyok := FOK.out _ hyf
                          have hyh : holdB (hldr t fs)[k].e.nets t = true := (List.mem_filter.1 (List.getElem_mem hkl)).2
                          obtain ⟨ex, uni⟩ := at_hold UPE.out LAT.out hyf
                          have NV := hide (show I64 (netV (hldr t fs)[k].e.nets t) from hyok.all _ (netV_mem hyh))
                          have s1 := sel 1 _ rfl
                          have s2 := sel 2 _ rfl
                          obtain ⟨lab, lb, vc, ve, hst⟩ := hek.st
                          obtain ⟨b1, d1, b2, d2, rfl, rfl⟩ := hst.form
                          obtain ⟨a', c', e', hlc, -⟩ := GRow.lies hst.rc
                          simp only [Value.slice.injEq] at e'
                          obtain ⟨rfl, -, -⟩ := e'
                          have KAT := hide (at_any es sb lb b1 es.length d1 (.slice b2 es.length d2) (hldr t fs)[k].id w12 hst.box hlc rfl OK.out.few)
                          have WS := hide (fun (q : Nat) (h1 : q < fs.length) (h2 : fs[q] = (hldr t fs)[k]) => wnt_set LAT.out FUP.out t (k := k) hkl h1 h2)
                          have EX := hide ex
                          have UNI := hide uni
                          clear hek hgk hlies sel ex uni hlc hst
                          obtain ⟨yid, hyid⟩ : ∃ z, z = (hldr t fs)[k].id := ⟨_, rfl⟩
                          obtain ⟨nv, hnv⟩ : ∃ z, z = netV (hldr t fs)[k].e.nets t := ⟨_, rfl⟩
                          rw [← hyid] at KAT EX UNI
                          have s1' : w12.cell? ⟨hb, ho + k * 3 + 1, none⟩ = some (.int .i64 yid) := by rw [hyid]; exact s1
                          have s2' : w12.cell? ⟨hb, ho + k * 3 + 2, none⟩ = some (.int .i64 nv) := by rw [hnv]; exact s2
                          rw [← hnv] at NV WS
                          clear s1 s2 hyid hnv hyf hyok hyh
                          go_upto_region 33 with (go_at_call 25; refine KAT.out.mono ?_; rintro r w13 ⟨hat, rfl⟩; obtain ⟨j, hj, rfl, hjid⟩ : ∃ i, ∃ h : i < es.length, r = .returned (.int .i64 (i : Int)) ∧ es[i].id = yid := (by rcases hat with q | ⟨-, q⟩; exact q; obtain ⟨x, hx, hq⟩ := EX.out; exact absurd hq (q x hx)); clear hat)
                          obtain ⟨-, hjf, hje⟩ := UNI.out j hj hjid
                          have WS2 := hide (WS.out j hjf hje)
                          have FJ := hide (FOK.out _ (List.getElem_mem hjf))
                          clear KAT UNI EX hjid WS hje
                          have j0 : decide ((j : Int) < 0) = false := by rw [decide_eq_false_iff_not]; omega
                          cases sg with
                          | false =>
                            go_wp2_with fail
                            go_roundw
                            case rel => exact ⟨k + 1, by go_num, by omega, by rw [wnt_off2]; have := EK.out; rw [wnt_off2] at this; exact this, GK.out⟩
                            case measure => simp [intOf]; omega
                          | true =>
                            go_upto_region 36 with fail
                            obtain ⟨g, cap, eg, hgw, -⟩ := row_pos2 EK.out.ww (Nat.lt_of_le_of_lt (Nat.zero_le _) hj)
                            simp only [Value.slice.injEq] at eg
                            obtain ⟨rfl, -, -⟩ := eg
                            obtain ⟨ah, ch, eh, -, -, -, -, hof⟩ := GRow.lies GK.out
                            simp only [Value.slice.injEq] at eh
                            obtain ⟨rfl, -, -⟩ := eh
                            obtain ⟨ho0, -⟩ := hof _ rfl
                            simp only at ho0
                            have hbg : hb ≠ g := fun q => by
                              have o1 : (Value.slice (some ⟨hb, ho, none⟩) m hc').ownBlock = some hb := by rw [ho0]; rfl
                              exact HN3.out hb o1 (by rw [q]; rfl)
                            clear hof ho0 hgw
                            have hjw : j < (fs.map (wnt true t ((hldr t fs).take k))).length := by rw [List.length_map]; exact hjf
                            have hji : j < i := by rw [NE.out]; exact hj
                            have ZB := hide (wnt_Bd true t ((hldr t fs).take k) FJ.out)
                            have HW := hide (fun (wz : World) (h : Ends w wz sb ab (.slice ra' i rc') (.slice (some ⟨g, 0, none⟩) i wc') A T es fs (fs.map (wnt true t ((hldr t fs).take k))) H) => h.wat hjw)
                            simp only [List.getElem_map] at HW
                            obtain ⟨z, hz⟩ : ∃ z, z = wnt true t ((hldr t fs).take k) fs[j] := ⟨_, rfl⟩
                            rw [← hz] at HW ZB WS2
                            have KP := hide (fun wz => plus_w z nv wz ZB.out NV.out)
                            have DR := show Below w12.heap.size w12 w12.drew from (Below.refl _ _).drew
                            refine wp_region_held_drew (S := fun wz => wz.cell? ⟨hb, ho + k * 3 + 2, none⟩ = some (.int .i64 nv)) (by kernel_rfl) s2' (fun hS => ?_)
                            have ED := hide (EK.out.below DR)
                            have GD := hide (GRow.below GK.out DR)
                            clear DR EK GK s1' s2' hz
                            generalize w12.drew = y12 at *
                            refine take_at 0 (some 158) (v := ?_) rfl rfl (by kernel_rfl) (by kernel_rfl) (by kernel_rfl) (fun _ _ _ h => h) ⟨by rfl, ?_⟩ hS ?_
                            rotate_left
                            · intro wz hSw; go_simp; try rfl
                            simp only [Act.put, List.setIfInBounds_toArray, List.set_cons_zero, List.set_cons_succ]
                            refine take_at 1 (some 159) (v := ?_) rfl rfl (by kernel_rfl) (by kernel_rfl) (by kernel_rfl) (fun _ _ _ h => h) ⟨by rfl, ?_⟩ hS ?_
                            rotate_left
                            · intro wz hSw; go_simp; try rfl
                            simp only [Act.put, List.setIfInBounds_toArray, List.set_cons_zero, List.set_cons_succ]
                            refine take_at 2 (some 160) (v := ?_) rfl rfl (by kernel_rfl) (by kernel_rfl) (by kernel_rfl) (fun _ _ _ h => h) ⟨by rfl, ?_⟩ hS ?_
                            rotate_left
                            · intro wz hSw; go_simp; try rfl
                            simp only [Act.put, List.setIfInBounds_toArray, List.set_cons_zero, List.set_cons_succ]
                            refine take_at 3 (some 161) (v := ?_) rfl rfl (by kernel_rfl) (by kernel_rfl) (by kernel_rfl) (fun _ _ _ h => h) ⟨by rfl, ?_⟩ hS ?_
                            rotate_left
                            · intro wz hSw; go_simp; try rfl
                            simp only [Act.put, List.setIfInBounds_toArray, List.set_cons_zero, List.set_cons_succ]
                            refine take_at 4 (some 162) (v := ?_) rfl rfl (by kernel_rfl) (by kernel_rfl) (by kernel_rfl) (fun _ _ _ h => h) ⟨by rfl, ?_⟩ hS ?_
                            rotate_left
                            · intro wz hSw; go_simp; try rfl
                            simp only [Act.put, List.setIfInBounds_toArray, List.set_cons_zero, List.set_cons_succ]
                            refine take_at 6 (some 164) (v := ?_) rfl rfl (by kernel_rfl) (by kernel_rfl) (by kernel_rfl) (fun _ _ _ h => h) ⟨by rfl, ?_⟩ hS ?_
                            rotate_left
                            · intro wz hSw; go_simp; try rfl
                            simp only [Act.put, List.setIfInBounds_toArray, List.set_cons_zero, List.set_cons_succ]
                            refine take_at 7 (some 165) (v := ?_) rfl rfl (by kernel_rfl) (by kernel_rfl) (by kernel_rfl) (fun _ _ _ h => h) ⟨by rfl, ?_⟩ hS ?_
                            rotate_left
                            · intro wz hSw; go_simp; try rfl
                            simp only [Act.put, List.setIfInBounds_toArray, List.set_cons_zero, List.set_cons_succ]
                            refine take_at 8 (some 166) (v := ?_) rfl rfl (by kernel_rfl) (by kernel_rfl) (by kernel_rfl) (fun _ _ _ h => h) ⟨by rfl, ?_⟩ hS ?_
                            rotate_left
                            · intro wz hSw; go_simp; try rfl
                            simp only [Act.put, List.setIfInBounds_toArray, List.set_cons_zero, List.set_cons_succ]
                            refine take_at 9 (some 167) (v := ?_) rfl rfl (by kernel_rfl) (by kernel_rfl) (by kernel_rfl) (fun _ _ _ h => h) ⟨by rfl, ?_⟩ hS ?_
                            rotate_left
                            · intro wz hSw; go_simp; try rfl
                            simp only [Act.put, List.setIfInBounds_toArray, List.set_cons_zero, List.set_cons_succ]
                            refine take_at 10 (some 168) (v := ?_) rfl rfl (by kernel_rfl) (by kernel_rfl) (by kernel_rfl) (fun _ _ _ h => h) ⟨by rfl, ?_⟩ hS ?_
                            rotate_left
                            · intro wz hSw; go_simp; try rfl
                            simp only [Act.put, List.setIfInBounds_toArray, List.set_cons_zero, List.set_cons_succ]
                            refine wpAnyH_ready (rs := [5]) (by kernel_rfl) (by simp) ?_
                            refine AllReadyH.cons rfl (fun K hK => ?_) AllReadyH.nil
                            obtain ⟨q0, -, q1, -⟩ := HW.out _ ED.out
                            go_simp
                            go_wp2_with fail
                            refine hK.out _ _ hS (fun hS => ?_)
                            clear hK K q0 q1
                            (try simp only [Act.put, List.setIfInBounds_toArray, List.set_cons_zero, List.set_cons_succ])
                            refine wpAnyH_ready (rs := [11]) (by kernel_rfl) (by simp) ?_
                            refine AllReadyH.cons rfl (fun K hK => ?_) AllReadyH.nil
                            go_simp
                            go_wp2_with fail
                            refine (KP.out _).mono ?_
                            rintro e x14 ⟨rfl, hh⟩
                            have E14 := hide (ED.out.below hh)
                            have G14 := hide (GRow.below GD.out hh)
                            have s14 : x14.cell? ⟨hb, ho + k * 3 + 2, none⟩ = some (.int .i64 nv) := (hh.cell (p := ⟨hb, ho + k * 3 + 2, none⟩) (World.block_lt_of_cell? _ _ hS)).trans hS
                            clear hh hS ED GD
                            go_wp2_with fail
                            refine hK.out _ _ s14 (fun hS => ?_)
                            clear hK K s14
                            (try simp only [Act.put, List.setIfInBounds_toArray, List.set_cons_zero, List.set_cons_succ])
                            refine take_at 12 (some 170) (v := ?_) rfl rfl (by kernel_rfl) (by kernel_rfl) (by kernel_rfl) (fun _ _ _ h => h) ⟨by rfl, ?_⟩ hS ?_
                            rotate_left
                            · intro wz hSw; go_simp; try rfl
                            simp only [Act.put, List.setIfInBounds_toArray, List.set_cons_zero, List.set_cons_succ]
                            obtain ⟨q0, p0, q1, p1⟩ := HW.out _ E14.out
                            obtain ⟨ew, kw⟩ := E14.out.want NE.out hjw (z + nv)
                            have EW := hide ew
                            have KW := hide kw
                            have s15 := (KW.out.cell (p := ⟨hb, ho + k * 3 + 2, none⟩) (World.block_lt_of_cell? _ _ hS) hbg).trans hS
                            have GW := hide (GRow.keep G14.out kw (fun q hq e => by
                              have : q = g := e
                              subst this
                              exact HN3.out q hq rfl))
                            clear ew kw hS KP
                            refine wpAnyH_ready (rs := [13]) (by kernel_rfl) (by simp) ?_
                            refine AllReadyH.cons rfl (fun K hK => ?_) AllReadyH.nil
                            go_simp
                            go_wp2_with fail
                            refine hK.out _ _ s15 (fun hS => ?_)
                            clear hK K hS q0 q1 p0 p1 s15
                            (try simp only [Act.put, List.setIfInBounds_toArray, List.set_cons_zero, List.set_cons_succ])
                            refine wpAnyH_done (by kernel_rfl) ?_ _
                            go_wp2_with fail
                            go_roundw
                            case rel => exact ⟨k + 1, by go_num, by omega, by rw [WS2.out]; exact EW.out, GW.out⟩
                            case measure => simp [intOf]; omega
                        · obtain rfl : k = m := by omega
                          have ek2 : fs.map (wnt sg t ((hldr t fs).take k)) = (endF sg t fs).map (fun x => x.e.base) := by rw [HM.out, List.take_length]; exact wnt_end FUP.out sg t
                          rw [ek2] at EK
                          clear hek hgk ek2
                          obtain ⟨lab, lb, vc, ve, hst⟩ := EK.out.st
                          obtain ⟨ha0, hc0, e0, hlies, -⟩ := GRow.lies GK.out
                          simp only [Value.slice.injEq] at e0
                          obtain ⟨rfl, -, -⟩ := e0
                          have K1 := hide (one_any hst OK.out UPE.out LAT.out A AH.out t ha k hc' hlies HM.out)
                          clear hst hlies
                          obtain ⟨a0, -⟩ := EK.out.ac.get 0 _ rfl
                          obtain ⟨a1, -⟩ := EK.out.ac.get 1 _ rfl
                          obtain ⟨a2, -⟩ := EK.out.ac.get 2 _ rfl
                          obtain ⟨a3, -⟩ := EK.out.ac.get 3 _ rfl
                          obtain ⟨a4, -⟩ := EK.out.ac.get 4 _ rfl
                          obtain ⟨a5, -⟩ := EK.out.ac.get 5 _ rfl
                          obtain ⟨a6, -⟩ := EK.out.ac.get 6 _ rfl
                          obtain ⟨a7, -⟩ := EK.out.ac.get 7 _ rfl
                          go_upto_region 38 with (go_at_call 41; refine K1.out.mono ?_; rintro r w14 ⟨rfl, hb14⟩)
                          have E14 := hide (EK.out.below hb14)
                          clear a0 a1 a2 a3 a4 a5 a6 a7 hb14 K1 EK GK
                          obtain ⟨lb1, S1, hl1, f1, nx1⟩ := E14.out.ledger
                          have KL1 := hide (lg_settle hl1 HX.out)
                          have KL2 := hide (lg_release hl1 HX.out)
                          rw [held_len FUP.out HOK.out t, ← HM.out] at KL1 KL2
                          have NX := hide nx1
                          have LE := hide (fun s => LAT.out.ends FOK.out s t)
                          clear nx1 hl1
                          go_upto_if 177 with fail
                          go_cut [25] from 115 to 227 (fun v w' => v = .int .i64 (k : Int) ∧ ∃ T', Ends w w' sb ab (.slice ra' i rc') (.slice wa' i wc') A T' es (endF sg t fs) ((endF sg t fs).map (fun x => x.e.base)) (delM H t))
                          case first =>
                            cases sg with
                            | true =>
                              go_wp2_with (go_at_call 42; refine KL1.out.mono ?_; rintro r w15 ⟨rfl, hL⟩)
                              go_meet
                              exact ⟨rfl, NX.out _ (endF true t fs) _ (LE.out true) (by rw [endF_ctrs]; exact hL)⟩
                            | false =>
                              go_wp2_with (go_at_call 35; refine KL2.out.mono ?_; rintro r w15 ⟨rfl, hL⟩)
                              go_meet
                              exact ⟨rfl, NX.out _ (endF false t fs) _ (LE.out false) (by rw [endF_ctrs]; exact hL)⟩
                          case rest =>
                            obtain ⟨rfl, T2, hE2⟩ := hcut
                            have E15 := hide hE2
                            clear hE2 E14 NX KL1 KL2 f1
                            have SNX := hide (SN.out sg)
                            have LSG := hide (LE.out sg)
                            have SS := hide (settle_same sg t fs)
                            have SR := hide (release_same sg t fs)
                            obtain ⟨fs', hfs⟩ : ∃ z, z = endF sg t fs := ⟨_, rfl⟩
                            rw [← hfs] at E15 SNX LSG SS SR
                            clear hfs
                            obtain ⟨w15, rfl⟩ : ∃ z : World, z = wc := ⟨_, rfl⟩
                            obtain ⟨lb2, S2, hl2, f2, -⟩ := E15.out.ledger
                            have KH2 := hide (lg_holdings hl2 HX.out)
                            rw [show heldR (delM H t) t = [] by unfold heldR; rw [ids_gone]; simp] at KH2
                            clear hl2
                            go_wp2_with fail
                            refine KH2.out.mono ?_
                            rintro r w16 ⟨hv2, rfl, hg2, hb16⟩
                            obtain ⟨h2a, h2c, rfl, -⟩ := GRow.lies hg2
                            have E16 := hide (E15.out.below hb16)
                            clear hg2 hb16 f2 KH2 E15
                            simp only [List.length_nil]
                            obtain ⟨lb3, S3, hl3, f3, nx3⟩ := E16.out.ledger
                            have KS3 := hide (lg_settle hl3 HX.out)
                            rw [ids_gone] at KS3
                            have NX3 := hide nx3
                            clear nx3 hl3
                            go_wp2_with fail
                            refine KS3.out.mono ?_
                            rintro r w17 ⟨rfl, hL⟩
                            rw [SS.out, del_again] at hL
                            obtain ⟨T3, hE3⟩ := NX3.out _ fs' _ LSG.out hL
                            have E17 := hide hE3
                            clear hE3 hL NX3 KS3 f3 E16
                            obtain ⟨lb4, S4, hl4, f4, nx4⟩ := E17.out.ledger
                            have KS4 := hide (lg_release hl4 HX.out)
                            rw [ids_gone] at KS4
                            have NX4 := hide nx4
                            clear nx4 hl4
                            simp only [List.length_nil]
                            go_wp2_with fail
                            refine KS4.out.mono ?_
                            rintro r w18 ⟨rfl, hL⟩
                            rw [SR.out, del_again] at hL
                            obtain ⟨T4, hE4⟩ := NX4.out _ fs' _ LSG.out hL
                            have E18 := hide hE4
                            clear hE4 hL NX4 KS4 f4 E17
                            simp only [List.length_nil]
                            obtain ⟨lab5, lb5, vc5, ve5, hst5⟩ := E18.out.st
                            obtain ⟨ra0, rc0, e0, rlies, -⟩ := GRow.lies E18.out.rr
                            simp only [Value.slice.injEq] at e0
                            obtain ⟨rfl, -, -⟩ := e0
                            have K5 := hide (within_st hst5 OK.out LSG.out A AH.out ra' i rc' rlies NE.out)
                            clear hst5 rlies
                            obtain ⟨a0, -⟩ := E18.out.ac.get 0 _ rfl
                            obtain ⟨a1, -⟩ := E18.out.ac.get 1 _ rfl
                            obtain ⟨a2, -⟩ := E18.out.ac.get 2 _ rfl
                            obtain ⟨a3, -⟩ := E18.out.ac.get 3 _ rfl
                            obtain ⟨a4, -⟩ := E18.out.ac.get 4 _ rfl
                            obtain ⟨a5, -⟩ := E18.out.ac.get 5 _ rfl
                            obtain ⟨a6, -⟩ := E18.out.ac.get 6 _ rfl
                            obtain ⟨a7, -⟩ := E18.out.ac.get 7 _ rfl
                            go_wp2_with (go_at_call 43; refine K5.out.mono ?_; rintro r w19 ⟨rfl, hb19⟩)
                            have E19 := hide (E18.out.below hb19)
                            go_roundw
                            case rel => first | exact ⟨nn + 1, _, _, _, by go_num, by omega, by have := SNX.out; rw [show ((nn + 1 : Nat) : Int) = (nn : Int) + 1 by omega]; exact this, E19.out⟩ | ((repeat apply Exists.intro); exact ⟨⟨nn + 1, _, _, _, by go_num, by omega, by have := SNX.out; rw [show ((nn + 1 : Nat) : Int) = (nn : Int) + 1 by omega]; exact this, E19.out⟩, rfl⟩)
                            case measure => simp [intOf]; omega
                  · obtain rfl : nn = 6 := by omega
                    obtain ⟨lb2, S2, hl2, f2, -⟩ := EN.out.ledger
                    have KC := hide (lg_counters hl2)
                    have LAT := hide EN.out.lat
                    have FUP := hide EN.out.ok.1.up
                    have NIL := hide (fun x (hx : x ∈ fs) => bare_esc (STL.out.last hx))
                    clear hl2
                    go_upto_region 50 with (go_at_call 12; refine KC.out.mono ?_; rintro r w20 ⟨va, rfl, hga, -, hb20⟩)
                    obtain ⟨aa, ca, rfl, see⟩ := rows_see hga
                    have fl : fs.length = i := by rw [LAT.out.len]; exact NE.out.symm
                    rw [fl]
                    have SA := hide see
                    have E20 := hide (EN.out.below hb20)
                    have FL := hide fl
                    clear hga see hb20 f2 KC EN fl
                    have i8 : i ≤ 8 := n8
                    go_wp2_with fail
                    go_loopw [27] (fun v wz => ∃ k : Nat, v = .int .i64 (k : Int) ∧ k ≤ i ∧ Below w20.heap.size w20 wz) (fun v _ => i + 1 - (intOf v).toNat)
                    case atStart => exact ⟨0, rfl, Nat.zero_le _, Below.refl _ _⟩
                    case round =>
                      obtain ⟨k, rfl, hk, hbk⟩ := hrel
                      obtain ⟨w21, rfl⟩ : ∃ z : World, z = wr := ⟨_, rfl⟩
                      have BK := hide hbk
                      clear hbk
                      by_cases hki : k < i
                      · have hkf : k < fs.length := by rw [FL.out]; exact hki
                        obtain ⟨ab2, ao2, rfl, toldq⟩ := SA.out k hkf
                        obtain ⟨g, cap, eg, -, -⟩ := row_pos2 E20.out.ww (by rw [← NE.out]; omega)
                        simp only [Value.slice.injEq] at eg
                        obtain ⟨rfl, -, -⟩ := eg
                        obtain ⟨b1, b2, b3⟩ := NIL.out _ (List.getElem_mem hkf)
                        have HW := hide (fun (wz : World) (h : Below w20.heap.size w20 wz) => (E20.out.below h).wat (r := k) (by rw [List.length_map]; exact hkf))
                        simp only [List.getElem_map] at HW
                        obtain ⟨hR1, hR2⟩ := read_at FUP.out hkf
                        obtain ⟨lb3, S3, hl3, -, -⟩ := E20.out.ledger
                        have f3 : ∀ wz, Below w20.heap.size w20 wz → ∃ lbz, True := fun _ _ => ⟨0, trivial⟩
                        clear f3
                        obtain ⟨lab5, lb5, vc5, ve5, hst5⟩ := E20.out.st
                        have F0 := hide (fun (wz : World) (h : Below w20.heap.size w20 wz) => ((hst5.below h).box.get 0 _ rfl).1)
                        obtain ⟨S5, hl5⟩ := hst5.lg
                        have KR := hide (fun (wz : World) (h : Below w20.heap.size w20 wz) => lg_read (hl5.below h) (id := fs[k].id) (by have := (OK.out.ids _ (List.getElem_mem (show k < es.length by rw [← NE.out]; exact hki))).1; have := (LAT.out.get k (by rw [← NE.out]; exact hki) hkf).1; unfold I64; omega))
                        rw [hR1, hR2, b1, b2] at KR
                        have TD := hide (fun (wz : World) (h : Below w20.heap.size w20 wz) => (show wz.cell? ⟨ab2, ao2 + k * 5, none⟩ = some (.int .i64 fs[k].id) ∧ wz.cell? ⟨ab2, ao2 + k * 5 + 4, none⟩ = some (.int .i64 fs[k].e.base) by obtain ⟨y0, y1, y2, y3, y4⟩ := toldq wz h; rw [b3] at y4; exact ⟨y0, y4⟩))
                        clear toldq b1 b2 b3 hR1 hR2 hl3 hst5 hl5
                        obtain ⟨bv, hbv⟩ : ∃ z, z = fs[k].e.base := ⟨_, rfl⟩
                        rw [← hbv] at HW KR TD
                        clear hbv
                        have KI := hide (fun wz => is_same bv wz)
                        obtain ⟨id, hid⟩ : ∃ z, z = fs[k].id := ⟨_, rfl⟩
                        rw [← hid] at KR TD
                        clear hid
                        go_upto_region 55 with fail
                        go_cut [28] from 238 to 282 (fun p w' => ∃ rb, p = ptr rb ∧ Cells w' rb [.int .i64 bv, .int .i64 bv] ∧ Below w20.heap.size w20 w')
                        case first =>
                          refine wp_region_held_drew (S := fun wz => Below w21.heap.size w21 wz) (by kernel_rfl) (Below.refl _ _).drew (fun hS => ?_)
                          generalize w21.drew = y0 at *
                          refine take_at 0 (some 245) (v := ?_) rfl rfl (by kernel_rfl) (by kernel_rfl) (by kernel_rfl) (fun _ _ _ h => h) ⟨by rfl, ?_⟩ hS ?_
                          rotate_left
                          · intro wz hSw; go_simp; try rfl
                          simp only [Act.put, List.setIfInBounds_toArray, List.set_cons_zero, List.set_cons_succ]
                          refine take_at 1 (some 246) (v := ?_) rfl rfl (by kernel_rfl) (by kernel_rfl) (by kernel_rfl) (fun _ _ _ h => h) ⟨by rfl, ?_⟩ hS ?_
                          rotate_left
                          · intro wz hSw; go_simp; try rfl
                          simp only [Act.put, List.setIfInBounds_toArray, List.set_cons_zero, List.set_cons_succ]
                          refine take_at 2 (some 247) (v := ?_) rfl rfl (by kernel_rfl) (by kernel_rfl) (by kernel_rfl) (fun _ _ _ h => h) ⟨by rfl, ?_⟩ hS ?_
                          rotate_left
                          · intro wz hSw; go_simp; try rfl
                          simp only [Act.put, List.setIfInBounds_toArray, List.set_cons_zero, List.set_cons_succ]
                          refine take_at 3 (some 248) (v := ?_) rfl rfl (by kernel_rfl) (by kernel_rfl) (by kernel_rfl) (fun _ _ _ h => h) ⟨by rfl, ?_⟩ hS ?_
                          rotate_left
                          · intro wz hSw; have f0 := F0.out _ (BK.out.trans (hSw.mono BK.out.size)); go_simp; try rfl
                          simp only [Act.put, List.setIfInBounds_toArray, List.set_cons_zero, List.set_cons_succ]
                          refine take_at 4 (some 249) (v := ?_) rfl rfl (by kernel_rfl) (by kernel_rfl) (by kernel_rfl) (fun _ _ _ h => h) ⟨by rfl, ?_⟩ hS ?_
                          rotate_left
                          · intro wz hSw; go_simp; try rfl
                          simp only [Act.put, List.setIfInBounds_toArray, List.set_cons_zero, List.set_cons_succ]
                          refine take_at 5 (some 250) (v := ?_) rfl rfl (by kernel_rfl) (by kernel_rfl) (by kernel_rfl) (fun _ _ _ h => h) ⟨by rfl, ?_⟩ hS ?_
                          rotate_left
                          · intro wz hSw; go_simp; try rfl
                          simp only [Act.put, List.setIfInBounds_toArray, List.set_cons_zero, List.set_cons_succ]
                          refine take_at 6 (some 251) (v := ?_) rfl rfl (by kernel_rfl) (by kernel_rfl) (by kernel_rfl) (fun _ _ _ h => h) ⟨by rfl, ?_⟩ hS ?_
                          rotate_left
                          · intro wz hSw; go_simp; try rfl
                          simp only [Act.put, List.setIfInBounds_toArray, List.set_cons_zero, List.set_cons_succ]
                          refine take_at 7 (some 252) (v := ?_) rfl rfl (by kernel_rfl) (by kernel_rfl) (by kernel_rfl) (fun _ _ _ h => h) ⟨by rfl, ?_⟩ hS ?_
                          rotate_left
                          · intro wz hSw; go_simp; try rfl
                          simp only [Act.put, List.setIfInBounds_toArray, List.set_cons_zero, List.set_cons_succ]
                          refine take_at 8 (some 253) (v := ?_) rfl rfl (by kernel_rfl) (by kernel_rfl) (by kernel_rfl) (fun _ _ _ h => h) ⟨by rfl, ?_⟩ hS ?_
                          rotate_left
                          · intro wz hSw; obtain ⟨y0, y4⟩ := TD.out _ (BK.out.trans (hSw.mono BK.out.size)); go_simp; try rfl
                          simp only [Act.put, List.setIfInBounds_toArray, List.set_cons_zero, List.set_cons_succ]
                          refine wpAnyH_ready (rs := [9, 13]) (by kernel_rfl) (by simp) ?_
                          refine AllReadyH.cons rfl (fun K hK => ?_) (AllReadyH.cons rfl (fun K hK => ?_) AllReadyH.nil)
                          · go_simp
                            go_wp2_with fail
                            refine (KR.out _ (BK.out.trans (hS.mono BK.out.size))).mono ?_
                            rintro e x3 ⟨rfl, hh⟩
                            have s_x3 : Below w21.heap.size w21 x3 := hS.trans (hh.mono hS.size)
                            clear hh hS
                            go_wp2_with fail
                            refine hK.out _ _ s_x3 (fun hS => ?_)
                            clear hK K s_x3
                            (try simp only [Act.put, List.setIfInBounds_toArray, List.set_cons_zero, List.set_cons_succ])
                            refine take_at 10 (some 244) (v := ?_) rfl rfl (by kernel_rfl) (by kernel_rfl) (by kernel_rfl) (fun _ _ _ h => h) ⟨by rfl, ?_⟩ hS ?_
                            rotate_left
                            · intro wz hSw; go_simp; try rfl
                            simp only [Act.put, List.setIfInBounds_toArray, List.set_cons_zero, List.set_cons_succ]
                            refine take_at 11 (some 255) (v := ?_) rfl rfl (by kernel_rfl) (by kernel_rfl) (by kernel_rfl) (fun _ _ _ h => h) ⟨by rfl, ?_⟩ hS ?_
                            rotate_left
                            · intro wz hSw; go_simp; try rfl
                            simp only [Act.put, List.setIfInBounds_toArray, List.set_cons_zero, List.set_cons_succ]
                            refine take_at 12 (some 256) (v := ?_) rfl rfl (by kernel_rfl) (by kernel_rfl) (by kernel_rfl) (fun _ _ _ h => h) ⟨by rfl, ?_⟩ hS ?_
                            rotate_left
                            · intro wz hSw; go_simp; try rfl
                            simp only [Act.put, List.setIfInBounds_toArray, List.set_cons_zero, List.set_cons_succ]
                            refine wpAnyH_ready (rs := [13]) (by kernel_rfl) (by simp) ?_
                            refine AllReadyH.cons rfl (fun K hK => ?_) AllReadyH.nil
                            have LO := hide hS.size
                            go_simp
                            go_wp2_with fail
                            refine hK.out _ _ (hS.alloc hS.size _) (fun hS => ?_)
                            clear hK K
                            (try simp only [Act.put, List.setIfInBounds_toArray, List.set_cons_zero, List.set_cons_succ])
                            refine named (P := wpAnyH _ _ _ _ _ _ _ _) ?_
                            intro xa hxa
                            rw [← hxa] at hS
                            obtain ⟨qb, hqb⟩ : ∃ qb, qb = x3.heap.size := ⟨_, rfl⟩
                            have Z := hide (show Cells xa qb [.int .i64 0, .int .i64 0] by rw [hxa, hqb]; exact Cells.new _ _ _)
                            have QB := hide (show w21.heap.size ≤ qb by rw [hqb]; exact LO.out)
                            rw [← hqb]
                            clear hxa hqb LO
                            have K8 := hide (((Keep.refl (fun i => i = qb) xa).setCell (g := qb) (j := 0) (fun _ => rfl) (.int .i64 bv)).setCell (g := qb) (j := 1) (fun _ => rfl) (.int .i64 bv))
                            have C8 := hide ((Z.out.stored (j := 0) (by simp) (.int .i64 bv)).stored (j := 1) (by simp) (.int .i64 bv))
                            obtain ⟨y0, z0⟩ := Z.out.get 0 _ rfl
                            obtain ⟨y1, z1⟩ := Z.out.get 1 _ rfl
                            have S8 := hide (hS.trans (K8.out.below hS.size (fun i hi q => by have := QB.out; omega)))
                            clear hS
                            refine wpAnyH_ready (rs := [14]) (by kernel_rfl) (by simp) ?_
                            refine AllReadyH.cons rfl (fun K hK => ?_) AllReadyH.nil
                            go_simp
                            go_wp2_with fail
                            refine hK.out _ _ S8.out (fun hS => ?_)
                            clear hK K
                            (try simp only [Act.put, List.setIfInBounds_toArray, List.set_cons_zero, List.set_cons_succ])
                            clear y0 z0 y1 z1
                            refine take_at 15 (some 29) (v := ?_) rfl rfl (by kernel_rfl) (by kernel_rfl) (by kernel_rfl) (fun _ _ _ h => h) ⟨by rfl, ?_⟩ hS ?_
                            rotate_left
                            · intro wz hSw; go_simp; try rfl
                            simp only [Act.put, List.setIfInBounds_toArray, List.set_cons_zero, List.set_cons_succ]
                            refine wpAnyH_done (by kernel_rfl) ?_ _
                            clear hS
                            go_wp2_with fail
                            go_meet
                            exact ⟨qb, rfl, C8.out, BK.out.trans (S8.out.mono BK.out.size)⟩
                          · have LO := hide hS.size
                            go_simp
                            go_wp2_with fail
                            refine hK.out _ _ (hS.alloc hS.size _) (fun hS => ?_)
                            clear hK K
                            (try simp only [Act.put, List.setIfInBounds_toArray, List.set_cons_zero, List.set_cons_succ])
                            refine named (P := wpAnyH _ _ _ _ _ _ _ _) ?_
                            intro xa hxa
                            rw [← hxa] at hS
                            obtain ⟨qb, hqb⟩ : ∃ qb, qb = y0.heap.size := ⟨_, rfl⟩
                            have Z := hide (show Cells xa qb [.int .i64 0, .int .i64 0] by rw [hxa, hqb]; exact Cells.new _ _ _)
                            have QB := hide (show w21.heap.size ≤ qb by rw [hqb]; exact LO.out)
                            rw [← hqb]
                            clear hxa hqb LO
                            refine wpAnyH_ready (rs := [9]) (by kernel_rfl) (by simp) ?_
                            refine AllReadyH.cons rfl (fun K hK => ?_) AllReadyH.nil
                            go_simp
                            go_wp2_with fail
                            refine (KR.out _ (BK.out.trans (hS.mono BK.out.size))).mono ?_
                            rintro e x3 ⟨rfl, hh⟩
                            have s_x3 : Below w21.heap.size w21 x3 := hS.trans (hh.mono hS.size)
                            have Z1 := hide (Z.out.below hh)
                            clear Z
                            have Z := Z1
                            clear Z1
                            clear hh hS
                            go_wp2_with fail
                            refine hK.out _ _ s_x3 (fun hS => ?_)
                            clear hK K s_x3
                            (try simp only [Act.put, List.setIfInBounds_toArray, List.set_cons_zero, List.set_cons_succ])
                            refine take_at 10 (some 244) (v := ?_) rfl rfl (by kernel_rfl) (by kernel_rfl) (by kernel_rfl) (fun _ _ _ h => h) ⟨by rfl, ?_⟩ hS ?_
                            rotate_left
                            · intro wz hSw; go_simp; try rfl
                            simp only [Act.put, List.setIfInBounds_toArray, List.set_cons_zero, List.set_cons_succ]
                            refine take_at 11 (some 255) (v := ?_) rfl rfl (by kernel_rfl) (by kernel_rfl) (by kernel_rfl) (fun _ _ _ h => h) ⟨by rfl, ?_⟩ hS ?_
                            rotate_left
                            · intro wz hSw; go_simp; try rfl
                            simp only [Act.put, List.setIfInBounds_toArray, List.set_cons_zero, List.set_cons_succ]
                            refine take_at 12 (some 256) (v := ?_) rfl rfl (by kernel_rfl) (by kernel_rfl) (by kernel_rfl) (fun _ _ _ h => h) ⟨by rfl, ?_⟩ hS ?_
                            rotate_left
                            · intro wz hSw; go_simp; try rfl
                            simp only [Act.put, List.setIfInBounds_toArray, List.set_cons_zero, List.set_cons_succ]
                            have K8 := hide (((Keep.refl (fun i => i = qb) x3).setCell (g := qb) (j := 0) (fun _ => rfl) (.int .i64 bv)).setCell (g := qb) (j := 1) (fun _ => rfl) (.int .i64 bv))
                            have C8 := hide ((Z.out.stored (j := 0) (by simp) (.int .i64 bv)).stored (j := 1) (by simp) (.int .i64 bv))
                            obtain ⟨y0, z0⟩ := Z.out.get 0 _ rfl
                            obtain ⟨y1, z1⟩ := Z.out.get 1 _ rfl
                            have S8 := hide (hS.trans (K8.out.below hS.size (fun i hi q => by have := QB.out; omega)))
                            clear hS
                            refine wpAnyH_ready (rs := [14]) (by kernel_rfl) (by simp) ?_
                            refine AllReadyH.cons rfl (fun K hK => ?_) AllReadyH.nil
                            go_simp
                            go_wp2_with fail
                            refine hK.out _ _ S8.out (fun hS => ?_)
                            clear hK K
                            (try simp only [Act.put, List.setIfInBounds_toArray, List.set_cons_zero, List.set_cons_succ])
                            clear y0 z0 y1 z1
                            refine take_at 15 (some 29) (v := ?_) rfl rfl (by kernel_rfl) (by kernel_rfl) (by kernel_rfl) (fun _ _ _ h => h) ⟨by rfl, ?_⟩ hS ?_
                            rotate_left
                            · intro wz hSw; go_simp; try rfl
                            simp only [Act.put, List.setIfInBounds_toArray, List.set_cons_zero, List.set_cons_succ]
                            refine wpAnyH_done (by kernel_rfl) ?_ _
                            clear hS
                            go_wp2_with fail
                            go_meet
                            exact ⟨qb, rfl, C8.out, BK.out.trans (S8.out.mono BK.out.size)⟩
                        case rest =>
                          obtain ⟨rb, rfl, hrb, hb4⟩ := hcut
                          have R4 := hide hrb
                          have B4 := hide hb4
                          clear hrb hb4
                          go_upto_region 56 with fail
                          refine wp_region_held_drew (S := fun wz => Below wc.heap.size wc wz) (by kernel_rfl) (Below.refl _ _).drew (fun hS => ?_)
                          generalize wc.drew = y56 at *
                          refine take_at 0 (some 257) (v := ?_) rfl rfl (by kernel_rfl) (by kernel_rfl) (by kernel_rfl) (fun _ _ _ h => h) ⟨by rfl, ?_⟩ hS ?_
                          rotate_left
                          · intro wz hSw; go_simp; try rfl
                          simp only [Act.put, List.setIfInBounds_toArray, List.set_cons_zero, List.set_cons_succ]
                          refine take_at 1 (some 258) (v := ?_) rfl rfl (by kernel_rfl) (by kernel_rfl) (by kernel_rfl) (fun _ _ _ h => h) ⟨by rfl, ?_⟩ hS ?_
                          rotate_left
                          · intro wz hSw; go_simp; try rfl
                          simp only [Act.put, List.setIfInBounds_toArray, List.set_cons_zero, List.set_cons_succ]
                          refine take_at 2 (some 259) (v := ?_) rfl rfl (by kernel_rfl) (by kernel_rfl) (by kernel_rfl) (fun _ _ _ h => h) ⟨by rfl, ?_⟩ hS ?_
                          rotate_left
                          · intro wz hSw; go_simp; try rfl
                          simp only [Act.put, List.setIfInBounds_toArray, List.set_cons_zero, List.set_cons_succ]
                          refine take_at 3 (some 260) (v := ?_) rfl rfl (by kernel_rfl) (by kernel_rfl) (by kernel_rfl) (fun _ _ _ h => h) ⟨by rfl, ?_⟩ hS ?_
                          rotate_left
                          · intro wz hSw; obtain ⟨q0, -, q1, -⟩ := HW.out _ (B4.out.trans (hSw.mono B4.out.size)); go_simp; try rfl
                          simp only [Act.put, List.setIfInBounds_toArray, List.set_cons_zero, List.set_cons_succ]
                          refine take_at 4 (some 261) (v := ?_) rfl rfl (by kernel_rfl) (by kernel_rfl) (by kernel_rfl) (fun _ _ _ h => h) ⟨by rfl, ?_⟩ hS ?_
                          rotate_left
                          · intro wz hSw; go_simp; try rfl
                          simp only [Act.put, List.setIfInBounds_toArray, List.set_cons_zero, List.set_cons_succ]
                          refine take_at 5 (some 262) (v := ?_) rfl rfl (by kernel_rfl) (by kernel_rfl) (by kernel_rfl) (fun _ _ _ h => h) ⟨by rfl, ?_⟩ hS ?_
                          rotate_left
                          · intro wz hSw; go_simp; try rfl
                          simp only [Act.put, List.setIfInBounds_toArray, List.set_cons_zero, List.set_cons_succ]
                          refine take_at 6 (some 263) (v := ?_) rfl rfl (by kernel_rfl) (by kernel_rfl) (by kernel_rfl) (fun _ _ _ h => h) ⟨by rfl, ?_⟩ hS ?_
                          rotate_left
                          · intro wz hSw; go_simp; try rfl
                          simp only [Act.put, List.setIfInBounds_toArray, List.set_cons_zero, List.set_cons_succ]
                          refine take_at 7 (some 264) (v := ?_) rfl rfl (by kernel_rfl) (by kernel_rfl) (by kernel_rfl) (fun _ _ _ h => h) ⟨by rfl, ?_⟩ hS ?_
                          rotate_left
                          · intro wz hSw; go_simp; try rfl
                          simp only [Act.put, List.setIfInBounds_toArray, List.set_cons_zero, List.set_cons_succ]
                          refine take_at 8 (some 265) (v := ?_) rfl rfl (by kernel_rfl) (by kernel_rfl) (by kernel_rfl) (fun _ _ _ h => h) ⟨by rfl, ?_⟩ hS ?_
                          rotate_left
                          · intro wz hSw; obtain ⟨y0, y4⟩ := TD.out _ (B4.out.trans (hSw.mono B4.out.size)); go_simp; try rfl
                          simp only [Act.put, List.setIfInBounds_toArray, List.set_cons_zero, List.set_cons_succ]
                          refine wpAnyH_ready (rs := [9]) (by kernel_rfl) (by simp) ?_
                          refine AllReadyH.cons rfl (fun K hK => ?_) AllReadyH.nil
                          go_simp
                          go_wp2_with fail
                          refine (KI.out _).mono ?_
                          rintro e x57 ⟨rfl, hh⟩
                          have s_x57 : Below wc.heap.size wc x57 := hS.trans (hh.mono hS.size)
                          clear hh hS
                          go_wp2_with fail
                          refine hK.out _ _ s_x57 (fun hS => ?_)
                          clear hK K s_x57
                          (try simp only [Act.put, List.setIfInBounds_toArray, List.set_cons_zero, List.set_cons_succ])
                          refine take_at 10 (some 267) (v := ?_) rfl rfl (by kernel_rfl) (by kernel_rfl) (by kernel_rfl) (fun _ _ _ h => h) ⟨by rfl, ?_⟩ hS ?_
                          rotate_left
                          · intro wz hSw; go_simp; try rfl
                          simp only [Act.put, List.setIfInBounds_toArray, List.set_cons_zero, List.set_cons_succ]
                          refine take_at 11 (some 268) (v := ?_) rfl rfl (by kernel_rfl) (by kernel_rfl) (by kernel_rfl) (fun _ _ _ h => h) ⟨by rfl, ?_⟩ hS ?_
                          rotate_left
                          · intro wz hSw; go_simp; try rfl
                          simp only [Act.put, List.setIfInBounds_toArray, List.set_cons_zero, List.set_cons_succ]
                          refine take_at 12 (some 269) (v := ?_) rfl rfl (by kernel_rfl) (by kernel_rfl) (by kernel_rfl) (fun _ _ _ h => h) ⟨by rfl, ?_⟩ hS ?_
                          rotate_left
                          · intro wz hSw; obtain ⟨r0, -⟩ := (R4.out.below hSw).get 0 _ rfl; obtain ⟨r1, -⟩ := (R4.out.below hSw).get 1 _ rfl; go_simp; try rfl
                          simp only [Act.put, List.setIfInBounds_toArray, List.set_cons_zero, List.set_cons_succ]
                          refine take_at 13 (some 270) (v := ?_) rfl rfl (by kernel_rfl) (by kernel_rfl) (by kernel_rfl) (fun _ _ _ h => h) ⟨by rfl, ?_⟩ hS ?_
                          rotate_left
                          · intro wz hSw; go_simp; try rfl
                          simp only [Act.put, List.setIfInBounds_toArray, List.set_cons_zero, List.set_cons_succ]
                          refine take_at 14 (some 271) (v := ?_) rfl rfl (by kernel_rfl) (by kernel_rfl) (by kernel_rfl) (fun _ _ _ h => h) ⟨by rfl, ?_⟩ hS ?_
                          rotate_left
                          · intro wz hSw; go_simp; try rfl
                          simp only [Act.put, List.setIfInBounds_toArray, List.set_cons_zero, List.set_cons_succ]
                          refine take_at 15 (some 272) (v := ?_) rfl rfl (by kernel_rfl) (by kernel_rfl) (by kernel_rfl) (fun _ _ _ h => h) ⟨by rfl, ?_⟩ hS ?_
                          rotate_left
                          · intro wz hSw; go_simp; try rfl
                          simp only [Act.put, List.setIfInBounds_toArray, List.set_cons_zero, List.set_cons_succ]
                          refine take_at 16 (some 273) (v := ?_) rfl rfl (by kernel_rfl) (by kernel_rfl) (by kernel_rfl) (fun _ _ _ h => h) ⟨by rfl, ?_⟩ hS ?_
                          rotate_left
                          · intro wz hSw; go_simp; try rfl
                          simp only [Act.put, List.setIfInBounds_toArray, List.set_cons_zero, List.set_cons_succ]
                          refine take_at 17 (some 274) (v := ?_) rfl rfl (by kernel_rfl) (by kernel_rfl) (by kernel_rfl) (fun _ _ _ h => h) ⟨by rfl, ?_⟩ hS ?_
                          rotate_left
                          · intro wz hSw; obtain ⟨y0, y4⟩ := TD.out _ (B4.out.trans (hSw.mono B4.out.size)); go_simp; try rfl
                          simp only [Act.put, List.setIfInBounds_toArray, List.set_cons_zero, List.set_cons_succ]
                          refine take_at 18 (some 275) (v := ?_) rfl rfl (by kernel_rfl) (by kernel_rfl) (by kernel_rfl) (fun _ _ _ h => h) ⟨by rfl, ?_⟩ hS ?_
                          rotate_left
                          · intro wz hSw; go_simp; try rfl
                          simp only [Act.put, List.setIfInBounds_toArray, List.set_cons_zero, List.set_cons_succ]
                          refine take_at 19 (some 276) (v := ?_) rfl rfl (by kernel_rfl) (by kernel_rfl) (by kernel_rfl) (fun _ _ _ h => h) ⟨by rfl, ?_⟩ hS ?_
                          rotate_left
                          · intro wz hSw; go_simp; try rfl
                          simp only [Act.put, List.setIfInBounds_toArray, List.set_cons_zero, List.set_cons_succ]
                          refine take_at 20 (some 277) (v := ?_) rfl rfl (by kernel_rfl) (by kernel_rfl) (by kernel_rfl) (fun _ _ _ h => h) ⟨by rfl, ?_⟩ hS ?_
                          rotate_left
                          · intro wz hSw; go_simp; try rfl
                          simp only [Act.put, List.setIfInBounds_toArray, List.set_cons_zero, List.set_cons_succ]
                          refine take_at 21 (some 278) (v := ?_) rfl rfl (by kernel_rfl) (by kernel_rfl) (by kernel_rfl) (fun _ _ _ h => h) ⟨by rfl, ?_⟩ hS ?_
                          rotate_left
                          · intro wz hSw; go_simp; try rfl
                          simp only [Act.put, List.setIfInBounds_toArray, List.set_cons_zero, List.set_cons_succ]
                          refine take_at 22 (some 279) (v := ?_) rfl rfl (by kernel_rfl) (by kernel_rfl) (by kernel_rfl) (fun _ _ _ h => h) ⟨by rfl, ?_⟩ hS ?_
                          rotate_left
                          · intro wz hSw; obtain ⟨y0, y4⟩ := TD.out _ (B4.out.trans (hSw.mono B4.out.size)); go_simp; try rfl
                          simp only [Act.put, List.setIfInBounds_toArray, List.set_cons_zero, List.set_cons_succ]
                          refine take_at 23 (some 280) (v := ?_) rfl rfl (by kernel_rfl) (by kernel_rfl) (by kernel_rfl) (fun _ _ _ h => h) ⟨by rfl, ?_⟩ hS ?_
                          rotate_left
                          · intro wz hSw; go_simp; try rfl
                          simp only [Act.put, List.setIfInBounds_toArray, List.set_cons_zero, List.set_cons_succ]
                          refine take_at 24 (some 281) (v := ?_) rfl rfl (by kernel_rfl) (by kernel_rfl) (by kernel_rfl) (fun _ _ _ h => h) ⟨by rfl, ?_⟩ hS ?_
                          rotate_left
                          · intro wz hSw; go_simp; try rfl
                          simp only [Act.put, List.setIfInBounds_toArray, List.set_cons_zero, List.set_cons_succ]
                          refine take_at 25 (some 282) (v := ?_) rfl rfl (by kernel_rfl) (by kernel_rfl) (by kernel_rfl) (fun _ _ _ h => h) ⟨by rfl, ?_⟩ hS ?_
                          rotate_left
                          · intro wz hSw; go_simp; try rfl
                          simp only [Act.put, List.setIfInBounds_toArray, List.set_cons_zero, List.set_cons_succ]
                          refine wpAnyH_done (by kernel_rfl) ?_ _
                          have B8 := hide (B4.out.trans (hS.mono B4.out.size))
                          clear hS
                          go_wp2_with fail
                          go_roundw
                          case rel => first | exact ⟨k + 1, by go_num, by omega, B8.out⟩ | ((repeat apply Exists.intro); exact ⟨⟨k + 1, by go_num, by omega, B8.out⟩, rfl⟩)
                          case measure => simp [intOf]; omega
                      · obtain rfl : k = i := by omega
                        go_wp2_with fail
                        go_ret
                        exact ⟨rfl, E20.out.bel.trans (BK.out.mono E20.out.bel.size)⟩
end Go.Proofs.YtaohdmaenplbpaaGreat
