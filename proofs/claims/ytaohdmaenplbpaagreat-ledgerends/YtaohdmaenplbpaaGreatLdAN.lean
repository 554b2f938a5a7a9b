import Derived.Test.YtaohdmaenplbpaaGreatLdAM
set_option linter.all false
namespace Go.Proofs.YtaohdmaenplbpaaGreat
open Go.RowKit Go.QK Quota Go.Maps Go.QM
set_option maxRecDepth 100000
/-! LedgerSums. -/
set_option maxHeartbeats 2000000 in
theorem is_raw (zh zl v : Int) (w : World) (KB : ∀ w : World, Calls Tryz.prog 70 #[.agg #[.int .i64 zh, .int .i64 zl], .int .i64 v] w fun r w' => r = .returned (.bool false) ∧ Below w.heap.size w w') (KA : ∀ w : World, Calls Tryz.prog 71 #[.agg #[.int .i64 zh, .int .i64 zl], .int .i64 v] w fun r w' => r = .returned (.bool false) ∧ Below w.heap.size w w') : Calls Tryz.prog 38 #[.agg #[.int .i64 zh, .int .i64 zl], .int .i64 v] w fun r w' => r = .returned (.bool true) ∧ Below w.heap.size w w' := by
  have KB := hide KB
  have KA := hide KA
  go_enter Tryz.func38, Tryz.ntmps38
  go_upto_region 1 with fail
  refine named (P := Code.wp _ _ _ _) ?_
  intro w0 hw0
  obtain ⟨b, hb⟩ : ∃ b, b = w.heap.size := ⟨_, rfl⟩
  have cc : Cells w0 b [.int .i64 zh, .int .i64 zl] := by rw [hw0, hb]; exact Cells.new _ _ _
  have bb := hide (show Below w.heap.size w w0 by rw [hw0]; exact alloc_below _ _)
  rw [← hb]
  clear hw0 hb
  obtain ⟨q0, -⟩ := cc.get 0 _ rfl
  obtain ⟨q1, -⟩ := cc.get 1 _ rfl
  go_wp2_with (go_at_call 70; refine (KB.out _).mono ?_; rintro r w1 ⟨rfl, hb1⟩; have c1 := cc.below hb1; have B1' := hide (bb.out.trans (hb1.mono bb.out.size)); clear q0 q1; obtain ⟨q0, -⟩ := c1.get 0 _ rfl; obtain ⟨q1, -⟩ := c1.get 1 _ rfl; clear hb1 KB cc c1 bb)
  refine (KA.out _).mono ?_
  rintro r w2 ⟨rfl, hb2⟩
  go_wp2_with fail
  go_ret
  exact ⟨rfl, B1'.out.trans (hb2.mono B1'.out.size)⟩
theorem is_same (z : Int) (w : World) : Calls Tryz.prog 38 #[wd z, .int .i64 z] w fun r w' => r = .returned (.bool true) ∧ Below w.heap.size w w' := by
  have e0 : decide (z < z) = false := by simp
  exact is_raw (wh z) (wl z) z w (fun w' => by have := below_w z z w'; rw [e0] at this; exact this) (fun w' => by have := above_w z z w'; rw [e0] at this; exact this)
theorem up_cnt {α : Type} {G : Prs α} (h : Up G) (g : Int) : (G.filter (fun p => decide (p.1 < g + 1))).length = (G.filter (fun p => decide (p.1 < g))).length + (if (getM G g).isSome then 1 else 0) := by
  induction G with
  | nil => rfl
  | cons p r ih =>
    have hr : Up r := (List.pairwise_cons.1 h).2
    have hd := (List.pairwise_cons.1 h).1
    have i := ih hr
    rcases Int.lt_trichotomy p.1 g with q | q | q
    · have e1 : decide (p.1 < g + 1) = true := by rw [decide_eq_true_iff]; omega
      have e2 : decide (p.1 < g) = true := by rw [decide_eq_true_iff]; omega
      have e3 : getM (p :: r) g = getM r g := by
        unfold getM
        rw [List.find?_cons]
        have : (p.1 == g) = false := by simpa using (show p.1 ≠ g by omega)
        rw [this]
      rw [List.filter_cons, if_pos e1, List.filter_cons, if_pos e2, List.length_cons, List.length_cons, i, e3]
      omega
    · have e1 : decide (p.1 < g + 1) = true := by rw [decide_eq_true_iff]; omega
      have e2 : ¬ decide (p.1 < g) = true := by rw [decide_eq_true_iff]; omega
      have e3 : getM (p :: r) g = some p.2 := by
        unfold getM
        rw [List.find?_cons]
        have : (p.1 == g) = true := by simpa using q
        rw [this]
        rfl
      have e5 : r.filter (fun p => decide (p.1 < g + 1)) = [] := List.filter_eq_nil_iff.2 (fun y hy => by have := hd y hy; rw [decide_eq_true_iff]; omega)
      have e6 : r.filter (fun p => decide (p.1 < g)) = [] := List.filter_eq_nil_iff.2 (fun y hy => by have := hd y hy; rw [decide_eq_true_iff]; omega)
      rw [List.filter_cons, if_pos e1, List.filter_cons, if_neg e2, e3, e5, e6]
      rfl
    · have e1 : ¬ decide (p.1 < g + 1) = true := by rw [decide_eq_true_iff]; omega
      have e2 : ¬ decide (p.1 < g) = true := by rw [decide_eq_true_iff]; omega
      have e3 : getM (p :: r) g = getM r g := by
        unfold getM
        rw [List.find?_cons]
        have : (p.1 == g) = false := by simpa using (show p.1 ≠ g by omega)
        rw [this]
      rw [List.filter_cons, if_neg e1, List.filter_cons, if_neg e2, i, e3]
theorem up_at {α : Type} {G : Prs α} (h : Up G) {g : Int} {v : α} (hg : getM G g = some v) : ∃ hk : (G.filter (fun p => decide (p.1 < g))).length < G.length, G[(G.filter (fun p => decide (p.1 < g))).length] = (g, v) := by
  induction G with
  | nil => cases hg
  | cons p r ih =>
    have hr : Up r := (List.pairwise_cons.1 h).2
    have hd := (List.pairwise_cons.1 h).1
    by_cases q : p.1 = g
    · have e2 : ¬ decide (p.1 < g) = true := by rw [decide_eq_true_iff]; omega
      have e6 : r.filter (fun p => decide (p.1 < g)) = [] := List.filter_eq_nil_iff.2 (fun y hy => by have := hd y hy; rw [decide_eq_true_iff]; omega)
      have e3 : getM (p :: r) g = some p.2 := by
        unfold getM
        rw [List.find?_cons]
        have : (p.1 == g) = true := by simpa using q
        rw [this]
        rfl
      rw [e3] at hg
      cases hg
      have e7 : (List.filter (fun p => decide (p.1 < g)) (p :: r)).length = 0 := by rw [List.filter_cons, if_neg e2, e6]; rfl
      refine ⟨by rw [e7]; simp, ?_⟩
      simp only [e7, List.getElem_cons_zero]
      rw [← q]
    · have e3 : getM (p :: r) g = getM r g := by
        unfold getM
        rw [List.find?_cons]
        have : (p.1 == g) = false := by simpa using q
        rw [this]
      rw [e3] at hg
      obtain ⟨i1, i2⟩ := ih hr hg
      have hm := getM_mem hg
      have hlt := hd _ hm
      have e2 : decide (p.1 < g) = true := by rw [decide_eq_true_iff]; exact hlt
      have e7 : (List.filter (fun p => decide (p.1 < g)) (p :: r)).length = (r.filter (fun p => decide (p.1 < g))).length + 1 := by rw [List.filter_cons, if_pos e2]; rfl
      refine ⟨by rw [e7]; simpa using i1, ?_⟩
      simp only [e7, List.getElem_cons_succ]
      exact i2
def cntG {α : Type} (G : Prs α) (g : Int) : Nat := (G.filter (fun p => decide (p.1 < g))).length
theorem cntG_le {α : Type} (G : Prs α) (g : Int) : cntG G g ≤ G.length := List.length_filter_le _ _
/-- What the ledger tells of its groups. -/
structure Grps (G : Prs (Int × Int × Int)) (C : Ctrs) : Prop where
  one : cntG G 1 = 0
  four : cntG G 4 = G.length
  yes : ∀ g, thereG C g = true → cntG G (g + 1) = cntG G g + 1 ∧ ∃ hk : cntG G g < G.length, G[cntG G g] = (g, sumG C g, lowG C g, highG C g)
  no : ∀ g, thereG C g = false → cntG G (g + 1) = cntG G g
theorem grps_of {es : List SE} {H : Helds} (ok : SOk es H) {G : Prs (Int × Int × Int)} (hu : Up G) (hg : ∀ g, getM G g = if thereG (ctrsOf es) g then some (sumG (ctrsOf es) g, lowG (ctrsOf es) g, highG (ctrsOf es) g) else none) : Grps G (ctrsOf es) := by
  have key : ∀ p ∈ G, 1 ≤ p.1 ∧ p.1 ≤ 3 := by
    intro p hp
    have q := getM_of_mem hu hp
    rw [hg p.1] at q
    split at q
    · rename_i ht
      unfold thereG at ht
      obtain ⟨c, hc, hq⟩ := List.any_eq_true.1 ht
      obtain ⟨x, hx, rfl⟩ := List.mem_map.1 hc
      have := (ok.ids x hx).2
      have hq' : x.grp = p.1 := of_decide_eq_true hq
      omega
    · cases q
  refine ⟨?_, ?_, fun g ht => ?_, fun g ht => ?_⟩
  · unfold cntG
    rw [List.filter_eq_nil_iff.2 (fun p hp => by have := key p hp; rw [decide_eq_true_iff]; omega)]
    rfl
  · unfold cntG
    rw [List.filter_eq_self.2 (fun p hp => by have := key p hp; rw [decide_eq_true_iff]; omega)]
  · have e := hg g
    rw [if_pos ht] at e
    refine ⟨?_, up_at hu e⟩
    unfold cntG
    rw [up_cnt hu g, e]
    rfl
  · have e := hg g
    rw [if_neg (by rw [ht]; simp)] at e
    unfold cntG
    rw [up_cnt hu g, e]
    rfl
def thB (g : Int) (es : List SE) : Bool := es.any (fun x => decide (x.grp = g))
theorem thB_there (g : Int) (es : List SE) : thB g es = thereG (ctrsOf es) g := by
  unfold thB thereG ctrsOf
  rw [List.any_map]
  rfl
theorem thB_take (g : Int) {es : List SE} {i : Nat} (hi : i < es.length) : thB g (es.take (i + 1)) = (thB g (es.take i) || decide (es[i].grp = g)) := by
  unfold thB
  rw [List.take_add_one, List.getElem?_eq_getElem hi, List.any_append]
  simp
theorem sumA_there {C : Ctrs} {g : Int} (h : thereG C g = true) : sumA C g = (sumG C g, lowG C g, highG C g) ∧ sumE C g = 0 := by
  unfold sumA sumE
  rw [h]
  exact ⟨rfl, rfl⟩
theorem sumA_not {C : Ctrs} {g : Int} (h : thereG C g = false) : sumA C g = (0, 0, 0) ∧ sumE C g = 122 := by
  unfold sumA sumE
  rw [h]
  exact ⟨rfl, rfl⟩
theorem grp_see {w : World} {B e : Nat} {v : Value} {G : Prs (Int × Int × Int)} (h : GRow w B e 2 v G.length (rowsC gC G)) : ∃ aa ca, v = .slice aa G.length ca ∧ ∀ k (hk : k < G.length), ∃ ab ao, aa = some ⟨ab, ao, none⟩ ∧ ∀ wz, Below w.heap.size w wz → wz.cell? ⟨ab, ao + k * 2, none⟩ = some (.int .i64 G[k].1) ∧ wz.cell? ⟨ab, ao + k * 2 + 1, none⟩ = some (.int .i64 G[k].2.1) := by
  obtain ⟨aa, ca, rfl, hl, -⟩ := GRow.lies h
  refine ⟨aa, ca, rfl, fun k hk => ?_⟩
  obtain ⟨ab, ao, q1, -, -⟩ := hl.rowAt gC 2 (fun _ => rfl) k hk (by decide)
  subst q1
  refine ⟨ab, ao, rfl, fun wz hz => ?_⟩
  obtain ⟨ab', ao', q2, -, sel⟩ := (hl.below hz).rowAt gC 2 (fun _ => rfl) k hk (by decide)
  cases q2
  exact ⟨sel 0 _ rfl, sel 1 _ rfl⟩
set_option maxHeartbeats 20000000 in
theorem law_sums (rs : List Rm) (ra : Option Addr) (nR rc : Nat) (ds : List Dd) (da : Option Addr) (nD dc : Nat) (w : World) (hr : Lies w ra (rowsC rmC rs)) (hn : nR = rs.length) (hin : ∀ x ∈ rs, x.In) (hmax : nR ≤ 9223372036854775807) (hd : Lies w da (rowsC ddC ds)) (hdn : nD = ds.length) (hdi : ∀ x ∈ ds, I64 x.d) : Calls Tryz.prog 6 #[.slice ra nR rc, .slice da nD dc] w fun r w' => r = .returned (.bool true) ∧ Below w.heap.size w w' := by
  have KB := hide (begun_any rs ra nR rc w hr hn hin hmax)
  have KF := hide (fun w' => first_any w')
  have KI := hide (fun z w' => is_same z w')
  have HD := hide hd
  have HN := hide hdn
  have HI := hide hdi
  clear hr hn hin hmax hd hdn hdi
  go_enter Tryz.func6, Tryz.ntmps6
  go_upto_region 2 with (go_at_call 9; refine KB.out.mono ?_; rintro r w1 ⟨sb, T, es, rfl, hs, hT, hb⟩; have B1 := hide (show Btw w w1 sb T es [] from ⟨hs, hT, hb⟩); clear hs hT hb)
  clear KB
  go_upto_region 4 with (go_at_call 10; refine (KF.out _).mono ?_; rintro r w2 ⟨rfl, hb⟩; have B2 := hide (B1.out.below hb); clear hb B1)
  clear KF
  go_wp2_with fail
  go_loopw [7] (fun v wr => ∃ (i : Nat) (T : Nat → Prop) (es : List SE) (H : Helds), v = .int .i64 (i : Int) ∧ i ≤ nD ∧ i ≤ 100 ∧ Btw w wr sb T es H) (fun v _ => nD + 1 - (intOf v).toNat)
  case atStart => exact ⟨0, T, es, [], rfl, Nat.zero_le _, Nat.zero_le _, B2.out⟩
  case round =>
    clear B2 T es
    obtain ⟨i, T, es, H, rfl, hi, hi100, hB⟩ := hrel
    by_cases hlt : i < nD
    · by_cases h100 : i < 100
      · have hid : i < ds.length := by rw [← HN.out]; exact hlt
        obtain ⟨db, doo, rfl, dlt, sel⟩ := HD.out.rowAt ddC 4 ddC_len i hid (by decide)
        have KD := hide (hB.call ds[i] (HI.out _ (List.getElem_mem hid)))
        have f0 := (hB.bel.cell (p := ⟨db, doo + i * 4 + 0, none⟩) dlt).trans (sel 0 _ rfl)
        have f1 := (hB.bel.cell (p := ⟨db, doo + i * 4 + 1, none⟩) dlt).trans (sel 1 _ rfl)
        have f2 := (hB.bel.cell (p := ⟨db, doo + i * 4 + 2, none⟩) dlt).trans (sel 2 _ rfl)
        have f3 := (hB.bel.cell (p := ⟨db, doo + i * 4 + 3, none⟩) dlt).trans (sel 3 _ rfl)
        simp only [Nat.add_zero] at f0
        generalize ds[i] = x at *
        obtain ⟨kd, tx, ct, d⟩ := x
        simp only at f0 f1 f2 f3 KD
        clear sel hB
        go_upto_region 8 with (go_at_call 11; refine KD.out.mono ?_; rintro r w2 ⟨rfl, T2, es2, H2, hB⟩)
        clear KD f0 f1 f2 f3 T es H
        have hB0 := hB
        obtain ⟨⟨ok, lab, lb, vc, ve, hst⟩, -, -⟩ := hB0
        have BT := hide hB
        obtain ⟨a1, c1, a2, c2, rfl, rfl⟩ := hst.form
        obtain ⟨n, hn⟩ : ∃ n, n = es2.length := ⟨_, rfl⟩
        rw [← hn] at hst
        have n8 : n ≤ 8 := by rw [hn]; exact ok.few
        have NE := hide hn
        obtain ⟨S, hl⟩ := hst.lg
        obtain ⟨G, gu, gg, kg⟩ := lg_groups hl
        have GR := hide (grps_of ok gu gg)
        have KG := hide kg
        have f0 := (hst.box.get 0 _ rfl).1
        have HS := hide hst
        clear ok hB hst hl hn gu gg kg
        go_upto_region 11 with (go_at_call 31; refine KG.out.mono ?_; rintro r w3 ⟨va, rfl, hga, -, hb3⟩)
        clear KG f0
        obtain ⟨aa, ca, rfl, see⟩ := grp_see hga
        have SA := hide see
        have S3 := hide (HS.out.below hb3)
        have B3 := hide (BT.out.below hb3)
        have STO := hide (fun wz (h : Below w3.heap.size w3 wz) => ((BT.out.below hb3).below h).sto)
        have G0 := GR.out.one
        obtain ⟨gl, hgl⟩ : ∃ n, n = G.length := ⟨_, rfl⟩
        have GL := hide hgl
        rw [← hgl]
        clear see hga hb3 HS BT hgl
        go_wp2_with fail
        go_loopw [10, 9] (fun v u wq => ∃ g : Nat, v = .int .i64 (g : Int) ∧ u = .int .i64 ((cntG G (g : Int) : Nat) : Int) ∧ 1 ≤ g ∧ g ≤ 4 ∧ cntG G (g : Int) ≤ g ∧ Below w3.heap.size w3 wq) (fun v _ _ => 5 - (intOf v).toNat)
        case atStart => exact ⟨1, rfl, by rw [show ((1 : Nat) : Int) = 1 from rfl, G0]; rfl, Nat.le_refl _, by omega, by rw [show ((1 : Nat) : Int) = 1 from rfl, G0]; omega, Below.refl _ _⟩
        case round =>
          clear G0
          obtain ⟨g, rfl, rfl, hg1, hg4, hcg4, hbq⟩ := hrel
          by_cases hg : g ≤ 3
          · have S4 := hide (S3.out.below hbq)
            have BQ := hide hbq
            obtain ⟨SS, hl⟩ := S4.out.lg
            have gi : I64 (g : Int) := by unfold I64; omega
            have KS := hide (fun (wz : World) (h : Below wr.heap.size wr wz) => lg_sum (hl.below h) (g := (g : Int)) gi)
            have KW := hide (fun (wz : World) (h : Below wr.heap.size wr wz) => lg_worst (hl.below h) (g := (g : Int)) gi)
            have KO := hide (fun (wz : World) (h : Below wr.heap.size wr wz) => sumOf_any (STO.out _ (BQ.out.trans (h.mono BQ.out.size))) (g : Int))
            have GG := hide (show thereG (ctrsOf es2) (g : Int) = true → cntG G ((g + 1 : Nat) : Int) = cntG G (g : Int) + 1 ∧ ∃ hk : cntG G (g : Int) < G.length, G[cntG G (g : Int)] = ((g : Int), sumG (ctrsOf es2) g, lowG (ctrsOf es2) g, highG (ctrsOf es2) g) from GR.out.yes (g : Int))
            have GN := hide (show thereG (ctrsOf es2) (g : Int) = false → cntG G ((g + 1 : Nat) : Int) = cntG G (g : Int) from GR.out.no (g : Int))
            obtain ⟨c1', hc1⟩ : ∃ c, c = cntG G ((g + 1 : Nat) : Int) := ⟨_, rfl⟩
            rw [← hc1] at GG GN
            have C1 := hide hc1
            clear hc1 hbq hl
            obtain ⟨ae, hae⟩ : ∃ z, z = sumA (ctrsOf es2) (g : Int) := ⟨_, rfl⟩
            obtain ⟨se, hse⟩ : ∃ z, z = sumE (ctrsOf es2) (g : Int) := ⟨_, rfl⟩
            obtain ⟨av, al, au⟩ := ae
            rw [← hae, ← hse] at KW
            rw [← hae, ← hse] at KS
            simp only at KW KS
            have AE := hide hae
            have SE' := hide hse
            clear hae hse
            have f0 := (S4.out.box.get 0 _ rfl).1
            go_upto_region 16 with (go_at_call 36; refine (KS.out _ (Below.refl _ _)).mono ?_; rintro r w5 ⟨rfl, hb5⟩)
            clear f0
            have f0 := ((S4.out.below hb5).box.get 0 _ rfl).1
            go_upto_region 17 with (go_at_call 37; refine (KW.out _ hb5).mono ?_; rintro r w6 ⟨rfl, hb6⟩)
            clear f0
            refine named (P := Code.wp _ _ _ _) ?_
            intro w7 hw7
            obtain ⟨rb, hrb⟩ : ∃ z, z = w6.heap.size := ⟨_, rfl⟩
            have R7 := hide (show Cells w7 rb [.int .i64 al, .int .i64 au] by rw [hw7, hrb]; exact Cells.new _ _ _)
            have b67 : Below w6.heap.size w6 w7 := by rw [hw7]; exact alloc_below _ _
            have b56 := hb5.trans (hb6.mono hb5.size)
            have Q7 := hide (b56.trans (b67.mono b56.size))
            rw [← hrb]
            clear hw7 hrb b67 hb5 hb6 b56 KS KW
            go_wp2_with fail
            go_loopw [16, 15] (fun v u wz => ∃ k : Nat, v = .int .i64 (k : Int) ∧ u = .bool (thB (g : Int) (es2.take k)) ∧ k ≤ n ∧ w7 = wz) (fun v _ _ => n + 1 - (intOf v).toNat)
            case atStart => exact ⟨0, rfl, rfl, Nat.zero_le _, rfl⟩
            case round =>
              obtain ⟨k, rfl, rfl, hk, rfl⟩ := hrel
              have S7 := S4.out.below Q7.out
              have g1 := (S7.box.get 1 _ rfl).1
              by_cases hkn : k < n
              · have hke : k < es2.length := by rw [← NE.out]; exact hkn
                obtain ⟨cb, co, eb, eo, rfl, rfl, sees⟩ := S4.out.see hke
                have TK := hide (thB_take (g : Int) hke)
                obtain ⟨m0, m1, m2, x0, x1, x2, x3, x4, xe⟩ := sees _ Q7.out
                clear S7 g1 sees m0 m2 x0 x2 x3 x4 xe
                obtain ⟨y, hy⟩ : ∃ y, y = es2[k].grp := ⟨_, rfl⟩
                rw [← hy] at TK x1
                clear hy
                obtain ⟨q, hq⟩ : ∃ q, q = thB (g : Int) (es2.take k) := ⟨_, rfl⟩
                rw [← hq] at TK ⊢
                clear hq
                have ed : decide (y = (g : Int)) = (y == (g : Int)) := by rw [Bool.eq_iff_iff]; simp
                rw [ed] at TK
                clear ed
                cases q with
                | true =>
                  go_wp2_with fail
                  go_roundw
                  case rel => exact ⟨k + 1, by go_num, by rw [TK.out]; rfl, by omega, by first | rfl | trivial⟩
                  case measure => simp [intOf]; omega
                | false =>
                  go_wp2_with fail
                  go_roundw
                  case rel => exact ⟨k + 1, by go_num, by rw [TK.out]; simp, by omega, by first | rfl | trivial⟩
                  case measure => simp [intOf]; omega
              · obtain rfl : k = n := by omega
                have et : es2.take k = es2 := by rw [NE.out, List.take_length]
                rw [et, thB_there]
                clear et S7
                obtain ⟨q, hq⟩ : ∃ q, q = thereG (ctrsOf es2) (g : Int) := ⟨_, rfl⟩
                have HQ := hide hq
                rw [← hq] at GG GN ⊢
                clear hq
                cases q with
                | false =>
                  obtain ⟨z1, z2⟩ := sumA_not HQ.out.symm
                  rw [z1] at AE
                  rw [z2] at SE'
                  obtain ⟨q0, q1, q2⟩ : av = 0 ∧ al = 0 ∧ au = 0 := by have := AE.out; simp only [Prod.mk.injEq] at this; exact this
                  have q3 := SE'.out
                  subst q0
                  subst q1
                  subst q2
                  subst q3
                  obtain ⟨r0, -⟩ := R7.out.get 0 _ rfl
                  obtain ⟨r1, -⟩ := R7.out.get 1 _ rfl
                  have CN := hide (GN.out rfl)
                  clear AE SE' GG GN z1 z2
                  go_wp2_with fail
                  go_roundw
                  case rel => exact ⟨g + 1, by go_num, by rw [← C1.out, CN.out], by omega, by omega, by rw [← C1.out, CN.out]; omega, BQ.out.trans (Q7.out.mono BQ.out.size)⟩
                  case measure => simp [intOf]; omega
                | true =>
                  obtain ⟨z1, z2⟩ := sumA_there HQ.out.symm
                  obtain ⟨cn1, hk', gat⟩ := GG.out rfl
                  have KO7 := hide (KO.out _ Q7.out)
                  obtain ⟨sv, hsv⟩ : ∃ z, z = sumG (ctrsOf es2) (g : Int) := ⟨_, rfl⟩
                  obtain ⟨lv, hlv⟩ : ∃ z, z = lowG (ctrsOf es2) (g : Int) := ⟨_, rfl⟩
                  obtain ⟨uv, huv⟩ : ∃ z, z = highG (ctrsOf es2) (g : Int) := ⟨_, rfl⟩
                  rw [← hsv, ← hlv, ← huv] at z1 gat KO7
                  rw [z1] at AE
                  rw [z2] at SE'
                  obtain ⟨q0, q1, q2⟩ : av = sv ∧ al = lv ∧ au = uv := by have := AE.out; simp only [Prod.mk.injEq] at this; exact this
                  have q3 := SE'.out
                  subst q0
                  subst q1
                  subst q2
                  subst q3
                  have CN := hide cn1
                  obtain ⟨ab, ao, hab, gcell⟩ := SA.out _ hk'
                  subst hab
                  rw [gat] at gcell
                  simp only at gcell
                  have GC := hide gcell
                  rw [← GL.out] at hk'
                  obtain ⟨cg, hcg⟩ : ∃ c, c = cntG G (g : Int) := ⟨_, rfl⟩
                  rw [← hcg] at CN GC hk' hcg4 ⊢
                  clear AE SE' GG GN z1 z2 hsv hlv huv cn1 gat gcell hcg KO
                  go_upto_region 26 with (go_at_call 20; refine KO7.out.mono ?_; rintro r w8 ⟨rfl, hb8⟩)
                  refine named (P := Code.wp _ _ _ _) ?_
                  intro w9 hw9
                  obtain ⟨p, hp⟩ : ∃ z, z = w8.heap.size := ⟨_, rfl⟩
                  have c0 : Cells w9 p [.int .i64 (wh av), .int .i64 (wl av)] := by
                    rw [hw9, hp]; exact ((Cells.new w8 #[.int .i64 (wh av), .int .i64 (wl av)] 59).below (alloc_below _ _)).below (alloc_below _ _)
                  have c1x : Cells w9 (p + 1) [.int .i64 (wh al), .int .i64 (wl al)] := by
                    rw [hw9, hp]
                    have := (Cells.new (w8.alloc (.cells #[.int .i64 (wh av), .int .i64 (wl av)] 59)) #[.int .i64 (wh al), .int .i64 (wl al)] 59).below (alloc_below _ (.cells #[.int .i64 (wh au), .int .i64 (wl au)] 59))
                    simpa using this
                  have c2x : Cells w9 (p + 2) [.int .i64 (wh au), .int .i64 (wl au)] := by
                    rw [hw9, hp]
                    have := Cells.new ((w8.alloc (.cells #[.int .i64 (wh av), .int .i64 (wl av)] 59)).alloc (.cells #[.int .i64 (wh al), .int .i64 (wl al)] 59)) #[.int .i64 (wh au), .int .i64 (wl au)] 59
                    simpa using this
                  have b89 : Below w8.heap.size w8 w9 := by rw [hw9]; exact ((alloc_below _ _).alloc (by simp) _).alloc (by simp; omega) _
                  have b79 := hb8.trans (b89.mono hb8.size)
                  have c3 := R7.out.below b79
                  have Q9 := hide (Q7.out.trans (b79.mono Q7.out.size))
                  have B9 := hide (BQ.out.trans (Q9.out.mono BQ.out.size))
                  have PK := hide (fun wz (h : Below w9.heap.size w9 wz) => (show wz.cell? ⟨p, 0, none⟩ = some (.int .i64 (wh av)) ∧ wz.cell? ⟨p, 1, none⟩ = some (.int .i64 (wl av)) ∧ wz.cell? ⟨p + 1, 0, none⟩ = some (.int .i64 (wh al)) ∧ wz.cell? ⟨p + 1, 1, none⟩ = some (.int .i64 (wl al)) ∧ wz.cell? ⟨p + 2, 0, none⟩ = some (.int .i64 (wh au)) ∧ wz.cell? ⟨p + 2, 1, none⟩ = some (.int .i64 (wl au)) ∧ wz.cell? ⟨rb, 0, none⟩ = some (.int .i64 al) ∧ wz.cell? ⟨rb, 1, none⟩ = some (.int .i64 au) ∧ wz.cell? ⟨ab, ao + cg * 2, none⟩ = some (.int .i64 (g : Int)) ∧ wz.cell? ⟨ab, ao + cg * 2 + 1, none⟩ = some (.int .i64 av) from ⟨((c0.below h).get 0 _ rfl).1, ((c0.below h).get 1 _ rfl).1, ((c1x.below h).get 0 _ rfl).1, ((c1x.below h).get 1 _ rfl).1, ((c2x.below h).get 0 _ rfl).1, ((c2x.below h).get 1 _ rfl).1, ((c3.below h).get 0 _ rfl).1, ((c3.below h).get 1 _ rfl).1, (GC.out wz (B9.out.trans (h.mono B9.out.size))).1, (GC.out wz (B9.out.trans (h.mono B9.out.size))).2⟩))
                  rw [← hp]
                  clear hw9 hp c0 c1x c2x b89 b79 c3 hb8 KO7 R7 GC
                  have BZ := hide (Below.refl w9.heap.size w9)
                  obtain ⟨s0, s1, l0, l1, u0, u1, r0, r1, t0, t1⟩ := PK.out _ BZ.out
                  have g1 : decide ((gl : Int) ≤ (cg : Int)) = false := by rw [decide_eq_false_iff_not]; omega
                  go_wp2_with (go_at_call 38; refine (KI.out _ _).mono ?_; rintro r wn ⟨rfl, hbn⟩; have BN := hide (BZ.out.trans (hbn.mono BZ.out.size)); clear BZ hbn s0 s1 l0 l1 u0 u1 r0 r1 t0 t1; have BZ := BN; clear BN; obtain ⟨s0, s1, l0, l1, u0, u1, r0, r1, t0, t1⟩ := PK.out _ BZ.out)
                  go_roundw
                  case rel => exact ⟨g + 1, by go_num, by rw [← C1.out, CN.out]; go_num, by omega, by omega, by rw [← C1.out, CN.out]; omega, B9.out.trans (BZ.out.mono B9.out.size)⟩
                  case measure => simp [intOf]; omega
          · obtain rfl : g = 4 := by omega
            have e4 : cntG G ((4 : Nat) : Int) = gl := by rw [GL.out]; exact GR.out.four
            rw [e4]
            have B8 := hide (B3.out.below hbq)
            clear e4 hbq S3 B3
            go_wp2_with fail
            go_roundw
            case rel => exact ⟨i + 1, _, _, _, by go_num, by omega, by omega, B8.out⟩
            case measure => simp [intOf]; omega
      · go_wp2_with fail
        go_ret
        exact ⟨rfl, hB.bel⟩
    · go_wp2_with fail
      go_ret
      exact ⟨rfl, hB.bel⟩
end Go.Proofs.YtaohdmaenplbpaaGreat
