import Derived.Test.YtohkmigahbellaaNew5
import Derived.Deep.CutBlock
namespace Go.Proofs.Ytohkmigahbellaa
open Go.RowKit Go.QK

theorem reach_in {g : Dev} (hd : g.down = false) {x t : Nat} (hl : g.img.length = 512 * (1 + x)) (ht : t < 1 + x) : g.reach (t : Int) = 0 := by
  unfold Dev.reach Dev.n
  rw [if_neg (by rw [hd]; decide), if_neg (by rw [hl]; omega)]
/-- What is left to look at behind the rounds: the device, the rows, the image's copy (label 9). -/
structure Fn (B : Nat) (w0 w : World) (S : Nat → Prop) (d : Nat) (g : Dev) (lab : Nat → Nat) (ca : Option Addr) (cc : Nat) (cs : List CR) (ki ci : Nat) : Prop where
  live : Live B w0 w S d g
  ls : ∀ b, S b → lab b = 0
  row : SRow 45 w B (.slice ca cs.length cc) (cs.map CR.v)
  lc : ∀ b, (Value.slice ca cs.length cc).ownBlock = some b → lab b = 4
  im : OwnB w B (.slice (some ⟨ki, 0, none⟩) g.img.length ci) g.img
  li : lab ki = 9
  lo : ∀ b, b < B → lab b = 8
theorem Fn.keep {B : Nat} {w0 w w' : World} {S : Nat → Prop} {d : Nat} {g : Dev} {lab : Nat → Nat} {ca : Option Addr} {cc : Nat} {cs : List CR} {ki ci : Nat} {V : Nat → Prop} (h : Fn B w0 w S d g lab ca cc cs ki ci) (hk : Keep V w w') (hV : ∀ b, V b → 10 ≤ lab b) : Fn B w0 w' S d g lab ca cc cs ki ci := by
  refine ⟨h.live.other hk (fun b q r => by have := hV b q; have := h.ls b r; omega) (fun b _ q => Nat.le_of_not_lt fun r => by have := h.lo b r; have := hV b q; omega), h.ls, h.row.keep hk (fun b hb q => by have := hV b q; have := h.lc b hb; omega), h.lc, Owns.keep h.im hk (fun b hb q => by
    have e : ki = b := Option.some.inj hb
    have := hV b q
    have := h.li
    rw [e] at this
    omega), h.li, h.lo⟩
theorem Fn.below {B : Nat} {w0 w w' : World} {S : Nat → Prop} {d : Nat} {g : Dev} {lab : Nat → Nat} {ca : Option Addr} {cc : Nat} {cs : List CR} {ki ci : Nat} (h : Fn B w0 w S d g lab ca cc cs ki ci) (hb : Below w.heap.size w w') : Fn B w0 w' S d g lab ca cc cs ki ci := h.keep (Keep.of_below (S := fun _ => False) hb) (fun _ q => q.elim)
/-- The i-th row, marked up to t. -/
def RowM (w : World) (B : Nat) (c : CR) (i t : Nat) : Prop := ∃ L, w.ownsRow B 65 2 c.v c.n L ∧ ∀ j, j < t → L[j * 2]? = some (.int .i64 (mkS i j))
theorem RowM.keep {w w' : World} {B : Nat} {c : CR} {i t : Nat} {V : Nat → Prop} (h : RowM w B c i t) (hk : Keep V w w') (hn : ¬ V c.r) : RowM w' B c i t := by
  obtain ⟨L, h1, h2⟩ := h
  exact ⟨L, row_keep h1 hk (fun b hb => by
    have e : c.r = b := Option.some.inj hb
    exact e ▸ hn), h2⟩
theorem RowM.cells {w : World} {B : Nat} {c : CR} {i t : Nat} (h : RowM w B c i t) (j : Nat) (hj : j < c.n) : (∃ v, w.cell? ⟨c.r, j * 2, none⟩ = some v ∧ (j < t → v = .int .i64 (mkS i j))) ∧ (∃ v, w.cell? ⟨c.r, j * 2 + 1, none⟩ = some v) ∧ w.frozen? ⟨c.r, j * 2, none⟩ = false ∧ w.frozen? ⟨c.r, j * 2 + 1, none⟩ = false := by
  obtain ⟨L, h1, h2⟩ := h
  have hL := h1.1
  have g : ∀ k (hk : k < L.length), w.cell? ⟨c.r, k, none⟩ = some L[k] := fun k hk => by
    have := World.ownsRow.cells h1 (g := c.r) rfl k L[k] (by simp [hk])
    rw [addr_add, Nat.zero_add] at this
    exact this
  refine ⟨⟨_, g (j * 2) (by omega), fun hjt => ?_⟩, ⟨_, g (j * 2 + 1) (by omega)⟩, World.ownsRow.frozenAt h1 _, World.ownsRow.frozenAt h1 _⟩
  have := h2 j hjt
  rw [List.getElem?_eq_getElem (by omega)] at this
  exact Option.some.inj this
/-- One more mark. -/
theorem RowM.mark {w : World} {B : Nat} {c : CR} {i t : Nat} (h : RowM w B c i t) (ht : t < c.n) : RowM ((w.setCell ⟨c.r, t * 2, none⟩ (.int .i64 (mkS i t))).setCell ⟨c.r, t * 2 + 1, none⟩ (.slice none 0 0)) B c i (t + 1) := by
  obtain ⟨L, h1, h2⟩ := h
  have hL := h1.1
  have s1 := (World.ownsRow.stored h1 (t * 2) (.int .i64 (mkS i t))).1
  have s2 := (World.ownsRow.stored s1 (t * 2 + 1) (.slice none 0 0)).1
  refine ⟨_, s2, fun j hj => ?_⟩
  rw [List.getElem?_set_ne (by omega)]
  by_cases e : j = t
  · subst e
    rw [List.getElem?_set_self (by omega)]
  · rw [List.getElem?_set_ne (by omega)]
    exact h2 j (by omega)
theorem wrap_in (z : Int) (h1 : -9223372036854775808 ≤ z) (h2 : z ≤ 9223372036854775807) : IntKind.i64.wrap z = z := by rw [IntKind.wrap_i64]; omega
theorem mk_wraps (q n : Nat) (hq : q ≤ 1000) (hn : n ≤ 1000) : IntKind.i64.wrap ((q : Int) + 1) = (q : Int) + 1 ∧ IntKind.i64.wrap (-1000 * ((q : Int) + 1)) = -1000 * ((q : Int) + 1) ∧ IntKind.i64.wrap (-1000 * ((q : Int) + 1) - (n : Int)) = mkS q n := by
  refine ⟨wrap_in _ (by omega) (by omega), wrap_in _ (by omega) (by omega), ?_⟩
  unfold mkS
  exact wrap_in _ (by omega) (by omega)
theorem sync_up {g : Dev} (ok : g.Ok) (hd : g.down = false) (hl : g.left = 0) : g.syncE = 0 ∧ g.sync.down = false ∧ g.sync.left = 0 ∧ g.sync.img.length = g.img.length ∧ g.sync.pend.length ≤ g.pend.length ∧ g.sync.calls = g.calls + 1 := by
  have e : g.sync = g.strike.settle := by unfold Dev.sync; rw [if_neg (by rw [hd]; decide), if_neg (by omega)]
  refine ⟨by unfold Dev.syncE; rw [if_neg (by rw [hd, hl]; simp)], ?_, ?_, ?_, ?_, ?_⟩
  · rw [e]; exact hd
  · rw [e]; show g.left - 1 = 0; omega
  · rw [e]; exact (syncAll_ok g.pend g.img ok.pend rfl ok.bytes).1
  · rw [e]; exact Nat.zero_le _
  · rw [e]; rfl

set_option maxHeartbeats 8000000 in
set_option maxRecDepth 100000 in
theorem newmem_walk (size : Int) (a1 : Option Addr) (c1 : Nat) (ps1 : List (Int × Nat)) (a2 : Option Addr) (c2 : Nat) (ps2 : List (Int × Nat)) (w : World) (hp1 : PutsAt w a1 ps1) (hn1 : ps1.length ≤ maxLen) (hp2 : PutsAt w a2 ps2) (hn2 : ps2.length ≤ maxLen) :
    Calls Try.prog 7 #[.int .i64 size, .slice a1 ps1.length c1, .slice a2 ps2.length c2] w fun e w' => e = .returned (.bool true) ∧ Below w.heap.size w w' := by
  have HP1 := hide hp1
  have HP2 := hide hp2
  have HN1 := hide hn1
  have HN2 := hide hn2
  clear hp1 hp2 hn1 hn2
  go_enter Try.func7, Try.ntmps7
  go_wp2_with fail
  refine (brought_any size 5 _ (by decide) (by decide)).mono ?_
  rintro e w' ⟨rfl, hw⟩
  obtain rfl : w = w' := hw.symm
  have hx5 := bring_lt size 5 (by decide)
  generalize bring size 5 = x at *
  go_wp2_with fail
  have NW := new_ok (1 + x) w (by omega) (by omega)
  rw [show ((1 + x : Nat) : Int) = 1 + (x : Int) by omega] at NW
  refine NW.mono ?_
  rintro e w1 ⟨d, S1, rfl, D1, f1, b1⟩
  have L1 := hide (show Live w.heap.size w w1 S1 d (Dev.new (1 + x)) from ⟨D1, f1, b1, Nat.le_refl _⟩)
  clear D1 f1 b1 NW
  go_wp2_with fail
  refine (num_any _ _).mono ?_
  rintro e w' ⟨rfl, hw⟩
  obtain rfl : w1 = w' := hw.symm
  go_wp2_with fail
  refine (awake_any _).mono ?_
  rintro e w2 ⟨rfl, b2⟩
  have L2 := hide (L1.out.below b2)
  clear b2 L1
  have bA := alloc_below w2 (.cells #[.slice none 0 0, .slice none 0 0] 61)
  have SE := hide (sectors_any (L2.out.dev.below bA))
  have hgn : (Dev.new (1 + x)).n = 1 + x := by unfold Dev.n; simp [Dev.new]
  rw [hgn] at SE
  have ST0 : Hid (∃ lab, St w.heap.size w (w2.alloc (.cells #[.slice none 0 0, .slice none 0 0] 61)) S1 d (Dev.new (1 + x)) lab w2.heap.size (.slice none 0 0) (.slice none 0 0) [] [] (.slice none 0 0) [] x) := by
    have hz : w.heap.size ≤ w2.heap.size := L2.out.bel.size
    let lab : Nat → Nat := fun b => if b < w.heap.size then 8 else if b = w2.heap.size then 1 else 0
    refine ⟨lab, L2.out.below bA, ⟨rfl, rfl, by simp [Dev.new]⟩, fun b q => ?_, ⟨Cells.new w2 _ 61, ?_, SRow.nil _ _ _, nofun, SRow.nil _ _ _, nofun, fun i hi => by simp at hi, fun i hi => by simp at hi, rfl⟩, ⟨SRow.nil _ _ _, nofun, fun i hi => by simp at hi⟩, fun b hb => if_pos hb⟩
    · have := L2.out.far b q
      have := L2.out.dev.lt b q
      show (if _ then _ else if _ then _ else _) = _
      rw [if_neg (by omega), if_neg (by omega)]
    · show (if _ then _ else if _ then _ else _) = _
      rw [if_neg (by omega), if_pos rfl]
  clear L2 bA hgn
  go_wp2_with fail
  refine SE.out.mono ?_
  rintro e w' ⟨rfl, hw⟩
  obtain ⟨w3, hw3⟩ : ∃ w3, w3 = w2.alloc (.cells #[.slice none 0 0, .slice none 0 0] 61) := ⟨_, rfl⟩
  rw [← hw3] at hw ST0
  obtain rfl : w3 = w' := hw.symm
  clear SE hw3
  generalize w2.heap.size = hb at *
  go_wp2_with fail
  go_loopw [10, 12] (fun cv r wr => ∃ q : Nat, q ≤ 3 ∧ r = .int .i64 (q : Int) ∧ ∃ S g lab gv wv gs ws cs, St w.heap.size w wr S d g lab hb gv wv gs ws cv cs x ∧ g.pend.length ≤ 20 * q ∧ g.calls ≤ 21 * q ∧ gs.length ≤ 200 * q ∧ cs.length ≤ 2 * q) (fun _ r _ => 3 - (intOf r).toNat)
  case atStart =>
    obtain ⟨lab, st⟩ := ST0.out
    exact ⟨0, by omega, rfl, S1, _, lab, _, _, [], [], [], st, Nat.le_refl _, Nat.le_refl _, Nat.le_refl _, Nat.le_refl _⟩
  case round =>
    obtain ⟨q, hq, rfl, S, g, lab, gv, wv, gs, ws, cs, hst, hg1, hg2, hgs, hcs⟩ := hrel
    obtain ⟨ca, cc, hcv, _⟩ := hst.cach.row.form
    rw [List.length_map] at hcv
    subst hcv
    have ST := hide hst
    clear hst ST0
    by_cases hlt : q < 3
    · have hlk : (q : Int) < 3 := by omega
      go_upto_if 59 with fail
      go_cut [13] (fun l w' => (∃ a c ps, l = .slice a ps.length c ∧ PutsAt w a ps ∧ ps.length ≤ maxLen) ∧ w' = wr)
      case first =>
        by_cases h1 : q = 1
        · subst h1
          go_wp2_with fail
          go_meet
          exact ⟨⟨a2, c2, ps2, rfl, HP2.out, HN2.out⟩, rfl⟩
        · have e1 : ((q : Int) == 1) = false := by simp; omega
          go_wp2_with fail
          go_meet
          exact ⟨⟨a1, c1, ps1, rfl, HP1.out, HN1.out⟩, rfl⟩
      case rest =>
        obtain ⟨⟨a, c, ps, hl, hpa, hpn⟩, hwc⟩ := hcut
        subst hl
        subst hwc
        have WR := wrote_any ST.out.live.dev a c ps 20 (hpa.below ST.out.live.bel) (fun hne ad had qq => by
          obtain ⟨b, off, h1, h2, _⟩ := hpa 0 (by cases ps with | nil => exact (hne rfl).elim | cons _ _ => simp)
          rw [h1] at had
          cases had
          have := ST.out.live.far b qq
          omega) (by omega) ST.out.up.1 ST.out.up.2.1 (by omega) (by omega) hpn
        have HWR := hide WR
        clear WR hpa hpn
        go_wp2_with fail
        refine HWR.out.mono ?_
        rintro e w4 ⟨S4, rfl, D4, st4⟩
        obtain ⟨u1, u2, u3, u4, u5⟩ := wroteD_up g (ps.take 20)
        have ht20 : (ps.take 20).length ≤ 20 := by simp; omega
        obtain ⟨lab4, hst4⟩ := ST.out.dev D4 st4 ⟨u1.trans ST.out.up.1, u2.trans ST.out.up.2.1, by rw [u3]; exact ST.out.up.2.2⟩
        obtain ⟨g4, hg4⟩ : ∃ g4, g4 = wroteD g (ps.take 20) := ⟨_, rfl⟩
        rw [← hg4] at hst4 u4 u5
        have ST4 := hide hst4
        have hp4 : g4.pend.length ≤ 20 * q + 20 := by omega
        have hc4 : g4.calls ≤ 21 * q + 20 := by omega
        clear hst4 D4 st4 u1 u2 u3 u4 u5 ht20 hg4 ST HWR
        go_wp2_with fail
        go_loopw [10, 14] (fun cv t wr => ∃ u : Nat, u ≤ 2 ∧ t = .int .i64 (u : Int) ∧ ∃ lab gv wv gs ws cs, St w.heap.size w wr S4 d g4 lab hb gv wv gs ws cv cs x ∧ gs.length ≤ 200 * q + 100 * u ∧ cs.length ≤ 2 * q + u) (fun _ t _ => 2 - (intOf t).toNat)
        case atStart => exact ⟨0, by omega, rfl, lab4, gv, wv, gs, ws, cs, ST4.out, by omega, by omega⟩
        case round =>
          obtain ⟨u, hu, rfl, lab5, gv5, wv5, gs5, ws5, cs5, hst5, hgs5, hcs5⟩ := hrel
          obtain ⟨ca5, cc5, hcv, _⟩ := hst5.cach.row.form
          rw [List.length_map] at hcv
          subst hcv
          have ST5 := hide hst5
          have okg := hide hst5.live.dev.ok
          have upg := hide hst5.up
          clear hst5 ST4
          by_cases hltu : u < 2
          · have hlku : (u : Int) < 2 := by omega
            go_wp2_with fail
            refine (image_any ST5.out.live.dev).mono ?_
            rintro e w6 ⟨v6, rfl, o6, b6⟩
            obtain ⟨k6, c6, rfl, lab6, st6, l6, ob6⟩ := ST5.out.made o6 b6 (by rw [upg.out.2.2]; omega)
            have TK := hide (st6.take ⟨0, k6, c6, g4.img⟩ ob6 l6 okg.out.bytes (by show 0 < g4.img.length; rw [upg.out.2.2]; omega) (by show g4.img.length ≤ _; rw [upg.out.2.2]; omega) (by omega))
            clear o6 b6 st6 ob6 l6 ST5
            go_wp2_with fail
            refine TK.out.mono ?_
            rintro e w7 ⟨v7, lab7, gv7, wv7, p7, rfl, st7, _, _⟩
            have ST7 := hide st7
            clear st7 TK
            go_wp2_with fail
            refine (cache_any ST7.out.live.dev (by omega)).mono ?_
            rintro e w8 ⟨qs, rfl, hqm, hr8, hf8, hb8⟩
            have hql : qs.length ≤ 80 := by have := congrArg List.length hqm; simp at this; omega
            obtain ⟨ca9, cc9, w9, hr9, lab9, st9, items, lr9, lt9⟩ := ST7.out.cached hqm hr8 hf8 hb8 (by omega) (by omega)
            have HR9 := hide hr9
            have ST9 := hide st9
            have IT9 := hide items
            have LR9 := hide lr9
            have LT9 := hide lt9
            have hG : (gs5 ++ [(⟨0, k6, c6, g4.img⟩ : PE)]).length = gs5.length + 1 := by simp
            rw [hG] at IT9
            obtain ⟨R, hR⟩ : ∃ R, R = w7.heap.size := ⟨_, rfl⟩
            rw [← hR] at ST9 IT9 LR9 LT9 HR9 ⊢
            have BQ := hide (fun i (hi : i < qs.length) => (items i hi).2.2.2)
            clear hr9 st9 items lr9 lt9 hr8 hf8 hb8 hqm ST7 hR
            go_wp2_with (at_builtin; refine wpList_run (t := 62) rfl (.tmp 75) (.tmp 77) rfl rfl rfl HR9.out ?_)
            go_loopw [16] (fun kk wr => ∃ t : Nat, t ≤ qs.length ∧ kk = .int .i64 (t : Int) ∧ ∃ lab gv wv gs ws, St w.heap.size w wr S4 d g4 lab hb gv wv gs ws (.slice ca9 (cs5.length + 1) cc9) (cs5 ++ [⟨R, qs.length⟩]) x ∧ gs.length = gs5.length + 1 + t ∧ (∀ i (_ : i < qs.length), t ≤ i → OwnB wr w.heap.size qs[i].v qs[i].b ∧ lab qs[i].k = 10 + 3 * (gs5.length + 1 + i)) ∧ (∀ i (_ : i < qs.length), wr.cell? ⟨R, i * 2 + 1, none⟩ = some qs[i].v) ∧ lab R = 12 + 3 * cs5.length ∧ R < wr.heap.size) (fun kk _ => qs.length - (intOf kk).toNat)
            case atStart => exact ⟨0, Nat.zero_le _, rfl, lab9, _, _, _, _, ST9.out, by simp, fun i hi _ => ⟨(IT9.out i hi).1, (IT9.out i hi).2.1⟩, fun i hi => (IT9.out i hi).2.2.1, LR9.out, LT9.out⟩
            case round =>
              obtain ⟨t, ht, rfl, lab10, gv10, wv10, gs10, ws10, st10, hgl, hit, hcl, hlr, hrl⟩ := hrel
              have ST10 := hide st10
              clear st10 ST9 IT9 LR9 LT9 HR9
              by_cases hltt : t < qs.length
              · obtain ⟨bq1, bq2⟩ := BQ.out t hltt
                obtain ⟨it1, it2⟩ := hit t hltt (Nat.le_refl _)
                have y0 := hcl t hltt
                unfold PE.v at y0
                rw [bq2] at y0
                have hlkt : (t : Int) < (qs.length : Int) := by omega
                have TK := ST10.out.take qs[t] it1 (by rw [hgl]; exact it2) bq1 (by omega) (by omega) (by omega)
                rw [bq2] at TK
                have HTK := hide TK
                have HIT := hide hit
                have HCL := hide hcl
                have HGL := hide hgl
                clear TK hit hcl it1 it2 bq1 bq2 hgl
                go_wp2_with fail
                refine HTK.out.mono ?_
                rintro e w11 ⟨v11, lab11, gv11, wv11, p11, rfl, st11, hl11, hk11⟩
                have ST11 := hide st11
                have REL : Hid ((∀ i (_ : i < qs.length), t + 1 ≤ i → OwnB w11 w.heap.size qs[i].v qs[i].b ∧ lab11 qs[i].k = 10 + 3 * (gs5.length + 1 + i)) ∧ (∀ i (_ : i < qs.length), w11.cell? ⟨R, i * 2 + 1, none⟩ = some qs[i].v) ∧ lab11 R = 12 + 3 * cs5.length ∧ R < w11.heap.size) := by
                  refine ⟨fun i hi hti => ?_, fun i hi => ?_, (hl11 R hrl).trans hlr, Nat.lt_of_lt_of_le hrl hk11.size⟩
                  · obtain ⟨o1, o2⟩ := HIT.out i hi (by omega)
                    refine ⟨Owns.keep o1 hk11 (fun b hb r => ?_), (hl11 _ (own_lt o1)).trans o2⟩
                    have e : qs[i].k = b := Option.some.inj hb
                    rw [e] at o2
                    omega
                  · exact (hk11.cell (p := ⟨R, i * 2 + 1, none⟩) hrl (fun r => by have r : lab10 R = 1 ∨ lab10 R = 2 ∨ lab10 R = 3 := r; omega)).trans (HCL.out i hi)
                have hgl2 : (gs10 ++ [qs[t]]).length = gs5.length + 1 + (t + 1) := by rw [List.length_append, HGL.out]; rfl
                have HG2 := hide hgl2
                clear st11 hl11 hk11 HIT HCL HTK ST10 hgl2
                go_wp2_with fail
                go_roundw
                case rel =>
                  obtain ⟨s1, s2, s3, s4⟩ := REL.out
                  exact ⟨t + 1, by omega, by go_num, lab11, gv11, wv11, _, _, ST11.out, HG2.out, s1, s2, s3, s4⟩
                case measure => simp [intOf]; omega
              · obtain rfl : t = qs.length := by omega
                have HGL := hide hgl
                clear hit hcl hgl hlr hrl BQ
                go_wp2_with fail
                go_loopw [17] (fun ii wr => ∃ t : Nat, t ≤ 1 + x ∧ ii = .int .i64 (t : Int) ∧ ∃ lab gv wv gs ws, St w.heap.size w wr S4 d g4 lab hb gv wv gs ws (.slice ca9 (cs5.length + 1) cc9) (cs5 ++ [⟨R, qs.length⟩]) x ∧ gs.length = gs5.length + 1 + qs.length + t) (fun ii _ => 1 + x - (intOf ii).toNat)
                case atStart => exact ⟨0, Nat.zero_le _, rfl, lab10, gv10, wv10, gs10, ws10, ST10.out, HGL.out⟩
                case round =>
                  obtain ⟨t, ht, rfl, lab12, gv12, wv12, gs12, ws12, st12, hgl12⟩ := hrel
                  have ST12 := hide st12
                  have HG12 := hide hgl12
                  clear st12 hgl12 ST10 HGL
                  by_cases hltn : t < 1 + x
                  · have hlkn : (t : Int) < 1 + (x : Int) := by omega
                    have hlkn2 : (t : Int) < ((1 + x : Nat) : Int) := by omega
                    have RE := reach_in upg.out.1 upg.out.2.2 hltn
                    have RD := read_any ST12.out.live.dev (t : Int) (by omega)
                    rw [RE] at RD
                    have hrb : g4.readB (t : Int) = g4.content t := by unfold Dev.readB; rw [if_pos RE]; simp
                    rw [hrb] at RD
                    have hcl5 : (g4.content t).length = 512 := content_len okg.out t (by rw [upg.out.2.2]; omega)
                    have HRD := hide RD
                    have HC5 := hide hcl5
                    clear RD RE hrb hcl5
                    go_wp2_with fail
                    refine HRD.out.mono ?_
                    rintro e w13 ⟨v13, rfl, o13, b13⟩
                    obtain ⟨k13, c13, rfl, lab13, st13, l13, ob13⟩ := ST12.out.made o13 b13 (by rw [HC5.out]; omega)
                    have TK := hide (st13.take ⟨0, k13, c13, g4.content t⟩ ob13 l13 (content_allB okg.out t) (by show 0 < (g4.content t).length; rw [HC5.out]; omega) (by show (g4.content t).length ≤ _; rw [HC5.out]; omega) (by have := HG12.out; omega))
                    clear o13 b13 st13 ob13 l13 HRD ST12
                    go_wp2_with fail
                    refine (num_any _ _).mono ?_
                    rintro e w' ⟨rfl, hw⟩
                    obtain rfl : w13 = w' := hw.symm
                    go_wp2_with fail
                    refine TK.out.mono ?_
                    rintro e w14 ⟨v14, lab14, gv14, wv14, p14, rfl, st14, _, _⟩
                    have ST14 := hide st14
                    clear st14 TK
                    go_wp2_with fail
                    go_roundw
                    case rel => exact ⟨t + 1, by omega, by go_num, lab14, gv14, wv14, _, _, ST14.out, by rw [List.length_append, HG12.out]; rfl⟩
                    case measure => simp [intOf]; omega
                  · obtain rfl : t = 1 + x := by omega
                    have hge : ¬ ((1 + x : Nat) : Int) < 1 + (x : Int) := by omega
                    go_wp2_with fail
                    go_roundw
                    case rel => exact ⟨u + 1, by omega, by go_num, lab12, gv12, wv12, gs12, ws12, _, ST12.out, by have := HG12.out; omega, by simp; omega⟩
                    case measure => simp [intOf]; omega
          · obtain rfl : u = 2 := by omega
            by_cases h1 : q = 1
            · subst h1
              obtain ⟨y1, y2, y3, y4, y5, y6⟩ := sync_up okg.out upg.out.1 upg.out.2.1
              have SY := sync_any ST5.out.live.dev (by omega) (by omega)
              rw [y1] at SY
              have HSY := hide SY
              clear SY
              go_wp2_with fail
              refine HSY.out.mono ?_
              rintro e w6 ⟨rfl, D6, k6⟩
              obtain ⟨lab6, st6⟩ := ST5.out.dev D6 (Step.of_keep k6) ⟨y2, y3, y4.trans upg.out.2.2⟩
              have ST6 := hide st6
              clear D6 k6 st6 HSY ST5
              go_wp2_with fail
              refine (num_any _ _).mono ?_
              rintro e w' ⟨rfl, hw⟩
              obtain rfl : w6 = w' := hw.symm
              go_wp2_with fail
              go_roundw
              case rel => exact ⟨2, by omega, by go_num, S4, _, lab6, gv5, wv5, gs5, ws5, cs5, ST6.out, by omega, by omega, by omega, by omega⟩
              case measure => simp [intOf]
            · have e1 : ((q : Int) == 1) = false := by simp; omega
              clear h1
              go_wp2_with fail
              go_roundw
              case rel => exact ⟨q + 1, by omega, by go_num, S4, g4, lab5, gv5, wv5, gs5, ws5, cs5, ST5.out, by omega, by omega, by omega, by omega⟩
              case measure => simp [intOf]; omega
    · obtain rfl : q = 3 := by omega
      have okg := hide ST.out.live.dev.ok
      have upg := hide ST.out.up
      go_wp2_with fail
      refine (image_any ST.out.live.dev).mono ?_
      rintro e w4 ⟨v4, rfl, o4, b4⟩
      obtain ⟨k4, c4, hv4, hc4, hB4, hk4⟩ := o4.form (by rw [ints_length, upg.out.2.2]; omega)
      rw [ints_length] at hv4
      subst hv4
      obtain ⟨v5, w5, hr5, o5, b5⟩ := run_ownB 37 w4 ⟨k4, 0, none⟩ g.img.length c4 g.img rfl (Owns.seen_at o4) (by rw [upg.out.2.2]; omega)
      obtain ⟨ki, ci, hv5, hc5, hB5, hk5⟩ := o5.form (by rw [ints_length, upg.out.2.2]; omega)
      rw [ints_length] at hv5 hc5
      subst hv5
      have HR5 := hide hr5
      have z4 := b4.size
      have z5 := b5.size
      have ST5 := hide (ST.out.fresh (lab' := fun b => if b < wr.heap.size then lab b else 9) (bnext b4 b5 (Nat.le_refl _)) (fun b hb => if_pos hb))
      have LI := hide (show (fun b => if b < wr.heap.size then lab b else 9) ki = 9 from if_neg (by omega))
      have IM5 := hide (Owns.base o5 (show w.heap.size ≤ w4.heap.size by have := ST.out.size; omega))
      obtain ⟨lab5, hlab5⟩ : ∃ lab5 : Nat → Nat, lab5 = fun b => if b < wr.heap.size then lab b else 9 := ⟨_, rfl⟩
      rw [← hlab5] at ST5 LI
      clear o4 b4 o5 b5 hr5 hlab5 hB4 hB5
      go_wp2_with (at_builtin; refine wpList_run (t := 37) rfl (.const (.slice none 0 0)) (.tmp 118) rfl rfl rfl HR5.out ?_)
      refine (cache_any ST5.out.live.dev (by omega)).mono ?_
      rintro e w6 ⟨qs, rfl, hqm, _, _, b6⟩
      have hql : qs.length = g.pend.length := by have := congrArg List.length hqm; simpa using this
      have HQL := hide hql
      have ST6 := hide (ST5.out.below b6)
      have IM6 := hide (Owns.below IM5.out b6)
      clear hqm b6 hql ST5 IM5 ST HR5
      have AP := hide (apart_any ST6.out.held (by omega) ST6.out.size)
      go_wp2_with fail
      refine AP.out.mono ?_
      rintro e w7 ⟨rfl, k7⟩
      have FN7 : Hid (Fn w.heap.size w w7 S d g lab5 ca cc cs ki ci) := by
        have F6 : Fn w.heap.size w w6 S d g lab5 ca cc cs ki ci := ⟨ST6.out.live, ST6.out.ls, ST6.out.cach.row, ST6.out.cach.lc, IM6.out, LI.out, ST6.out.lo⟩
        exact F6.keep k7 (fun b ⟨i, q⟩ => by omega)
      have CI7 : Hid (∀ i (_ : i < cs.length), RowM w7 w.heap.size cs[i] i 0 ∧ lab5 cs[i].r = 12 + 3 * i ∧ cs[i].n ≤ 1000) := by
        intro i hi
        obtain ⟨⟨L, hL⟩, h2, h3⟩ := ST6.out.cach.ci i hi
        exact ⟨RowM.keep ⟨L, hL, fun j hj => by omega⟩ k7 (fun ⟨j, q⟩ => by omega), h2, h3⟩
      clear k7 ST6 IM6 AP LI
      go_wp2_with fail
      go_loopw [23] (fun i wr => ∃ q : Nat, q ≤ cs.length ∧ i = .int .i64 (q : Int) ∧ Fn w.heap.size w wr S d g lab5 ca cc cs ki ci ∧ ∀ i (_ : i < cs.length), RowM wr w.heap.size cs[i] i (if i < q then cs[i].n else 0)) (fun i _ => cs.length - (intOf i).toNat)
      case atStart => exact ⟨0, Nat.zero_le _, rfl, FN7.out, fun i hi => by rw [if_neg (by omega)]; exact (CI7.out i hi).1⟩
      case round =>
        obtain ⟨q, hq, rfl, hfn, hrw⟩ := hrel
        by_cases hltq : q < cs.length
        · obtain ⟨_, hlab, hnn⟩ := CI7.out q hltq
          have HFN := hide hfn
          have HRW := hide hrw
          have hlkq : (q : Int) < (cs.length : Int) := by omega
          clear hfn hrw FN7
          go_wp2_with fail
          go_loopw [24] (fun i wr => ∃ t : Nat, t ≤ cs[q].n ∧ i = .int .i64 (t : Int) ∧ Fn w.heap.size w wr S d g lab5 ca cc cs ki ci ∧ RowM wr w.heap.size cs[q] q t ∧ ∀ i (_ : i < cs.length), i ≠ q → RowM wr w.heap.size cs[i] i (if i < q then cs[i].n else 0)) (fun i _ => cs[q].n - (intOf i).toNat)
          case atStart =>
            refine ⟨0, Nat.zero_le _, rfl, HFN.out, ?_, fun i hi _ => HRW.out i hi⟩
            have := HRW.out q hltq
            rw [if_neg (by omega)] at this
            exact this
          case round =>
            obtain ⟨t, ht, rfl, hfn, hrq, hoth⟩ := hrel
            obtain ⟨cb0, cc0, hcv0, _, _, _, hcell⟩ := hfn.row.form
            obtain ⟨cb, hcb, hcbl, hcc⟩ := hcell q (by simpa using hltq)
            rw [List.length_map] at hcv0
            cases hcv0
            have y0 : wr.cell? ⟨cb, q, none⟩ = some (.slice (some ⟨cs[q].r, 0, none⟩) cs[q].n cs[q].n) := by rw [hcc]; simp [CR.v]
            subst hcb
            clear hcell hcc
            by_cases hltt : t < cs[q].n
            · obtain ⟨⟨z0, hz0, _⟩, ⟨z1, hz1⟩, hf0, hf1⟩ := hrq.cells t hltt
              have MK := hide (hrq.mark hltt)
              have kk : Keep (fun b => b = cs[q].r) wr ((wr.setCell ⟨cs[q].r, t * 2, none⟩ (.int .i64 (mkS q t))).setCell ⟨cs[q].r, t * 2 + 1, none⟩ (.slice none 0 0)) := ((Keep.refl (fun b => b = cs[q].r) wr).setCell (fun _ => rfl) _).setCell (fun _ => rfl) _
              have FN2 := hide (hfn.keep kk (fun b e => by have e : b = cs[q].r := e; rw [e]; omega))
              have OT2 := hide (fun i (hi : i < cs.length) (hne : i ≠ q) => (hoth i hi hne).keep kk (fun e => by
                have := (CI7.out i hi).2.1
                have e : cs[i].r = cs[q].r := e
                rw [e] at this
                omega))
              have em : -1000 * ((q : Int) + 1) - (t : Int) = mkS q t := rfl
              have hlkt : (t : Int) < (cs[q].n : Int) := by omega
              clear kk hfn hrq hoth
              go_wp2_with fail
              go_roundw
              case rel => exact ⟨t + 1, by omega, by go_num, FN2.out, MK.out, OT2.out⟩
              case measure => simp [intOf]; omega
            · obtain rfl : t = cs[q].n := by omega
              have FN2 := hide hfn
              have RW2 : Hid (∀ i (_ : i < cs.length), RowM wr w.heap.size cs[i] i (if i < q + 1 then cs[i].n else 0)) := by
                intro i hi
                by_cases hne : i = q
                · subst hne
                  rw [if_pos (by omega)]
                  exact hrq
                · have := hoth i hi hne
                  by_cases hl : i < q
                  · rw [if_pos hl] at this
                    rw [if_pos (by omega)]
                    exact this
                  · rw [if_neg hl] at this
                    rw [if_neg (by omega)]
                    exact this
              clear hfn hrq hoth
              go_wp2_with fail
              go_roundw
              case rel => exact ⟨q + 1, by omega, by go_num, FN2.out, RW2.out⟩
              case measure => simp [intOf]; omega
        · obtain rfl : q = cs.length := by omega
          have FN8 := hide hfn
          have RW8 : Hid (∀ i (_ : i < cs.length), RowM wr w.heap.size cs[i] i cs[i].n) := by
            intro i hi
            have := hrw i hi
            rw [if_pos hi] at this
            exact this
          clear hfn hrw FN7
          go_wp2_with fail
          obtain ⟨w8, hw8⟩ : ∃ w8, w8 = wr := ⟨_, rfl⟩
          rw [← hw8]
          rw [← hw8] at FN8 RW8
          clear hw8
          obtain ⟨_, _, hcv0, _, _, _, hcell⟩ := FN8.out.row.form
          rw [List.length_map] at hcv0
          cases hcv0
          have HCELL := hide hcell
          clear hcell
          go_loopw [22, 25] (fun mv i wr => ∃ q : Nat, q ≤ cs.length ∧ i = .int .i64 (q : Int) ∧ Below w8.heap.size w8 wr ∧ ∃ ms : List PE, ms.length = q ∧ SRow 45 wr w8.heap.size mv (ms.map PE.v) ∧ ∀ i (_ : i < cs.length) (h2 : i < ms.length), ms[i].b.length = cs[i].n + 1 ∧ (∀ j, j < cs[i].n + 1 → wr.cell? ⟨ms[i].k, j * 2, none⟩ = some (.int .i64 (mkS i j))) ∧ ms[i].k < wr.heap.size ∧ mv.ownBlock ≠ some ms[i].k) (fun _ i _ => cs.length - (intOf i).toNat)
          case atStart => exact ⟨0, Nat.zero_le _, rfl, Below.refl _ _, [], rfl, SRow.nil _ _ _, fun i _ h2 => by simp at h2⟩
          case round =>
            obtain ⟨q, hq, rfl, hbel, ms, hml, hrow, hms⟩ := hrel
            obtain ⟨ma, mc, hmv, hmc, _, _, hmcell⟩ := hrow.form
            rw [List.length_map] at hmv hmc
            subst hmv
            have z0 : w8.heap.size ≤ wr.heap.size := hbel.size
            have zB : w.heap.size ≤ w8.heap.size := FN8.out.live.bel.size
            by_cases hltq : q < cs.length
            · obtain ⟨cb, hcb, hcbl, hcc⟩ := HCELL.out q (by simpa using hltq)
              have y8 : w8.cell? ⟨cb, q, none⟩ = some (.slice (some ⟨cs[q].r, 0, none⟩) cs[q].n cs[q].n) := by rw [hcc]; simp [CR.v]
              have y0 := (hbel.cell (p := ⟨cb, q, none⟩) hcbl).trans y8
              subst hcb
              obtain ⟨_, hlab, hnn⟩ := CI7.out q hltq
              obtain ⟨L, hL1, hL2⟩ := (RW8.out q hltq).keep (Keep.of_below (S := fun _ => False) hbel) id
              have bA := alloc_below wr.drew (.cells #[.int .i64 (mkS q cs[q].n), .slice none 0 0] 65)
              have zA0 : (wr.drew.alloc (.cells #[.int .i64 (mkS q cs[q].n), .slice none 0 0] 65)).cell? ⟨wr.heap.size, 0, none⟩ = some (.int .i64 (mkS q cs[q].n)) := by have := World.cell?_alloc_new wr.drew #[.int .i64 (mkS q cs[q].n), .slice none 0 0] 65 0; exact this
              have zA1 : (wr.drew.alloc (.cells #[.int .i64 (mkS q cs[q].n), .slice none 0 0] 65)).cell? ⟨wr.heap.size, 1, none⟩ = some (.slice none 0 0) := by have := World.cell?_alloc_new wr.drew #[.int .i64 (mkS q cs[q].n), .slice none 0 0] 65 1; exact this
              obtain ⟨v2, w2, hr2, r2, b2, nb2⟩ := run_fullP 45 (wr.drew.alloc (.cells #[.int .i64 (mkS q cs[q].n), .slice none 0 0] 65)) w.heap.size cs[q].r cs[q].n L (row_keep (w := wr.drew) hL1 (Keep.of_below (S := fun _ => False) bA) (fun _ _ f => f)) ⟨wr.heap.size, 0, none⟩ (mkS q cs[q].n) zA0 (by simpa [Addr.add] using zA1) (by omega) (by rw [World.size_alloc]; show _ ≤ wr.heap.size + 1; omega)
              obtain ⟨km, cm, hv2, hkm⟩ : ∃ km cm, v2 = .slice (some ⟨km, 0, none⟩) (cs[q].n + 1) cm ∧ km < w2.heap.size := by
                rcases r2.2 with ⟨_, hz⟩ | ⟨g2, cap, cur, hv, _⟩
                · omega
                · exact ⟨g2, cap, hv, (World.ownsRow.lt r2 g2 (by rw [hv]; rfl)).2⟩
              subst hv2
              have hkm1 : wr.heap.size < km := by
                have := nb2 km rfl
                rw [World.size_alloc] at this
                have : wr.heap.size + 1 ≤ km := this
                omega
              have bw2 : Below wr.heap.size wr w2 := below_undrew (bnext bA b2 (Nat.le_refl _))
              have hrow2 := hrow.below bw2
              have bC := alloc_below w2 (.cells #[.slice (some ⟨km, 0, none⟩) (cs[q].n + 1) cm] 45)
              have zC : (w2.alloc (.cells #[.slice (some ⟨km, 0, none⟩) (cs[q].n + 1) cm] 45)).cell? ⟨w2.heap.size, 0, none⟩ = some (.slice (some ⟨km, 0, none⟩) (cs[q].n + 1) cm) := by rw [World.cell?_alloc_new]; rfl
              have z2 := bw2.size
              obtain ⟨mv', w3, hr3, r3, g3, m3⟩ := run_pushS und62 info45 62 (w2.alloc (.cells #[.slice (some ⟨km, 0, none⟩) (cs[q].n + 1) cm] 45)) w8.heap.size (.slice ma ms.length mc) (ms.map PE.v) ⟨w2.heap.size, 0, none⟩ _ (hrow2.below bC) zC rfl (by simp; omega) (by rw [World.size_alloc]; omega)
              obtain ⟨ma', mc', hmv', _⟩ := r3.form
              rw [List.length_append, List.length_map, List.length_singleton] at hmv'
              subst hmv'
              have k23 : Keep (fun b => (Value.slice ma ms.length mc).ownBlock = some b) w2 w3 := ((Keep.refl (fun b => (Value.slice ma ms.length mc).ownBlock = some b) w2).alloc _).grown g3 (fun _ q _ => q)
              have z3 := g3.size
              rw [World.size_alloc] at z3
              have mvf : ∀ b, (Value.slice ma ms.length mc).ownBlock = some b → w8.heap.size ≤ b ∧ b < wr.heap.size := fun b hb => hrow.lt b hb
              have mv3 : ∀ b, (Value.slice ma' (ms.length + 1) mc').ownBlock = some b → (Value.slice ma ms.length mc).ownBlock = some b ∨ w2.heap.size < b := fun b q => by
                rcases m3 with e | e
                · exact .inl (e ▸ q)
                · rw [e, World.size_alloc] at q
                  cases q
                  exact .inr (by omega)
              have BW3 : Hid (Below w8.heap.size w8 w3) := (bnext hbel bw2 (Nat.le_refl _)).trans (k23.below (by omega) (fun j hj e => by have := (mvf j e).1; omega))
              have REL : Hid (∃ ms' : List PE, ms'.length = q + 1 ∧ SRow 45 w3 w8.heap.size (.slice ma' (ms.length + 1) mc') (ms'.map PE.v) ∧ ∀ i (_ : i < cs.length) (h2 : i < ms'.length), ms'[i].b.length = cs[i].n + 1 ∧ (∀ j, j < cs[i].n + 1 → w3.cell? ⟨ms'[i].k, j * 2, none⟩ = some (.int .i64 (mkS i j))) ∧ ms'[i].k < w3.heap.size ∧ (Value.slice ma' (ms.length + 1) mc').ownBlock ≠ some ms'[i].k) := by
                refine ⟨ms ++ [⟨0, km, cm, List.replicate (cs[q].n + 1) 0⟩], by simp [hml], ?_, fun i hi h2 => ?_⟩
                · rw [List.map_append]
                  have e : [(⟨0, km, cm, List.replicate (cs[q].n + 1) 0⟩ : PE)].map PE.v = [Value.slice (some ⟨km, 0, none⟩) (cs[q].n + 1) cm] := by simp [PE.v]
                  rw [e]
                  exact r3
                · rcases Nat.lt_or_ge i ms.length with hl | hl
                  · rw [List.getElem_append_left hl]
                    obtain ⟨t1, t2, t4, t5⟩ := hms i hi hl
                    refine ⟨t1, fun j hj => ?_, by omega, fun e => ?_⟩
                    · exact (k23.cell (p := ⟨ms[i].k, j * 2, none⟩) (by show ms[i].k < _; omega) t5).trans ((bw2.cell (p := ⟨ms[i].k, j * 2, none⟩) t4).trans (t2 j hj))
                    · rcases mv3 _ e with r | r
                      · exact t5 r
                      · omega
                  · obtain rfl : i = ms.length := by simp at h2; omega
                    rw [List.getElem_append_right (Nat.le_refl _)]
                    simp only [Nat.sub_self, List.getElem_cons_zero]
                    have hiq : ms.length = q := hml
                    subst hiq
                    refine ⟨by simp, fun j hj => ?_, by show km < _; omega, fun e => ?_⟩
                    · have hc := World.ownsRow.cells r2 (g := km) rfl (j * 2) (.int .i64 (mkS ms.length j)) (by
                        have hLn : L.length = cs[ms.length].n * 2 := hL1.1
                        by_cases hjn : j < cs[ms.length].n
                        · rw [List.getElem?_append_left (by omega)]
                          exact hL2 j hjn
                        · obtain rfl : j = cs[ms.length].n := by omega
                          rw [List.getElem?_append_right (by omega), hLn, Nat.sub_self]
                          rfl)
                      rw [addr_add, Nat.zero_add] at hc
                      exact (k23.cell (p := ⟨km, j * 2, none⟩) hkm (fun r => by have := mvf km r; omega)).trans hc
                    · rcases mv3 km e with r | r
                      · have := mvf km r
                        omega
                      · omega
              have hS2 : (wr.drew.alloc (.cells #[.int .i64 (mkS q cs[q].n), .slice none 0 0] 65)).cell? ⟨cb, q, none⟩ = some (.slice (some ⟨cs[q].r, 0, none⟩) cs[q].n cs[q].n) := (bA.cell (p := ⟨cb, q, none⟩) (by show cb < wr.heap.size; omega)).trans y0
              have hS3 : w2.cell? ⟨cb, q, none⟩ = some (.slice (some ⟨cs[q].r, 0, none⟩) cs[q].n cs[q].n) := (bw2.cell (p := ⟨cb, q, none⟩) (by show cb < wr.heap.size; omega)).trans y0
              have hS4 := (bC.cell (p := ⟨cb, q, none⟩) (by show cb < _; omega)).trans hS3
              have hS5 : w3.cell? ⟨cb, q, none⟩ = some (.slice (some ⟨cs[q].r, 0, none⟩) cs[q].n cs[q].n) := (k23.cell (p := ⟨cb, q, none⟩) (by show cb < _; omega) (fun r => by have := (mvf cb r).1; omega)).trans hS3
              obtain ⟨e1, e2, e3⟩ := mk_wraps q cs[q].n (by omega) hnn
              have hlkq : (q : Int) < (cs.length : Int) := by omega
              have HR2 := hide hr2
              have HR3 := hide hr3
              have HML := hide hml
              clear hml hr2 hr3 hrow hms r2 b2 nb2 hrow2 bC zC r3 g3 m3 k23 bA zA0 zA1 hmcell hL1 hL2 hcc mvf mv3
              go_upto_region 49 with fail
              refine wp_region_held_drew (S := fun wq => wq.cell? ⟨cb, q, none⟩ = some (.slice (some ⟨cs[q].r, 0, none⟩) cs[q].n cs[q].n)) (by kernel_rfl) y0 (fun hS => ?_)
              refine take_at 0 (some 159) (v := ?_) rfl rfl (by kernel_rfl) (by kernel_rfl) (by kernel_rfl) (fun _ _ _ h => h) ⟨by rfl, ?_⟩ hS ?_
              rotate_left
              · intro wq hSw; have x1 : wq.cell? ⟨cb, q, none⟩ = some (.slice (some ⟨cs[q].r, 0, none⟩) cs[q].n cs[q].n) := hSw; go_simp; try rfl
              simp only [Act.put, List.setIfInBounds_toArray, List.set_cons_zero, List.set_cons_succ]
              refine take_at 1 (some 160) (v := ?_) rfl rfl (by kernel_rfl) (by kernel_rfl) (by kernel_rfl) (fun _ _ _ h => h) ⟨by rfl, ?_⟩ hS ?_
              rotate_left
              · intro wq hSw; have x1 : wq.cell? ⟨cb, q, none⟩ = some (.slice (some ⟨cs[q].r, 0, none⟩) cs[q].n cs[q].n) := hSw; go_simp; try rfl
              simp only [Act.put, List.setIfInBounds_toArray, List.set_cons_zero, List.set_cons_succ]
              refine take_at 2 (some 161) (v := ?_) rfl rfl (by kernel_rfl) (by kernel_rfl) (by kernel_rfl) (fun _ _ _ h => h) ⟨by rfl, ?_⟩ hS ?_
              rotate_left
              · intro wq hSw; have x1 : wq.cell? ⟨cb, q, none⟩ = some (.slice (some ⟨cs[q].r, 0, none⟩) cs[q].n cs[q].n) := hSw; go_simp; try rfl
              simp only [Act.put, List.setIfInBounds_toArray, List.set_cons_zero, List.set_cons_succ]
              refine take_at 3 (some 162) (v := ?_) rfl rfl (by kernel_rfl) (by kernel_rfl) (by kernel_rfl) (fun _ _ _ h => h) ⟨by rfl, ?_⟩ hS ?_
              rotate_left
              · intro wq hSw; have x1 : wq.cell? ⟨cb, q, none⟩ = some (.slice (some ⟨cs[q].r, 0, none⟩) cs[q].n cs[q].n) := hSw; go_simp; try rfl
              simp only [Act.put, List.setIfInBounds_toArray, List.set_cons_zero, List.set_cons_succ]
              refine take_at 4 (some 163) (v := ?_) rfl rfl (by kernel_rfl) (by kernel_rfl) (by kernel_rfl) (fun _ _ _ h => h) ⟨by rfl, ?_⟩ hS ?_
              rotate_left
              · intro wq hSw; have x1 : wq.cell? ⟨cb, q, none⟩ = some (.slice (some ⟨cs[q].r, 0, none⟩) cs[q].n cs[q].n) := hSw; go_simp; try rfl
              simp only [Act.put, List.setIfInBounds_toArray, List.set_cons_zero, List.set_cons_succ]
              refine take_at 5 (some 164) (v := ?_) rfl rfl (by kernel_rfl) (by kernel_rfl) (by kernel_rfl) (fun _ _ _ h => h) ⟨by rfl, ?_⟩ hS ?_
              rotate_left
              · intro wq hSw; have x1 : wq.cell? ⟨cb, q, none⟩ = some (.slice (some ⟨cs[q].r, 0, none⟩) cs[q].n cs[q].n) := hSw; go_simp; try rfl
              simp only [Act.put, List.setIfInBounds_toArray, List.set_cons_zero, List.set_cons_succ]
              refine take_at 6 (some 165) (v := ?_) rfl rfl (by kernel_rfl) (by kernel_rfl) (by kernel_rfl) (fun _ _ _ h => h) ⟨by rfl, ?_⟩ hS ?_
              rotate_left
              · intro wq hSw; have x1 : wq.cell? ⟨cb, q, none⟩ = some (.slice (some ⟨cs[q].r, 0, none⟩) cs[q].n cs[q].n) := hSw; go_simp; try rfl
              simp only [Act.put, List.setIfInBounds_toArray, List.set_cons_zero, List.set_cons_succ]
              refine take_at 7 (some 166) (v := ?_) rfl rfl (by kernel_rfl) (by kernel_rfl) (by kernel_rfl) (fun _ _ _ h => h) ⟨by rfl, ?_⟩ hS ?_
              rotate_left
              · intro wq hSw; have x1 : wq.cell? ⟨cb, q, none⟩ = some (.slice (some ⟨cs[q].r, 0, none⟩) cs[q].n cs[q].n) := hSw; go_simp; try rfl
              simp only [Act.put, List.setIfInBounds_toArray, List.set_cons_zero, List.set_cons_succ]
              refine take_at 8 (some 167) (v := ?_) rfl rfl (by kernel_rfl) (by kernel_rfl) (by kernel_rfl) (fun _ _ _ h => h) ⟨by rfl, ?_⟩ hS ?_
              rotate_left
              · intro wq hSw; have x1 : wq.cell? ⟨cb, q, none⟩ = some (.slice (some ⟨cs[q].r, 0, none⟩) cs[q].n cs[q].n) := hSw; go_simp; try rfl
              simp only [Act.put, List.setIfInBounds_toArray, List.set_cons_zero, List.set_cons_succ]
              refine take_at 9 (some 168) (v := ?_) rfl rfl (by kernel_rfl) (by kernel_rfl) (by kernel_rfl) (fun _ _ _ h => h) ⟨by rfl, ?_⟩ hS ?_
              rotate_left
              · intro wq hSw; have x1 : wq.cell? ⟨cb, q, none⟩ = some (.slice (some ⟨cs[q].r, 0, none⟩) cs[q].n cs[q].n) := hSw; go_simp; try rfl
              simp only [Act.put, List.setIfInBounds_toArray, List.set_cons_zero, List.set_cons_succ]
              refine take_at 10 (some 169) (v := ?_) rfl rfl (by kernel_rfl) (by kernel_rfl) (by kernel_rfl) (fun _ _ _ h => h) ⟨by rfl, ?_⟩ hS ?_
              rotate_left
              · intro wq hSw; have x1 : wq.cell? ⟨cb, q, none⟩ = some (.slice (some ⟨cs[q].r, 0, none⟩) cs[q].n cs[q].n) := hSw; go_simp; try rfl
              simp only [Act.put, List.setIfInBounds_toArray, List.set_cons_zero, List.set_cons_succ]
              refine take_at 11 (some 170) (v := ?_) rfl rfl (by kernel_rfl) (by kernel_rfl) (by kernel_rfl) (fun _ _ _ h => h) ⟨by rfl, ?_⟩ hS ?_
              rotate_left
              · intro wq hSw; have x1 : wq.cell? ⟨cb, q, none⟩ = some (.slice (some ⟨cs[q].r, 0, none⟩) cs[q].n cs[q].n) := hSw; go_simp; try rfl
              simp only [Act.put, List.setIfInBounds_toArray, List.set_cons_zero, List.set_cons_succ]
              refine take_at 12 (some 171) (v := ?_) rfl rfl (by kernel_rfl) (by kernel_rfl) (by kernel_rfl) (fun _ _ _ h => h) ⟨by rfl, ?_⟩ hS ?_
              rotate_left
              · intro wq hSw; have x1 : wq.cell? ⟨cb, q, none⟩ = some (.slice (some ⟨cs[q].r, 0, none⟩) cs[q].n cs[q].n) := hSw; go_simp; try rfl
              simp only [Act.put, List.setIfInBounds_toArray, List.set_cons_zero, List.set_cons_succ]
              refine take_at 13 (some 172) (v := ?_) rfl rfl (by kernel_rfl) (by kernel_rfl) (by kernel_rfl) (fun _ _ _ h => h) ⟨by rfl, ?_⟩ hS ?_
              rotate_left
              · intro wq hSw; have x1 : wq.cell? ⟨cb, q, none⟩ = some (.slice (some ⟨cs[q].r, 0, none⟩) cs[q].n cs[q].n) := hSw; go_simp; try rfl
              simp only [Act.put, List.setIfInBounds_toArray, List.set_cons_zero, List.set_cons_succ]
              refine take_at 14 (some 173) (v := ?_) rfl rfl (by kernel_rfl) (by kernel_rfl) (by kernel_rfl) (fun _ _ _ h => h) ⟨by rfl, ?_⟩ hS ?_
              rotate_left
              · intro wq hSw; have x1 : wq.cell? ⟨cb, q, none⟩ = some (.slice (some ⟨cs[q].r, 0, none⟩) cs[q].n cs[q].n) := hSw; go_simp; try rfl
              simp only [Act.put, List.setIfInBounds_toArray, List.set_cons_zero, List.set_cons_succ]
              refine wpAnyH_ready (rs := [15]) (by kernel_rfl) (by simp) ?_
              refine AllReadyH.cons rfl (fun K hK => ?_) AllReadyH.nil
              go_simp
              go_wp2_with fail
              refine hK.out _ _ hS2 (fun hS => ?_)
              clear hK K
              (try simp only [Act.put, List.setIfInBounds_toArray, List.set_cons_zero, List.set_cons_succ])
              refine wpAnyH_ready (rs := [16]) (by kernel_rfl) (by simp) ?_
              refine AllReadyH.cons rfl (fun K hK => ?_) AllReadyH.nil
              refine wp_run 175 (.tmp 163) (.tmp 174) rfl rfl rfl rfl rfl HR2.out ?_
              refine hK.out _ _ hS3 (fun hS => ?_)
              clear hK K
              (try simp only [Act.put, List.setIfInBounds_toArray, List.set_cons_zero, List.set_cons_succ])
              refine wpAnyH_ready (rs := [17]) (by kernel_rfl) (by simp) ?_
              refine AllReadyH.cons rfl (fun K hK => ?_) AllReadyH.nil
              go_simp
              go_wp2_with fail
              refine hK.out _ _ hS4 (fun hS => ?_)
              clear hK K
              (try simp only [Act.put, List.setIfInBounds_toArray, List.set_cons_zero, List.set_cons_succ])
              refine wpAnyH_ready (rs := [18]) (by kernel_rfl) (by simp) ?_
              refine AllReadyH.cons rfl (fun K hK => ?_) AllReadyH.nil
              refine wp_run 177 (.tmp 159) (.tmp 176) rfl rfl rfl rfl rfl HR3.out ?_
              refine hK.out _ _ hS5 (fun hS => ?_)
              clear hK K
              (try simp only [Act.put, List.setIfInBounds_toArray, List.set_cons_zero, List.set_cons_succ])
              refine take_at 19 (some 22) (v := ?_) rfl rfl (by kernel_rfl) (by kernel_rfl) (by kernel_rfl) (fun _ _ _ h => h) ⟨by rfl, ?_⟩ hS ?_
              rotate_left
              · intro wq hSw; have x1 : wq.cell? ⟨cb, q, none⟩ = some (.slice (some ⟨cs[q].r, 0, none⟩) cs[q].n cs[q].n) := hSw; go_simp; try rfl
              simp only [Act.put, List.setIfInBounds_toArray, List.set_cons_zero, List.set_cons_succ]
              refine wpAnyH_done (by kernel_rfl) ?_ _
              clear hS2 hS3 hS4 hS5 y0 y8
              go_wp2_with fail
              go_roundw
              case rel => exact ⟨q + 1, by omega, by go_num, BW3.out, REL.out⟩
              case measure => simp [intOf]; omega
            · obtain rfl : q = cs.length := by omega
              have FACT : Hid (∀ i (_ : i < cs.length), ∃ mb mk mc', ma = some ⟨mb, 0, none⟩ ∧ ∀ wx, Below wr.heap.size wr wx → wx.cell? ⟨mb, i, none⟩ = some (.slice (some ⟨mk, 0, none⟩) (cs[i].n + 1) mc') ∧ (∀ j, j < cs[i].n + 1 → wx.cell? ⟨mk, j * 2, none⟩ = some (.int .i64 (mkS i j))) ∧ (∀ j, j < cs[i].n → wx.cell? ⟨cs[i].r, j * 2, none⟩ = some (.int .i64 (mkS i j)))) := by
                intro i hi
                have hi2 : i < ms.length := by omega
                obtain ⟨t1, t2, t4, t5⟩ := hms i hi hi2
                obtain ⟨mb, hb1, hb2, hb3⟩ := hmcell i (by simpa using hi2)
                refine ⟨mb, ms[i].k, ms[i].c, hb1, fun wx hb => ⟨?_, fun j hj => ?_, fun j hj => ?_⟩⟩
                · rw [hb.cell (p := ⟨mb, i, none⟩) hb2, hb3]
                  simp [PE.v, t1]
                · exact (hb.cell (p := ⟨ms[i].k, j * 2, none⟩) t4).trans (t2 j hj)
                · obtain ⟨⟨v, hv, hv2⟩, _⟩ := ((RW8.out i hi).keep (Keep.of_below (S := fun _ => False) (bnext hbel hb (Nat.le_refl _))) id).cells j hj
                  rw [hv, hv2 hj]
              have FCB : Hid (∀ i (_ : i < cs.length), ∃ cb, ca = some ⟨cb, 0, none⟩ ∧ ∀ wx, Below wr.heap.size wr wx → wx.cell? ⟨cb, i, none⟩ = some (.slice (some ⟨cs[i].r, 0, none⟩) cs[i].n cs[i].n)) := by
                intro i hi
                obtain ⟨cb, hcb, hcbl, hcc⟩ := HCELL.out i (by simpa using hi)
                refine ⟨cb, hcb, fun wx hb => ?_⟩
                rw [(bnext hbel hb (Nat.le_refl _)).cell (p := ⟨cb, i, none⟩) hcbl, hcc]
                simp [CR.v]
              have FN9 := hide (FN8.out.below hbel)
              have CN := hide (fun i (hi : i < cs.length) => (CI7.out i hi).2.2)
              have HML := hide hml
              clear hml hrow hms hmcell hbel FN8 RW8 HCELL CI7
              rw [HML.out]
              go_wp2_with fail
              obtain ⟨w9, hw9⟩ : ∃ w9, w9 = wr := ⟨_, rfl⟩
              rw [← hw9]
              rw [← hw9] at FACT FCB FN9
              clear hw9
              go_loopw [26] (fun i wr => ∃ t : Nat, t ≤ cs.length ∧ i = .int .i64 (t : Int) ∧ Below w9.heap.size w9 wr) (fun i _ => cs.length - (intOf i).toNat)
              case atStart => exact ⟨0, Nat.zero_le _, rfl, Below.refl _ _⟩
              case round =>
                obtain ⟨t, ht, rfl, hbel⟩ := hrel
                by_cases hltt : t < cs.length
                · obtain ⟨mb, mk, mc', rfl, hF⟩ := FACT.out t hltt
                  have hlkt : (t : Int) < (cs.length : Int) := by omega
                  have HBE := hide hbel
                  have hn1 : cs[t].n ≤ 1000 := CN.out t hltt
                  have HF := hide hF
                  clear hbel hF
                  go_wp2_with fail
                  go_loopw [27] (fun i wr => ∃ j : Nat, j ≤ cs[t].n + 1 ∧ i = .int .i64 (j : Int) ∧ Below w9.heap.size w9 wr) (fun i _ => cs[t].n + 1 - (intOf i).toNat)
                  case atStart => exact ⟨0, Nat.zero_le _, rfl, HBE.out⟩
                  case round =>
                    obtain ⟨j, hj, rfl, hbel⟩ := hrel
                    obtain ⟨f1, f2, f3⟩ := HF.out _ hbel
                    have HB2 := hide hbel
                    by_cases hlt2 : j < cs[t].n + 1
                    · have g1 := f2 j hlt2
                      obtain ⟨cb, rfl, hcb⟩ := FCB.out t hltt
                      have y0 := hcb _ hbel
                      have hlk2 : (j : Int) < (cs[t].n : Int) + 1 := by omega
                      obtain ⟨e1, e2, _⟩ := mk_wraps t 0 (by omega) (by omega)
                      have em : -1000 * ((t : Int) + 1) - (j : Int) = mkS t j := rfl
                      have ew : IntKind.i64.wrap (mkS t j) = mkS t j := by unfold mkS; exact wrap_in _ (by omega) (by omega)
                      have ne : (mkS t j != mkS t j) = false := by simp
                      by_cases hj2 : j < cs[t].n
                      · have g2 := f3 j hj2
                        have d1 : decide ((j : Int) < (cs[t].n : Int)) = true := by simp; omega
                        have d2 : (j : Int) < (cs[t].n : Int) := by omega
                        clear f2 f3 hbel hcb
                        go_upto_region 56 with fail
                        go_quiet (fail)
                        go_wp2_with fail
                        go_roundw
                        case rel => exact ⟨j + 1, by omega, by go_num, below_drewN HB2.out _⟩
                        case measure => simp [intOf]; omega
                      · have d1 : decide ((j : Int) < (cs[t].n : Int)) = false := by simp; omega
                        clear f2 f3 hbel hcb
                        go_upto_region 56 with fail
                        go_quiet (fail)
                        go_wp2_with fail
                        go_roundw
                        case rel => exact ⟨j + 1, by omega, by go_num, below_drewN HB2.out _⟩
                        case measure => simp [intOf]; omega
                    · obtain rfl : j = cs[t].n + 1 := by omega
                      clear f2 f3 hbel
                      go_wp2_with fail
                      go_roundw
                      case rel => exact ⟨t + 1, by omega, by go_num, HB2.out⟩
                      case measure => simp [intOf]; omega
                · obtain rfl : t = cs.length := by omega
                  have FN := hide (FN9.out.below hbel)
                  clear hbel FACT FCB CN FN9
                  have hkiB : w.heap.size ≤ ki := Nat.le_of_not_lt fun r => by have := FN.out.lo ki r; have := FN.out.li; omega
                  go_wp2_with fail
                  refine (image_any FN.out.live.dev).mono ?_
                  rintro e wa ⟨va, rfl, oa, ba⟩
                  have FNa := hide (FN.out.below ba)
                  obtain ⟨aa, cva, hva, sna, _⟩ := oa.seen
                  rw [ints_length] at hva
                  subst hva
                  have SA := hide (same_any aa (some ⟨ki, 0, none⟩) g.img g.img cva ci wa sna (Owns.seen_at FNa.out.im) okg.out.bytes okg.out.bytes)
                  rw [decide_eq_true rfl] at SA
                  clear oa ba sna FN
                  go_wp2_with fail
                  refine SA.out.mono ?_
                  rintro e w' ⟨rfl, hw⟩
                  obtain rfl : wa = w' := hw.symm
                  clear SA
                  go_wp2_with fail
                  refine (cache_any FNa.out.live.dev (by omega)).mono ?_
                  rintro e wb ⟨qs2, rfl, hq2, _, _, bb⟩
                  have hql2 : qs2.length = g.pend.length := by have := congrArg List.length hq2; simpa using this
                  have nb : ((qs2.length : Int) != (qs.length : Int)) = false := by rw [HQL.out, hql2]; simp
                  have FNb := hide (FNa.out.below bb)
                  have LO := hide (load_ok (some ⟨ki, 0, none⟩) g.img ci wb (Owns.seen_at FNb.out.im) hc5 nofun okg.out.bytes (by unfold loads; rw [upg.out.2.2]; omega))
                  clear hq2 hql2 bb FNa
                  go_wp2_with fail
                  refine LO.out.mono ?_
                  rintro e wd ⟨dx, Sx, rfl, Dx, fx, bx⟩
                  have FNd := hide (FNb.out.below bx)
                  have HDx := hide Dx
                  have NKI := hide (show ∀ b, b = ki → ¬ Sx b from fun b hb q => by
                    have := fx b q
                    have := (World.ownsRow.lt FNb.out.im ki rfl).2
                    omega)
                  have hlen := img_le' okg.out
                  clear Dx fx bx LO FNb nb
                  go_wp2_with fail
                  refine (num_any _ _).mono ?_
                  rintro e w' ⟨rfl, hw⟩
                  obtain rfl : wd = w' := hw.symm
                  go_wp2_with fail
                  go_loopw [30] (fun i wr => ∃ t : Nat, t ≤ g.img.length ∧ i = .int .i64 (t : Int) ∧ ∃ l : List Int, l.length = g.img.length ∧ Owns .u8 5 wr w.heap.size (.slice (some ⟨ki, 0, none⟩) g.img.length ci) l ∧ Keep (fun b => b = ki) wd wr) (fun i _ => g.img.length - (intOf i).toNat)
                  case atStart => exact ⟨0, Nat.zero_le _, rfl, _, by simp, FNd.out.im, Keep.refl _ _⟩
                  case round =>
                    obtain ⟨t, ht, rfl, l, hll, hown, hkeep⟩ := hrel
                    by_cases hltt : t < g.img.length
                    · obtain ⟨b2, off2, hab, hb2, hc2⟩ := Seen.at (Owns.seen_at hown) (i := t) (by omega)
                      cases hab
                      rw [Nat.zero_add] at hc2
                      obtain ⟨z, hz⟩ : ∃ z, wr.cell? ⟨ki, t, none⟩ = some (.int .u8 z) := ⟨_, hc2⟩
                      clear hc2
                      have hfz := Owns.frozen hown t
                      have HO := hide hown
                      have HK := hide hkeep
                      have hlkt : (t : Int) < (g.img.length : Int) := by omega
                      clear hown hkeep
                      go_wp2_with fail
                      go_roundw
                      case rel => exact ⟨t + 1, by omega, by go_num, _, by simpa using hll, Owns.stored HO.out t _, HK.out.setCell (fun _ => rfl) _⟩
                      case measure => simp [intOf]; omega
                    · obtain rfl : t = g.img.length := by omega
                      have DX2 := hide (HDx.out.keep hkeep NKI.out)
                      have LV := hide (FNd.out.live.other hkeep (fun b e q => by
                        have := FNd.out.ls b q
                        have := FNd.out.li
                        have e : b = ki := e
                        rw [← e] at this
                        omega) (fun b _ e => by have e : b = ki := e; omega))
                      clear hown hkeep HDx FNd NKI
                      go_wp2_with fail
                      refine (image_any DX2.out).mono ?_
                      rintro e we ⟨ve, rfl, oe, be⟩
                      have LV2 := hide (LV.out.below be)
                      have OE := hide oe
                      clear oe be DX2 LV
                      go_wp2_with fail
                      refine (image_any LV2.out.dev).mono ?_
                      rintro e wf ⟨vf, rfl, of, bf⟩
                      obtain ⟨ae, ce, hve, sne, _⟩ := (Owns.below OE.out bf).seen
                      obtain ⟨af, cf, hvf, snf, _⟩ := of.seen
                      rw [ints_length] at hve hvf
                      subst hve hvf
                      have SA := hide (same_any ae af g.img g.img ce cf wf sne snf okg.out.bytes okg.out.bytes)
                      rw [decide_eq_true rfl] at SA
                      have BL := hide (bnext LV2.out.bel bf (Nat.le_refl _))
                      clear of bf sne snf OE LV2
                      go_wp2_with fail
                      refine SA.out.mono ?_
                      rintro e w' ⟨rfl, hw⟩
                      obtain rfl : wf = w' := hw.symm
                      go_wp2_with fail
                      go_ret
                      exact ⟨rfl, BL.out⟩
end Go.Proofs.Ytohkmigahbellaa
