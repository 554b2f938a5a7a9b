import Derived.Test.YtakjpljpdlhicaaDoorPg45
import Derived.Test.YtakjpljpdlhicaaDoorPg24
import Derived.Test.YtakjpljpdlhicaaDoorPg41
import Derived.Test.YtakjpljpdlhicaaDoorTake
import Derived.Deep.RegionHeld
import Derived.Deep.DeepCutAuto
set_option linter.all false
namespace Go.Proofs.YtakjpljpdlhicaaDoor
open Go.RowKit Go.QK Go.Pg
set_option maxRecDepth 100000
section
variable {w0 : World} {B L : Nat} {pl pc : Nat} {I0 : Nat → Option It} {w w' : World} {lab : Nat → Nat} {I : Nat → Option It} {vB vW vP vR : Value} {bs : List (Value × List Nat)} {ws : List (List Nat)} {ps qs : List (PageM × At)} {X : List Nat} {xs : List (Nat × Nat × List Value)}
theorem AS.lies (h : AS w0 B L pl pc I0 w lab I vB vW vP vR bs ws ps qs X xs) {k : Nat} {q : PageM} {t : At} (hc : I k = some (itC (q, t))) (hg : I (k + 1) = some (itG (q, t))) : Lies w t.a (ctrsC q.cs) ∧ Lies w t.b (grpsC q.gs) ∧ (t.a = none → t.c = 0 ∧ q.cs.length = 0) ∧ (t.b = none → t.d = 0 ∧ q.gs.length = 0) := by
  obtain ⟨_, _, x1, l1, c1, -, n1, -⟩ := GRow.lies (h.own.at_ _ _ hc).1
  obtain ⟨_, _, x2, l2, c2, -, n2, -⟩ := GRow.lies (h.own.at_ _ _ hg).1
  cases x1
  cases x2
  exact ⟨l1, l2, fun e => by have a1 : t.c = 0 := n1 e; have a2 : q.cs.length ≤ t.c := c1; omega, fun e => by have a1 : t.d = 0 := n2 e; have a2 : q.gs.length ≤ t.d := c2; omega⟩
theorem AS.liesQ (h : AS w0 B L pl pc I0 w lab I vB vW vP vR bs ws ps qs X xs) {k : Nat} {q : PageM} {t : At} (hc : I0 k = some (itC (q, t))) (hg : I0 (k + 1) = some (itG (q, t))) (hk : 1000 < k) : Lies w t.a (ctrsC q.cs) ∧ Lies w t.b (grpsC q.gs) ∧ (t.a = none → t.c = 0 ∧ q.cs.length = 0) ∧ (t.b = none → t.d = 0 ∧ q.gs.length = 0) := h.lies (by rw [h.ot _ hk]; exact hc) (by rw [h.ot _ (by omega)]; exact hg)
theorem AS.got (h : AS w0 B L pl pc I0 w lab I vB vW vP vR bs ws ps qs X xs) {x : Nat × Nat × List Value} (hx : x ∈ xs) : Cells w x.1 x.2.2 := (h.xs x hx).2.2.cells
theorem AS.c0 (h : AS w0 B L pl pc I0 w lab I vB vW vP vR bs ws ps qs X xs) : w.cell? ⟨L, 0, none⟩ = some vB ∧ w.cell? ⟨L, 1, none⟩ = some vW ∧ w.cell? ⟨L, 2, none⟩ = some vP ∧ w.cell? ⟨L, 3, none⟩ = some vR := ⟨(h.bx.cells.get 0 _ rfl).1, (h.bx.cells.get 1 _ rfl).1, (h.bx.cells.get 2 _ rfl).1, (h.bx.cells.get 3 _ rfl).1⟩
theorem AS.place (h : AS w0 B L pl pc I0 w lab I vB vW vP vR bs ws ps qs X xs) : 1024 ≤ pc ∧ Bytes w (some ⟨pl, 0, none⟩) X ∧ (∀ j, j < 1024 → ∃ v, w.cell? ⟨pl, j, none⟩ = some v ∧ w.frozen? ⟨pl, j, none⟩ = false) := by
  have g := (h.own.at_ _ _ h.pl).1
  obtain ⟨_, _, x1, l1, c1, -⟩ := GRow.lies g
  cases x1
  have ob : OwnB w B (.slice (some ⟨pl, 0, none⟩) 1024 pc) X := by unfold OwnB Owns; rw [ints_length, h.lx]; exact g
  refine ⟨c1, Owns.seen_at ob, fun j hj => ?_⟩
  have sn : Seen .u8 w (some ⟨pl, 0, none⟩) (ints X) := Owns.seen_at ob
  obtain ⟨b, off, e, _, hc⟩ := sn.at (i := j) (by rw [ints_length, h.lx]; exact hj)
  cases e
  rw [Nat.zero_add] at hc
  exact ⟨_, hc, Owns.frozen ob j⟩
end
theorem lies_cells (w : World) (vs : Array Value) (t : TypeId) : Lies (w.alloc (.cells vs t)) (some ⟨w.heap.size, 0, none⟩) vs.toList := by
  have h := Cells.new w vs t
  refine .inr ⟨w.heap.size, 0, rfl, h.1, fun i hi => ?_⟩
  rw [Nat.zero_add]
  exact (h.2 i hi).1
theorem info22 : (Tryd.prog.info? 22).map (fun i => (i.zero, i.size, i.bytes)) = some (some (.slice none 0 0), 1, 24) := by kernel_rfl
theorem info9 : (Tryd.prog.info? 9).map (fun i => (i.zero, i.size, i.bytes)) = some (some (.string ByteArray.empty), 1, 16) := by kernel_rfl
theorem info27 : (Tryd.prog.info? 27).map (fun i => (i.zero, i.size, i.bytes)) = some (some (.agg #[.int .i64 0, .int .i64 0, .slice none 0 0, .slice none 0 0]), 4, 64) := by kernel_rfl
theorem info38 : (Tryd.prog.info? 38).map (fun i => (i.zero, i.size, i.bytes)) = some (some (.agg #[.int .i64 0, .int .i64 0, .slice none 0 0, .slice none 0 0]), 4, 64) := by kernel_rfl
set_option maxHeartbeats 32000000 in
theorem ask_any (a : Nat) (ha : a ≤ 4) {w0 : World} {B L : Nat} {pl pc kq : Nat} {I0 : Nat → Option It} {w : World} {lab : Nat → Nat} {I : Nat → Option It} {vB vW vP vR : Value} {bs : List (Value × List Nat)} {ws : List (List Nat)} {ps qs : List (PageM × At)} {X : List Nat} {xs0 : List (Nat × Nat × List Value)} (q : PageM) (t : At) (h : AS w0 B L pl pc I0 w lab I vB vW vP vR bs ws ps qs X xs0)
    (lb : bs.length = 2 * a) (lw : ws = bs.map (·.2)) (lp : ps.length = 4 * a) (lq : qs.map (·.1) = ps.map (·.1)) (kc : I0 kq = some (itC (q, t))) (kg : I0 (kq + 1) = some (itG (q, t))) (hkq : 1000 < kq) (hck : checkE q = 0) (hfit : q.Fit) (HT : ∀ wz, Below B w0 wz → Tab wz) :
    Calls Tryd.prog 21 #[.pointer (some ⟨L, 0, none⟩), pageV q t, .slice (some ⟨pl, 0, none⟩) 1024 pc] w fun e w' => e = .returned (.bool true) ∧ ∃ lab' I' vB' vW' vP' vR' bs' ws' ps' qs' X', AS w0 B L pl pc I0 w' lab' I' vB' vW' vP' vR' bs' ws' ps' qs' X' xs0 ∧ bs'.length = 2 * (a + 1) ∧ ws' = bs'.map (·.2) ∧ ps'.length = 4 * (a + 1) ∧ qs'.map (·.1) = ps'.map (·.1) := by
  have hsz := checkE_zero hck
  have hl1 : q.cs.length ≤ 1000 := by omega
  have hl2 : q.gs.length ≤ 1000 := by omega
  have hlen := encB_length hck
  have hbs := encB_bytes q
  obtain ⟨dr1, dr2⟩ := dec_right hck hfit
  have KC := hide kc
  have KG := hide kg
  have OW := fun w h1 h2 h3 h4 => own_any q t w h1 h2 h3 h4 (by omega) (by omega)
  have EN := fun w h1 h2 tb => encode_ok q t w ⟨h1, h2, hfit⟩ tb hck
  have CP := fun (u : At) w h1 h2 h3 h4 => copy_any q u w h1 h2 h3 h4 (by omega) (by omega)
  have BK := fun (u : At) w => back_any q u w
  have SM := fun (u v : At) w (h1 : Lies w u.a (ctrsC q.cs)) (h2 : Lies w u.b (grpsC q.gs)) (h3 : Lies w v.a (ctrsC q.cs)) (h4 : Lies w v.b (grpsC q.gs)) => same_true q u v w h1 h2 h3 h4 (by omega) (by omega)
  obtain ⟨EB, hEB⟩ : ∃ e, e = encB q := ⟨_, rfl⟩
  simp only [← hEB] at hlen hbs dr1 dr2 EN
  have DC := fun w (hs : Bytes w (some ⟨pl, 0, none⟩) EB) tb (hp : 1024 ≤ pc) => decode_any (some ⟨pl, 0, none⟩) pc EB q.num w hs hbs tb (by rw [hlen]; exact hp)
  simp only [hlen, dr1, dr2] at DC
  clear dr1 dr2 hsz hck hEB
  have HLE := hide hlen
  have Q1 := hide (show ∀ (u : At), itC (q, u) = ⟨57, 5, .slice u.a q.cs.length u.c, q.cs.length, ctrsC q.cs⟩ ∧ itG (q, u) = ⟨59, 2, .slice u.b q.gs.length u.d, q.gs.length, grpsC q.gs⟩ from fun u => ⟨rfl, rfl⟩)
  clear hlen kc kg
  have A0 := hide h
  have LQ := hide lq
  have LW := hide lw
  have LB := hide lb
  have LP := hide lp
  have LQL := hide (show qs.length = 4 * a by rw [← List.length_map (f := (·.1)), lq, List.length_map]; exact lp)
  clear h lq lw lb lp
  obtain ⟨q', hq'⟩ : ∃ z, z = q := ⟨_, rfl⟩
  have HQ := hide hq'
  clear hq'
  obtain ⟨num, lsn, cs, gs⟩ := q
  obtain ⟨ta, tc, tb, td⟩ := t
  simp only [pageV] at *
  go_enter Tryd.func21, Tryd.ntmps21
  go_upto_region 1 with fail
  refine named (P := Code.wp _ _ _ _) ?_
  intro w2 hw2
  obtain ⟨Q, hQ⟩ : ∃ N, N = w.heap.size := ⟨_, rfl⟩
  rw [← hQ]
  have A2 := hide (A0.out.box (w' := w2) 9 (by decide) (by decide) [.int .i64 num, .int .i64 lsn, .slice ta cs.length tc, .slice tb gs.length td] Q (by rw [hw2]; exact alloc_below _ _) (by omega) (by rw [hw2, hQ]; exact Cells.new w #[.int .i64 num, .int .i64 lsn, .slice ta cs.length tc, .slice tb gs.length td] 27))
  clear hw2 hQ A0
  have C2 := A2.out.got (x := (Q, 9, [.int .i64 num, .int .i64 lsn, .slice ta cs.length tc, .slice tb gs.length td])) (by simp)
  obtain ⟨g0, -⟩ := C2.get 0 _ rfl
  obtain ⟨g1, -⟩ := C2.get 1 _ rfl
  obtain ⟨g2, -⟩ := C2.get 2 _ rfl
  obtain ⟨g3, -⟩ := C2.get 3 _ rfl
  obtain ⟨l1, l2, l3, l4⟩ := A2.out.liesQ KC.out KG.out hkq
  have OW2 := OW w2 l1 l2 l3 l4
  clear C2 l1 l2 l3 l4 OW
  go_wp2_with fail
  clear g0 g1 g2 g3
  refine OW2.mono ?_
  rintro e w3 ⟨v, rfl, ho, b3⟩
  clear OW2
  obtain ⟨v1, v2, rfl, r1, r2⟩ := ho
  obtain ⟨oa, oc, e1, -⟩ := GRow.lies r1
  subst e1
  obtain ⟨ob, od, e1, -⟩ := GRow.lies r2
  subst e1
  have A3 := hide (A2.out.add2 b3 (300 + 2 * a) ⟨num, lsn, cs, gs⟩ ⟨oa, oc, ob, od⟩ r1 r2 (by have := LP.out; omega) (by omega) (by have := LQL.out; omega))
  clear r1 r2 b3 A2
  simp only at A3
  go_upto_region 2 with fail
  refine named (P := Code.wp _ _ _ _) ?_
  intro w4 hw4
  obtain ⟨W, hW⟩ : ∃ N, N = w3.heap.size := ⟨_, rfl⟩
  rw [← hW]
  have A4 := hide (A3.out.box (w' := w4) 10 (by decide) (by decide) [.int .i64 num, .int .i64 lsn, .slice oa cs.length oc, .slice ob gs.length od] W (by rw [hw4]; exact alloc_below _ _) (by omega) (by rw [hw4, hW]; exact Cells.new w3 #[.int .i64 num, .int .i64 lsn, .slice oa cs.length oc, .slice ob gs.length od] 38))
  clear hw4 hW A3
  obtain ⟨qu, hqu⟩ : ∃ z : PageM × At, z = (⟨num, lsn, cs, gs⟩, ⟨oa, oc, ob, od⟩) := ⟨_, rfl⟩
  have HQU := hide hqu
  have KW := hide (show (put (put I (300 + 2 * a) (itC qu)) (300 + 2 * a + 1) (itG qu)) (300 + 2 * a) = some (itC qu) ∧ (put (put I (300 + 2 * a) (itC qu)) (300 + 2 * a + 1) (itG qu)) (301 + 2 * a) = some (itG qu) from ⟨by rw [put_other _ _ (by omega), put_same], by rw [show 301 + 2 * a = 300 + 2 * a + 1 by omega, put_same]⟩)
  simp only [← hqu] at A4
  clear hqu
  go_wp2_with fail
  go_loopw [8] (fun v wz => ∃ (k : Nat) (lab : Nat → Nat) (I : Nat → Option It) (vB vW vP vR : Value) (bs : List (Value × List Nat)) (ws : List (List Nat)) (ps qs : List (PageM × At)) (X : List Nat), v = .int .i64 (k : Int) ∧ k ≤ 2 ∧ AS w0 B L pl pc I0 wz lab I vB vW vP vR bs ws ps qs X ((W, 10, [.int .i64 num, .int .i64 lsn, .slice oa cs.length oc, .slice ob gs.length od]) :: (Q, 9, [.int .i64 num, .int .i64 lsn, .slice ta cs.length tc, .slice tb gs.length td]) :: xs0) ∧ bs.length = 2 * a + k ∧ ws = bs.map (·.2) ∧ ps.length = 4 * a + 2 * k ∧ qs.map (·.1) = ps.map (·.1) ∧ I (300 + 2 * a) = some (itC qu) ∧ I (301 + 2 * a) = some (itG qu)) (fun v _ => 3 - (intOf v).toNat)
  case atStart => exact ⟨0, _, _, _, _, _, _, _, _, _, _, _, rfl, Nat.zero_le _, A4.out, LB.out, LW.out, LP.out, LQ.out, KW.out.1, KW.out.2⟩
  case round =>
    clear A4 KW LB LW LP LQ LQL
    clear lab I vB vW vP vR bs ws ps qs X
    obtain ⟨k, lab, I, vB, vW, vP, vR, bs, ws, ps, qs, X, rfl, hk, h, lb, lw, lp, lq, kw1, kw2⟩ := hrel
    have A0 := hide h
    have LQ := hide lq
    have LW := hide lw
    have LB := hide lb
    have LP := hide lp
    have LQL := hide (show qs.length = 4 * a + 2 * k by rw [← List.length_map (f := (·.1)), lq, List.length_map]; exact lp)
    have KW := hide (And.intro kw1 kw2)
    clear h lq lw lb lp kw1 kw2
    by_cases hlt : k < 2
    · have d1 : decide ((k : Int) < 2) = true := decide_eq_true (by omega)
      have d2 : (k : Int) < 2 := by omega
      have C2 := A0.out.got (x := (Q, 9, [.int .i64 num, .int .i64 lsn, .slice ta cs.length tc, .slice tb gs.length td])) (by simp)
      obtain ⟨g0, -⟩ := C2.get 0 _ rfl
      obtain ⟨g1, -⟩ := C2.get 1 _ rfl
      obtain ⟨g2, -⟩ := C2.get 2 _ rfl
      obtain ⟨g3, -⟩ := C2.get 3 _ rfl
      obtain ⟨l1, l2, -, -⟩ := A0.out.liesQ KC.out KG.out hkq
      have EN2 := EN wr l1 l2 (HT _ A0.out.bb)
      clear C2 l1 l2
      go_wp2_with fail
      clear g0 g1 g2 g3
      refine EN2.mono ?_
      rintro e w5 ⟨g, rfl, hg, o5, b5⟩
      clear EN2
      have A5 := hide (A0.out.add b5 (100 + bs.length) (itB (.slice (some ⟨g, 0, none⟩) 1024 1024) EB) (by unfold OwnB Owns at o5; rw [ints_length, HLE.out] at o5; exact GRow.mono o5 A0.out.bs) (fun z hz => by cases hz; exact hg) (by omega) (by have := A0.out.ct.n1; omega) (by omega) (by have := A0.out.ct.n1; omega) (by have := A0.out.ct.n1; omega))
      have G5 := hide hg
      clear o5 b5 hg
      have KW5 := hide (show (put I (100 + bs.length) (itB (.slice (some ⟨g, 0, none⟩) 1024 1024) EB)) (300 + 2 * a) = some (itC qu) ∧ (put I (100 + bs.length) (itB (.slice (some ⟨g, 0, none⟩) 1024 1024) EB)) (301 + 2 * a) = some (itG qu) ∧ (put I (100 + bs.length) (itB (.slice (some ⟨g, 0, none⟩) 1024 1024) EB)) (100 + bs.length) = some (itB (.slice (some ⟨g, 0, none⟩) 1024 1024) EB) from ⟨by rw [put_other _ _ (by have := A0.out.ct.n1; omega)]; exact KW.out.1, by rw [put_other _ _ (by have := A0.out.ct.n1; omega)]; exact KW.out.2, put_same _ _ _⟩)
      clear KW A0
      obtain ⟨lab5, hlab5⟩ : ∃ z, z = relab lab wr.heap.size (100 + bs.length) := ⟨_, rfl⟩
      obtain ⟨I5, hI5⟩ : ∃ z, z = put I (100 + bs.length) (itB (.slice (some ⟨g, 0, none⟩) 1024 1024) EB) := ⟨_, rfl⟩
      rw [← hlab5, ← hI5] at A5
      rw [← hI5] at KW5
      clear hlab5 hI5 lab I
      go_wp2_with fail
      go_loopw [11] (fun v wz => ∃ (i : Nat) (X : List Nat), v = .int .i64 (i : Int) ∧ i ≤ 1024 ∧ AS w0 B L pl pc I0 wz lab5 (put I5 1000 (itB (.slice (some ⟨pl, 0, none⟩) 1024 pc) X)) vB vW vP vR bs ws ps qs X ((W, 10, [.int .i64 num, .int .i64 lsn, .slice oa cs.length oc, .slice ob gs.length od]) :: (Q, 9, [.int .i64 num, .int .i64 lsn, .slice ta cs.length tc, .slice tb gs.length td]) :: xs0) ∧ X.take i = EB.take i) (fun v _ => 1025 - (intOf v).toNat)
      case atStart => exact ⟨0, X, rfl, Nat.zero_le _, by rw [put_self A5.out.pl]; exact A5.out, rfl⟩
      case round =>
        clear A5 X
        obtain ⟨i, X, rfl, hi, h, htk⟩ := hrel
        have A6 := hide h
        have TK := hide htk
        clear h htk
        by_cases hlt6 : i < 1024
        · have d3 : decide ((i : Int) < 1024) = true := decide_eq_true (by omega)
          have d4 : (i : Int) < 1024 := by omega
          obtain ⟨cx, cy, cz⟩ := A6.out.place.2.2 i hlt6
          obtain ⟨y, hy⟩ : ∃ y, y = EB.getD i 0 := ⟨_, rfl⟩
          have cb : wr.cell? ⟨g, i, none⟩ = some (.int .u8 (y : Int)) := by
            have k5 : (put I5 1000 (itB (.slice (some ⟨pl, 0, none⟩) 1024 pc) X)) (100 + bs.length) = some (itB (.slice (some ⟨g, 0, none⟩) 1024 1024) EB) := by rw [put_other _ _ (by have := A6.out.ct.n1; omega)]; exact KW5.out.2.2
            have g5 := (A6.out.own.at_ _ _ k5).1
            obtain ⟨b, e, -, hc⟩ := row_one (v := .int .u8 (y : Int)) (k := i) g5 (by
              have hi' : i < EB.length := by rw [HLE.out]; exact hlt6
              rw [hy]
              simp [ints, hi'])
            cases e
            exact hc
          have A7 := hide (A6.out.lay i y)
          have TK7 := hide (show (X.set i y).take (i + 1) = EB.take (i + 1) by
            have h1 : i < X.length := by rw [A6.out.lx]; exact hlt6
            have h2 : i < EB.length := by rw [HLE.out]; exact hlt6
            rw [List.take_succ_eq_append_getElem (by simpa using h1), List.take_succ_eq_append_getElem h2, List.take_set_of_le (Nat.le_refl _), TK.out, List.getElem_set_self, hy]
            simp [h2])
          clear hy A6 TK
          go_wp2_with fail
          go_roundw
          case rel => exact ⟨i + 1, X.set i y, by go_num, by omega, by rw [put_put] at A7; exact A7.out, TK7.out⟩
          case measure => simp [intOf]; omega
        · obtain rfl : i = 1024 := by omega
          have d3 : decide ((1024 : Int) < 1024) = false := by decide
          have XE : X = EB := by
            have := TK.out
            rw [List.take_of_length_le (by rw [A6.out.lx]; exact Nat.le_refl _), List.take_of_length_le (by rw [HLE.out]; exact Nat.le_refl _)] at this
            exact this
          subst XE
          clear TK
          obtain ⟨wx, hwx⟩ : ∃ x, x = wr := ⟨_, rfl⟩
          subst hwx
          have D6 := DC _ A6.out.place.2.1 (HT _ A6.out.bb) A6.out.place.1
          have C2 := A6.out.got (x := (Q, 9, [.int .i64 num, .int .i64 lsn, .slice ta cs.length tc, .slice tb gs.length td])) (by simp)
          obtain ⟨g0, -⟩ := C2.get 0 _ rfl
          clear C2
          go_wp2_with fail
          clear g0
          refine D6.mono ?_
          clear D6
          rintro e w6 ⟨v6, rfl, ho, b6⟩
          obtain ⟨v1, v2, rfl, r1, r2⟩ := ho
          obtain ⟨pa, pb, e1, -⟩ := GRow.lies r1
          subst e1
          obtain ⟨pd, pe, e1, -⟩ := GRow.lies r2
          subst e1
          have A7 := hide (A6.out.add2 b6 (200 + 2 * ps.length) ⟨num, lsn, cs, gs⟩ ⟨pa, pb, pd, pe⟩ r1 r2 (Nat.le_refl _) (by have := A6.out.ct.n2; omega) (by have := LP.out; omega))
          clear r1 r2 b6 A6
          simp only at A7
          go_upto_region 13 with fail
          refine named (P := Code.wp _ _ _ _) ?_
          intro w7 hw7
          obtain ⟨P, hP⟩ : ∃ N, N = w6.heap.size := ⟨_, rfl⟩
          rw [← hP]
          have A8 := hide (A7.out.box (w' := w7) 11 (by decide) (by decide) [.int .i64 num, .int .i64 lsn, .slice pa cs.length pb, .slice pd gs.length pe] P (by rw [hw7]; exact alloc_below _ _) (by omega) (by rw [hw7, hP]; exact Cells.new w6 #[.int .i64 num, .int .i64 lsn, .slice pa cs.length pb, .slice pd gs.length pe] 27))
          clear hw7 hP A7
          obtain ⟨lab7, I7, A9, KP7⟩ : ∃ lab7 I7, Hid (AS w0 B L pl pc I0 w7 lab7 I7 vB vW vP vR bs ws ps qs X ((P, 11, [.int .i64 num, .int .i64 lsn, .slice pa cs.length pb, .slice pd gs.length pe]) :: (W, 10, [.int .i64 num, .int .i64 lsn, .slice oa cs.length oc, .slice ob gs.length od]) :: (Q, 9, [.int .i64 num, .int .i64 lsn, .slice ta cs.length tc, .slice tb gs.length td]) :: xs0)) ∧ Hid (I7 (200 + 2 * ps.length) = some (itC (⟨num, lsn, cs, gs⟩, ⟨pa, pb, pd, pe⟩)) ∧ I7 (200 + 2 * ps.length + 1) = some (itG (⟨num, lsn, cs, gs⟩, ⟨pa, pb, pd, pe⟩)) ∧ I7 (300 + 2 * a) = some (itC qu) ∧ I7 (301 + 2 * a) = some (itG qu) ∧ I7 (100 + bs.length) = some (itB (.slice (some ⟨g, 0, none⟩) 1024 1024) X)) := by
            refine ⟨_, _, A8, hide ⟨?_, put_same _ _ _, ?_, ?_, ?_⟩⟩
            · rw [put_other _ _ (by omega), put_same]
            · rw [put_other _ _ (by have := LP.out; omega), put_other _ _ (by have := LP.out; omega), put_other _ _ (by omega)]; exact KW5.out.1
            · rw [put_other _ _ (by have := LP.out; omega), put_other _ _ (by have := LP.out; omega), put_other _ _ (by omega)]; exact KW5.out.2.1
            · rw [put_other _ _ (by have := LP.out; have := LB.out; omega), put_other _ _ (by have := LP.out; have := LB.out; omega), put_other _ _ (by have := LB.out; omega)]; exact KW5.out.2.2
          clear A8 KW5
          have C2 := A9.out.got (x := (P, 11, [.int .i64 num, .int .i64 lsn, .slice pa cs.length pb, .slice pd gs.length pe])) (by simp)
          obtain ⟨g0, -⟩ := C2.get 0 _ rfl
          obtain ⟨g1, -⟩ := C2.get 1 _ rfl
          obtain ⟨g2, -⟩ := C2.get 2 _ rfl
          obtain ⟨g3, -⟩ := C2.get 3 _ rfl
          obtain ⟨l1, l2, l3, l4⟩ := A9.out.lies KP7.out.1 KP7.out.2.1
          have CP2 := CP ⟨pa, pb, pd, pe⟩ w7 l1 l2 l3 l4
          clear C2 l1 l2 l3 l4
          go_wp2_with fail
          clear g0 g1 g2 g3
          refine CP2.mono ?_
          clear CP2
          rintro e w8 ⟨v8, rfl, ho, b8⟩
          obtain ⟨v1, v2, rfl, r1, r2⟩ := ho
          obtain ⟨ca, cb, e1, -⟩ := GRow.lies r1
          subst e1
          obtain ⟨cd, ce, e1, -⟩ := GRow.lies r2
          subst e1
          have A10 := hide (A9.out.add2 b8 (202 + 2 * ps.length) ⟨num, lsn, cs, gs⟩ ⟨ca, cb, cd, ce⟩ r1 r2 (by omega) (by have := A9.out.ct.n2; omega) (by have := LP.out; omega))
          clear r1 r2 b8 A9
          simp only at A10
          go_upto_region 14 with fail
          refine named (P := Code.wp _ _ _ _) ?_
          intro w9 hw9
          obtain ⟨Z, hZ⟩ : ∃ N, N = w8.heap.size := ⟨_, rfl⟩
          rw [← hZ]
          have A11 := hide (A10.out.box (w' := w9) 12 (by decide) (by decide) [.int .i64 num, .int .i64 lsn, .slice ca cs.length cb, .slice cd gs.length ce] Z (by rw [hw9]; exact alloc_below _ _) (by omega) (by rw [hw9, hZ]; exact Cells.new w8 #[.int .i64 num, .int .i64 lsn, .slice ca cs.length cb, .slice cd gs.length ce] 27))
          clear hw9 hZ A10
          obtain ⟨XS, hXS⟩ : ∃ z : List (Nat × Nat × List Value), z = ((Z, 12, [.int .i64 num, .int .i64 lsn, .slice ca cs.length cb, .slice cd gs.length ce]) :: (P, 11, [.int .i64 num, .int .i64 lsn, .slice pa cs.length pb, .slice pd gs.length pe]) :: (W, 10, [.int .i64 num, .int .i64 lsn, .slice oa cs.length oc, .slice ob gs.length od]) :: (Q, 9, [.int .i64 num, .int .i64 lsn, .slice ta cs.length tc, .slice tb gs.length td]) :: xs0) := ⟨_, rfl⟩
          obtain ⟨lab9, I9, A12, KP9⟩ : ∃ lab9 I9, Hid (AS w0 B L pl pc I0 w9 lab9 I9 vB vW vP vR bs ws ps qs X XS) ∧ Hid (I9 (200 + 2 * ps.length) = some (itC (⟨num, lsn, cs, gs⟩, ⟨pa, pb, pd, pe⟩)) ∧ I9 (201 + 2 * ps.length) = some (itG (⟨num, lsn, cs, gs⟩, ⟨pa, pb, pd, pe⟩)) ∧ I9 (202 + 2 * ps.length) = some (itC (⟨num, lsn, cs, gs⟩, ⟨ca, cb, cd, ce⟩)) ∧ I9 (203 + 2 * ps.length) = some (itG (⟨num, lsn, cs, gs⟩, ⟨ca, cb, cd, ce⟩)) ∧ I9 (300 + 2 * a) = some (itC qu) ∧ I9 (301 + 2 * a) = some (itG qu) ∧ I9 (100 + bs.length) = some (itB (.slice (some ⟨g, 0, none⟩) 1024 1024) X)) := by
            refine ⟨_, _, by rw [hXS]; exact A11, hide ⟨?_, ?_, ?_, ?_, ?_, ?_, ?_⟩⟩
            · rw [put_other _ _ (by omega), put_other _ _ (by omega)]; exact KP7.out.1
            · rw [put_other _ _ (by omega), put_other _ _ (by omega), show 201 + 2 * ps.length = 200 + 2 * ps.length + 1 by omega]; exact KP7.out.2.1
            · rw [put_other _ _ (by omega), put_same]
            · rw [show 203 + 2 * ps.length = 202 + 2 * ps.length + 1 by omega, put_same]
            · rw [put_other _ _ (by have := LP.out; omega), put_other _ _ (by have := LP.out; omega)]; exact KP7.out.2.2.1
            · rw [put_other _ _ (by have := LP.out; omega), put_other _ _ (by have := LP.out; omega)]; exact KP7.out.2.2.2.1
            · rw [put_other _ _ (by have := LP.out; have := LB.out; omega), put_other _ _ (by have := LP.out; have := LB.out; omega)]; exact KP7.out.2.2.2.2
          clear A11 KP7
          have BX := hide (show (P, 11, [.int .i64 num, .int .i64 lsn, .slice pa cs.length pb, .slice pd gs.length pe]) ∈ XS ∧ (Z, 12, [.int .i64 num, .int .i64 lsn, .slice ca cs.length cb, .slice cd gs.length ce]) ∈ XS ∧ (W, 10, [.int .i64 num, .int .i64 lsn, .slice oa cs.length oc, .slice ob gs.length od]) ∈ XS by rw [hXS]; simp)
          have HXS := hide hXS
          clear hXS
          have LI := hide (And.intro (A12.out.lies KP9.out.1 (by rw [show 200 + 2 * ps.length + 1 = 201 + 2 * ps.length by omega]; exact KP9.out.2.1)) (And.intro (A12.out.lies KP9.out.2.2.1 (by rw [show 202 + 2 * ps.length + 1 = 203 + 2 * ps.length by omega]; exact KP9.out.2.2.2.1)) (And.intro (A12.out.lies (q := ⟨num, lsn, cs, gs⟩) (t := ⟨oa, oc, ob, od⟩) (by rw [← HQU.out]; exact KP9.out.2.2.2.2.1) (by rw [← HQU.out, show 300 + 2 * a + 1 = 301 + 2 * a by omega]; exact KP9.out.2.2.2.2.2.1)) trivial)))
          refine wp_region_held_drew (S := fun wq => Below w9.heap.size w9 wq) (by kernel_rfl) (Below.refl _ _).drew (fun hS => ?_)
          refine take_at 0 (some 57) (v := ?_) rfl rfl (by kernel_rfl) (by kernel_rfl) (by kernel_rfl) (fun _ _ _ h => h) ⟨by rfl, ?_⟩ hS ?_
          rotate_left
          · intro wq hSw; go_simp; try rfl
          simp only [Act.put, List.setIfInBounds_toArray, List.set_cons_zero, List.set_cons_succ]
          refine take_at 1 (some 58) (v := ?_) rfl rfl (by kernel_rfl) (by kernel_rfl) (by kernel_rfl) (fun _ _ _ h => h) ⟨by rfl, ?_⟩ hS ?_
          rotate_left
          · intro wq hSw; go_simp; try rfl
          simp only [Act.put, List.setIfInBounds_toArray, List.set_cons_zero, List.set_cons_succ]
          refine take_at 2 (some 59) (v := ?_) rfl rfl (by kernel_rfl) (by kernel_rfl) (by kernel_rfl) (fun _ _ _ h => h) ⟨by rfl, ?_⟩ hS ?_
          rotate_left
          · intro wq hSw; go_simp; try rfl
          simp only [Act.put, List.setIfInBounds_toArray, List.set_cons_zero, List.set_cons_succ]
          refine take_at 3 (some 60) (v := ?_) rfl rfl (by kernel_rfl) (by kernel_rfl) (by kernel_rfl) (fun _ _ _ h => h) ⟨by rfl, ?_⟩ hS ?_
          rotate_left
          · intro wq hSw; have ab := A12.out.below hSw; have cc := ab.got BX.out.1; obtain ⟨y0, -⟩ := cc.get 0 _ rfl; obtain ⟨y1, -⟩ := cc.get 1 _ rfl; obtain ⟨y2, -⟩ := cc.get 2 _ rfl; obtain ⟨y3, -⟩ := cc.get 3 _ rfl; clear ab cc; go_simp; try rfl
          simp only [Act.put, List.setIfInBounds_toArray, List.set_cons_zero, List.set_cons_succ]
          refine take_at 5 (some 62) (v := ?_) rfl rfl (by kernel_rfl) (by kernel_rfl) (by kernel_rfl) (fun _ _ _ h => h) ⟨by rfl, ?_⟩ hS ?_
          rotate_left
          · intro wq hSw; have ab := A12.out.below hSw; have cc := ab.got BX.out.2.2; obtain ⟨y0, -⟩ := cc.get 0 _ rfl; obtain ⟨y1, -⟩ := cc.get 1 _ rfl; obtain ⟨y2, -⟩ := cc.get 2 _ rfl; obtain ⟨y3, -⟩ := cc.get 3 _ rfl; clear ab cc; go_simp; try rfl
          simp only [Act.put, List.setIfInBounds_toArray, List.set_cons_zero, List.set_cons_succ]
          refine wpAnyH_ready (rs := [4]) (by kernel_rfl) (by simp) ?_
          refine AllReadyH.cons rfl (fun K hK => ?_) AllReadyH.nil
          go_simp
          go_wp2_with fail
          refine (BK ⟨pa, pb, pd, pe⟩ _).mono ?_
          rintro e x1 ⟨rfl, hh⟩
          go_wp2_with fail
          refine hK.out _ _ (hS.trans (hh.mono hS.size)) (fun hS => ?_)
          clear hK K
          clear hh
          (try simp only [Act.put, List.setIfInBounds_toArray, List.set_cons_zero, List.set_cons_succ])
          refine wpAnyH_ready (rs := [6]) (by kernel_rfl) (by simp) ?_
          refine AllReadyH.cons rfl (fun K hK => ?_) AllReadyH.nil
          go_simp
          go_wp2_with fail
          refine (SM ⟨pa, pb, pd, pe⟩ ⟨oa, oc, ob, od⟩ _ (LI.out.1.1.below hS) (LI.out.1.2.1.below hS) (LI.out.2.2.1.1.below hS) (LI.out.2.2.1.2.1.below hS)).mono ?_
          rintro e x2 ⟨rfl, hh⟩
          go_wp2_with fail
          refine hK.out _ _ (hS.trans (hh.mono hS.size)) (fun hS => ?_)
          clear hK K
          clear hh
          (try simp only [Act.put, List.setIfInBounds_toArray, List.set_cons_zero, List.set_cons_succ])
          refine take_at 7 (some 64) (v := ?_) rfl rfl (by kernel_rfl) (by kernel_rfl) (by kernel_rfl) (fun _ _ _ h => h) ⟨by rfl, ?_⟩ hS ?_
          rotate_left
          · intro wq hSw; go_simp; try rfl
          simp only [Act.put, List.setIfInBounds_toArray, List.set_cons_zero, List.set_cons_succ]
          refine take_at 8 (some 65) (v := ?_) rfl rfl (by kernel_rfl) (by kernel_rfl) (by kernel_rfl) (fun _ _ _ h => h) ⟨by rfl, ?_⟩ hS ?_
          rotate_left
          · intro wq hSw; go_simp; try rfl
          simp only [Act.put, List.setIfInBounds_toArray, List.set_cons_zero, List.set_cons_succ]
          refine take_at 9 (some 66) (v := ?_) rfl rfl (by kernel_rfl) (by kernel_rfl) (by kernel_rfl) (fun _ _ _ h => h) ⟨by rfl, ?_⟩ hS ?_
          rotate_left
          · intro wq hSw; go_simp; try rfl
          simp only [Act.put, List.setIfInBounds_toArray, List.set_cons_zero, List.set_cons_succ]
          refine take_at 10 (some 67) (v := ?_) rfl rfl (by kernel_rfl) (by kernel_rfl) (by kernel_rfl) (fun _ _ _ h => h) ⟨by rfl, ?_⟩ hS ?_
          rotate_left
          · intro wq hSw; have ab := A12.out.below hSw; have cc := ab.got BX.out.2.1; obtain ⟨y0, -⟩ := cc.get 0 _ rfl; obtain ⟨y1, -⟩ := cc.get 1 _ rfl; obtain ⟨y2, -⟩ := cc.get 2 _ rfl; obtain ⟨y3, -⟩ := cc.get 3 _ rfl; clear ab cc; go_simp; try rfl
          simp only [Act.put, List.setIfInBounds_toArray, List.set_cons_zero, List.set_cons_succ]
          refine take_at 12 (some 69) (v := ?_) rfl rfl (by kernel_rfl) (by kernel_rfl) (by kernel_rfl) (fun _ _ _ h => h) ⟨by rfl, ?_⟩ hS ?_
          rotate_left
          · intro wq hSw; have ab := A12.out.below hSw; have cc := ab.got BX.out.2.2; obtain ⟨y0, -⟩ := cc.get 0 _ rfl; obtain ⟨y1, -⟩ := cc.get 1 _ rfl; obtain ⟨y2, -⟩ := cc.get 2 _ rfl; obtain ⟨y3, -⟩ := cc.get 3 _ rfl; clear ab cc; go_simp; try rfl
          simp only [Act.put, List.setIfInBounds_toArray, List.set_cons_zero, List.set_cons_succ]
          refine wpAnyH_ready (rs := [11]) (by kernel_rfl) (by simp) ?_
          refine AllReadyH.cons rfl (fun K hK => ?_) AllReadyH.nil
          go_simp
          go_wp2_with fail
          refine (BK ⟨ca, cb, cd, ce⟩ _).mono ?_
          rintro e x3 ⟨rfl, hh⟩
          go_wp2_with fail
          refine hK.out _ _ (hS.trans (hh.mono hS.size)) (fun hS => ?_)
          clear hK K
          clear hh
          (try simp only [Act.put, List.setIfInBounds_toArray, List.set_cons_zero, List.set_cons_succ])
          refine wpAnyH_ready (rs := [13]) (by kernel_rfl) (by simp) ?_
          refine AllReadyH.cons rfl (fun K hK => ?_) AllReadyH.nil
          go_simp
          go_wp2_with fail
          refine (SM ⟨ca, cb, cd, ce⟩ ⟨oa, oc, ob, od⟩ _ (LI.out.2.1.1.below hS) (LI.out.2.1.2.1.below hS) (LI.out.2.2.1.1.below hS) (LI.out.2.2.1.2.1.below hS)).mono ?_
          rintro e x4 ⟨rfl, hh⟩
          go_wp2_with fail
          refine hK.out _ _ (hS.trans (hh.mono hS.size)) (fun hS => ?_)
          clear hK K
          clear hh
          (try simp only [Act.put, List.setIfInBounds_toArray, List.set_cons_zero, List.set_cons_succ])
          refine take_at 14 (some 71) (v := ?_) rfl rfl (by kernel_rfl) (by kernel_rfl) (by kernel_rfl) (fun _ _ _ h => h) ⟨by rfl, ?_⟩ hS ?_
          rotate_left
          · intro wq hSw; go_simp; try rfl
          simp only [Act.put, List.setIfInBounds_toArray, List.set_cons_zero, List.set_cons_succ]
          refine take_at 15 (some 72) (v := ?_) rfl rfl (by kernel_rfl) (by kernel_rfl) (by kernel_rfl) (fun _ _ _ h => h) ⟨by rfl, ?_⟩ hS ?_
          rotate_left
          · intro wq hSw; go_simp; try rfl
          simp only [Act.put, List.setIfInBounds_toArray, List.set_cons_zero, List.set_cons_succ]
          have A13 := hide (A12.out.below hS)
          clear hS LI A12
          refine wpAnyH_done (by kernel_rfl) ?_ _
          obtain ⟨w10, hw10⟩ : ∃ z : World, z = x4 := ⟨_, rfl⟩
          subst hw10
          obtain ⟨aB, cB, eB, -⟩ := GRow.lies (A13.out.own.at_ _ _ A13.out.ct.rB).1
          have eB : vB = .slice aB bs.length cB := eB
          subst eB
          obtain ⟨aW, cW, eW, -⟩ := GRow.lies (A13.out.own.at_ _ _ A13.out.ct.rW).1
          have eW : vW = .slice aW ws.length cW := eW
          subst eW
          obtain ⟨aP, cP, eP, -⟩ := GRow.lies (A13.out.own.at_ _ _ A13.out.ct.rP).1
          have eP : vP = .slice aP ps.length cP := eP
          subst eP
          obtain ⟨aR, cR, eR, -⟩ := GRow.lies (A13.out.own.at_ _ _ A13.out.ct.rR).1
          have eR : vR = .slice aR qs.length cR := eR
          subst eR
          have LWL := hide (show ws.length = 2 * a + k by rw [LW.out, List.length_map]; exact LB.out)
          have AL0 := hide (A13.out.below (alloc_below w10 (.cells #[.slice (some ⟨g, 0, none⟩) 1024 1024] 22)))
          obtain ⟨v0, x0, hrun0, ⟨a0, c0, e0⟩, hbx0, hrow0, hcl0, hsz0, hne0, hnb0, hfin0⟩ := AS.push (ty := 47) Tryd.underlying47 info22 rfl (by decide) (by decide) AL0.out 0 (by decide) AL0.out.ct.rB ⟨w10.heap.size, 0, none⟩ 1 1 [.slice (some ⟨g, 0, none⟩) 1024 1024] rfl (lies_cells w10 #[.slice (some ⟨g, 0, none⟩) 1024 1024] 22) (by simp [Value.oneCell']) (by have := AL0.out.ct.n1; have := AL0.out.ct.n2; have := AL0.out.ct.n3; have := LB.out; have := LP.out; have := LQL.out; (try have := LWL.out); omega)
          have HR0 := hide hrun0
          have HX0 := hide hbx0
          subst e0
          have A14 := hide (hfin0 _ _ _ _ _ _ _ _ rfl (AL0.out.ct.pushB KP9.out.2.2.2.2.2.2 AL0.out.lx (by have := LB.out; omega)))
          obtain ⟨k0, -⟩ := A13.out.bx.cells.get 0 _ rfl
          obtain ⟨k1, -⟩ := AL0.out.bx.cells.get 0 _ rfl
          obtain ⟨k2, k3⟩ := HX0.out.cells.get 0 _ rfl
          clear hrun0 hbx0 hrow0 hcl0 hne0 hnb0 hfin0
          go_upto_region 17 with (at_builtin; refine wpList_run rfl (.tmp 77) (.tmp 79) rfl rfl rfl HR0.out ?_)
          clear k0 k1 k2 k3 HR0 HX0 AL0
          obtain ⟨SL, hSL⟩ : ∃ z, z = strOf X := ⟨_, rfl⟩
          have HSL := hide hSL
          clear hSL
          have CV := hide (show ∀ (wz : World), GRow wz B 5 1 (.slice (some ⟨g, 0, none⟩) 1024 1024) 1024 ((ints X).map (Value.int .u8)) → (convert 22 9 (.slice (some ⟨g, 0, none⟩) 1024 1024)).run Tryd.prog wz = .ok (.string SL) wz from fun wz hz => by
            have ob : OwnB wz B (.slice (some ⟨g, 0, none⟩) 1024 1024) X := by unfold OwnB Owns; rw [ints_length, HLE.out]; exact hz
            have cv := conv_any (some ⟨g, 0, none⟩) X 1024 wz (Owns.seen_at ob)
            rw [HLE.out, ← HSL.out] at cv
            exact cv)
          have KB := hide (KP9.out.2.2.2.2.2.2)
          obtain ⟨w11, hw11⟩ : ∃ z : World, z = (x0.setCell ⟨L, 0, none⟩ (.slice a0 (bs.length + 1) c0)) := ⟨_, rfl⟩
          rw [← hw11] at A14 ⊢
          clear hw11
          go_upto_region 17 with fail
          have AD1 := hide A14.out.drew
          have AL1 := hide (AD1.out.below (alloc_below w11.drew (.cells #[.string SL] 9)))
          obtain ⟨v1, x1, hrun1, ⟨a1, c1, e1⟩, hbx1, hrow1, hcl1, hsz1, hne1, hnb1, hfin1⟩ := AS.push (ty := 48) Tryd.underlying48 info9 rfl (by decide) (by decide) AL1.out 1 (by decide) AL1.out.ct.rW ⟨w11.drew.heap.size, 0, none⟩ 1 1 [.string SL] rfl (lies_cells w11.drew #[.string SL] 9) (by simp [Value.oneCell']) (by have := AL1.out.ct.n1; have := AL1.out.ct.n2; have := AL1.out.ct.n3; have := LB.out; have := LP.out; have := LQL.out; (try have := LWL.out); omega)
          have HR1 := hide hrun1
          have HX1 := hide hbx1
          subst e1
          have A15 := hide (hfin1 _ _ _ _ _ _ _ _ rfl (by have q := AL1.out.ct.pushW (v' := .slice a1 (ws.length + 1) c1) X; rw [← HSL.out] at q; exact q))
          obtain ⟨k0, -⟩ := AD1.out.bx.cells.get 1 _ rfl
          obtain ⟨k1, -⟩ := AL1.out.bx.cells.get 1 _ rfl
          obtain ⟨k2, k3⟩ := HX1.out.cells.get 1 _ rfl
          have SX1 := hide (show ((fun wq : World => (convert 22 9 (.slice (some ⟨g, 0, none⟩) 1024 1024)).run Tryd.prog wq = .ok (.string SL) wq) w11.drew) ∧ ((fun wq : World => (convert 22 9 (.slice (some ⟨g, 0, none⟩) 1024 1024)).run Tryd.prog wq = .ok (.string SL) wq) (w11.drew.alloc (.cells #[.string SL] 9))) ∧ ((fun wq : World => (convert 22 9 (.slice (some ⟨g, 0, none⟩) 1024 1024)).run Tryd.prog wq = .ok (.string SL) wq) x1) ∧ ((fun wq : World => (convert 22 9 (.slice (some ⟨g, 0, none⟩) 1024 1024)).run Tryd.prog wq = .ok (.string SL) wq) (x1.setCell ⟨L, 1, none⟩ (.slice a1 (_ + 1) c1))) from ⟨CV.out _ (AD1.out.own.at_ (100 + bs.length) _ (by simp only [put_other _ _ (show 100 + bs.length ≠ 1 by omega), put_other _ _ (show 100 + bs.length ≠ 2 by omega)]; exact KB.out)).1, CV.out _ (AL1.out.own.at_ (100 + bs.length) _ (by simp only [put_other _ _ (show 100 + bs.length ≠ 1 by omega), put_other _ _ (show 100 + bs.length ≠ 2 by omega)]; exact KB.out)).1, CV.out _ (hrow1 (100 + bs.length) _ (by omega) (by rw [put_other _ _ (by omega)]; exact KB.out)), CV.out _ (A15.out.own.at_ (100 + bs.length) _ (by simp only [put_other _ _ (show 100 + bs.length ≠ 1 by omega), put_other _ _ (show 100 + bs.length ≠ 2 by omega)]; exact KB.out)).1⟩)
          have KX := hide (And.intro k0 (And.intro k1 (And.intro k2 k3)))
          clear k0 k1 k2 k3
          clear hrun1 hbx1 hrow1 hcl1 hne1 hnb1 hfin1 hsz1
          (try simp only [Act.put])
          go_cut [91] (fun _ w' => w' = (x1.setCell ⟨L, 1, none⟩ (.slice a1 (ws.length + 1) c1)))
          case first =>
            refine wp_region_held_drew (S := fun wq : World => (convert 22 9 (.slice (some ⟨g, 0, none⟩) 1024 1024)).run Tryd.prog wq = .ok (.string SL) wq) (by kernel_rfl) SX1.out.1 (fun hS => ?_)
            generalize w11.drew = we at *
            refine take_at 0 (some 83) (v := ?_) rfl rfl (by kernel_rfl) (by kernel_rfl) (by kernel_rfl) (fun _ _ _ h => h) ⟨by rfl, ?_⟩ hS ?_
            rotate_left
            · intro wq hSw; go_simp; try rfl
            simp only [Act.put, List.setIfInBounds_toArray, List.set_cons_zero, List.set_cons_succ]
            refine take_at 1 (some 84) (v := ?_) rfl rfl (by kernel_rfl) (by kernel_rfl) (by kernel_rfl) (fun _ _ _ h => h) ⟨by rfl, ?_⟩ hS ?_
            rotate_left
            · intro wq hSw; go_simp; try rfl
            simp only [Act.put, List.setIfInBounds_toArray, List.set_cons_zero, List.set_cons_succ]
            refine take_at 2 (some 85) (v := ?_) rfl rfl (by kernel_rfl) (by kernel_rfl) (by kernel_rfl) (fun _ _ _ h => h) ⟨by rfl, ?_⟩ hS ?_
            rotate_left
            · intro wq hSw; go_simp; try rfl
            simp only [Act.put, List.setIfInBounds_toArray, List.set_cons_zero, List.set_cons_succ]
            refine take_at 3 (some 86) (v := ?_) rfl rfl (by kernel_rfl) (by kernel_rfl) (by kernel_rfl) (fun _ _ _ h => h) ⟨by rfl, ?_⟩ hS ?_
            rotate_left
            · intro wq hSw; go_simp; try rfl
            simp only [Act.put, List.setIfInBounds_toArray, List.set_cons_zero, List.set_cons_succ]
            refine take_at 5 (some 88) (v := ?_) rfl rfl (by kernel_rfl) (by kernel_rfl) (by kernel_rfl) (fun _ _ _ h => h) ⟨by rfl, ?_⟩ hS ?_
            rotate_left
            · intro wq hSw; go_simp; try rfl
            simp only [Act.put, List.setIfInBounds_toArray, List.set_cons_zero, List.set_cons_succ]
            refine take_at 6 (some 89) (v := ?_) rfl rfl (by kernel_rfl) (by kernel_rfl) (by kernel_rfl) (fun _ _ _ h => h) ⟨by rfl, ?_⟩ hS ?_
            rotate_left
            · intro wq hSw; have cvq := hSw; go_simp; try rfl
            simp only [Act.put, List.setIfInBounds_toArray, List.set_cons_zero, List.set_cons_succ]
            refine wpAnyH_ready (rs := [4, 7]) (by kernel_rfl) (by simp) ?_
            refine AllReadyH.cons rfl (fun K hK => ?_) (AllReadyH.cons rfl (fun K hK => ?_) AllReadyH.nil)
            · have cl := KX.out.1
              go_simp
              go_wp2_with fail
              refine hK.out _ _ SX1.out.1 (fun hS => ?_)
              clear hK K
              (try simp only [Act.put, List.setIfInBounds_toArray, List.set_cons_zero, List.set_cons_succ])
              clear cl
              refine wpAnyH_ready (rs := [7]) (by kernel_rfl) (by simp) ?_
              refine AllReadyH.cons rfl (fun K hK => ?_) AllReadyH.nil
              go_simp
              (try go_wp2_with fail)
              refine hK.out _ _ SX1.out.2.1 (fun hS => ?_)
              clear hK K
              (try simp only [Act.put, List.setIfInBounds_toArray, List.set_cons_zero, List.set_cons_succ])
              refine wpAnyH_ready (rs := [8]) (by kernel_rfl) (by simp) ?_
              refine AllReadyH.cons rfl (fun K hK => ?_) AllReadyH.nil
              refine wp_run 91 (.tmp 87) (.tmp 90) rfl rfl rfl rfl rfl HR1.out ?_
              refine hK.out _ _ SX1.out.2.2.1 (fun hS => ?_)
              clear hK K
              (try simp only [Act.put, List.setIfInBounds_toArray, List.set_cons_zero, List.set_cons_succ])
              refine take_at 9 (some 92) (v := ?_) rfl rfl (by kernel_rfl) (by kernel_rfl) (by kernel_rfl) (fun _ _ _ h => h) ⟨by rfl, ?_⟩ hS ?_
              rotate_left
              · intro wq hSw; go_simp; try rfl
              simp only [Act.put, List.setIfInBounds_toArray, List.set_cons_zero, List.set_cons_succ]
              refine take_at 10 (some 93) (v := ?_) rfl rfl (by kernel_rfl) (by kernel_rfl) (by kernel_rfl) (fun _ _ _ h => h) ⟨by rfl, ?_⟩ hS ?_
              rotate_left
              · intro wq hSw; go_simp; try rfl
              simp only [Act.put, List.setIfInBounds_toArray, List.set_cons_zero, List.set_cons_succ]
              refine wpAnyH_ready (rs := [11]) (by kernel_rfl) (by simp) ?_
              refine AllReadyH.cons rfl (fun K hK => ?_) AllReadyH.nil
              have k2 := KX.out.2.2.1
              have k3 := KX.out.2.2.2
              go_simp
              (try go_wp2_with fail)
              refine hK.out _ _ SX1.out.2.2.2 (fun hS => ?_)
              clear hK K
              (try simp only [Act.put, List.setIfInBounds_toArray, List.set_cons_zero, List.set_cons_succ])
              refine wpAnyH_done (by kernel_rfl) ?_ _
              go_wp2_with fail
              go_meet
              rfl
            · go_simp
              (try go_wp2_with fail)
              refine hK.out _ _ SX1.out.2.1 (fun hS => ?_)
              clear hK K
              (try simp only [Act.put, List.setIfInBounds_toArray, List.set_cons_zero, List.set_cons_succ])
              refine wpAnyH_ready (rs := [4]) (by kernel_rfl) (by simp) ?_
              refine AllReadyH.cons rfl (fun K hK => ?_) AllReadyH.nil
              have cl := KX.out.2.1
              go_simp
              go_wp2_with fail
              refine hK.out _ _ SX1.out.2.1 (fun hS => ?_)
              clear hK K
              (try simp only [Act.put, List.setIfInBounds_toArray, List.set_cons_zero, List.set_cons_succ])
              clear cl
              refine wpAnyH_ready (rs := [8]) (by kernel_rfl) (by simp) ?_
              refine AllReadyH.cons rfl (fun K hK => ?_) AllReadyH.nil
              refine wp_run 91 (.tmp 87) (.tmp 90) rfl rfl rfl rfl rfl HR1.out ?_
              refine hK.out _ _ SX1.out.2.2.1 (fun hS => ?_)
              clear hK K
              (try simp only [Act.put, List.setIfInBounds_toArray, List.set_cons_zero, List.set_cons_succ])
              refine take_at 9 (some 92) (v := ?_) rfl rfl (by kernel_rfl) (by kernel_rfl) (by kernel_rfl) (fun _ _ _ h => h) ⟨by rfl, ?_⟩ hS ?_
              rotate_left
              · intro wq hSw; go_simp; try rfl
              simp only [Act.put, List.setIfInBounds_toArray, List.set_cons_zero, List.set_cons_succ]
              refine take_at 10 (some 93) (v := ?_) rfl rfl (by kernel_rfl) (by kernel_rfl) (by kernel_rfl) (fun _ _ _ h => h) ⟨by rfl, ?_⟩ hS ?_
              rotate_left
              · intro wq hSw; go_simp; try rfl
              simp only [Act.put, List.setIfInBounds_toArray, List.set_cons_zero, List.set_cons_succ]
              refine wpAnyH_ready (rs := [11]) (by kernel_rfl) (by simp) ?_
              refine AllReadyH.cons rfl (fun K hK => ?_) AllReadyH.nil
              have k2 := KX.out.2.2.1
              have k3 := KX.out.2.2.2
              go_simp
              (try go_wp2_with fail)
              refine hK.out _ _ SX1.out.2.2.2 (fun hS => ?_)
              clear hK K
              (try simp only [Act.put, List.setIfInBounds_toArray, List.set_cons_zero, List.set_cons_succ])
              refine wpAnyH_done (by kernel_rfl) ?_ _
              go_wp2_with fail
              go_meet
              rfl
          case rest =>
            obtain ⟨w12, hw12⟩ : ∃ z : World, z = (x1.setCell ⟨L, 1, none⟩ (.slice a1 (ws.length + 1) c1)) := ⟨_, rfl⟩
            rw [← hw12] at A15 hcut
            clear hw12 SX1 KX HR1 HX1 AL1 AD1 A14
            obtain rfl : w12 = wc := hcut.symm
            clear hcut
            go_upto_region 18 with fail
            have AD2 := hide A15.out.drew
            have AL2 := hide (AD2.out.below (alloc_below w12.drew (.cells #[.int .i64 num, .int .i64 lsn, .slice pa cs.length pb, .slice pd gs.length pe, .int .i64 num, .int .i64 lsn, .slice ca cs.length cb, .slice cd gs.length ce] 27)))
            obtain ⟨v2, x2, hrun2, ⟨a2, c2, e2⟩, hbx2, hrow2, hcl2, hsz2, hne2, hnb2, hfin2⟩ := AS.push (ty := 49) Tryd.underlying49 info27 rfl (by decide) (by decide) AL2.out 2 (by decide) AL2.out.ct.rP ⟨w12.drew.heap.size, 0, none⟩ 2 2 [.int .i64 num, .int .i64 lsn, .slice pa cs.length pb, .slice pd gs.length pe, .int .i64 num, .int .i64 lsn, .slice ca cs.length cb, .slice cd gs.length ce] rfl (lies_cells w12.drew #[.int .i64 num, .int .i64 lsn, .slice pa cs.length pb, .slice pd gs.length pe, .int .i64 num, .int .i64 lsn, .slice ca cs.length cb, .slice cd gs.length ce] 27) (by simp [Value.oneCell']) (by have := AL2.out.ct.n1; have := AL2.out.ct.n2; have := AL2.out.ct.n3; have := LB.out; have := LP.out; have := LQL.out; (try have := LWL.out); omega)
            have HR2 := hide hrun2
            have HX2 := hide hbx2
            subst e2
            have A16 := hide (hfin2 _ _ _ _ _ _ _ _ rfl (AL2.out.ct.pushP (⟨num, lsn, cs, gs⟩, ⟨pa, pb, pd, pe⟩) (⟨num, lsn, cs, gs⟩, ⟨ca, cb, cd, ce⟩) (by have := LP.out; omega) (by simp only [put_other _ _ (show 200 + 2 * ps.length ≠ 1 by omega), put_other _ _ (show 200 + 2 * ps.length ≠ 2 by omega), put_other _ _ (show 200 + 2 * ps.length ≠ 3 by omega)]; exact KP9.out.1) (by simp only [put_other _ _ (show 201 + 2 * ps.length ≠ 1 by omega), put_other _ _ (show 201 + 2 * ps.length ≠ 2 by omega), put_other _ _ (show 201 + 2 * ps.length ≠ 3 by omega)]; exact KP9.out.2.1) (by simp only [put_other _ _ (show 202 + 2 * ps.length ≠ 1 by omega), put_other _ _ (show 202 + 2 * ps.length ≠ 2 by omega), put_other _ _ (show 202 + 2 * ps.length ≠ 3 by omega)]; exact KP9.out.2.2.1) (by simp only [put_other _ _ (show 203 + 2 * ps.length ≠ 1 by omega), put_other _ _ (show 203 + 2 * ps.length ≠ 2 by omega), put_other _ _ (show 203 + 2 * ps.length ≠ 3 by omega)]; exact KP9.out.2.2.2.1) ⟨hl1, hl2⟩ ⟨hl1, hl2⟩))
            obtain ⟨k0, -⟩ := AD2.out.bx.cells.get 2 _ rfl
            obtain ⟨k1, -⟩ := AL2.out.bx.cells.get 2 _ rfl
            obtain ⟨k2, k3⟩ := HX2.out.cells.get 2 _ rfl
            have SX2 := hide (show ((fun wq : World => (fun wq : World => wq.cell? ⟨P, 0, none⟩ = some (.int .i64 num) ∧ wq.cell? ⟨P, 1, none⟩ = some (.int .i64 lsn) ∧ wq.cell? ⟨P, 2, none⟩ = some (.slice pa cs.length pb) ∧ wq.cell? ⟨P, 3, none⟩ = some (.slice pd gs.length pe)) wq ∧ (fun wq : World => wq.cell? ⟨Z, 0, none⟩ = some (.int .i64 num) ∧ wq.cell? ⟨Z, 1, none⟩ = some (.int .i64 lsn) ∧ wq.cell? ⟨Z, 2, none⟩ = some (.slice ca cs.length cb) ∧ wq.cell? ⟨Z, 3, none⟩ = some (.slice cd gs.length ce)) wq) w12.drew) ∧ ((fun wq : World => (fun wq : World => wq.cell? ⟨P, 0, none⟩ = some (.int .i64 num) ∧ wq.cell? ⟨P, 1, none⟩ = some (.int .i64 lsn) ∧ wq.cell? ⟨P, 2, none⟩ = some (.slice pa cs.length pb) ∧ wq.cell? ⟨P, 3, none⟩ = some (.slice pd gs.length pe)) wq ∧ (fun wq : World => wq.cell? ⟨Z, 0, none⟩ = some (.int .i64 num) ∧ wq.cell? ⟨Z, 1, none⟩ = some (.int .i64 lsn) ∧ wq.cell? ⟨Z, 2, none⟩ = some (.slice ca cs.length cb) ∧ wq.cell? ⟨Z, 3, none⟩ = some (.slice cd gs.length ce)) wq) (w12.drew.alloc (.cells #[.int .i64 num, .int .i64 lsn, .slice pa cs.length pb, .slice pd gs.length pe, .int .i64 num, .int .i64 lsn, .slice ca cs.length cb, .slice cd gs.length ce] 27))) ∧ ((fun wq : World => (fun wq : World => wq.cell? ⟨P, 0, none⟩ = some (.int .i64 num) ∧ wq.cell? ⟨P, 1, none⟩ = some (.int .i64 lsn) ∧ wq.cell? ⟨P, 2, none⟩ = some (.slice pa cs.length pb) ∧ wq.cell? ⟨P, 3, none⟩ = some (.slice pd gs.length pe)) wq ∧ (fun wq : World => wq.cell? ⟨Z, 0, none⟩ = some (.int .i64 num) ∧ wq.cell? ⟨Z, 1, none⟩ = some (.int .i64 lsn) ∧ wq.cell? ⟨Z, 2, none⟩ = some (.slice ca cs.length cb) ∧ wq.cell? ⟨Z, 3, none⟩ = some (.slice cd gs.length ce)) wq) x2) ∧ ((fun wq : World => (fun wq : World => wq.cell? ⟨P, 0, none⟩ = some (.int .i64 num) ∧ wq.cell? ⟨P, 1, none⟩ = some (.int .i64 lsn) ∧ wq.cell? ⟨P, 2, none⟩ = some (.slice pa cs.length pb) ∧ wq.cell? ⟨P, 3, none⟩ = some (.slice pd gs.length pe)) wq ∧ (fun wq : World => wq.cell? ⟨Z, 0, none⟩ = some (.int .i64 num) ∧ wq.cell? ⟨Z, 1, none⟩ = some (.int .i64 lsn) ∧ wq.cell? ⟨Z, 2, none⟩ = some (.slice ca cs.length cb) ∧ wq.cell? ⟨Z, 3, none⟩ = some (.slice cd gs.length ce)) wq) (x2.setCell ⟨L, 2, none⟩ (.slice a2 (_ + 2) c2))) from ⟨⟨⟨((AD2.out.got BX.out.1).get 0 _ rfl).1, ((AD2.out.got BX.out.1).get 1 _ rfl).1, ((AD2.out.got BX.out.1).get 2 _ rfl).1, ((AD2.out.got BX.out.1).get 3 _ rfl).1⟩, ⟨((AD2.out.got BX.out.2.1).get 0 _ rfl).1, ((AD2.out.got BX.out.2.1).get 1 _ rfl).1, ((AD2.out.got BX.out.2.1).get 2 _ rfl).1, ((AD2.out.got BX.out.2.1).get 3 _ rfl).1⟩⟩, ⟨⟨((AL2.out.got BX.out.1).get 0 _ rfl).1, ((AL2.out.got BX.out.1).get 1 _ rfl).1, ((AL2.out.got BX.out.1).get 2 _ rfl).1, ((AL2.out.got BX.out.1).get 3 _ rfl).1⟩, ⟨((AL2.out.got BX.out.2.1).get 0 _ rfl).1, ((AL2.out.got BX.out.2.1).get 1 _ rfl).1, ((AL2.out.got BX.out.2.1).get 2 _ rfl).1, ((AL2.out.got BX.out.2.1).get 3 _ rfl).1⟩⟩, ⟨⟨((hcl2 _ BX.out.1).get 0 _ rfl).1, ((hcl2 _ BX.out.1).get 1 _ rfl).1, ((hcl2 _ BX.out.1).get 2 _ rfl).1, ((hcl2 _ BX.out.1).get 3 _ rfl).1⟩, ⟨((hcl2 _ BX.out.2.1).get 0 _ rfl).1, ((hcl2 _ BX.out.2.1).get 1 _ rfl).1, ((hcl2 _ BX.out.2.1).get 2 _ rfl).1, ((hcl2 _ BX.out.2.1).get 3 _ rfl).1⟩⟩, ⟨⟨((A16.out.got BX.out.1).get 0 _ rfl).1, ((A16.out.got BX.out.1).get 1 _ rfl).1, ((A16.out.got BX.out.1).get 2 _ rfl).1, ((A16.out.got BX.out.1).get 3 _ rfl).1⟩, ⟨((A16.out.got BX.out.2.1).get 0 _ rfl).1, ((A16.out.got BX.out.2.1).get 1 _ rfl).1, ((A16.out.got BX.out.2.1).get 2 _ rfl).1, ((A16.out.got BX.out.2.1).get 3 _ rfl).1⟩⟩⟩)
            have KX := hide (And.intro k0 (And.intro k1 (And.intro k2 k3)))
            clear k0 k1 k2 k3
            clear hrun2 hbx2 hrow2 hcl2 hne2 hnb2 hfin2 hsz2
            (try simp only [Act.put])
            go_cut [102] (fun _ w' => w' = (x2.setCell ⟨L, 2, none⟩ (.slice a2 (ps.length + 2) c2)))
            case first =>
              refine wp_region_held_drew (S := fun wq : World => (fun wq : World => wq.cell? ⟨P, 0, none⟩ = some (.int .i64 num) ∧ wq.cell? ⟨P, 1, none⟩ = some (.int .i64 lsn) ∧ wq.cell? ⟨P, 2, none⟩ = some (.slice pa cs.length pb) ∧ wq.cell? ⟨P, 3, none⟩ = some (.slice pd gs.length pe)) wq ∧ (fun wq : World => wq.cell? ⟨Z, 0, none⟩ = some (.int .i64 num) ∧ wq.cell? ⟨Z, 1, none⟩ = some (.int .i64 lsn) ∧ wq.cell? ⟨Z, 2, none⟩ = some (.slice ca cs.length cb) ∧ wq.cell? ⟨Z, 3, none⟩ = some (.slice cd gs.length ce)) wq) (by kernel_rfl) SX2.out.1 (fun hS => ?_)
              generalize w12.drew = we at *
              refine take_at 0 (some 94) (v := ?_) rfl rfl (by kernel_rfl) (by kernel_rfl) (by kernel_rfl) (fun _ _ _ h => h) ⟨by rfl, ?_⟩ hS ?_
              rotate_left
              · intro wq hSw; go_simp; try rfl
              simp only [Act.put, List.setIfInBounds_toArray, List.set_cons_zero, List.set_cons_succ]
              refine take_at 1 (some 95) (v := ?_) rfl rfl (by kernel_rfl) (by kernel_rfl) (by kernel_rfl) (fun _ _ _ h => h) ⟨by rfl, ?_⟩ hS ?_
              rotate_left
              · intro wq hSw; go_simp; try rfl
              simp only [Act.put, List.setIfInBounds_toArray, List.set_cons_zero, List.set_cons_succ]
              refine take_at 2 (some 96) (v := ?_) rfl rfl (by kernel_rfl) (by kernel_rfl) (by kernel_rfl) (fun _ _ _ h => h) ⟨by rfl, ?_⟩ hS ?_
              rotate_left
              · intro wq hSw; go_simp; try rfl
              simp only [Act.put, List.setIfInBounds_toArray, List.set_cons_zero, List.set_cons_succ]
              refine take_at 3 (some 97) (v := ?_) rfl rfl (by kernel_rfl) (by kernel_rfl) (by kernel_rfl) (fun _ _ _ h => h) ⟨by rfl, ?_⟩ hS ?_
              rotate_left
              · intro wq hSw; go_simp; try rfl
              simp only [Act.put, List.setIfInBounds_toArray, List.set_cons_zero, List.set_cons_succ]
              refine take_at 5 (some 99) (v := ?_) rfl rfl (by kernel_rfl) (by kernel_rfl) (by kernel_rfl) (fun _ _ _ h => h) ⟨by rfl, ?_⟩ hS ?_
              rotate_left
              · intro wq hSw; obtain ⟨⟨y0, y1, y2, y3⟩, -⟩ := hSw; go_simp; try rfl
              simp only [Act.put, List.setIfInBounds_toArray, List.set_cons_zero, List.set_cons_succ]
              refine take_at 6 (some 100) (v := ?_) rfl rfl (by kernel_rfl) (by kernel_rfl) (by kernel_rfl) (fun _ _ _ h => h) ⟨by rfl, ?_⟩ hS ?_
              rotate_left
              · intro wq hSw; obtain ⟨-, ⟨y0, y1, y2, y3⟩⟩ := hSw; go_simp; try rfl
              simp only [Act.put, List.setIfInBounds_toArray, List.set_cons_zero, List.set_cons_succ]
              refine wpAnyH_ready (rs := [4, 7]) (by kernel_rfl) (by simp) ?_
              refine AllReadyH.cons rfl (fun K hK => ?_) (AllReadyH.cons rfl (fun K hK => ?_) AllReadyH.nil)
              · have cl := KX.out.1
                go_simp
                go_wp2_with fail
                refine hK.out _ _ SX2.out.1 (fun hS => ?_)
                clear hK K
                (try simp only [Act.put, List.setIfInBounds_toArray, List.set_cons_zero, List.set_cons_succ])
                clear cl
                refine wpAnyH_ready (rs := [7]) (by kernel_rfl) (by simp) ?_
                refine AllReadyH.cons rfl (fun K hK => ?_) AllReadyH.nil
                go_simp
                (try go_wp2_with fail)
                refine hK.out _ _ SX2.out.2.1 (fun hS => ?_)
                clear hK K
                (try simp only [Act.put, List.setIfInBounds_toArray, List.set_cons_zero, List.set_cons_succ])
                refine wpAnyH_ready (rs := [8]) (by kernel_rfl) (by simp) ?_
                refine AllReadyH.cons rfl (fun K hK => ?_) AllReadyH.nil
                refine wp_run 102 (.tmp 98) (.tmp 101) rfl rfl rfl rfl rfl HR2.out ?_
                refine hK.out _ _ SX2.out.2.2.1 (fun hS => ?_)
                clear hK K
                (try simp only [Act.put, List.setIfInBounds_toArray, List.set_cons_zero, List.set_cons_succ])
                refine take_at 9 (some 103) (v := ?_) rfl rfl (by kernel_rfl) (by kernel_rfl) (by kernel_rfl) (fun _ _ _ h => h) ⟨by rfl, ?_⟩ hS ?_
                rotate_left
                · intro wq hSw; go_simp; try rfl
                simp only [Act.put, List.setIfInBounds_toArray, List.set_cons_zero, List.set_cons_succ]
                refine take_at 10 (some 104) (v := ?_) rfl rfl (by kernel_rfl) (by kernel_rfl) (by kernel_rfl) (fun _ _ _ h => h) ⟨by rfl, ?_⟩ hS ?_
                rotate_left
                · intro wq hSw; go_simp; try rfl
                simp only [Act.put, List.setIfInBounds_toArray, List.set_cons_zero, List.set_cons_succ]
                refine wpAnyH_ready (rs := [11]) (by kernel_rfl) (by simp) ?_
                refine AllReadyH.cons rfl (fun K hK => ?_) AllReadyH.nil
                have k2 := KX.out.2.2.1
                have k3 := KX.out.2.2.2
                go_simp
                (try go_wp2_with fail)
                refine hK.out _ _ SX2.out.2.2.2 (fun hS => ?_)
                clear hK K
                (try simp only [Act.put, List.setIfInBounds_toArray, List.set_cons_zero, List.set_cons_succ])
                refine wpAnyH_done (by kernel_rfl) ?_ _
                go_wp2_with fail
                go_meet
                rfl
              · go_simp
                (try go_wp2_with fail)
                refine hK.out _ _ SX2.out.2.1 (fun hS => ?_)
                clear hK K
                (try simp only [Act.put, List.setIfInBounds_toArray, List.set_cons_zero, List.set_cons_succ])
                refine wpAnyH_ready (rs := [4]) (by kernel_rfl) (by simp) ?_
                refine AllReadyH.cons rfl (fun K hK => ?_) AllReadyH.nil
                have cl := KX.out.2.1
                go_simp
                go_wp2_with fail
                refine hK.out _ _ SX2.out.2.1 (fun hS => ?_)
                clear hK K
                (try simp only [Act.put, List.setIfInBounds_toArray, List.set_cons_zero, List.set_cons_succ])
                clear cl
                refine wpAnyH_ready (rs := [8]) (by kernel_rfl) (by simp) ?_
                refine AllReadyH.cons rfl (fun K hK => ?_) AllReadyH.nil
                refine wp_run 102 (.tmp 98) (.tmp 101) rfl rfl rfl rfl rfl HR2.out ?_
                refine hK.out _ _ SX2.out.2.2.1 (fun hS => ?_)
                clear hK K
                (try simp only [Act.put, List.setIfInBounds_toArray, List.set_cons_zero, List.set_cons_succ])
                refine take_at 9 (some 103) (v := ?_) rfl rfl (by kernel_rfl) (by kernel_rfl) (by kernel_rfl) (fun _ _ _ h => h) ⟨by rfl, ?_⟩ hS ?_
                rotate_left
                · intro wq hSw; go_simp; try rfl
                simp only [Act.put, List.setIfInBounds_toArray, List.set_cons_zero, List.set_cons_succ]
                refine take_at 10 (some 104) (v := ?_) rfl rfl (by kernel_rfl) (by kernel_rfl) (by kernel_rfl) (fun _ _ _ h => h) ⟨by rfl, ?_⟩ hS ?_
                rotate_left
                · intro wq hSw; go_simp; try rfl
                simp only [Act.put, List.setIfInBounds_toArray, List.set_cons_zero, List.set_cons_succ]
                refine wpAnyH_ready (rs := [11]) (by kernel_rfl) (by simp) ?_
                refine AllReadyH.cons rfl (fun K hK => ?_) AllReadyH.nil
                have k2 := KX.out.2.2.1
                have k3 := KX.out.2.2.2
                go_simp
                (try go_wp2_with fail)
                refine hK.out _ _ SX2.out.2.2.2 (fun hS => ?_)
                clear hK K
                (try simp only [Act.put, List.setIfInBounds_toArray, List.set_cons_zero, List.set_cons_succ])
                refine wpAnyH_done (by kernel_rfl) ?_ _
                go_wp2_with fail
                go_meet
                rfl
            case rest =>
              obtain ⟨w13, hw13⟩ : ∃ z : World, z = (x2.setCell ⟨L, 2, none⟩ (.slice a2 (ps.length + 2) c2)) := ⟨_, rfl⟩
              rw [← hw13] at A16 hcut
              clear hw13 SX2 KX HR2 HX2 AL2 AD2 A15
              obtain rfl : w13 = wc := hcut.symm
              clear hcut
              go_upto_region 19 with fail
              have AD3 := hide A16.out.drew
              have AL3 := hide (AD3.out.below (alloc_below w13.drew (.cells #[.int .i64 num, .int .i64 lsn, .slice oa cs.length oc, .slice ob gs.length od, .int .i64 num, .int .i64 lsn, .slice oa cs.length oc, .slice ob gs.length od] 38)))
              obtain ⟨v3, x3, hrun3, ⟨a3, c3, e3⟩, hbx3, hrow3, hcl3, hsz3, hne3, hnb3, hfin3⟩ := AS.push (ty := 50) Tryd.underlying50 info38 rfl (by decide) (by decide) AL3.out 3 (by decide) AL3.out.ct.rR ⟨w13.drew.heap.size, 0, none⟩ 2 2 [.int .i64 num, .int .i64 lsn, .slice oa cs.length oc, .slice ob gs.length od, .int .i64 num, .int .i64 lsn, .slice oa cs.length oc, .slice ob gs.length od] rfl (lies_cells w13.drew #[.int .i64 num, .int .i64 lsn, .slice oa cs.length oc, .slice ob gs.length od, .int .i64 num, .int .i64 lsn, .slice oa cs.length oc, .slice ob gs.length od] 38) (by simp [Value.oneCell']) (by have := AL3.out.ct.n1; have := AL3.out.ct.n2; have := AL3.out.ct.n3; have := LB.out; have := LP.out; have := LQL.out; (try have := LWL.out); omega)
              have HR3 := hide hrun3
              have HX3 := hide hbx3
              subst e3
              have A17 := hide (hfin3 _ _ _ _ _ _ _ _ rfl (AL3.out.ct.pushR (⟨num, lsn, cs, gs⟩, ⟨oa, oc, ob, od⟩) (by have := LQL.out; omega) (by have := LQL.out; omega) (by rw [show qs.length / 4 = a by have := LQL.out; omega, ← HQU.out]; simp only [put_other _ _ (show 300 + 2 * a ≠ 1 by omega), put_other _ _ (show 300 + 2 * a ≠ 2 by omega), put_other _ _ (show 300 + 2 * a ≠ 3 by omega)]; exact KP9.out.2.2.2.2.1) (by rw [show qs.length / 4 = a by have := LQL.out; omega, ← HQU.out]; simp only [put_other _ _ (show 301 + 2 * a ≠ 1 by omega), put_other _ _ (show 301 + 2 * a ≠ 2 by omega), put_other _ _ (show 301 + 2 * a ≠ 3 by omega)]; exact KP9.out.2.2.2.2.2.1)))
              obtain ⟨k0, -⟩ := AD3.out.bx.cells.get 3 _ rfl
              obtain ⟨k1, -⟩ := AL3.out.bx.cells.get 3 _ rfl
              obtain ⟨k2, k3⟩ := HX3.out.cells.get 3 _ rfl
              have SX3 := hide (show ((fun wq : World => (fun wq : World => wq.cell? ⟨W, 0, none⟩ = some (.int .i64 num) ∧ wq.cell? ⟨W, 1, none⟩ = some (.int .i64 lsn) ∧ wq.cell? ⟨W, 2, none⟩ = some (.slice oa cs.length oc) ∧ wq.cell? ⟨W, 3, none⟩ = some (.slice ob gs.length od)) wq) w13.drew) ∧ ((fun wq : World => (fun wq : World => wq.cell? ⟨W, 0, none⟩ = some (.int .i64 num) ∧ wq.cell? ⟨W, 1, none⟩ = some (.int .i64 lsn) ∧ wq.cell? ⟨W, 2, none⟩ = some (.slice oa cs.length oc) ∧ wq.cell? ⟨W, 3, none⟩ = some (.slice ob gs.length od)) wq) (w13.drew.alloc (.cells #[.int .i64 num, .int .i64 lsn, .slice oa cs.length oc, .slice ob gs.length od, .int .i64 num, .int .i64 lsn, .slice oa cs.length oc, .slice ob gs.length od] 38))) ∧ ((fun wq : World => (fun wq : World => wq.cell? ⟨W, 0, none⟩ = some (.int .i64 num) ∧ wq.cell? ⟨W, 1, none⟩ = some (.int .i64 lsn) ∧ wq.cell? ⟨W, 2, none⟩ = some (.slice oa cs.length oc) ∧ wq.cell? ⟨W, 3, none⟩ = some (.slice ob gs.length od)) wq) x3) ∧ ((fun wq : World => (fun wq : World => wq.cell? ⟨W, 0, none⟩ = some (.int .i64 num) ∧ wq.cell? ⟨W, 1, none⟩ = some (.int .i64 lsn) ∧ wq.cell? ⟨W, 2, none⟩ = some (.slice oa cs.length oc) ∧ wq.cell? ⟨W, 3, none⟩ = some (.slice ob gs.length od)) wq) (x3.setCell ⟨L, 3, none⟩ (.slice a3 (_ + 2) c3))) from ⟨⟨((AD3.out.got BX.out.2.2).get 0 _ rfl).1, ((AD3.out.got BX.out.2.2).get 1 _ rfl).1, ((AD3.out.got BX.out.2.2).get 2 _ rfl).1, ((AD3.out.got BX.out.2.2).get 3 _ rfl).1⟩, ⟨((AL3.out.got BX.out.2.2).get 0 _ rfl).1, ((AL3.out.got BX.out.2.2).get 1 _ rfl).1, ((AL3.out.got BX.out.2.2).get 2 _ rfl).1, ((AL3.out.got BX.out.2.2).get 3 _ rfl).1⟩, ⟨((hcl3 _ BX.out.2.2).get 0 _ rfl).1, ((hcl3 _ BX.out.2.2).get 1 _ rfl).1, ((hcl3 _ BX.out.2.2).get 2 _ rfl).1, ((hcl3 _ BX.out.2.2).get 3 _ rfl).1⟩, ⟨((A17.out.got BX.out.2.2).get 0 _ rfl).1, ((A17.out.got BX.out.2.2).get 1 _ rfl).1, ((A17.out.got BX.out.2.2).get 2 _ rfl).1, ((A17.out.got BX.out.2.2).get 3 _ rfl).1⟩⟩)
              have KX := hide (And.intro k0 (And.intro k1 (And.intro k2 k3)))
              clear k0 k1 k2 k3
              clear hrun3 hbx3 hrow3 hcl3 hne3 hnb3 hfin3 hsz3
              (try simp only [Act.put])
              refine wp_region_held_drew (S := fun wq : World => (fun wq : World => wq.cell? ⟨W, 0, none⟩ = some (.int .i64 num) ∧ wq.cell? ⟨W, 1, none⟩ = some (.int .i64 lsn) ∧ wq.cell? ⟨W, 2, none⟩ = some (.slice oa cs.length oc) ∧ wq.cell? ⟨W, 3, none⟩ = some (.slice ob gs.length od)) wq) (by kernel_rfl) SX3.out.1 (fun hS => ?_)
              generalize w13.drew = we at *
              refine take_at 0 (some 105) (v := ?_) rfl rfl (by kernel_rfl) (by kernel_rfl) (by kernel_rfl) (fun _ _ _ h => h) ⟨by rfl, ?_⟩ hS ?_
              rotate_left
              · intro wq hSw; go_simp; try rfl
              simp only [Act.put, List.setIfInBounds_toArray, List.set_cons_zero, List.set_cons_succ]
              refine take_at 1 (some 106) (v := ?_) rfl rfl (by kernel_rfl) (by kernel_rfl) (by kernel_rfl) (fun _ _ _ h => h) ⟨by rfl, ?_⟩ hS ?_
              rotate_left
              · intro wq hSw; go_simp; try rfl
              simp only [Act.put, List.setIfInBounds_toArray, List.set_cons_zero, List.set_cons_succ]
              refine take_at 2 (some 107) (v := ?_) rfl rfl (by kernel_rfl) (by kernel_rfl) (by kernel_rfl) (fun _ _ _ h => h) ⟨by rfl, ?_⟩ hS ?_
              rotate_left
              · intro wq hSw; go_simp; try rfl
              simp only [Act.put, List.setIfInBounds_toArray, List.set_cons_zero, List.set_cons_succ]
              refine take_at 3 (some 108) (v := ?_) rfl rfl (by kernel_rfl) (by kernel_rfl) (by kernel_rfl) (fun _ _ _ h => h) ⟨by rfl, ?_⟩ hS ?_
              rotate_left
              · intro wq hSw; go_simp; try rfl
              simp only [Act.put, List.setIfInBounds_toArray, List.set_cons_zero, List.set_cons_succ]
              refine take_at 5 (some 110) (v := ?_) rfl rfl (by kernel_rfl) (by kernel_rfl) (by kernel_rfl) (fun _ _ _ h => h) ⟨by rfl, ?_⟩ hS ?_
              rotate_left
              · intro wq hSw; obtain ⟨y0, y1, y2, y3⟩ := hSw; go_simp; try rfl
              simp only [Act.put, List.setIfInBounds_toArray, List.set_cons_zero, List.set_cons_succ]
              refine take_at 6 (some 111) (v := ?_) rfl rfl (by kernel_rfl) (by kernel_rfl) (by kernel_rfl) (fun _ _ _ h => h) ⟨by rfl, ?_⟩ hS ?_
              rotate_left
              · intro wq hSw; obtain ⟨y0, y1, y2, y3⟩ := hSw; go_simp; try rfl
              simp only [Act.put, List.setIfInBounds_toArray, List.set_cons_zero, List.set_cons_succ]
              refine wpAnyH_ready (rs := [4, 7]) (by kernel_rfl) (by simp) ?_
              refine AllReadyH.cons rfl (fun K hK => ?_) (AllReadyH.cons rfl (fun K hK => ?_) AllReadyH.nil)
              · have cl := KX.out.1
                go_simp
                go_wp2_with fail
                refine hK.out _ _ SX3.out.1 (fun hS => ?_)
                clear hK K
                (try simp only [Act.put, List.setIfInBounds_toArray, List.set_cons_zero, List.set_cons_succ])
                clear cl
                refine wpAnyH_ready (rs := [7]) (by kernel_rfl) (by simp) ?_
                refine AllReadyH.cons rfl (fun K hK => ?_) AllReadyH.nil
                go_simp
                (try go_wp2_with fail)
                refine hK.out _ _ SX3.out.2.1 (fun hS => ?_)
                clear hK K
                (try simp only [Act.put, List.setIfInBounds_toArray, List.set_cons_zero, List.set_cons_succ])
                refine wpAnyH_ready (rs := [8]) (by kernel_rfl) (by simp) ?_
                refine AllReadyH.cons rfl (fun K hK => ?_) AllReadyH.nil
                refine wp_run 113 (.tmp 109) (.tmp 112) rfl rfl rfl rfl rfl HR3.out ?_
                refine hK.out _ _ SX3.out.2.2.1 (fun hS => ?_)
                clear hK K
                (try simp only [Act.put, List.setIfInBounds_toArray, List.set_cons_zero, List.set_cons_succ])
                refine take_at 9 (some 114) (v := ?_) rfl rfl (by kernel_rfl) (by kernel_rfl) (by kernel_rfl) (fun _ _ _ h => h) ⟨by rfl, ?_⟩ hS ?_
                rotate_left
                · intro wq hSw; go_simp; try rfl
                simp only [Act.put, List.setIfInBounds_toArray, List.set_cons_zero, List.set_cons_succ]
                refine take_at 10 (some 115) (v := ?_) rfl rfl (by kernel_rfl) (by kernel_rfl) (by kernel_rfl) (fun _ _ _ h => h) ⟨by rfl, ?_⟩ hS ?_
                rotate_left
                · intro wq hSw; go_simp; try rfl
                simp only [Act.put, List.setIfInBounds_toArray, List.set_cons_zero, List.set_cons_succ]
                refine wpAnyH_ready (rs := [11]) (by kernel_rfl) (by simp) ?_
                refine AllReadyH.cons rfl (fun K hK => ?_) AllReadyH.nil
                have k2 := KX.out.2.2.1
                have k3 := KX.out.2.2.2
                go_simp
                (try go_wp2_with fail)
                refine hK.out _ _ SX3.out.2.2.2 (fun hS => ?_)
                clear hK K
                (try simp only [Act.put, List.setIfInBounds_toArray, List.set_cons_zero, List.set_cons_succ])
                refine wpAnyH_done (by kernel_rfl) ?_ _
                obtain ⟨w14, hw14⟩ : ∃ z : World, z = (x3.setCell ⟨L, 3, none⟩ (.slice a3 (qs.length + 2) c3)) := ⟨_, rfl⟩
                rw [← hw14] at A17 ⊢
                clear hw14 SX3 KX HR3 HX3 AL3 AD3 A16 hS
                have KWF := hide (show I9 (300 + 2 * a) = some (itC qu) ∧ I9 (301 + 2 * a) = some (itG qu) from ⟨KP9.out.2.2.2.2.1, KP9.out.2.2.2.2.2.1⟩)
                have FL := hide (show (bs ++ [(Value.slice (some ⟨g, 0, none⟩) 1024 1024, X)]).length = 2 * a + (k + 1) ∧ (ws ++ [X]) = (bs ++ [(Value.slice (some ⟨g, 0, none⟩) 1024 1024, X)]).map (·.2) ∧ (ps ++ [((⟨num, lsn, cs, gs⟩ : PageM), (⟨pa, pb, pd, pe⟩ : At)), (⟨num, lsn, cs, gs⟩, ⟨ca, cb, cd, ce⟩)]).length = 4 * a + 2 * (k + 1) ∧ (qs ++ [((⟨num, lsn, cs, gs⟩ : PageM), (⟨oa, oc, ob, od⟩ : At)), (⟨num, lsn, cs, gs⟩, ⟨oa, oc, ob, od⟩)]).map (·.1) = (ps ++ [((⟨num, lsn, cs, gs⟩ : PageM), (⟨pa, pb, pd, pe⟩ : At)), (⟨num, lsn, cs, gs⟩, ⟨ca, cb, cd, ce⟩)]).map (·.1) from ⟨by have := LB.out; simp; omega, by rw [LW.out]; simp, by have := LP.out; simp; omega, by simp [LQ.out]⟩)
                go_wp2_with fail
                go_roundw
                case rel =>
                  refine ⟨k + 1, _, _, _, _, _, _, _, _, _, _, _, by go_num, by omega, { A17.out with xs := fun x hx => A17.out.xs x (by rw [HXS.out]; simp at hx ⊢; rcases hx with rfl | rfl | hx <;> simp [*]) }, FL.out.1, FL.out.2.1, FL.out.2.2.1, FL.out.2.2.2, ?_, ?_⟩
                  · simp only [put_other _ _ (show 300 + 2 * a ≠ 1 by omega), put_other _ _ (show 300 + 2 * a ≠ 2 by omega), put_other _ _ (show 300 + 2 * a ≠ 3 by omega), put_other _ _ (show 300 + 2 * a ≠ 4 by omega)]; exact KWF.out.1
                  · simp only [put_other _ _ (show 301 + 2 * a ≠ 1 by omega), put_other _ _ (show 301 + 2 * a ≠ 2 by omega), put_other _ _ (show 301 + 2 * a ≠ 3 by omega), put_other _ _ (show 301 + 2 * a ≠ 4 by omega)]; exact KWF.out.2
                case measure => simp [intOf]; omega
              · go_simp
                (try go_wp2_with fail)
                refine hK.out _ _ SX3.out.2.1 (fun hS => ?_)
                clear hK K
                (try simp only [Act.put, List.setIfInBounds_toArray, List.set_cons_zero, List.set_cons_succ])
                refine wpAnyH_ready (rs := [4]) (by kernel_rfl) (by simp) ?_
                refine AllReadyH.cons rfl (fun K hK => ?_) AllReadyH.nil
                have cl := KX.out.2.1
                go_simp
                go_wp2_with fail
                refine hK.out _ _ SX3.out.2.1 (fun hS => ?_)
                clear hK K
                (try simp only [Act.put, List.setIfInBounds_toArray, List.set_cons_zero, List.set_cons_succ])
                clear cl
                refine wpAnyH_ready (rs := [8]) (by kernel_rfl) (by simp) ?_
                refine AllReadyH.cons rfl (fun K hK => ?_) AllReadyH.nil
                refine wp_run 113 (.tmp 109) (.tmp 112) rfl rfl rfl rfl rfl HR3.out ?_
                refine hK.out _ _ SX3.out.2.2.1 (fun hS => ?_)
                clear hK K
                (try simp only [Act.put, List.setIfInBounds_toArray, List.set_cons_zero, List.set_cons_succ])
                refine take_at 9 (some 114) (v := ?_) rfl rfl (by kernel_rfl) (by kernel_rfl) (by kernel_rfl) (fun _ _ _ h => h) ⟨by rfl, ?_⟩ hS ?_
                rotate_left
                · intro wq hSw; go_simp; try rfl
                simp only [Act.put, List.setIfInBounds_toArray, List.set_cons_zero, List.set_cons_succ]
                refine take_at 10 (some 115) (v := ?_) rfl rfl (by kernel_rfl) (by kernel_rfl) (by kernel_rfl) (fun _ _ _ h => h) ⟨by rfl, ?_⟩ hS ?_
                rotate_left
                · intro wq hSw; go_simp; try rfl
                simp only [Act.put, List.setIfInBounds_toArray, List.set_cons_zero, List.set_cons_succ]
                refine wpAnyH_ready (rs := [11]) (by kernel_rfl) (by simp) ?_
                refine AllReadyH.cons rfl (fun K hK => ?_) AllReadyH.nil
                have k2 := KX.out.2.2.1
                have k3 := KX.out.2.2.2
                go_simp
                (try go_wp2_with fail)
                refine hK.out _ _ SX3.out.2.2.2 (fun hS => ?_)
                clear hK K
                (try simp only [Act.put, List.setIfInBounds_toArray, List.set_cons_zero, List.set_cons_succ])
                refine wpAnyH_done (by kernel_rfl) ?_ _
                obtain ⟨w14, hw14⟩ : ∃ z : World, z = (x3.setCell ⟨L, 3, none⟩ (.slice a3 (qs.length + 2) c3)) := ⟨_, rfl⟩
                rw [← hw14] at A17 ⊢
                clear hw14 SX3 KX HR3 HX3 AL3 AD3 A16 hS
                have KWF := hide (show I9 (300 + 2 * a) = some (itC qu) ∧ I9 (301 + 2 * a) = some (itG qu) from ⟨KP9.out.2.2.2.2.1, KP9.out.2.2.2.2.2.1⟩)
                have FL := hide (show (bs ++ [(Value.slice (some ⟨g, 0, none⟩) 1024 1024, X)]).length = 2 * a + (k + 1) ∧ (ws ++ [X]) = (bs ++ [(Value.slice (some ⟨g, 0, none⟩) 1024 1024, X)]).map (·.2) ∧ (ps ++ [((⟨num, lsn, cs, gs⟩ : PageM), (⟨pa, pb, pd, pe⟩ : At)), (⟨num, lsn, cs, gs⟩, ⟨ca, cb, cd, ce⟩)]).length = 4 * a + 2 * (k + 1) ∧ (qs ++ [((⟨num, lsn, cs, gs⟩ : PageM), (⟨oa, oc, ob, od⟩ : At)), (⟨num, lsn, cs, gs⟩, ⟨oa, oc, ob, od⟩)]).map (·.1) = (ps ++ [((⟨num, lsn, cs, gs⟩ : PageM), (⟨pa, pb, pd, pe⟩ : At)), (⟨num, lsn, cs, gs⟩, ⟨ca, cb, cd, ce⟩)]).map (·.1) from ⟨by have := LB.out; simp; omega, by rw [LW.out]; simp, by have := LP.out; simp; omega, by simp [LQ.out]⟩)
                go_wp2_with fail
                go_roundw
                case rel =>
                  refine ⟨k + 1, _, _, _, _, _, _, _, _, _, _, _, by go_num, by omega, { A17.out with xs := fun x hx => A17.out.xs x (by rw [HXS.out]; simp at hx ⊢; rcases hx with rfl | rfl | hx <;> simp [*]) }, FL.out.1, FL.out.2.1, FL.out.2.2.1, FL.out.2.2.2, ?_, ?_⟩
                  · simp only [put_other _ _ (show 300 + 2 * a ≠ 1 by omega), put_other _ _ (show 300 + 2 * a ≠ 2 by omega), put_other _ _ (show 300 + 2 * a ≠ 3 by omega), put_other _ _ (show 300 + 2 * a ≠ 4 by omega)]; exact KWF.out.1
                  · simp only [put_other _ _ (show 301 + 2 * a ≠ 1 by omega), put_other _ _ (show 301 + 2 * a ≠ 2 by omega), put_other _ _ (show 301 + 2 * a ≠ 3 by omega), put_other _ _ (show 301 + 2 * a ≠ 4 by omega)]; exact KWF.out.2
                case measure => simp [intOf]; omega
    · obtain rfl : k = 2 := by omega
      have d1 : decide ((2 : Int) < 2) = false := by decide
      go_wp2_with fail
      go_ret
      refine ⟨rfl, lab, I, vB, vW, vP, vR, bs, ws, ps, qs, ⟨X, { A0.out with xs := fun x hx => A0.out.xs x (by simp [hx]) }⟩, ?_, LW.out, ?_, LQ.out⟩
      · have := LB.out; omega
      · have := LP.out; omega
end Go.Proofs.YtakjpljpdlhicaaDoor
