import Derived.Test.YtakjpljpdlhicabDoorFa1
import Derived.Test.YtakjpljpdlhicabDoorPg26
namespace Go.Proofs.YtakjpljpdlhicabDoor
open Go.RowKit Go.QK Go.Pg
set_option maxRecDepth 100000

structure LaSt (w wr : World) (p : PageM) (t : At) (g : Nat) : Prop where
  buf : Buf wr w.heap.size g
  box : Cells wr w.heap.size [.int .i64 p.num, .int .i64 p.lsn, .slice t.a p.cs.length t.c, .slice t.b p.gs.length t.d]
  bel : Below w.heap.size w wr
  ne : w.heap.size ≠ g
theorem LaSt.step {w wr w' : World} {p : PageM} {t : At} {g : Nat} (h : LaSt w wr p t g) (k : Keep (fun x => x = g) wr w') (b : Buf w' w.heap.size g) : LaSt w w' p t g :=
  ⟨b, h.box.keep k h.ne, h.bel.trans (k.below h.bel.size (fun x hx q => by have := h.buf.lt.1; omega)), h.ne⟩
theorem LaSt.below {w wr w' : World} {p : PageM} {t : At} {g : Nat} (h : LaSt w wr p t g) (k : Below wr.heap.size wr w') : LaSt w w' p t g := ⟨h.buf.below k, h.box.below k, h.bel.trans (k.mono h.bel.size), h.ne⟩

set_option maxHeartbeats 16000000 in
theorem laid_any (p : PageM) (t : At) (kd cnt odd at_ : Int) (w : World) (h : PageIn w p t) (hk8 : 0 ≤ kd ∧ kd < 256) (ho8 : 0 ≤ odd ∧ odd < 256) :
    Calls Tryd.prog 5 #[pageV p t, .int .u8 kd, .int .i64 cnt, .int .u8 odd, .int .i64 at_] w fun e w' => ∃ g, e = .returned (.slice (some ⟨g, 0, none⟩) 1024 1024) ∧ Buf w' w.heap.size g ∧ Below w.heap.size w w' := by
  have HP := hide h
  have HK8 := hide hk8
  have HO8 := hide ho8
  clear h hk8 ho8
  obtain ⟨w2, hw2⟩ : ∃ w2, w2 = w.alloc (.cells #[.int .i64 p.num, .int .i64 p.lsn, .slice t.a p.cs.length t.c, .slice t.b p.gs.length t.d] 31) := ⟨_, rfl⟩
  have b2 : Below w.heap.size w w2 := by rw [hw2]; exact alloc_below _ _
  have c2 : Cells w2 w.heap.size [.int .i64 p.num, .int .i64 p.lsn, .slice t.a p.cs.length t.c, .slice t.b p.gs.length t.d] := by rw [hw2]; exact Cells.new w _ _
  have z2 : w2.heap.size = w.heap.size + 1 := by rw [hw2]; simp
  obtain ⟨w4, m4, o4, b4, z4⟩ := makeB w2 1024 (by decide)
  have m4 : (Instr.makeSlice 29 (.int .i64 1024) (.int .i64 1024)).run Tryd.prog w2 = .ok (.slice (some ⟨w2.heap.size, 0, none⟩) 1024 1024) w4 := m4
  have HW := hide hw2
  have B0 := hide (show Buf w4 w.heap.size w2.heap.size from ⟨ints (zs 1024), by simp [zs], fun x hx => by
    unfold ints zs at hx
    simp at hx
    omega, GRow.mono o4 (by omega)⟩)
  have S4 := hide (show LaSt w w4 p t w2.heap.size from ⟨B0.out, c2.below b4, b2.trans (b4.mono b2.size), by omega⟩)
  have M4 := hide m4
  have G4 := hide (show w.heap.size < w2.heap.size by omega)
  clear b2 c2 z2 o4 b4 z4 B0 m4 hw2
  go_enter Tryd.func5, Tryd.ntmps5
  go_upto_region 1 with fail
  rw [← HW.out]
  have m4 := M4.out
  clear HW M4
  generalize w2.heap.size = g at *
  go_upto_region 2 with fail
  clear m4 G4
  obtain ⟨zo, y0⟩ := S4.out.buf.cell 0 (by omega)
  have f0 := S4.out.buf.frozen 0
  go_upto_region 3 with fail
  have S5 := hide (S4.out.step ((Keep.refl (fun x => x = g) w4).setCell (g := g) (j := 0) (fun _ => rfl) (.int .u8 113)) (S4.out.buf.put 0 113 (by omega)))
  obtain ⟨w5, hw5⟩ : ∃ w5, w5 = w4.setCell ⟨g, 0, none⟩ (.int .u8 113) := ⟨_, rfl⟩
  rw [← hw5] at S5 ⊢
  clear S4 y0 f0 hw5
  obtain ⟨z1, y1⟩ := S5.out.buf.cell 1 (by omega)
  have f1 := S5.out.buf.frozen 1
  go_upto_region 4 with fail
  have S6 := hide (S5.out.step ((Keep.refl (fun x => x = g) w5).setCell (g := g) (j := 1) (fun _ => rfl) (.int .u8 kd)) (S5.out.buf.put 1 kd HK8.out))
  obtain ⟨w6, hw6⟩ : ∃ w6, w6 = w5.setCell ⟨g, 1, none⟩ (.int .u8 kd) := ⟨_, rfl⟩
  rw [← hw6] at S6 ⊢
  clear S5 y1 f1 hw6 HK8
  have e0 := (S6.out.box.get 0 _ rfl).1
  go_wp2_with fail
  refine (rput_any g 2 2 _ 2 2 (by rfl) (by rfl) (by omega) (by omega) w.heap.size _ S6.out.buf).mono ?_
  rintro r x1 ⟨rfl, bb, kk⟩
  have Sx1 := hide (S6.out.step kk bb)
  clear bb kk S6
  clear e0
  go_wp2_with fail
  refine (rput_any g 4 2 _ 4 2 (by rfl) (by rfl) (by omega) (by omega) w.heap.size _ Sx1.out.buf).mono ?_
  rintro r x2 ⟨rfl, bb, kk⟩
  have Sx2 := hide (Sx1.out.step kk bb)
  clear bb kk Sx1
  have e1 := (Sx2.out.box.get 1 _ rfl).1
  go_wp2_with fail
  refine (rput_any g 8 4 _ 8 4 (by rfl) (by rfl) (by omega) (by omega) w.heap.size _ Sx2.out.buf).mono ?_
  rintro r x3 ⟨rfl, bb, kk⟩
  have Sx3 := hide (Sx2.out.step kk bb)
  clear bb kk Sx2
  clear e1
  go_wp2_with fail
  go_loopw [12] (fun i wr => ∃ k : Nat, k ≤ 31 ∧ i = .int .i64 k ∧ LaSt w wr p t g) (fun i _ => 31 - (intOf i).toNat)
  case atStart => exact ⟨0, by omega, rfl, Sx3.out⟩
  case round =>
    clear Sx3
    obtain ⟨k, hk, rfl, hS⟩ := hrel
    have S := hide hS
    clear hS
    have e2 := (S.out.box.get 2 _ rfl).1
    have u1 : IntKind.i64.wrap (32 * (k : Int)) = 32 * (k : Int) := by rw [IntKind.wrap_i64]; omega
    have u2 : IntKind.i64.wrap (16 + 32 * (k : Int)) = 16 + 32 * (k : Int) := by rw [IntKind.wrap_i64]; omega
    have u3 : IntKind.i64.wrap (16 + 32 * (k : Int) + 32) = 16 + 32 * (k : Int) + 32 := by rw [IntKind.wrap_i64]; omega
    go_upto_region 8 with fail
    go_cut [50] from 37 to 96 (fun s w' => (∃ q : Bool, s = .bool q ∧ (q = true → k < p.cs.length ∧ k < 31)) ∧ w' = wr)
    case first =>
      by_cases q1 : k < p.cs.length
      · by_cases q2 : k < 31
        · go_wp2_with fail
          go_meet
          exact ⟨⟨_, rfl, fun _ => ⟨q1, q2⟩⟩, rfl⟩
        · go_wp2_with fail
          go_meet
          exact ⟨⟨_, rfl, by intro h; exfalso; revert h; simp; try omega⟩, rfl⟩
      · go_wp2_with fail
        go_meet
        exact ⟨⟨_, rfl, by intro h; exfalso; revert h; simp; try omega⟩, rfl⟩
    case rest =>
      obtain ⟨⟨q, hs, hq⟩, hwc⟩ := hcut
      subst hwc
      rw [hs]
      clear hs
      obtain ⟨wo, hwo⟩ : ∃ wo : World, wo = wc := ⟨_, rfl⟩
      subst hwo
      cases q
      · clear hq u1 u2 u3 e2
        have hk9 := hide hk
        go_wp2_with fail
        go_loopw [15] (fun i wr => ∃ k : Nat, k ≤ 84 ∧ i = .int .i64 k ∧ LaSt w wr p t g) (fun i _ => 84 - (intOf i).toNat)
        case atStart => exact ⟨0, by omega, rfl, S.out⟩
        case round =>
          clear S hk
          obtain ⟨n, hn, rfl, hS⟩ := hrel
          have S := hide hS
          clear hS
          have e2 := (S.out.box.get 2 _ rfl).1
          have e3 := (S.out.box.get 3 _ rfl).1
          have u1 : IntKind.i64.wrap (12 * (n : Int)) = 12 * (n : Int) := by rw [IntKind.wrap_i64]; omega
          have u2 : IntKind.i64.wrap (16 + 12 * (n : Int)) = 16 + 12 * (n : Int) := by rw [IntKind.wrap_i64]; omega
          have u3 : IntKind.i64.wrap (16 + 12 * (n : Int) + 12) = 16 + 12 * (n : Int) + 12 := by rw [IntKind.wrap_i64]; omega
          have u4 : IntKind.i64.wrap (16 + 12 * (n : Int) + 4) = 16 + 12 * (n : Int) + 4 := by rw [IntKind.wrap_i64]; omega
          go_upto_region 18 with fail
          go_cut [116] from 97 to 143 (fun s w' => (∃ q : Bool, s = .bool q ∧ (q = true → n < p.gs.length ∧ n < 84)) ∧ w' = wr)
          case first =>
            by_cases q1 : n < p.gs.length
            · by_cases q2 : n < 84
              · go_wp2_with fail
                go_meet
                exact ⟨⟨_, rfl, fun _ => ⟨q1, q2⟩⟩, rfl⟩
              · go_wp2_with fail
                go_meet
                exact ⟨⟨_, rfl, by intro h; exfalso; revert h; simp; try omega⟩, rfl⟩
            · go_wp2_with fail
              go_meet
              exact ⟨⟨_, rfl, by intro h; exfalso; revert h; simp; try omega⟩, rfl⟩
          case rest =>
            obtain ⟨⟨q, hs, hq⟩, hwc⟩ := hcut
            subst hwc
            rw [hs]
            clear hs
            obtain ⟨wo, hwo⟩ : ∃ wo : World, wo = wc := ⟨_, rfl⟩
            subst hwo
            cases q
            · clear hq u1 u2 u3 u4 e2 e3
              go_upto_region 22 with fail
              go_cut [151] (fun s w' => (∃ q : Bool, s = .bool q ∧ (q = true → 0 ≤ at_ ∧ at_ < 1024)) ∧ w' = wo)
              case first =>
                by_cases q1 : 0 ≤ at_
                · by_cases q2 : at_ < 1024
                  · go_wp2_with fail
                    go_meet
                    exact ⟨⟨_, rfl, fun _ => ⟨q1, q2⟩⟩, rfl⟩
                  · go_wp2_with fail
                    go_meet
                    exact ⟨⟨_, rfl, by intro h; exfalso; revert h; simp; try omega⟩, rfl⟩
                · go_wp2_with fail
                  go_meet
                  exact ⟨⟨_, rfl, by intro h; exfalso; revert h; simp; try omega⟩, rfl⟩
              case rest =>
                obtain ⟨⟨q, hs, hq⟩, hwc⟩ := hcut
                subst hwc
                rw [hs]
                clear hs
                obtain ⟨wo, hwo⟩ : ∃ wo : World, wo = wc := ⟨_, rfl⟩
                subst hwo
                go_upto_if 151 with fail
                go_cut [10] (fun s w' => s = .slice none 0 0 ∧ LaSt w w' p t g)
                case first =>
                  cases q
                  · go_wp2_with fail
                    go_meet
                    exact ⟨rfl, S.out⟩
                  · obtain ⟨q1, q2⟩ := hq rfl
                    obtain ⟨an, rfl⟩ : ∃ an : Nat, at_ = (an : Int) := ⟨at_.toNat, by omega⟩
                    obtain ⟨zo, y0⟩ := S.out.buf.cell an (by omega)
                    have f0 := S.out.buf.frozen an
                    have S2 := hide (S.out.step ((Keep.refl (fun x => x = g) wo).setCell (g := g) (j := an) (fun _ => rfl) (.int .u8 odd)) (S.out.buf.put an odd HO8.out))
                    clear hq
                    go_wp2_with fail
                    go_meet
                    exact ⟨rfl, S2.out⟩
                case rest =>
                  obtain ⟨hs, hS⟩ := hcut
                  rw [hs]
                  have S := hide hS
                  clear hs hS hq
                  obtain ⟨x0, hx0⟩ : ∃ x0 : World, x0 = wc := ⟨_, rfl⟩
                  subst hx0
                  obtain ⟨l, hl1, hl2, hl3⟩ := S.out.buf.bytes
                  have KS := rsum_any (some ⟨g, 0, none⟩) 1024 l x0 hl3 hl2 hl1
                  generalize ((psum l : Nat) : Int) = sm at *
                  clear hl1 hl2 hl3
                  go_wp2_with fail
                  refine KS.mono ?_
                  rintro r w9 ⟨rfl, rfl⟩
                  clear KS
                  go_wp2_with fail
                  refine (rput_any g 12 4 _ 12 4 (by rfl) (by rfl) (by omega) (by omega) w.heap.size _ S.out.buf).mono ?_
                  rintro r y1 ⟨rfl, bb, kk⟩
                  have Sy1 := hide (S.out.step kk bb)
                  clear bb kk S
                  go_wp2_with fail
                  go_ret
                  exact ⟨g, rfl, Sy1.out.buf, Sy1.out.bel⟩
            · obtain ⟨q1, q2⟩ := hq rfl
              obtain ⟨bl, off, hae, hlt, hcell⟩ := Lies.rowAt grpC 2 (fun _ => rfl) (HP.out.below S.out.bel).gs n q1 (by omega)
              have y0 := hcell 0 _ rfl
              rw [Nat.add_zero] at y0
              rw [hae] at e3
              clear hcell hq hlt
              go_wp2_with fail
              refine (rput_any g (16 + 12 * (n : Int)) 4 _ (16 + 12 * n) 4 (by omega) (by rfl) (by omega) (by omega) w.heap.size _ S.out.buf).mono ?_
              rintro r y1 ⟨rfl, bb, kk⟩
              have Sy1 := hide (S.out.step kk bb)
              clear bb kk S y0 e2 e3
              obtain ⟨b9, o9, q9, hlt, hcell⟩ := Lies.rowAt grpC 2 (fun _ => rfl) (HP.out.below Sy1.out.bel).gs n q1 (by omega)
              have z1 := hcell 1 _ rfl
              have e3 := (Sy1.out.box.get 3 _ rfl).1
              rw [q9] at e3
              clear hcell hlt
              go_wp2_with fail
              refine (rput_any g (16 + 12 * (n : Int) + 4) 8 _ (16 + 12 * n + 4) 8 (by omega) (by rfl) (by omega) (by omega) w.heap.size _ Sy1.out.buf).mono ?_
              rintro r y2 ⟨rfl, bb, kk⟩
              have Sy2 := hide (Sy1.out.step kk bb)
              clear bb kk Sy1 z1 e3
              go_wp2_with fail
              go_roundw
              case rel => first | exact ⟨n + 1, by omega, by go_num, Sy2.out⟩ | ((repeat apply Exists.intro); exact ⟨⟨n + 1, by omega, by go_num, Sy2.out⟩, rfl⟩)
              case measure => simp [intOf]; omega
      · obtain ⟨q1, q2⟩ := hq rfl
        obtain ⟨bl, off, hae, hlt, hcell⟩ := Lies.rowAt ctrC 5 (fun _ => rfl) (HP.out.below S.out.bel).cs k q1 (by omega)
        have y0 := hcell 0 _ rfl
        have y1 := hcell 1 _ rfl
        have y2 := hcell 2 _ rfl
        have y3 := hcell 3 _ rfl
        have y4 := hcell 4 _ rfl
        rw [Nat.add_zero] at y0
        clear hcell hq
        rw [hae] at e2
        generalize p.cs[k].id = v0 at *
        generalize p.cs[k].grp = v1 at *
        generalize p.cs[k].lo = v2 at *
        generalize p.cs[k].hi = v3 at *
        generalize p.cs[k].val = v4 at *
        have TA := hide hae
        have u4 : IntKind.i64.wrap (16 + 32 * (k : Int) + 4) = 16 + 32 * (k : Int) + 4 := by rw [IntKind.wrap_i64]; omega
        have u5 : IntKind.i64.wrap (16 + 32 * (k : Int) + 8) = 16 + 32 * (k : Int) + 8 := by rw [IntKind.wrap_i64]; omega
        have u6 : IntKind.i64.wrap (16 + 32 * (k : Int) + 16) = 16 + 32 * (k : Int) + 16 := by rw [IntKind.wrap_i64]; omega
        have u7 : IntKind.i64.wrap (16 + 32 * (k : Int) + 24) = 16 + 32 * (k : Int) + 24 := by rw [IntKind.wrap_i64]; omega
        clear hae hlt
        go_upto_region 11 with fail
        obtain ⟨x0, hx0⟩ : ∃ x0, x0 = wo.alloc (.cells #[.int .i64 v0, .int .i64 v1, .int .i64 v2, .int .i64 v3, .int .i64 v4] 49) := ⟨_, rfl⟩
        have C0 := hide (Cells.new wo #[.int .i64 v0, .int .i64 v1, .int .i64 v2, .int .i64 v3, .int .i64 v4] 49)
        have Sx0 := hide (S.out.below (alloc_below wo (.cells #[.int .i64 v0, .int .i64 v1, .int .i64 v2, .int .i64 v3, .int .i64 v4] 49)))
        have gl := S.out.buf.lt.2
        rw [← hx0] at C0 Sx0 ⊢
        clear hx0 S y0 y1 y2 y3 y4 e2
        have CN := hide (show wo.heap.size ≠ g by omega)
        clear gl
        have k0 := (C0.out.get 0 _ rfl).1
        go_wp2_with fail
        refine (rput_any g (16 + 32 * (k : Int)) 4 _ (16 + 32 * k) 4 (by omega) (by rfl) (by omega) (by omega) w.heap.size _ Sx0.out.buf).mono ?_
        rintro r x1 ⟨rfl, bb, kk⟩
        have Sx1 := hide (Sx0.out.step kk bb)
        have C1 := hide (C0.out.keep kk CN.out)
        clear k0 C0
        clear bb kk Sx0
        have k1 := (C1.out.get 1 _ rfl).1
        go_wp2_with fail
        refine (rput_any g (16 + 32 * (k : Int) + 4) 4 _ (16 + 32 * k + 4) 4 (by omega) (by rfl) (by omega) (by omega) w.heap.size _ Sx1.out.buf).mono ?_
        rintro r x2 ⟨rfl, bb, kk⟩
        have Sx2 := hide (Sx1.out.step kk bb)
        have C2 := hide (C1.out.keep kk CN.out)
        clear k1 C1
        clear bb kk Sx1
        have k2 := (C2.out.get 2 _ rfl).1
        go_wp2_with fail
        refine (rput_any g (16 + 32 * (k : Int) + 8) 8 _ (16 + 32 * k + 8) 8 (by omega) (by rfl) (by omega) (by omega) w.heap.size _ Sx2.out.buf).mono ?_
        rintro r x3 ⟨rfl, bb, kk⟩
        have Sx3 := hide (Sx2.out.step kk bb)
        have C3 := hide (C2.out.keep kk CN.out)
        clear k2 C2
        clear bb kk Sx2
        have k3 := (C3.out.get 3 _ rfl).1
        go_wp2_with fail
        refine (rput_any g (16 + 32 * (k : Int) + 16) 8 _ (16 + 32 * k + 16) 8 (by omega) (by rfl) (by omega) (by omega) w.heap.size _ Sx3.out.buf).mono ?_
        rintro r x4 ⟨rfl, bb, kk⟩
        have Sx4 := hide (Sx3.out.step kk bb)
        have C4 := hide (C3.out.keep kk CN.out)
        clear k3 C3
        clear bb kk Sx3
        have k4 := (C4.out.get 4 _ rfl).1
        go_wp2_with fail
        refine (rput_any g (16 + 32 * (k : Int) + 24) 8 _ (16 + 32 * k + 24) 8 (by omega) (by rfl) (by omega) (by omega) w.heap.size _ Sx4.out.buf).mono ?_
        rintro r x5 ⟨rfl, bb, kk⟩
        have Sx5 := hide (Sx4.out.step kk bb)
        have C5 := hide (C4.out.keep kk CN.out)
        clear k4 C4
        clear bb kk Sx4
        go_wp2_with fail
        go_roundw
        case rel => first | exact ⟨k + 1, by omega, by go_num, Sx5.out⟩ | ((repeat apply Exists.intro); exact ⟨⟨k + 1, by omega, by go_num, Sx5.out⟩, rfl⟩)
        case measure => simp [intOf]; omega
end Go.Proofs.YtakjpljpdlhicabDoor
