import Derived.Test.YtakjpljpdlhicaaDoorPg36
import Derived.Deep.DeepCutAuto
import Derived.Deep.Onto
set_option linter.all false
namespace Go.Proofs.YtakjpljpdlhicaaDoor
open Go.RowKit Go.QK Go.Pg
set_option maxRecDepth 100000
theorem byteFacts {w : World} {B g : Nat} {L : List Nat} (h : OwnB w B (.slice (some ⟨g, 0, none⟩) 1024 1024) L) (hl : L.length = 1024) (i : Nat) (hi : i < 1024) : (∃ u, w.cell? ⟨g, i, none⟩ = some u) ∧ w.frozen? ⟨g, i, none⟩ = false := by
  obtain ⟨b1, off1, hab, _, hcell⟩ := Seen.at (Owns.seen_at h) (i := i) (by simp; omega)
  simp only [Option.some.injEq, Addr.mk.injEq] at hab
  obtain ⟨rfl, rfl, _⟩ := hab
  rw [Nat.zero_add] at hcell
  exact ⟨⟨_, hcell⟩, Owns.frozen h i⟩
theorem storeB {w : World} {B g : Nat} {L : List Nat} (h : OwnB w B (.slice (some ⟨g, 0, none⟩) 1024 1024) L) (i y : Nat) : OwnB (w.setCell ⟨g, i, none⟩ (.int .u8 (y : Int))) B (.slice (some ⟨g, 0, none⟩) 1024 1024) (L.set i y) := by
  have := Owns.stored h i (y : Int)
  rw [← ints_set] at this
  exact this
set_option maxHeartbeats 16000000 in
theorem rencode_ok (p : PageM) (t : At) (w : World) (hc : Lies w t.a (ctrsC p.cs)) (hg : Lies w t.b (grpsC p.gs)) (hk : checkE p = 0) :
    Calls Tryd.prog 16 #[pageV p t] w fun e w' => ∃ g, e = .returned (.tuple #[.slice (some ⟨g, 0, none⟩) 1024 1024, .int .i64 0]) ∧ OwnB w' w.heap.size (.slice (some ⟨g, 0, none⟩) 1024 1024) (encB p) ∧ Below w.heap.size w w' := by
  have lim : p.cs.length ≤ 31 ∧ p.gs.length ≤ 84 ∧ (p.cs.length = 0 ∨ p.gs.length = 0) := by
    unfold checkE at hk
    split at hk
    · cases hk
    · split at hk
      · cases hk
      · split at hk
        · cases hk
        · omega
  obtain ⟨m1, m2, m3⟩ := lim
  have CK := hide (fun w' (b : Below w.heap.size w w') => by have q := rfault_any p t w' (hc.below b) (hg.below b) (by omega) (by omega); rw [hk] at q; exact q)
  obtain ⟨EB, hEB⟩ : ∃ l, l = encB p := ⟨_, rfl⟩
  have EE := hide (show p.cs.length = 0 → p.gs.length = 0 → EB = zs 1024 from fun h1 h2 => by rw [hEB]; unfold encB; rw [if_pos (by unfold isEmpty; simp [h1, h2])])
  have EF := hide (show ¬ (p.cs.length = 0 ∧ p.gs.length = 0) → EB = P12 p ++ bytesOf 4 (psum (P12 p ++ zs 4 ++ restB p)) ++ restB p from fun h1 => by
    rw [hEB]; unfold encB; rw [if_neg (by unfold isEmpty; simpa using h1), head_eq, head0])
  have RB := hide (show restB p = ctrsB p.cs ++ grpsB p.gs ++ zs (1008 - (32 * p.cs.length + 12 * p.gs.length)) by unfold restB bodyB; simp)
  have PE := hide (show P12 p = [113, if 0 < p.gs.length then 2 else 1] ++ bytesOf 2 (un p.num) ++ bytesOf 2 (p.cs.length + p.gs.length) ++ zs 2 ++ bytesOf 4 (un p.lsn) by
    unfold P12 kindOf countOf
    split <;> rename_i q <;> simp <;> (congr 2; omega))
  have PL := hide (P12_length p)
  have PS := hide (show psum (P12 p ++ zs 4 ++ restB p) < 4294967296 by rw [← head0]; exact psum_lt ((headB_bytes p 0).append (restB_bytes p)))
  have AB := hide (show AllB (P12 p ++ zs 4 ++ restB p) by rw [← head0]; exact (headB_bytes p 0).append (restB_bytes p))
  rw [← hEB]
  clear hEB hk
  generalize restB p = RS at *
  generalize P12 p = PP at *
  have HCS := hide hc
  have HGS := hide hg
  clear hc hg
  obtain ⟨num, lsn, cs, gs⟩ := p
  obtain ⟨ta, tc, tb, td⟩ := t
  simp only [pageV] at *
  obtain ⟨nc, hnc⟩ : ∃ n, n = cs.length := ⟨_, rfl⟩
  obtain ⟨ng, hng⟩ : ∃ n, n = gs.length := ⟨_, rfl⟩
  rw [← hnc] at CK EE EF RB PE m1 m3 ⊢
  rw [← hng] at CK EE EF RB PE m2 m3 ⊢
  have HNC := hide hnc
  have HNG := hide hng
  clear hnc hng
  obtain ⟨w2, hw2⟩ : ∃ w2, w2 = w.alloc (.cells #[.int .i64 num, .int .i64 lsn, .slice ta nc tc, .slice tb ng td] 38) := ⟨_, rfl⟩
  obtain ⟨b, hb⟩ : ∃ b, b = w.heap.size := ⟨_, rfl⟩
  have B2 := hide (show Below w.heap.size w w2 by rw [hw2]; exact alloc_below _ _)
  have C2 := hide (show Cells w2 b [.int .i64 num, .int .i64 lsn, .slice ta nc tc, .slice tb ng td] by rw [hw2, hb]; exact Cells.new w #[.int .i64 num, .int .i64 lsn, .slice ta nc tc, .slice tb ng td] 38)
  have HB := hide hb
  have wn : wrap64 ((nc : Int) + (ng : Int)) = (nc : Int) + (ng : Int) := by unfold wrap64; omega
  go_enter Tryd.func16, Tryd.ntmps16
  go_upto_region 1 with fail
  rw [← hw2, ← hb]
  clear hw2 hb
  obtain ⟨g0, -⟩ := C2.out.get 0 _ rfl
  obtain ⟨g1, -⟩ := C2.out.get 1 _ rfl
  obtain ⟨g2, -⟩ := C2.out.get 2 _ rfl
  obtain ⟨g3, -⟩ := C2.out.get 3 _ rfl
  go_wp2_with fail
  clear g0 g1 g2 g3
  refine (CK.out w2 B2.out).mono ?_
  rintro e w3 ⟨rfl, b3⟩
  obtain ⟨w4, mk, o4, b4, z4⟩ := makeB w3 1024 (by decide)
  have mk : (Instr.makeSlice 22 (.int .i64 1024) (.int .i64 1024)).run Tryd.prog w3 = .ok (.slice (some ⟨w3.heap.size, 0, none⟩) 1024 1024) w4 := mk
  obtain ⟨g, hg⟩ : ∃ g, g = w3.heap.size := ⟨_, rfl⟩
  have R4 := hide (show RE w w4 b g [.int .i64 num, .int .i64 lsn, .slice ta nc tc, .slice tb ng td] [] 1024 from ⟨(C2.out.below b3).below b4, by rw [hg, List.nil_append]; exact World.ownsRow.mono o4 (Nat.le_trans B2.out.size b3.size), rfl, (B2.out.trans (b3.mono B2.out.size)).trans (b4.mono (Nat.le_trans B2.out.size b3.size)), by have := B2.out.size; have := b3.size; omega, by have := C2.out.1; have := b3.size; omega⟩)
  rw [← hg] at mk
  clear C2 CK hg o4 b4 z4 b3
  obtain ⟨g0, -⟩ := R4.out.box.get 0 _ rfl
  obtain ⟨g1, -⟩ := R4.out.box.get 1 _ rfl
  obtain ⟨g2, -⟩ := R4.out.box.get 2 _ rfl
  obtain ⟨g3, -⟩ := R4.out.box.get 3 _ rfl
  by_cases hz : nc = 0 ∧ ng = 0
  · obtain ⟨rfl, rfl⟩ := hz
    have V := hide (EE.out rfl rfl)
    clear EE EF RB PE
    go_wp2_with fail
    refine bodyPost_ret (v := .tuple #[.slice (some ⟨g, 0, none⟩) 1024 1024, .int .i64 0]) (by simp [results, Tryd.results16, go_sem]) rfl ⟨g, rfl, ?_, R4.out.be⟩
    rw [V.out]
    exact R4.out.ow
  · have V := hide (EF.out hz)
    clear EE EF
    have dz : ((nc : Int) + (ng : Int) == 0) = false := by simp; omega
    clear hz
    have o4 := R4.out.ow
    rw [List.nil_append] at o4
    obtain ⟨⟨u0, y0⟩, f0⟩ := byteFacts o4 (by simp) 0 (by decide)
    obtain ⟨⟨u1, y1⟩, f1⟩ := byteFacts o4 (by simp) 1 (by decide)
    have S5 := hide (storeB (storeB o4 0 113) 1 1)
    have K5 := hide (((Keep.refl (fun k => k = g) w4).setCell (g := g) (j := 0) (fun _ => rfl) (.int .u8 113)).setCell (g := g) (j := 1) (fun _ => rfl) (.int .u8 1))
    go_upto_region 9 with fail
    refine named (P := Code.wp _ _ _ _) ?_
    intro w5 hw5
    have O5 := hide (show OwnB w5 w.heap.size (.slice (some ⟨g, 0, none⟩) 1024 1024) (((zs 1024).set 0 113).set 1 1) by rw [hw5]; exact S5.out)
    have K6 := hide (show Keep (fun k => k = g) w4 w5 by rw [hw5]; exact K5.out)
    clear hw5 S5 K5 y0 y1 f0 f1 o4 g0 g1 g2 g3
    have C5 := hide (R4.out.box.keep K6.out R4.out.ne)
    have BE5 := hide (R4.out.be.trans (K6.out.below R4.out.be.size (fun i hi q => by have := R4.out.gb; omega)))
    obtain ⟨g3, -⟩ := C5.out.get 3 _ rfl
    obtain ⟨⟨u1, y1⟩, f1⟩ := byteFacts O5.out (by simp) 1 (by decide)
    go_upto_if 34 with fail
    go_cut [] from 35 to 36 (fun w' => RE w w' b g [.int .i64 num, .int .i64 lsn, .slice ta nc tc, .slice tb ng td] [113, if 0 < ng then 2 else 1] 1022)
    case first =>
      by_cases hq : 0 < ng
      · have dq : decide ((0 : Int) < (ng : Int)) = true := decide_eq_true (by omega)
        have S6 := hide (storeB O5.out 1 2)
        have K7 := hide ((Keep.refl (fun k => k = g) w5).setCell (g := g) (j := 1) (fun _ => rfl) (.int .u8 2))
        go_wp2_with fail
        go_meet
        refine ⟨C5.out.keep K7.out R4.out.ne, ?_, rfl, BE5.out.trans (K7.out.below BE5.out.size (fun i hi q => by have := R4.out.gb; omega)), R4.out.gb, R4.out.ne⟩
        rw [if_pos hq, ← start2]
        have q := S6.out
        rw [List.set_set] at q
        exact q
      · have dq : decide ((0 : Int) < (ng : Int)) = false := decide_eq_false (by omega)
        go_wp2_with fail
        go_meet
        refine ⟨C5.out, ?_, rfl, BE5.out, R4.out.gb, R4.out.ne⟩
        rw [if_neg hq, ← start2]
        exact O5.out
    case rest =>
      have RX := hide hcut
      obtain ⟨w6, rfl⟩ : ∃ z : World, z = wc := ⟨_, rfl⟩
      clear hcut O5 K6 C5 BE5 R4 g3 y1 f1
      generalize (if 0 < ng then 2 else 1) = kd at *
      have e1 : IntKind.u64.wrap num = ((un num : Nat) : Int) := un_wrap num
      have e2 : IntKind.u64.wrap lsn = ((un lsn : Nat) : Int) := un_wrap lsn
      have e3 : IntKind.u64.wrap ((nc : Int) + (ng : Int)) = (((nc + ng : Nat) : Nat) : Int) := by rw [IntKind.wrap_u64]; omega
      generalize hun : un num = unum at *
      generalize hul : un lsn = ulsn at *
      have U1 := hide (show unum < 18446744073709551616 by rw [← hun]; exact un_lt _)
      have U2 := hide (show ulsn < 18446744073709551616 by rw [← hul]; exact un_lt _)
      clear hun hul
      obtain ⟨ct, hct⟩ : ∃ c, c = nc + ng := ⟨_, rfl⟩
      rw [← hct] at PE e3
      have HCT := hide hct
      clear hct
      obtain ⟨g0, -⟩ := RX.out.box.get 0 _ rfl
      go_wp2_with fail
      refine ((RX.out.re (k' := 2 + (1020)) (by omega)).put (x := unum) 2 2 (unum : Int) (by rfl) rfl (by decide) rfl (U1.out)).mono ?_
      rintro e w7 ⟨rfl, rx⟩
      have RN := hide rx
      clear rx RX
      have RX := RN
      clear RN
      clear g0
      obtain ⟨g2, -⟩ := RX.out.box.get 2 _ rfl
      obtain ⟨g3, -⟩ := RX.out.box.get 3 _ rfl
      go_wp2_with fail
      refine ((RX.out.re (k' := 2 + (1018)) (by omega)).put (x := ct) 4 2 (ct : Int) (by simp) rfl (by decide) rfl (by have := HCT.out; omega)).mono ?_
      rintro e w8 ⟨rfl, rx⟩
      have RN := hide rx
      clear rx RX
      have RX := RN
      clear RN
      clear g2 g3
      have RN := hide ((RX.out.re (k' := 2 + 1016) (by omega)).skip)
      clear RX
      have RX := RN
      clear RN
      obtain ⟨g1, -⟩ := RX.out.box.get 1 _ rfl
      go_wp2_with fail
      refine ((RX.out.re (k' := 4 + (1012)) (by omega)).put (x := ulsn) 8 4 (ulsn : Int) (by simp) rfl (by decide) rfl (U2.out)).mono ?_
      rintro e w9 ⟨rfl, rx⟩
      have RN := hide rx
      clear rx RX
      have RX := RN
      clear RN
      clear g1
      rw [← PE.out] at RX
      have RN := hide ((RX.out.re (k' := 4 + 1008) (by omega)).skip)
      clear RX
      have RX := RN
      clear RN e1 e2 e3 PE U1 U2
      go_wp2_with fail
      go_loopw [6] (fun v wz => ∃ i : Nat, v = .int .i64 (i : Int) ∧ i ≤ nc ∧ RE w wz b g [.int .i64 num, .int .i64 lsn, .slice ta nc tc, .slice tb ng td] (PP ++ zs 4 ++ ctrsB (cs.take i)) (1008 - 32 * i)) (fun v _ => nc + 1 - (intOf v).toNat)
      case atStart => exact ⟨0, rfl, Nat.zero_le _, by simpa [ctrsB] using RX.out⟩
      case round =>
        obtain ⟨i, rfl, hi, hre⟩ := hrel
        clear RX
        have RX := hide hre
        clear hre
        obtain ⟨g2, -⟩ := RX.out.box.get 2 _ rfl
        by_cases hlt : i < nc
        · have hlx : i < cs.length := by have := HNC.out; omega
          have YK := hide (show ctrsB (cs.take (i + 1)) = ctrsB (cs.take i) ++ ctrB cs[i] by rw [List.take_succ_eq_append_getElem hlx, ctrsB_snoc])
          have XL := hide (show (PP ++ zs 4 ++ ctrsB (cs.take i)).length = 16 + 32 * i by rw [List.length_append, List.length_append, PL.out, zs_length, ctrsB_length, List.length_take, Nat.min_eq_left (by omega)])
          obtain ⟨sb, so, ea, hbl, hcell⟩ := Lies.rowAt ctrC 5 ctrC_length (HCS.out.below RX.out.be) i hlx (by decide)
          rw [ea] at g2
          clear ea
          rw [ctrB_eq] at YK
          generalize cs[i] = ck at *
          obtain ⟨cid, cgrp, clo, chi, cval⟩ := ck
          simp only at YK
          have c0 := hcell 0 (.int .i64 cid) rfl
          have c1 := hcell 1 (.int .i64 cgrp) rfl
          have c2 := hcell 2 (.int .i64 clo) rfl
          have c3 := hcell 3 (.int .i64 chi) rfl
          have c4 := hcell 4 (.int .i64 cval) rfl
          rw [Nat.add_zero] at c0
          clear hcell
          have e0 : IntKind.u64.wrap cid = ((un cid : Nat) : Int) := un_wrap cid
          generalize hu0 : un cid = u0 at *
          have U0 := hide (show u0 < 18446744073709551616 by rw [← hu0]; exact un_lt _)
          clear hu0
          have e1 : IntKind.u64.wrap cgrp = ((un cgrp : Nat) : Int) := un_wrap cgrp
          generalize hu1 : un cgrp = u1 at *
          have U1 := hide (show u1 < 18446744073709551616 by rw [← hu1]; exact un_lt _)
          clear hu1
          have e2 : IntKind.u64.wrap clo = ((un clo : Nat) : Int) := un_wrap clo
          generalize hu2 : un clo = u2 at *
          have U2 := hide (show u2 < 18446744073709551616 by rw [← hu2]; exact un_lt _)
          clear hu2
          have e3 : IntKind.u64.wrap chi = ((un chi : Nat) : Int) := un_wrap chi
          generalize hu3 : un chi = u3 at *
          have U3 := hide (show u3 < 18446744073709551616 by rw [← hu3]; exact un_lt _)
          clear hu3
          have e4 : IntKind.u64.wrap cval = ((un cval : Nat) : Int) := un_wrap cval
          generalize hu4 : un cval = u4 at *
          have U4 := hide (show u4 < 18446744073709551616 by rw [← hu4]; exact un_lt _)
          clear hu4
          have di : decide ((i : Int) < (nc : Int)) = true := decide_eq_true (by omega)
          have bi : (i : Int) < (nc : Int) := by omega
          obtain ⟨X, hXX⟩ : ∃ X, X = PP ++ zs 4 ++ ctrsB (cs.take i) := ⟨_, rfl⟩
          rw [← hXX] at XL RX
          have HXX := hide hXX
          clear hXX
          go_upto_region 18 with fail
          refine named (P := Code.wp _ _ _ _) ?_
          intro wa hwa
          have RN := hide (show RE w wa b g [.int .i64 num, .int .i64 lsn, .slice ta nc tc, .slice tb ng td] X (1008 - 32 * i) by rw [hwa]; exact RX.out.below (alloc_below _ _))
          obtain ⟨cb, hcb⟩ : ∃ z, z = wr.heap.size := ⟨_, rfl⟩
          have CB := hide (show Cells wa cb [.int .i64 cid, .int .i64 cgrp, .int .i64 clo, .int .i64 chi, .int .i64 cval] by rw [hwa, hcb]; exact Cells.new _ _ _)
          have CN := hide (show ∀ wz, RE w wz b g [.int .i64 num, .int .i64 lsn, .slice ta nc tc, .slice tb ng td] X (1008 - 32 * i) → True from fun _ _ => trivial)
          have GN := hide (show ¬ cb = g from fun q => by have := (World.ownsRow.lt RX.out.ow g rfl).2; omega)
          rw [← hcb]
          clear hwa hcb c0 c1 c2 c3 c4 RX g2 CN
          have RX := RN
          clear RN
          obtain ⟨k0, -⟩ := CB.out.get 0 _ rfl
          go_wp2_with fail
          refine ((RX.out.re (k' := 4 + (1008 - 32 * (i + 1) + 28)) (by omega)).put2 (x := u0) (16 + 32 * (i : Int)) 4 (u0 : Int) (by first | (simp [XL.out]; done) | (simp [XL.out]; omega)) rfl (by decide) rfl U0.out).mono ?_
          rintro e wb0 ⟨rfl, rx, kp⟩
          have RN := hide rx
          have CBN := hide (CB.out.keep kp GN.out)
          clear rx RX CB kp k0
          have RX := RN
          have CB := CBN
          clear RN CBN
          obtain ⟨k1, -⟩ := CB.out.get 1 _ rfl
          go_wp2_with fail
          refine ((RX.out.re (k' := 4 + (1008 - 32 * (i + 1) + 24)) (by omega)).put2 (x := u1) (16 + 32 * (i : Int) + 4) 4 (u1 : Int) (by first | (simp [XL.out]; done) | (simp [XL.out]; omega)) rfl (by decide) rfl U1.out).mono ?_
          rintro e wb1 ⟨rfl, rx, kp⟩
          have RN := hide rx
          have CBN := hide (CB.out.keep kp GN.out)
          clear rx RX CB kp k1
          have RX := RN
          have CB := CBN
          clear RN CBN
          obtain ⟨k2, -⟩ := CB.out.get 2 _ rfl
          go_wp2_with fail
          refine ((RX.out.re (k' := 8 + (1008 - 32 * (i + 1) + 16)) (by omega)).put2 (x := u2) (16 + 32 * (i : Int) + 8) 8 (u2 : Int) (by first | (simp [XL.out]; done) | (simp [XL.out]; omega)) rfl (by decide) rfl U2.out).mono ?_
          rintro e wb2 ⟨rfl, rx, kp⟩
          have RN := hide rx
          have CBN := hide (CB.out.keep kp GN.out)
          clear rx RX CB kp k2
          have RX := RN
          have CB := CBN
          clear RN CBN
          obtain ⟨k3, -⟩ := CB.out.get 3 _ rfl
          go_wp2_with fail
          refine ((RX.out.re (k' := 8 + (1008 - 32 * (i + 1) + 8)) (by omega)).put2 (x := u3) (16 + 32 * (i : Int) + 16) 8 (u3 : Int) (by first | (simp [XL.out]; done) | (simp [XL.out]; omega)) rfl (by decide) rfl U3.out).mono ?_
          rintro e wb3 ⟨rfl, rx, kp⟩
          have RN := hide rx
          have CBN := hide (CB.out.keep kp GN.out)
          clear rx RX CB kp k3
          have RX := RN
          have CB := CBN
          clear RN CBN
          obtain ⟨k4, -⟩ := CB.out.get 4 _ rfl
          go_wp2_with fail
          refine ((RX.out.re (k' := 8 + (1008 - 32 * (i + 1) + 0)) (by omega)).put2 (x := u4) (16 + 32 * (i : Int) + 24) 8 (u4 : Int) (by first | (simp [XL.out]; done) | (simp [XL.out]; omega)) rfl (by decide) rfl U4.out).mono ?_
          rintro e wb4 ⟨rfl, rx, kp⟩
          have RN := hide rx
          have CBN := hide (CB.out.keep kp GN.out)
          clear rx RX CB kp k4
          have RX := RN
          have CB := CBN
          clear RN CBN
          have RF := hide (show RE w wb4 b g [.int .i64 num, .int .i64 lsn, .slice ta nc tc, .slice tb ng td] (PP ++ zs 4 ++ ctrsB (cs.take (i + 1))) (1008 - 32 * (i + 1)) by have q := RX.out; rw [YK.out]; rw [Nat.add_zero] at q; simpa [List.append_assoc, HXX.out] using q)
          go_wp2_with fail
          go_roundw
          case rel => exact ⟨i + 1, by go_num, by omega, RF.out⟩
          case measure => simp [intOf]; omega
        · obtain rfl : i = nc := by omega
          have di : decide ((i : Int) < (i : Int)) = false := decide_eq_false (by omega)
          have RN := hide (show RE w wr b g [.int .i64 num, .int .i64 lsn, .slice ta i tc, .slice tb ng td] (PP ++ zs 4 ++ ctrsB cs) (1008 - 32 * i) by have q := RX.out; rw [List.take_of_length_le (by have := HNC.out; omega)] at q; exact q)
          clear RX
          have RX := RN
          clear RN
          go_wp2_with fail
          clear g2
          go_loopw [9] (fun v wz => ∃ k : Nat, v = .int .i64 (k : Int) ∧ k ≤ ng ∧ RE w wz b g [.int .i64 num, .int .i64 lsn, .slice ta i tc, .slice tb ng td] (PP ++ zs 4 ++ ctrsB cs ++ grpsB (gs.take k)) (1008 - 32 * i - 12 * k)) (fun v _ => ng + 1 - (intOf v).toNat)
          case atStart => exact ⟨0, rfl, Nat.zero_le _, by simpa [grpsB] using RX.out⟩
          case round =>
            obtain ⟨nc, rfl⟩ : ∃ z, z = i := ⟨_, rfl⟩
            obtain ⟨i, rfl, hi, hre⟩ := hrel
            clear RX
            have RX := hide hre
            clear hre
            obtain ⟨g3, -⟩ := RX.out.box.get 3 _ rfl
            by_cases hlt : i < ng
            · have hlx : i < gs.length := by have := HNG.out; omega
              have YK := hide (show grpsB (gs.take (i + 1)) = grpsB (gs.take i) ++ grpB gs[i] by rw [List.take_succ_eq_append_getElem hlx, grpsB_snoc])
              have XL := hide (show (PP ++ zs 4 ++ ctrsB cs ++ grpsB (gs.take i)).length = 16 + 12 * i by rw [List.length_append, List.length_append, List.length_append, PL.out, zs_length, ctrsB_length, grpsB_length, List.length_take, Nat.min_eq_left (by omega)]; have := HNC.out; omega)
              obtain ⟨sb, so, ea, hbl, hcell⟩ := Lies.rowAt grpC 2 grpC_length HGS.out i hlx (by decide)
              rw [ea] at g3
              rw [grpB_eq] at YK
              generalize gs[i] = ck at *
              obtain ⟨cid, csum⟩ := ck
              simp only at YK
              have CL0 := hide (show ∀ wz, Below w.heap.size w wz → wz.cell? ⟨sb, so + i * 2, none⟩ = some (.int .i64 cid) from fun wz hb => (hb.cell (p := ⟨sb, so + i * 2, none⟩) hbl).trans (hcell 0 (.int .i64 cid) rfl))
              have CL1 := hide (show ∀ wz, Below w.heap.size w wz → wz.cell? ⟨sb, so + i * 2 + 1, none⟩ = some (.int .i64 csum) from fun wz hb => (hb.cell (p := ⟨sb, so + i * 2 + 1, none⟩) hbl).trans (hcell 1 (.int .i64 csum) rfl))
              have EA := hide ea
              clear hcell hbl ea
              have e0 : IntKind.u64.wrap cid = ((un cid : Nat) : Int) := un_wrap cid
              generalize hu0 : un cid = u0 at *
              have U0 := hide (show u0 < 18446744073709551616 by rw [← hu0]; exact un_lt _)
              clear hu0
              have e1 : IntKind.u64.wrap csum = ((un csum : Nat) : Int) := un_wrap csum
              generalize hu1 : un csum = u1 at *
              have U1 := hide (show u1 < 18446744073709551616 by rw [← hu1]; exact un_lt _)
              clear hu1
              have di : decide ((i : Int) < (ng : Int)) = true := decide_eq_true (by omega)
              have bi : (i : Int) < (ng : Int) := by omega
              have zc : nc = 0 := by omega
              obtain ⟨X, hXX⟩ : ∃ X, X = PP ++ zs 4 ++ ctrsB cs ++ grpsB (gs.take i) := ⟨_, rfl⟩
              rw [← hXX] at XL RX
              have HXX := hide hXX
              have ZC := hide zc
              clear hXX zc
              have k0 := CL0.out _ RX.out.be
              go_wp2_with fail
              refine ((RX.out.re (k' := 4 + (1008 - 32 * nc - 12 * (i + 1) + 8)) (by have := ZC.out; omega)).put2 (x := u0) (16 + 12 * (i : Int)) 4 (u0 : Int) (by first | (simp [XL.out]; done) | (simp [XL.out]; omega)) rfl (by decide) rfl U0.out).mono ?_
              rintro e wb0 ⟨rfl, rx, kp⟩
              have RN := hide rx
              clear rx RX kp k0 g3
              have RX := RN
              clear RN
              obtain ⟨g3, -⟩ := RX.out.box.get 3 _ rfl
              rw [EA.out] at g3
              have k1 := CL1.out _ RX.out.be
              go_wp2_with fail
              refine ((RX.out.re (k' := 8 + (1008 - 32 * nc - 12 * (i + 1) + 0)) (by have := ZC.out; omega)).put2 (x := u1) (16 + 12 * (i : Int) + 4) 8 (u1 : Int) (by first | (simp [XL.out]; done) | (simp [XL.out]; omega)) rfl (by decide) rfl U1.out).mono ?_
              rintro e wb1 ⟨rfl, rx, kp⟩
              have RN := hide rx
              clear rx RX kp k1 g3
              have RX := RN
              clear RN
              have RF := hide (show RE w wb1 b g [.int .i64 num, .int .i64 lsn, .slice ta nc tc, .slice tb ng td] (PP ++ zs 4 ++ ctrsB cs ++ grpsB (gs.take (i + 1))) (1008 - 32 * nc - 12 * (i + 1)) by have q := RX.out; rw [YK.out]; rw [Nat.add_zero] at q; simpa [List.append_assoc, HXX.out] using q)
              go_wp2_with fail
              go_roundw
              case rel => exact ⟨i + 1, by go_num, by omega, RF.out⟩
              case measure => simp [intOf]; omega
            · obtain rfl : i = ng := by omega
              have di : decide ((i : Int) < (i : Int)) = false := decide_eq_false (by omega)
              have LL := hide (show PP ++ zs 4 ++ ctrsB cs ++ grpsB (gs.take i) ++ zs (1008 - 32 * nc - 12 * i) = PP ++ zs 4 ++ RS by rw [RB.out, List.take_of_length_le (by have := HNG.out; omega), show 1008 - 32 * nc - 12 * i = 1008 - (32 * nc + 12 * i) by omega]; simp [List.append_assoc])
              have OW := hide (show OwnB wr w.heap.size (.slice (some ⟨g, 0, none⟩) 1024 1024) (PP ++ zs 4 ++ RS) by rw [← LL.out]; exact RX.out.ow)
              have LN := hide (show (PP ++ zs 4 ++ RS).length = 1024 by rw [← LL.out]; have := RX.out.ln; rw [List.length_append, zs_length]; exact this)
              have BE := hide RX.out.be
              have GB := hide RX.out.gb
              go_wp2_with fail
              clear g3 RX
              refine (rsum_any (some ⟨g, 0, none⟩) 1024 (PP ++ zs 4 ++ RS) wr (Owns.seen_at OW.out) AB.out LN.out).mono ?_
              rintro e wz ⟨rfl, rfl⟩
              obtain ⟨sm, hsm⟩ : ∃ z, z = psum (PP ++ zs 4 ++ RS) := ⟨_, rfl⟩
              rw [← hsm] at V PS ⊢
              have S32 := PS.out
              clear hsm
              have e9 : IntKind.u64.wrap (sm : Int) = (sm : Int) := by rw [IntKind.wrap_u64]; omega
              have KP := hide (show Calls Tryd.prog 38 #[.slice (some ⟨g, 0, none⟩) 1024 1024, .int .i64 12, .int .i64 4, .int .u64 (sm : Int)] wz (fun e w' => e = .returned (.tuple #[]) ∧ OwnB w' w.heap.size (.slice (some ⟨g, 0, none⟩) 1024 1024) (wrote (PP ++ zs 4 ++ RS) 12 sm 4) ∧ Keep (fun k => k = g) wz w') from rput_any g 1024 1024 12 4 sm w.heap.size (PP ++ zs 4 ++ RS) wz OW.out (by omega) (by decide) (by rw [LN.out]; decide) (by omega))
              go_wp2_with fail
              refine KP.out.mono ?_
              rintro e wy ⟨rfl, oy, ky⟩
              have OY := hide (show OwnB wy w.heap.size (.slice (some ⟨g, 0, none⟩) 1024 1024) EB by rw [V.out]; have q := wrote_full PP (zs 4) RS sm 4 (by simp); rw [PL.out] at q; rw [q] at oy; exact oy)
              have BY := hide (show Below w.heap.size w wy from BE.out.trans (ky.below BE.out.size (fun i hi q => by have := GB.out; omega)))
              clear oy ky KP
              go_wp2_with fail
              exact bodyPost_ret (v := .tuple #[.slice (some ⟨g, 0, none⟩) 1024 1024, .int .i64 0]) (by simp [results, Tryd.results16, go_sem]) rfl ⟨g, rfl, OY.out, BY.out⟩
end Go.Proofs.YtakjpljpdlhicaaDoor
