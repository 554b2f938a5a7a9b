import Derived.Test.YtimakfnlcgedkaaRg27
namespace Go.Proofs.Ytimakfnlcgedkaa
open Go.RowKit Go.QK Go.Maps Go.QM Go.QR
set_option maxRecDepth 100000
theorem own_form {w : World} {B : Nat} {v : Value} {xs : List Int} (h : Owns .i64 3 w B v xs) (hn : v.ownBlock ≠ none) : ∃ g cap, v = .slice (some ⟨g, 0, none⟩) xs.length cap ∧ B ≤ g ∧ g < w.heap.size := by
  have hlt := World.ownsRow.lt h
  rcases h.2 with ⟨q, _⟩ | ⟨g, cap, cur, q, _⟩
  · rw [q] at hn; exact absurd rfl hn
  · exact ⟨g, cap, q, (hlt g (by rw [q]; rfl)).1, (hlt g (by rw [q]; rfl)).2⟩
theorem own_mono {w : World} {B B' : Nat} {v : Value} {xs : List Int} (h : Owns .i64 3 w B v xs) (hb : B' ≤ B) : Owns .i64 3 w B' v xs := GRow.mono h hb
theorem KeepPost.bel {lab : Nat → Nat} {w w' : World} {B : Nat} {T : Tab} {ga : Nat} (h : Tb lab w B T) (k : KeepPost lab w B T ga w') (hg : B ≤ ga) : Below B w w' := by
  refine k.kp.below (by have := h.low.1; have := h.box.1; omega) (fun z hz q => ?_)
  rcases q with q | q | q | q
  · have := h.low.1; omega
  · have := (World.ownsRow.lt h.rl z q).1; omega
  · have := (World.ownsRow.lt h.rm z q).1; omega
  · omega
/-- Another list beside one that was kept. -/
theorem KeepPost.beside {lab : Nat → Nat} {w w' : World} {B : Nat} {T : Tab} {ga : Nat} (h : Tb lab w B T) (k : KeepPost lab w B T ga w') {gb cap : Nat} {xs : List Int} (ho : Owns .i64 3 w B (.slice (some ⟨gb, 0, none⟩) xs.length cap) xs) (hl : lab gb = 9) (hne : gb ≠ ga) : Owns .i64 3 w' B (.slice (some ⟨gb, 0, none⟩) xs.length cap) xs := by
  refine ho.keep k.kp (fun g hg q => ?_)
  obtain rfl : gb = g := by simpa [Value.ownBlock] using hg
  rcases q with q | q | q | q
  · rw [q] at hl; have := h.l1; omega
  · have := h.l6 _ q; omega
  · have := h.l7 _ q; omega
  · exact hne q
set_option maxHeartbeats 8000000 in
theorem lists_any (lab : Nat → Nat) (B : Nat) (T : Tab) (i : Nat) (w : World) (h : Tb lab w B T) (hi : i < 2) (he : ∀ j, j < 2 → T.rp j = T.rq j) (hm : T.ls.length + 4 ≤ 100000) : Calls Try.prog 32 #[ptr T.t, .int .i64 (i : Int)] w (TPost 4 w B T) := by
  unfold TPost
  have ok := (h.pr i hi).ok
  have ei := he i hi
  obtain ⟨hl1, hl2⟩ := ok.lens
  obtain ⟨lb, hlb⟩ : ∃ l, l = ext lab w.heap.size 9 := ⟨_, rfl⟩
  have NEW := hide (show ∀ x, w.heap.size ≤ x → lb x = 9 from fun x hx => by rw [hlb]; exact ext_new hx)
  have H0 := h.relab (lab' := lb) (fun x hx => by rw [hlb]; exact ext_old hx)
  have HBS := hide (show B ≤ w.heap.size by have := h.low.1; have := h.box.1; omega)
  have K1 := fun w' (h : Tb lb w' B T) => counters_any (T.b i) (T.m i) (T.g i) (T.rp i) w' (h.pr i hi)
  have K2 := fun w' (h : Tb lb w' B T) => groups_any (T.b i) (T.m i) (T.g i) (T.rp i) w' (h.pr i hi)
  have K3 := fun w' (h : Tb lb w' B T) => rcounters_any B (T.c i) (T.vC i) (T.vG i) (T.rq i) w' (h.rr i hi) (by rw [← ei]; exact ok)
  have K4 := fun w' (h : Tb lb w' B T) => rgroups_any B (T.c i) (T.vC i) (T.vG i) (T.rq i) w' (h.rr i hi) (by rw [← ei]; exact ok)
  rw [← ei] at K3 K4
  have e1 : (T.rp i).C.length = (rise (T.rp i).nums).length := by rw [(rise_perm _).length_eq]; simp [Reg.nums]
  have e2 : (T.rp i).G.length = (rise (T.rp i).G).length := by rw [(rise_perm _).length_eq]
  rw [e1] at hl1 K3
  rw [e2] at hl2 K4
  generalize rise (T.rp i).nums = LC at *
  generalize rise (T.rp i).G = LG at *
  have HQ := hide he
  have HT := hide H0
  have HB := hide (Below.refl w.heap.size w)
  obtain ⟨kp, -⟩ := h.cP hi
  have hi2 : (i : Int) < 2 := by omega
  clear h H0 ok ei he e1 e2 hlb
  go_enter Try.func32, Try.ntmps32
  -- the four lists
  go_wp2_with fail
  refine (K1 _ HT.out).mono ?_
  rintro e w1 ⟨va, rfl, oa, na, hh⟩
  obtain ⟨ga, ca, rfl, ga1, ga2⟩ := own_form oa na
  have OA := hide (own_mono oa HBS.out)
  have GA := hide (show w.heap.size ≤ ga ∧ ga < w1.heap.size from ⟨ga1, ga2⟩)
  have HT1 := hide (HT.out.below hh)
  have HB1 := hide (HB.out.trans (hh.mono HB.out.size))
  clear oa na hh ga1 ga2 HT HB kp
  obtain ⟨kp, -⟩ := HT1.out.cP hi
  go_wp2_with fail
  refine (K1 _ HT1.out).mono ?_
  rintro e w2 ⟨vb, rfl, ob, nb, hh⟩
  obtain ⟨gb, cb, rfl, gb1, gb2⟩ := own_form ob nb
  have OB := hide (own_mono ob (Nat.le_trans HBS.out HB1.out.size))
  have GB := hide (show ga < gb ∧ gb < w2.heap.size by have := GA.out; omega)
  have OA2 := hide (OA.out.below hh)
  have HT2 := hide (HT1.out.below hh)
  have HB2 := hide (HB1.out.trans (hh.mono HB1.out.size))
  clear ob nb hh gb1 gb2 HT1 HB1 kp OA
  obtain ⟨kp, -⟩ := HT2.out.cP hi
  go_wp2_with fail
  refine (K2 _ HT2.out).mono ?_
  rintro e w3 ⟨vc, rfl, oc, nc, hh⟩
  obtain ⟨gc, cc, rfl, gc1, gc2⟩ := own_form oc nc
  have OC := hide (own_mono oc (Nat.le_trans HBS.out HB2.out.size))
  have GC := hide (show gb < gc ∧ gc < w3.heap.size by have := GB.out; omega)
  have OA3 := hide (OA2.out.below hh)
  have OB3 := hide (OB.out.below hh)
  have HT3 := hide (HT2.out.below hh)
  have HB3 := hide (HB2.out.trans (hh.mono HB2.out.size))
  clear oc nc hh gc1 gc2 HT2 HB2 kp OA2 OB
  obtain ⟨kp, -⟩ := HT3.out.cP hi
  go_wp2_with fail
  refine (K2 _ HT3.out).mono ?_
  rintro e w4 ⟨vd, rfl, od, nd, hh⟩
  obtain ⟨gd, cd, rfl, gd1, gd2⟩ := own_form od nd
  have OD4 := hide (own_mono od (Nat.le_trans HBS.out HB3.out.size))
  have GD := hide (show gc < gd ∧ gd < w4.heap.size by have := GC.out; omega)
  have OA4 := hide (OA3.out.below hh)
  have OB4 := hide (OB3.out.below hh)
  have OC4 := hide (OC.out.below hh)
  have HT4 := hide (HT3.out.below hh)
  have HB4 := hide (HB3.out.trans (hh.mono HB3.out.size))
  clear od nd hh gd1 gd2 HT3 HB3 kp OA3 OB3 OC K1 K2
  obtain ⟨kr, -⟩ := HT4.out.cR hi
  -- held against the document's
  go_wp2_with fail
  refine (K3 _ HT4.out).mono ?_
  rintro e w5 ⟨ve, rfl, oe, hh⟩
  obtain ⟨ae, ce, rfl, le, -⟩ := GRow.lies oe
  have HT5 := hide (HT4.out.below hh)
  have HB5 := hide (HB4.out.trans (hh.mono HB4.out.size))
  have OA5 := hide (OA4.out.below hh)
  have OB5 := hide (OB4.out.below hh)
  have OC5 := hide (OC4.out.below hh)
  have OD5 := hide (OD4.out.below hh)
  have SE := hide (show Seen .i64 w5 ae LC from (by
    rcases le with q | ⟨bb, off, h1, h2, h3⟩
    · exact .inl (by simpa using q)
    · exact .inr ⟨bb, off, h1, h2, fun j hj => by have := h3 j (by simpa using hj); rw [List.getElem_map] at this; exact this⟩))
  clear oe hh le HT4 HB4 OA4 OB4 OC4 OD4 kr K3
  go_wp2_with fail
  refine (same_true LC _ _ _ _ _ OA5.out.seen_at SE.out (by omega)).mono ?_
  rintro e w6 ⟨rfl, hh⟩
  have HT6 := hide (HT5.out.below hh)
  have HB6 := hide (HB5.out.trans (hh.mono HB5.out.size))
  have OA6 := hide (OA5.out.below hh)
  have OB6 := hide (OB5.out.below hh)
  have OC6 := hide (OC5.out.below hh)
  have OD6 := hide (OD5.out.below hh)
  clear hh SE HT5 HB5 OA5 OB5 OC5 OD5
  go_wp2_with fail
  refine (same_true LC _ _ _ _ _ OB6.out.seen_at OA6.out.seen_at (by omega)).mono ?_
  rintro e w7 ⟨rfl, hh⟩
  have HT7 := hide (HT6.out.below hh)
  have HB7 := hide (HB6.out.trans (hh.mono HB6.out.size))
  have OA7 := hide (OA6.out.below hh)
  have OB7 := hide (OB6.out.below hh)
  have OC7 := hide (OC6.out.below hh)
  have OD7 := hide (OD6.out.below hh)
  clear hh HT6 HB6 OA6 OB6 OC6 OD6
  obtain ⟨kr, -⟩ := HT7.out.cR hi
  go_wp2_with fail
  refine (K4 _ HT7.out).mono ?_
  rintro e w8 ⟨vf, rfl, of, hh⟩
  obtain ⟨af, cf, rfl, lf, -⟩ := GRow.lies of
  have HT8 := hide (HT7.out.below hh)
  have HB8 := hide (HB7.out.trans (hh.mono HB7.out.size))
  have OA8 := hide (OA7.out.below hh)
  have OB8 := hide (OB7.out.below hh)
  have OC8 := hide (OC7.out.below hh)
  have OD8 := hide (OD7.out.below hh)
  have SF := hide (show Seen .i64 w8 af LG from (by
    rcases lf with q | ⟨bb, off, h1, h2, h3⟩
    · exact .inl (by simpa using q)
    · exact .inr ⟨bb, off, h1, h2, fun j hj => by have := h3 j (by simpa using hj); rw [List.getElem_map] at this; exact this⟩))
  clear of hh lf HT7 HB7 OA7 OB7 OC7 OD7 kr K4
  go_wp2_with fail
  refine (same_true LG _ _ _ _ _ OC8.out.seen_at SF.out (by omega)).mono ?_
  rintro e w9 ⟨rfl, hh⟩
  have HT9 := hide (HT8.out.below hh)
  have HB9 := hide (HB8.out.trans (hh.mono HB8.out.size))
  have OA9 := hide (OA8.out.below hh)
  have OB9 := hide (OB8.out.below hh)
  have OC9 := hide (OC8.out.below hh)
  have OD9 := hide (OD8.out.below hh)
  clear hh SF HT8 HB8 OA8 OB8 OC8 OD8
  go_wp2_with fail
  refine (same_true LG _ _ _ _ _ OD9.out.seen_at OC9.out.seen_at (by omega)).mono ?_
  rintro e w10 ⟨rfl, hh⟩
  have HTa := hide (HT9.out.below hh)
  have HBa := hide (HB9.out.trans (hh.mono HB9.out.size))
  have OAa := hide (OA9.out.below hh)
  have OBa := hide (OB9.out.below hh)
  have OCa := hide (OC9.out.below hh)
  have ODa := hide (OD9.out.below hh)
  clear hh HT9 HB9 OA9 OB9 OC9 OD9
  -- they are kept
  have sa := NEW.out ga GA.out.1
  have sb := NEW.out gb (by have := GA.out; have := GB.out; omega)
  have sc := NEW.out gc (by have := GA.out; have := GB.out; have := GC.out; omega)
  have sd := NEW.out gd (by have := GA.out; have := GB.out; have := GC.out; have := GD.out; omega)
  have lta := (World.ownsRow.lt OAa.out ga rfl)
  have ltb := (World.ownsRow.lt OBa.out gb rfl)
  have ltc := (World.ownsRow.lt OCa.out gc rfl)
  have ltd := (World.ownsRow.lt ODa.out gd rfl)
  have LT := hide (And.intro lta (And.intro ltb (And.intro ltc ltd)))
  have ORD := hide (show ga < gb ∧ gb < gc ∧ gc < gd from ⟨GB.out.1, GC.out.1, GD.out.1⟩)
  have SS := hide (And.intro sa (And.intro sb (And.intro sc sd)))
  clear sa sb sc sd lta ltb ltc ltd GA GB GC GD NEW
  go_wp2_with fail
  refine (keep_any lb B T ga ca LC w10 HTa.out OAa.out SS.out.1 (by omega) (by omega)).mono ?_
  rintro e w11 ⟨rfl, kp1⟩
  have F1 := hide (HBa.out.mono HBS.out |>.trans (kp1.bel HTa.out LT.out.1.1))
  have OBb := hide (kp1.beside HTa.out OBa.out SS.out.2.1 (by have := ORD.out; omega))
  have OCb := hide (kp1.beside HTa.out OCa.out SS.out.2.2.1 (by have := ORD.out; omega))
  have ODb := hide (kp1.beside HTa.out ODa.out SS.out.2.2.2 (by have := ORD.out; omega))
  obtain ⟨lb1, vL1, vM1, en1, tb1, ol1⟩ := kp1.ex
  have U1 := hide (show lb1 gb = 9 ∧ lb1 gc = 9 ∧ lb1 gd = 9 by rw [ol1 gb LT.out.2.1.2 (by have := ORD.out; omega), ol1 gc LT.out.2.2.1.2 (by have := ORD.out; omega), ol1 gd LT.out.2.2.2.2 (by have := ORD.out; omega)]; exact ⟨SS.out.2.1, SS.out.2.2.1, SS.out.2.2.2⟩)
  have TB1 := hide tb1
  have SZ1 := hide kp1.kp.size
  clear tb1 ol1 kp1 OAa OBa OCa ODa HTa HBa SS
  go_wp2_with fail
  refine (keep_any lb1 B _ gb cb LC w11 TB1.out OBb.out U1.out.1 (by omega) (by simp; omega)).mono ?_
  rintro e w12 ⟨rfl, kp1⟩
  have F2 := hide (F1.out.trans (kp1.bel TB1.out LT.out.2.1.1))
  have OCc := hide (kp1.beside TB1.out OCb.out U1.out.2.1 (by have := ORD.out; omega))
  have ODc := hide (kp1.beside TB1.out ODb.out U1.out.2.2 (by have := ORD.out; omega))
  obtain ⟨lb2, vL2, vM2, en2, tb1, ol1⟩ := kp1.ex
  have U2 := hide (show lb2 gc = 9 ∧ lb2 gd = 9 by rw [ol1 gc (Nat.lt_of_lt_of_le LT.out.2.2.1.2 SZ1.out) (by have := ORD.out; omega), ol1 gd (Nat.lt_of_lt_of_le LT.out.2.2.2.2 SZ1.out) (by have := ORD.out; omega)]; exact U1.out.2)
  have TB2 := hide tb1
  have SZ2 := hide (Nat.le_trans SZ1.out kp1.kp.size)
  clear tb1 ol1 kp1 OBb OCb ODb TB1 U1 F1 SZ1
  go_wp2_with fail
  refine (keep_any lb2 B _ gc cc LG w12 TB2.out OCc.out U2.out.1 (by omega) (by simp; omega)).mono ?_
  rintro e w13 ⟨rfl, kp1⟩
  have F3 := hide (F2.out.trans (kp1.bel TB2.out LT.out.2.2.1.1))
  have ODd := hide (kp1.beside TB2.out ODc.out U2.out.2 (by have := ORD.out; omega))
  obtain ⟨lb3, vL3, vM3, en3, tb1, ol1⟩ := kp1.ex
  have U3 := hide (show lb3 gd = 9 by rw [ol1 gd (Nat.lt_of_lt_of_le LT.out.2.2.2.2 SZ2.out) (by have := ORD.out; omega)]; exact U2.out.2)
  have TB3 := hide tb1
  clear tb1 ol1 kp1 OCc ODc TB2 U2 F2 SZ2
  go_wp2_with fail
  refine (keep_any lb3 B _ gd cd LG w13 TB3.out ODd.out U3.out (by omega) (by simp; omega)).mono ?_
  rintro e w14 ⟨rfl, kp1⟩
  have F4 := hide (F3.out.trans (kp1.bel TB3.out LT.out.2.2.2.1))
  obtain ⟨lb4, vL4, vM4, en4, tb1, -⟩ := kp1.ex
  have TB4 := hide tb1
  clear tb1 kp1 ODd TB3 U3 F3
  go_wp2_with fail
  go_ret
  exact ⟨rfl, lb4, _, TB4.out, HQ.out, rfl, F4.out, by simp⟩
end Go.Proofs.Ytimakfnlcgedkaa
