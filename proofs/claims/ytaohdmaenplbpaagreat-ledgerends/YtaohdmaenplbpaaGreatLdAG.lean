import Derived.Test.YtaohdmaenplbpaaGreatLdAF
set_option linter.all false
namespace Go.Proofs.YtaohdmaenplbpaaGreat
open Go.RowKit Go.QK Quota Go.Maps Go.QM
set_option maxRecDepth 100000
/-! does (11): a deed. -/
def DoesPost (T : Nat → Prop) (w : World) (sb : Nat) (r : Ending) (w' : World) : Prop := r = .returned (.bool true) ∧ ∃ T' es' H', Sto T' w' sb es' H' ∧ Gone T w T' w'
theorem St.form {lab : Nat → Nat} {T : Nat → Prop} {w : World} {sb lb : Nat} {vc ve : Value} {es : List SE} {C : Ctrs} {H : Helds} (h : St lab T w sb lb vc ve es C H) : ∃ a1 c1 a2 c2, vc = .slice a1 es.length c1 ∧ ve = .slice a2 es.length c2 := by
  obtain ⟨a1, c1, e1, -⟩ := GRow.lies h.rc
  obtain ⟨a2, c2, e2, -⟩ := GRow.lies h.re
  exact ⟨a1, c1, a2, c2, e1, e2⟩
theorem St.ptrAt {lab : Nat → Nat} {T : Nat → Prop} {w : World} {sb lb : Nat} {vc : Value} {a : Option Addr} {n c : Nat} {es : List SE} {C : Ctrs} {H : Helds} (h : St lab T w sb lb vc (.slice a n c) es C H) {i : Nat} (hi : i < es.length) : ∃ b off, a = some ⟨b, off, none⟩ ∧ w.cell? ⟨b, off + i, none⟩ = some (ptr es[i].eb) ∧ T b ∧ lab b = 4 := by
  have hl4 := h.l4
  obtain ⟨a', c', e, hl, -, -, -, ha⟩ := GRow.lies h.re
  cases e
  obtain ⟨b, off, q1, -, q2⟩ := hl.cellAt i (ptr es[i].eb) (by simp [hi])
  obtain ⟨q3, q4⟩ := hl4 b (by rw [q1]; obtain ⟨q5, -⟩ := ha _ q1; simp only at q5; rw [q5]; rfl)
  exact ⟨b, off, q1, q2, q3, q4⟩
theorem St.mixed {lab : Nat → Nat} {T : Nat → Prop} {w w' : World} {sb lb : Nat} {vc ve : Value} {es : List SE} {C : Ctrs} {H : Helds} {one : Esc → Int → Esc} {t : Int} {i : Nat} (h : St lab T w sb lb vc ve (mixS one t i es) C H) (hi : i < es.length) (k : Keep (two es[i].eb es[i].mb) w w') (he : PE w' es[i].eb es[i].mb (one es[i].e t)) (h1 : (one es[i].e t).lo = es[i].e.lo) (h2 : (one es[i].e t).hi = es[i].e.hi) : St lab T w' sb lb vc ve (mixS one t (i + 1) es) C H ∧ Gone T w T w' := by
  obtain ⟨hm, em⟩ := mix_at one t hi
  have q := h.escrow (i := i) hm (e' := one es[i].e t) (by rw [em]; exact k) (by rw [em]; exact he) (by rw [em]; exact h1) (by rw [em]; exact h2)
  rw [em, mix_next one t hi] at q
  exact q
set_option maxHeartbeats 8000000 in
theorem does_set {T : Nat → Prop} {w : World} {sb : Nat} {es : List SE} {H : Helds} (h : Sto T w sb es H) (kd tx ct d : Int) (hk : kd % 8 = 5) : Calls Tryz.prog 11 #[ptr sb, .agg #[.int .i64 kd, .int .i64 tx, .int .i64 ct, .int .i64 d]] w fun r w' => DoesPost T w sb r w' := by
  obtain ⟨ok, lab, lb, vc, ve, hs⟩ := h
  obtain ⟨a1, c1, a2, c2, rfl, rfl⟩ := hs.form
  obtain ⟨n, hn⟩ : ∃ n, n = es.length := ⟨_, rfl⟩
  rw [← hn] at hs
  have n8 : n ≤ 8 := by rw [hn]; exact ok.few
  obtain ⟨t, ht⟩ : ∃ t, t = 1 + tx % 6 := ⟨_, rfl⟩
  have KM := hide (fun w' => modulo_any tx 6 w' (by omega) (by omega))
  have KK := hide (fun w' => modulo_any kd 8 w' (by omega) (by omega))
  have ti : IntKind.i64.wrap (1 + tx % 6) = t := by rw [IntKind.wrap_i64]; omega
  have ti2 : wrap64 (1 + tx % 6) = t := by unfold wrap64; omega
  have hx : I64 t := by unfold I64; omega
  have T6 := hide (show 1 ≤ t ∧ t ≤ 6 by omega)
  have HX := hide hx
  have bw := alloc_below w (.cells #[.int .i64 kd, .int .i64 tx, .int .i64 ct, .int .i64 d] 30)
  have cd := Cells.new w #[.int .i64 kd, .int .i64 tx, .int .i64 ct, .int .i64 d] 30
  obtain ⟨db, hdb⟩ : ∃ b, b = w.heap.size := ⟨_, rfl⟩
  have OFF := hide (show ∀ z, T z → z ≠ db from fun z hz => by have := hs.lt z hz; omega)
  have HN := hide hn
  have OK := hide ok
  clear hn ht hx ok
  have HS := hide (hs.below bw)
  have G0 := hide (Gone.of_below (T := T) bw)
  clear hs bw
  rw [hk] at KK
  clear hk
  go_enter Tryz.func11, Tryz.ntmps11
  go_upto_region 2 with (go_at_call 16; refine (KM.out _).mono ?_; rintro r w1 ⟨rfl, hb⟩; have S1 := hide (HS.out.below hb); have G1 := hide (G0.out.trans (Gone.of_below hb)); replace cd := cd.below hb; clear HS G0 KM)
  obtain ⟨k0, -⟩ := cd.get 0 _ rfl
  go_upto_region 4 with (go_at_call 16; refine (KK.out _).mono ?_; rintro r w2 ⟨rfl, hb⟩; have HS := hide (S1.out.below hb); have G0 := hide (G1.out.trans (Gone.of_below hb)); clear S1 G1 k0 cd KK)
  clear ti ti2 OFF hdb
  go_wp2_with fail
  go_loopw [7, 6] (fun v u wr => ∃ (i : Nat), v = .int .i64 (i : Int) ∧ u = .int .i64 ((cntS t i es : Nat) : Int) ∧ i ≤ n ∧ St lab T wr sb lb (.slice a1 n c1) (.slice a2 n c2) (mixS setN t i es) (ctrsOf es) H ∧ Gone T w T wr) (fun v _ _ => n + 1 - (intOf v).toNat)
  case atStart => exact ⟨0, rfl, rfl, Nat.zero_le _, by rw [mix_zero]; exact HS.out, G0.out⟩
  case round =>
    clear HS G0
    obtain ⟨i, rfl, rfl, hi, hS, hG⟩ := hrel
    have b2 := (hS.box.get 2 _ rfl).1
    have b0 := (hS.box.get 0 _ rfl).1
    have HS := hide hS
    have G0 := hide hG
    clear hG
    have hc := cnt_le t i es
    by_cases hlt : i < n
    · have hil : i < es.length := by rw [← HN.out]; exact hlt
      obtain ⟨hm, em⟩ := mix_at setN t hil
      obtain ⟨b, off, rfl, pc, -, -⟩ := hS.ptrAt hm
      rw [em] at pc
      have KE := hide (settle_any es[i].eb es[i].mb es[i].e t wr (by have := hS.esc i hm; rw [em] at this; exact this) HX.out)
      have CN := hide (cnt_next t hil)
      clear hS em
      obtain ⟨q, hq⟩ : ∃ q, q = holdB es[i].e.nets t := ⟨_, rfl⟩
      rw [← hq] at KE CN
      obtain ⟨cn, hcn⟩ : ∃ c, c = cntS t i es := ⟨_, rfl⟩
      rw [← hcn] at CN hc ⊢
      obtain ⟨cm, hcm⟩ : ∃ c, c = cntS t (i + 1) es := ⟨_, rfl⟩
      rw [← hcm] at CN
      have CM := hide hcm
      clear hq hcn hcm hm b0
      go_upto_if 40 with (go_at_call 49; refine KE.out.mono ?_; rintro r w3 ⟨rfl, hk3, hp3⟩)
      obtain ⟨hs3, hg3⟩ := HS.out.mixed hil hk3 hp3 (setN_ends _ _).1 (setN_ends _ _).2
      have S3 := hide hs3
      have G3 := hide (G0.out.trans hg3)
      clear hs3 hg3 hk3 hp3 HS G0 KE b2 pc
      cases q with
      | true =>
        have CN2 := hide (show cm = cn + 1 by rw [CN.out, if_pos rfl])
        clear CN
        go_wp2_with fail
        go_roundw
        case rel => exact ⟨i + 1, by go_num, by rw [← CM.out, CN2.out]; go_num, by omega, S3.out, G3.out⟩
        case measure => simp [intOf]; omega
      | false =>
        have CN2 := hide (show cm = cn by rw [CN.out]; simp)
        clear CN
        go_wp2_with fail
        go_roundw
        case rel => exact ⟨i + 1, by go_num, by rw [← CM.out, CN2.out], by omega, S3.out, G3.out⟩
        case measure => simp [intOf]; omega
    · obtain rfl : i = n := by omega
      obtain ⟨S, hl, hnx⟩ := hS.ledger
      have KL := hide (lg_settle hl HX.out)
      have NX := hide hnx
      rw [cnt_held hl.ok.1.up hl.ok.2 t, ← HN.out] at KL
      obtain ⟨cn, hcn⟩ : ∃ c, c = cntS t i es := ⟨_, rfl⟩
      rw [← hcn] at KL hc ⊢
      clear hcn hS hl hnx HS
      go_wp2_with (go_at_call 42; refine KL.out.mono ?_; rintro r w3 ⟨rfl, hL⟩)
      obtain ⟨lab', T', hs', hg'⟩ := NX.out _ _ _ hL
      go_ret
      refine ⟨by simp, T', es.map (fun x => x.turn (setN x.e t)), delM H t, ⟨ends_ok OK.out setN t (fun e => setN_nets e t), lab', lb, .slice a1 i c1, .slice a2 i c2, ?_⟩, G0.out.trans hg'⟩
      rw [ctrs_end, ← mix_all, ← HN.out]
      exact hs'
set_option maxHeartbeats 8000000 in
theorem does_rel {T : Nat → Prop} {w : World} {sb : Nat} {es : List SE} {H : Helds} (h : Sto T w sb es H) (kd tx ct d : Int) (hk : kd % 8 = 6) : Calls Tryz.prog 11 #[ptr sb, .agg #[.int .i64 kd, .int .i64 tx, .int .i64 ct, .int .i64 d]] w fun r w' => DoesPost T w sb r w' := by
  obtain ⟨ok, lab, lb, vc, ve, hs⟩ := h
  obtain ⟨a1, c1, a2, c2, rfl, rfl⟩ := hs.form
  obtain ⟨n, hn⟩ : ∃ n, n = es.length := ⟨_, rfl⟩
  rw [← hn] at hs
  have n8 : n ≤ 8 := by rw [hn]; exact ok.few
  obtain ⟨t, ht⟩ : ∃ t, t = 1 + tx % 6 := ⟨_, rfl⟩
  have KM := hide (fun w' => modulo_any tx 6 w' (by omega) (by omega))
  have KK := hide (fun w' => modulo_any kd 8 w' (by omega) (by omega))
  have ti : IntKind.i64.wrap (1 + tx % 6) = t := by rw [IntKind.wrap_i64]; omega
  have ti2 : wrap64 (1 + tx % 6) = t := by unfold wrap64; omega
  have hx : I64 t := by unfold I64; omega
  have T6 := hide (show 1 ≤ t ∧ t ≤ 6 by omega)
  have HX := hide hx
  have bw := alloc_below w (.cells #[.int .i64 kd, .int .i64 tx, .int .i64 ct, .int .i64 d] 30)
  have cd := Cells.new w #[.int .i64 kd, .int .i64 tx, .int .i64 ct, .int .i64 d] 30
  obtain ⟨db, hdb⟩ : ∃ b, b = w.heap.size := ⟨_, rfl⟩
  have OFF := hide (show ∀ z, T z → z ≠ db from fun z hz => by have := hs.lt z hz; omega)
  have HN := hide hn
  have OK := hide ok
  clear hn ht hx ok
  have HS := hide (hs.below bw)
  have G0 := hide (Gone.of_below (T := T) bw)
  clear hs bw
  rw [hk] at KK
  clear hk
  go_enter Tryz.func11, Tryz.ntmps11
  go_upto_region 2 with (go_at_call 16; refine (KM.out _).mono ?_; rintro r w1 ⟨rfl, hb⟩; have S1 := hide (HS.out.below hb); have G1 := hide (G0.out.trans (Gone.of_below hb)); replace cd := cd.below hb; clear HS G0 KM)
  obtain ⟨k0, -⟩ := cd.get 0 _ rfl
  go_upto_region 4 with (go_at_call 16; refine (KK.out _).mono ?_; rintro r w2 ⟨rfl, hb⟩; have HS := hide (S1.out.below hb); have G0 := hide (G1.out.trans (Gone.of_below hb)); clear S1 G1 k0 cd KK)
  clear ti ti2 OFF hdb
  go_wp2_with fail
  go_loopw [8, 6] (fun v u wr => ∃ (i : Nat), v = .int .i64 (i : Int) ∧ u = .int .i64 ((cntS t i es : Nat) : Int) ∧ i ≤ n ∧ St lab T wr sb lb (.slice a1 n c1) (.slice a2 n c2) (mixS relN t i es) (ctrsOf es) H ∧ Gone T w T wr) (fun v _ _ => n + 1 - (intOf v).toNat)
  case atStart => exact ⟨0, rfl, rfl, Nat.zero_le _, by rw [mix_zero]; exact HS.out, G0.out⟩
  case round =>
    clear HS G0
    obtain ⟨i, rfl, rfl, hi, hS, hG⟩ := hrel
    have b2 := (hS.box.get 2 _ rfl).1
    have b0 := (hS.box.get 0 _ rfl).1
    have HS := hide hS
    have G0 := hide hG
    clear hG
    have hc := cnt_le t i es
    by_cases hlt : i < n
    · have hil : i < es.length := by rw [← HN.out]; exact hlt
      obtain ⟨hm, em⟩ := mix_at relN t hil
      obtain ⟨b, off, rfl, pc, -, -⟩ := hS.ptrAt hm
      rw [em] at pc
      have KE := hide (release_any es[i].eb es[i].mb es[i].e t wr (by have := hS.esc i hm; rw [em] at this; exact this) HX.out)
      have CN := hide (cnt_next t hil)
      clear hS em
      obtain ⟨q, hq⟩ : ∃ q, q = holdB es[i].e.nets t := ⟨_, rfl⟩
      rw [← hq] at KE CN
      obtain ⟨cn, hcn⟩ : ∃ c, c = cntS t i es := ⟨_, rfl⟩
      rw [← hcn] at CN hc ⊢
      obtain ⟨cm, hcm⟩ : ∃ c, c = cntS t (i + 1) es := ⟨_, rfl⟩
      rw [← hcm] at CN
      have CM := hide hcm
      clear hq hcn hcm hm b0
      go_upto_if 70 with (go_at_call 50; refine KE.out.mono ?_; rintro r w3 ⟨rfl, hk3, hp3⟩)
      obtain ⟨hs3, hg3⟩ := HS.out.mixed hil hk3 hp3 (relN_ends _ _).1 (relN_ends _ _).2
      have S3 := hide hs3
      have G3 := hide (G0.out.trans hg3)
      clear hs3 hg3 hk3 hp3 HS G0 KE b2 pc
      cases q with
      | true =>
        have CN2 := hide (show cm = cn + 1 by rw [CN.out, if_pos rfl])
        clear CN
        go_wp2_with fail
        go_roundw
        case rel => exact ⟨i + 1, by go_num, by rw [← CM.out, CN2.out]; go_num, by omega, S3.out, G3.out⟩
        case measure => simp [intOf]; omega
      | false =>
        have CN2 := hide (show cm = cn by rw [CN.out]; simp)
        clear CN
        go_wp2_with fail
        go_roundw
        case rel => exact ⟨i + 1, by go_num, by rw [← CM.out, CN2.out], by omega, S3.out, G3.out⟩
        case measure => simp [intOf]; omega
    · obtain rfl : i = n := by omega
      obtain ⟨S, hl, hnx⟩ := hS.ledger
      have KL := hide (lg_release hl HX.out)
      have NX := hide hnx
      rw [cnt_held hl.ok.1.up hl.ok.2 t, ← HN.out] at KL
      obtain ⟨cn, hcn⟩ : ∃ c, c = cntS t i es := ⟨_, rfl⟩
      rw [← hcn] at KL hc ⊢
      clear hcn hS hl hnx HS
      go_wp2_with (go_at_call 35; refine KL.out.mono ?_; rintro r w3 ⟨rfl, hL⟩)
      obtain ⟨lab', T', hs', hg'⟩ := NX.out _ _ _ hL
      go_ret
      refine ⟨by simp, T', es.map (fun x => x.turn (relN x.e t)), delM H t, ⟨ends_ok OK.out relN t (fun e => relN_nets e t), lab', lb, .slice a1 i c1, .slice a2 i c2, ?_⟩, G0.out.trans hg'⟩
      rw [ctrs_end, ← mix_all, ← HN.out]
      exact hs'
end Go.Proofs.YtaohdmaenplbpaaGreat
