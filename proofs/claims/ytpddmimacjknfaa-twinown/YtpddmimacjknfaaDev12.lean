import Derived.Test.YtpddmimacjknfaaDev11
namespace Go.Proofs.Ytpddmimacjknfaa
open Go.RowKit Go.QK

theorem Fresh.keep {w w' : World} {B : Nat} {qs : List PE} {T : Nat → Prop} (h : Fresh w B qs) (hk : Keep T w w') (hn : ∀ q ∈ qs, ¬ T q.k) : Fresh w' B qs :=
  ⟨fun q hq => ⟨Owns.keep (h.own q hq).1 hk (fun g hg => by
    have e : q.k = g := Option.some.inj hg
    subst e
    exact hn q hq), Nat.lt_of_lt_of_le (h.own q hq).2 hk.size⟩, h.far, h.up⟩

set_option maxHeartbeats 1000000 in
set_option maxRecDepth 100000 in
theorem cache_any {w : World} {S : Nat → Prop} {d : Nat} {g : Dev} (h : PDev w S d g) (hpl : g.pend.length ≤ 1000000) :
    Calls Try.prog 56 #[.pointer (some ⟨d, 0, none⟩)] w fun e w' => ∃ qs, e = .returned (.slice (some ⟨w.heap.size, 0, none⟩) qs.length qs.length) ∧ qs.map PE.out = g.pend ∧ PRow w' w.heap.size (.slice (some ⟨w.heap.size, 0, none⟩) qs.length qs.length) qs ∧ Fresh w' w.heap.size qs ∧ Below w.heap.size w w' := by
  obtain ⟨ib, ic, pv, ps, kv, tn, off, hc, hb, hp, ok⟩ := h
  have hps : ps.length ≤ 1000000 := by rw [hp] at hpl; simpa using hpl
  obtain ⟨w1, L, m1, o1, b1⟩ := makeP w ps.length (by omega)
  have r1 := hb.row.keep (S := fun _ => False) (Keep.of_below b1) (fun _ _ q => q)
  obtain ⟨w2, k2, o2, kp2⟩ := run_copyP w1 3 _ _ _ _ _ _ o1 r1
  obtain ⟨pa, pc, hpv, hpn, hple, hpm, hrow⟩ := hb.row.form
  subst hpv
  have hdl := hc.1
  obtain ⟨c1, _⟩ := hc.get 1 _ rfl
  have c1' := (b1.cell (p := ⟨d, 1, none⟩) hdl).trans c1
  have B2 : Below w.heap.size w w2 := b1.trans (kp2.below b1.size (fun j hj q => by omega))
  have OKG := hide ok
  have HB := hide hb
  have O2 := hide o2
  have hz2 : w.heap.size < w2.heap.size := (o2.lt _ rfl).2
  clear hb hc o1 o2 r1 hrow kp2
  go_enter Try.func56, Try.ntmps56
  go_wp2_with fail
  go_loopw [19] (fun i wr => ∃ k : Nat, k ≤ ps.length ∧ i = .int .i64 (k : Int) ∧ ∃ qs, qs.length = k ∧ qs.map PE.out = (ps.take k).map PE.out ∧ PRow wr w.heap.size (.slice (some ⟨w.heap.size, 0, none⟩) ps.length ps.length) (qs ++ ps.drop k) ∧ Fresh wr w.heap.size qs ∧ Below w.heap.size w wr ∧ w.heap.size < wr.heap.size) (fun i _ => ps.length - (intOf i).toNat)
  case atStart => exact ⟨0, Nat.zero_le _, rfl, [], rfl, rfl, O2.out, ⟨nofun, nofun, .nil⟩, B2, hz2⟩
  case round =>
    obtain ⟨k, hk, rfl, qs, hql, hqm, hrw, hfr, hbl, hgt⟩ := hrel
    by_cases hlt : k < ps.length
    · obtain ⟨p, hpe⟩ : ∃ p, p = ps[k] := ⟨_, rfl⟩
      have hdrop : ps.drop k = p :: ps.drop (k + 1) := by rw [hpe]; exact List.drop_eq_getElem_cons hlt
      rw [hdrop] at hrw
      obtain ⟨bb, ebb, _, z0, z1⟩ := hrw.form' k (by simp [hql])
      cases ebb
      have hget : (qs ++ p :: ps.drop (k + 1))[k]'(by simp [hql]) = p := by
        rw [List.getElem_append_right (by omega)]
        simp [hql]
      rw [hget] at z1
      have he : (qs ++ p :: ps.drop (k + 1)).length = ps.length := by
        simp [hql]
        omega
      have hrw' := hrw
      unfold PRow at hrw'
      rw [he] at hrw'
      have zf := World.ownsRow.frozenAt hrw' (k * 2 + 1)
      clear hrw' he
      obtain ⟨e1, e2, e2', e3, e4, e5, e6⟩ := HB.out.en p (by rw [hpe]; exact List.getElem_mem hlt)
      have hpl : p.b.length = 512 := (OKG.out.pend p.out (by rw [hp, hpe]; exact List.mem_map.2 ⟨_, List.getElem_mem hlt, rfl⟩)).2.1
      have CL := hide (clone_any _ p.b p.c wr (Seen.below e1 hbl) e2 nofun (by omega))
      have HTK := hide (show (ps.take (k + 1)).map PE.out = (ps.take k).map PE.out ++ [p.out] by rw [take_snoc ps k hlt, List.map_append, hpe]; rfl)
      unfold PE.v at z1
      have hlk : (k : Int) < (ps.length : Int) := by omega
      have HR := hide hrw
      have HF := hide hfr
      have HQM := hide hqm
      have HPE := hide hpe
      have HQL := hide hql
      have hpos : 0 < p.b.length := by omega
      clear z0 hget hpl
      clear hrw hfr hdrop hqm hpe hql e1
      go_wp2_with fail
      refine CL.out.mono ?_
      rintro e w3 ⟨v3, rfl, o3, b3⟩
      obtain ⟨kb, cb, hv3, hcb, hB3, hkb⟩ := o3.form (by simp; omega)
      rw [ints_length] at hv3
      subst hv3
      have y0 := (b3.cell (p := ⟨w.heap.size, k * 2 + 1, none⟩) hgt).trans z1
      have yf := (b3.frozen (p := ⟨w.heap.size, k * 2 + 1, none⟩) hgt).trans zf
      have O3 := hide o3
      have HR3 := hide (PRow.keep HR.out (S := fun _ => False) (Keep.of_below b3) (fun _ _ q => q))
      have HF3 := hide (Fresh.keep HF.out (T := fun _ => False) (Keep.of_below b3) (fun _ _ q => q))
      have FAR := hide (fun q (hq : q ∈ qs) => (HF.out.own q hq).2)
      have hs3 := b3.size
      clear o3 z1 zf CL HR HF
      go_wp2_with fail
      obtain ⟨w4, hw4⟩ : ∃ w4, w4 = w3.setCell ⟨w.heap.size, k * 2 + 1, none⟩ (.slice (some ⟨kb, 0, none⟩) p.b.length cb) := ⟨_, rfl⟩
      have K4 : Keep (fun b => b = w.heap.size) w3 w4 := by rw [hw4]; exact (Keep.refl (fun b => b = w.heap.size) w3).setCell (fun _ => rfl) _
      have R4 : PRow w4 w.heap.size (.slice (some ⟨w.heap.size, 0, none⟩) ps.length ps.length) ((qs ++ [(⟨p.s, kb, cb, p.b⟩ : PE)]) ++ ps.drop (k + 1)) := by
        have e : (qs ++ p :: ps.drop (k + 1)).length = ps.length := by
          simp [HQL.out]
          omega
        have q := HR3.out
        unfold PRow at q
        rw [e] at q
        have q2 := (World.ownsRow.stored q (k * 2 + 1) (PE.v ⟨p.s, kb, cb, p.b⟩)).1
        have q3 := rowOf_set qs (ps.drop (k + 1)) p ⟨p.s, kb, cb, p.b⟩ rfl
        rw [HQL.out] at q3
        rw [q3] at q2
        unfold PRow
        rw [List.append_assoc, show ((qs ++ ([(⟨p.s, kb, cb, p.b⟩ : PE)] ++ ps.drop (k + 1))).length) = ps.length by simp [HQL.out]; omega, hw4]
        exact q2
      have F4 : Fresh w4 w.heap.size (qs ++ [(⟨p.s, kb, cb, p.b⟩ : PE)]) := by
        have f := HF3.out.keep K4 (fun q hq e => by have := HF3.out.far q hq; omega)
        refine ⟨fun q hq => ?_, fun q hq => ?_, ?_⟩
        · rcases List.mem_append.1 hq with r | r
          · exact f.own q r
          · simp at r
            subst r
            exact ⟨Owns.keep (Owns.base O3.out (by omega)) K4 (fun g hg => by
              have e : kb = g := Option.some.inj hg
              omega), by show kb < _; have := K4.size; omega⟩
        · rcases List.mem_append.1 hq with r | r
          · exact f.far q r
          · simp at r
            subst r
            show w.heap.size < kb
            omega
        · rw [List.pairwise_append]
          refine ⟨f.up, by simp, fun x hx y hy => ?_⟩
          simp at hy
          subst hy
          have := FAR.out x hx
          show x.k < kb
          omega
      have B4 : Below w.heap.size w w4 := (bnext hbl b3 (Nat.le_refl _)).trans (K4.below (by omega) (fun j hj q => by omega))
      have z4 : w.heap.size < w4.heap.size := by have := K4.size; omega
      rw [← hw4]
      have HR4 := hide R4
      have HF4 := hide F4
      clear R4 F4 hw4 K4
      go_wp2_with fail
      go_roundw
      case rel => exact ⟨k + 1, by omega, by go_num, _, by simp [HQL.out], by rw [HTK.out, List.map_append, HQM.out]; rfl, HR4.out, HF4.out, B4, z4⟩
      case measure => simp [intOf]; omega
    · obtain rfl : k = ps.length := by omega
      rw [List.drop_length, List.append_nil] at hrw
      rw [List.take_length] at hqm
      have HR := hide hrw
      have HF := hide hfr
      have HQM := hide hqm
      have HQL := hide hql
      clear hrw hfr hqm hql
      go_wp2_with fail
      go_ret
      refine ⟨qs, by rw [HQL.out]; rfl, by rw [HQM.out, hp], by rw [HQL.out]; exact HR.out, HF.out, hbl⟩
end Go.Proofs.Ytpddmimacjknfaa
