import Derived.Test.YtgpmghdoofcpaaaDev10
import Derived.Test.YtgpmghdoofcpaaaContent
namespace Go.Proofs.Ytgpmghdoofcpaaa.Dv
open Go.RowKit Go.QK

theorem _root_.Go.QK.Owns.base {k : IntKind} {e : TypeId} {w : World} {B B' : Nat} {v : Value} {xs : List Int} (q : Owns k e w B v xs) (h : B' ≤ B) : Owns k e w B' v xs :=
  ⟨q.1, by
    rcases q.2 with r | ⟨g, cap, cur, r1, r2, r3⟩
    · exact .inl r
    · exact .inr ⟨g, cap, cur, r1, Nat.le_trans h r2, r3⟩⟩

/-- What 'Read' hands out. -/
def _root_.Go.QK.Dev.readB (g : Dev) (i : Int) : List Nat := if g.reach i = 0 then g.content i.toNat else []

theorem foldl_512 (i : Nat) : (ps : List (Nat × List Nat)) → (x : List Nat) → x.length = 512 → (∀ p ∈ ps, p.2.length = 512) → (ps.foldl (fun x p => if p.1 = i then p.2 else x) x).length = 512
  | [], x, h, _ => h
  | p :: ps, x, h, q => foldl_512 i ps _ (by dsimp only; split; exact q p (by simp); exact h) (fun r hr => q r (by simp [hr]))
theorem foldl_allB (i : Nat) : (ps : List (Nat × List Nat)) → (x : List Nat) → AllB x → (∀ p ∈ ps, AllB p.2) → AllB (ps.foldl (fun x p => if p.1 = i then p.2 else x) x)
  | [], x, h, _ => h
  | p :: ps, x, h, q => foldl_allB i ps _ (by dsimp only; split; exact q p (by simp); exact h) (fun r hr => q r (by simp [hr]))
theorem content_len {g : Dev} (ok : g.Ok) (i : Nat) (hi : 512 * i + 512 ≤ g.img.length) : (g.content i).length = 512 :=
  foldl_512 i g.pend _ (by simp [sector]; omega) (fun p hp => (ok.pend p hp).2.1)
theorem content_allB {g : Dev} (ok : g.Ok) (i : Nat) : AllB (g.content i) :=
  foldl_allB i g.pend _ ((ok.bytes.drop _).take _) (fun p hp => (ok.pend p hp).2.2)

set_option maxHeartbeats 400000 in
set_option maxRecDepth 100000 in
theorem read_any {w : World} {S : Nat → Prop} {d : Nat} {g : Dev} (h : PDev w S d g) (i : Int) (hpl : g.pend.length ≤ 1000000) :
    Calls Try.prog 15 #[.pointer (some ⟨d, 0, none⟩), .int .i64 i] w fun e w' => ∃ v, e = .returned (.tuple #[v, .int .i64 ((g.reach i : Nat) : Int)]) ∧ OwnB w' w.heap.size v (g.readB i) ∧ Below w.heap.size w w' := by
  have RE := hide (reach_any i h)
  by_cases hr : g.reach i = 0
  · obtain ⟨_, h0, h1, _⟩ := Dev.reach_ok h.ok hr
    have CO := hide (content_any h i.toNat h1 hpl)
    have hlen := content_len h.ok i.toNat h1
    have e0 : ((i.toNat : Nat) : Int) = i := by omega
    rw [e0] at CO
    have hrb : g.readB i = g.content i.toNat := by unfold Dev.readB; rw [if_pos hr]
    rw [hrb, hr]
    rw [hr] at RE
    generalize g.content i.toNat = x at *
    clear h hrb e0 h1 h0
    go_enter Try.func15, Try.ntmps15
    go_wp2_with fail
    refine RE.out.mono ?_
    rintro e w' ⟨rfl, hw⟩
    obtain rfl : w = w' := hw.symm
    go_wp2_with fail
    refine CO.out.mono ?_
    rintro e w1 ⟨a, c, rfl, hs, hn, hc, hb⟩
    have CL := hide (clone_any a x c w1 (Seen.below hs hb) (by omega) hn (by omega))
    rw [hlen] at CL
    clear hs
    go_wp2_with fail
    refine CL.out.mono ?_
    rintro e w2 ⟨v, rfl, ho, hb2⟩
    have HO := hide (Owns.base ho hb.size)
    clear ho CL
    go_wp2_with fail
    go_ret2
    exact ⟨v, rfl, HO.out, bnext hb hb2 (Nat.le_refl _)⟩
  · have hrb : g.readB i = [] := by unfold Dev.readB; rw [if_neg hr]
    rw [hrb]
    have hr' : (((g.reach i : Nat) : Int) != 0) = true := by simp; omega
    generalize g.reach i = r at *
    clear h hrb
    go_enter Try.func15, Try.ntmps15
    go_wp2_with fail
    refine RE.out.mono ?_
    rintro e w' ⟨rfl, hw⟩
    obtain rfl : w = w' := hw.symm
    go_wp2_with fail
    go_ret2
    exact ⟨_, rfl, Owns.nil _ _ _ _, Below.refl _ _⟩

/-- 'copy(out, v)' of pending writes. -/
theorem run_copyP (w : World) (ty : TypeId) (B B' g : Nat) (L : List Value) (v : Value) (ps : List PE) (hown : w.ownsRow B 99 2 (.slice (some ⟨g, 0, none⟩) ps.length ps.length) ps.length L) (hv : PRow w B' v ps) :
    ∃ w', (Builtin.copy_ #[56, 56] ty #[.slice (some ⟨g, 0, none⟩) ps.length ps.length, v]).run Try.prog w = .ok (goInt ps.length) w' ∧ PRow w' B (.slice (some ⟨g, 0, none⟩) ps.length ps.length) ps ∧ Keep (fun b => b = g) w w' := by
  obtain ⟨i0, hi, hz⟩ : ∃ i0, Try.prog.info? 99 = some i0 ∧ i0.size = 2 := by
    have this : (Try.prog.info? 99).map (fun i => i.size) = some 2 := by kernel_rfl
    cases hq : Try.prog.info? 99 with
    | none => rw [hq] at this; cases this
    | some i0 =>
      rw [hq] at this
      simp only [Option.map_some, Option.some.injEq] at this
      exact ⟨i0, rfl, this⟩
  obtain ⟨h1, h2⟩ := hown
  rcases h2 with ⟨q, _⟩ | ⟨g', cap, cur, q, hB, hg, hle, hmx, hsize, ht⟩
  · cases q
  · simp only [Value.slice.injEq, Option.some.injEq, Addr.mk.injEq] at q
    obtain ⟨⟨rfl, _, _⟩, _, rfl⟩ := q
    rcases hv.2 with ⟨rfl, hn⟩ | ⟨b, cap', cur', rfl, hB', hb, hle', hm', hs', ht'⟩
    · have : ps = [] := List.eq_nil_of_length_eq_zero hn
      subst this
      refine ⟨w, ?_, ⟨rfl, .inr ⟨g, 0, cur, rfl, hB, hg, Nat.le_refl _, hmx, hsize, by simp [rowOf]⟩⟩, Keep.refl _ _⟩
      simp [Builtin.copy_, run_underlying Try.underlying56, Builtin.lenOf, Builtin.firstCells, Go.sizeOf, typeInfo, hi, storeCells]
    · have hl := run_loadCells_list (P := Try.prog) w ⟨b, 0, none⟩ (rowOf ps) (fun j u hj => World.ownsRow.cells hv (g := b) rfl j u hj)
      have hst := run_storeCells_at Try.prog g 0 99 (rowOf ps) 0 cur w hg (by rw [rowOf_length]; omega) (by
        intro u hu
        simp only [rowOf, List.mem_flatMap] at hu
        obtain ⟨p, _, hp⟩ := hu
        simp at hp
        rcases hp with rfl | rfl <;> rfl)
      rw [rowOf_length] at hl
      refine ⟨_, by simp [Builtin.copy_, run_underlying Try.underlying56, Builtin.lenOf, Builtin.firstCells, Go.sizeOf, typeInfo, hi, hz, hl, hst]; rfl, ?_, setRow_keep _ _ _⟩
      refine ⟨rowOf_length ps, .inr ⟨g, ps.length, _, rfl, hB, setRow_heap w g _ _ 99 _ hg, Nat.le_refl _, hmx, ?_, ?_⟩⟩
      · simp [rowOf_length]
        omega
      · show List.take (ps.length * 2) (rowOf ps ++ List.drop (rowOf ps).length cur.toList) = rowOf ps
        rw [← rowOf_length, List.take_left]

/-- 'make([]Pending, n)'. -/
theorem makeP (w : World) (n : Nat) (hn : n ≤ 2000000) : ∃ w1 L, (Instr.makeSlice 56 (.int .i64 (n : Int)) (.int .i64 (n : Int))).run Try.prog w = .ok (.slice (some ⟨w.heap.size, 0, none⟩) n n) w1 ∧
    w1.ownsRow w.heap.size 99 2 (.slice (some ⟨w.heap.size, 0, none⟩) n n) n L ∧ Below w.heap.size w w1 := by
  obtain ⟨i0, hi, hz⟩ : ∃ i0, Try.prog.info? 99 = some i0 ∧ i0.zero = some (.agg #[.int .i64 0, .slice none 0 0]) ∧ i0.size = 2 ∧ i0.bytes = 32 := by
    have this : (Try.prog.info? 99).map (fun i => (i.zero, i.size, i.bytes)) = some (some (.agg #[.int .i64 0, .slice none 0 0]), 2, 32) := by kernel_rfl
    cases hq : Try.prog.info? 99 with
    | none => rw [hq] at this; cases this
    | some i0 =>
      rw [hq] at this
      simp only [Option.map_some, Option.some.injEq, Prod.mk.injEq] at this
      exact ⟨i0, rfl, this⟩
  obtain ⟨w1, h1, h2, h3⟩ := run_makeSlice_full (P := Try.prog) (w := w) w.heap.size 56 99 i0 (.agg #[.int .i64 0, .slice none 0 0]) 2 Try.underlying56 hi hz.1 hz.2.1 .i64 .i64 n (by omega) (by rw [hz.2.2]; omega) (by unfold maxLen; omega) (Nat.le_refl _)
  exact ⟨w1, _, h1, h2, (Below.refl _ _).grown h3 (Nat.le_refl _) (by nofun)⟩

theorem rowOf_set (qs ps : List PE) (p p' : PE) (hs : p'.s = p.s) : (rowOf (qs ++ p :: ps)).set (qs.length * 2 + 1) p'.v = rowOf (qs ++ p' :: ps) := by
  rw [rowOf_append, rowOf_append, List.set_append_right _ _ (by rw [rowOf_length]; omega), rowOf_length]
  rw [show qs.length * 2 + 1 - qs.length * 2 = 1 by omega]
  congr 1
  show List.set (.int .i64 (p.s : Int) :: p.v :: rowOf ps) 1 p'.v = .int .i64 (p'.s : Int) :: p'.v :: rowOf ps
  rw [hs]
  rfl

/-- Copies of pending writes: in blocks of their own, one behind the other, from B on. -/
structure Fresh (w : World) (B : Nat) (qs : List PE) : Prop where
  own : ∀ q ∈ qs, OwnB w B q.v q.b ∧ q.k < w.heap.size
  far : ∀ q ∈ qs, B < q.k
  up : qs.Pairwise (fun a b => a.k < b.k)
end Go.Proofs.Ytgpmghdoofcpaaa.Dv

namespace Go.Proofs.Ytgpmghdoofcpaaa.Dv
open Go.RowKit Go.QK

theorem Fresh.keep {w w' : World} {B : Nat} {qs : List PE} {T : Nat → Prop} (h : Fresh w B qs) (hk : Keep T w w') (hn : ∀ q ∈ qs, ¬ T q.k) : Fresh w' B qs :=
  ⟨fun q hq => ⟨Owns.keep (h.own q hq).1 hk (fun g hg => by
    have e : q.k = g := Option.some.inj hg
    subst e
    exact hn q hq), Nat.lt_of_lt_of_le (h.own q hq).2 hk.size⟩, h.far, h.up⟩

set_option maxHeartbeats 1000000 in
set_option maxRecDepth 100000 in
theorem cache_any {w : World} {S : Nat → Prop} {d : Nat} {g : Dev} (h : PDev w S d g) (hpl : g.pend.length ≤ 1000000) :
    Calls Try.prog 33 #[.pointer (some ⟨d, 0, none⟩)] w fun e w' => ∃ qs, e = .returned (.slice (some ⟨w.heap.size, 0, none⟩) qs.length qs.length) ∧ qs.map PE.out = g.pend ∧ PRow w' w.heap.size (.slice (some ⟨w.heap.size, 0, none⟩) qs.length qs.length) qs ∧ Fresh w' w.heap.size qs ∧ Below w.heap.size w w' := by
  obtain ⟨ib, ic, pv, ps, kv, tn, off, hc, hb, hp, ok⟩ := h
  have hps : ps.length ≤ 1000000 := by rw [hp] at hpl; simpa using hpl
  obtain ⟨w1, L, m1, o1, b1⟩ := makeP w ps.length (by omega)
  have r1 := hb.row.keep (S := fun _ => False) (Keep.of_below b1) (fun _ _ q => q)
  obtain ⟨w2, k2, o2, kp2⟩ := run_copyP w1 3 _ _ _ _ _ _ o1 r1
  obtain ⟨pa, pc, hpv, hpn, hple, hpm, hrow⟩ := hb.row.form
  subst hpv
  have hdl := hc.1
  obtain ⟨c1, _⟩ := hc.get 1 _ rfl
  have c1' := (b1.cell (p := ⟨d, 1, none⟩) hdl).trans c1
  have B2 : Below w.heap.size w w2 := b1.trans (kp2.below b1.size (fun j hj q => by omega))
  have OKG := hide ok
  have HB := hide hb
  have O2 := hide o2
  have hz2 : w.heap.size < w2.heap.size := (o2.lt _ rfl).2
  clear hb hc o1 o2 r1 hrow kp2
  go_enter Try.func33, Try.ntmps33
  go_wp2_with fail
  go_loopw [19] (fun i wr => ∃ k : Nat, k ≤ ps.length ∧ i = .int .i64 (k : Int) ∧ ∃ qs, qs.length = k ∧ qs.map PE.out = (ps.take k).map PE.out ∧ PRow wr w.heap.size (.slice (some ⟨w.heap.size, 0, none⟩) ps.length ps.length) (qs ++ ps.drop k) ∧ Fresh wr w.heap.size qs ∧ Below w.heap.size w wr ∧ w.heap.size < wr.heap.size) (fun i _ => ps.length - (intOf i).toNat)
  case atStart => exact ⟨0, Nat.zero_le _, rfl, [], rfl, rfl, O2.out, ⟨nofun, nofun, .nil⟩, B2, hz2⟩
  case round =>
    obtain ⟨k, hk, rfl, qs, hql, hqm, hrw, hfr, hbl, hgt⟩ := hrel
    by_cases hlt : k < ps.length
    · obtain ⟨p, hpe⟩ : ∃ p, p = ps[k] := ⟨_, rfl⟩
      have hdrop : ps.drop k = p :: ps.drop (k + 1) := by rw [hpe]; exact List.drop_eq_getElem_cons hlt
      rw [hdrop] at hrw
      obtain ⟨bb, ebb, _, z0, z1⟩ := hrw.form' k (by simp [hql])
      cases ebb
      have hget : (qs ++ p :: ps.drop (k + 1))[k]'(by simp [hql]) = p := by
        rw [List.getElem_append_right (by omega)]
        simp [hql]
      rw [hget] at z1
      have he : (qs ++ p :: ps.drop (k + 1)).length = ps.length := by
        simp [hql]
        omega
      have hrw' := hrw
      unfold PRow at hrw'
      rw [he] at hrw'
      have zf := World.ownsRow.frozenAt hrw' (k * 2 + 1)
      clear hrw' he
      obtain ⟨e1, e2, e2', e3, e4, e5, e6⟩ := HB.out.en p (by rw [hpe]; exact List.getElem_mem hlt)
      have hpl : p.b.length = 512 := (OKG.out.pend p.out (by rw [hp, hpe]; exact List.mem_map.2 ⟨_, List.getElem_mem hlt, rfl⟩)).2.1
      have CL := hide (clone_any _ p.b p.c wr (Seen.below e1 hbl) e2 nofun (by omega))
      have HTK := hide (show (ps.take (k + 1)).map PE.out = (ps.take k).map PE.out ++ [p.out] by rw [take_snoc ps k hlt, List.map_append, hpe]; rfl)
      unfold PE.v at z1
      have hlk : (k : Int) < (ps.length : Int) := by omega
      have HR := hide hrw
      have HF := hide hfr
      have HQM := hide hqm
      have HPE := hide hpe
      have HQL := hide hql
      have hpos : 0 < p.b.length := by omega
      clear z0 hget hpl
      clear hrw hfr hdrop hqm hpe hql e1
      go_wp2_with fail
      refine CL.out.mono ?_
      rintro e w3 ⟨v3, rfl, o3, b3⟩
      obtain ⟨kb, cb, hv3, hcb, hB3, hkb⟩ := o3.form (by simp; omega)
      rw [ints_length] at hv3
      subst hv3
      have y0 := (b3.cell (p := ⟨w.heap.size, k * 2 + 1, none⟩) hgt).trans z1
      have yf := (b3.frozen (p := ⟨w.heap.size, k * 2 + 1, none⟩) hgt).trans zf
      have O3 := hide o3
      have HR3 := hide (PRow.keep HR.out (S := fun _ => False) (Keep.of_below b3) (fun _ _ q => q))
      have HF3 := hide (Fresh.keep HF.out (T := fun _ => False) (Keep.of_below b3) (fun _ _ q => q))
      have FAR := hide (fun q (hq : q ∈ qs) => (HF.out.own q hq).2)
      have hs3 := b3.size
      clear o3 z1 zf CL HR HF
      go_wp2_with fail
      obtain ⟨w4, hw4⟩ : ∃ w4, w4 = w3.setCell ⟨w.heap.size, k * 2 + 1, none⟩ (.slice (some ⟨kb, 0, none⟩) p.b.length cb) := ⟨_, rfl⟩
      have K4 : Keep (fun b => b = w.heap.size) w3 w4 := by rw [hw4]; exact (Keep.refl (fun b => b = w.heap.size) w3).setCell (fun _ => rfl) _
      have R4 : PRow w4 w.heap.size (.slice (some ⟨w.heap.size, 0, none⟩) ps.length ps.length) ((qs ++ [(⟨p.s, kb, cb, p.b⟩ : PE)]) ++ ps.drop (k + 1)) := by
        have e : (qs ++ p :: ps.drop (k + 1)).length = ps.length := by
          simp [HQL.out]
          omega
        have q := HR3.out
        unfold PRow at q
        rw [e] at q
        have q2 := (World.ownsRow.stored q (k * 2 + 1) (PE.v ⟨p.s, kb, cb, p.b⟩)).1
        have q3 := rowOf_set qs (ps.drop (k + 1)) p ⟨p.s, kb, cb, p.b⟩ rfl
        rw [HQL.out] at q3
        rw [q3] at q2
        unfold PRow
        rw [List.append_assoc, show ((qs ++ ([(⟨p.s, kb, cb, p.b⟩ : PE)] ++ ps.drop (k + 1))).length) = ps.length by simp [HQL.out]; omega, hw4]
        exact q2
      have F4 : Fresh w4 w.heap.size (qs ++ [(⟨p.s, kb, cb, p.b⟩ : PE)]) := by
        have f := HF3.out.keep K4 (fun q hq e => by have := HF3.out.far q hq; omega)
        refine ⟨fun q hq => ?_, fun q hq => ?_, ?_⟩
        · rcases List.mem_append.1 hq with r | r
          · exact f.own q r
          · simp at r
            subst r
            exact ⟨Owns.keep (Owns.base O3.out (by omega)) K4 (fun g hg => by
              have e : kb = g := Option.some.inj hg
              omega), by show kb < _; have := K4.size; omega⟩
        · rcases List.mem_append.1 hq with r | r
          · exact f.far q r
          · simp at r
            subst r
            show w.heap.size < kb
            omega
        · rw [List.pairwise_append]
          refine ⟨f.up, by simp, fun x hx y hy => ?_⟩
          simp at hy
          subst hy
          have := FAR.out x hx
          show x.k < kb
          omega
      have B4 : Below w.heap.size w w4 := (bnext hbl b3 (Nat.le_refl _)).trans (K4.below (by omega) (fun j hj q => by omega))
      have z4 : w.heap.size < w4.heap.size := by have := K4.size; omega
      rw [← hw4]
      have HR4 := hide R4
      have HF4 := hide F4
      clear R4 F4 hw4 K4
      go_wp2_with fail
      go_roundw
      case rel => exact ⟨k + 1, by omega, by go_num, _, by simp [HQL.out], by rw [HTK.out, List.map_append, HQM.out]; rfl, HR4.out, HF4.out, B4, z4⟩
      case measure => simp [intOf]; omega
    · obtain rfl : k = ps.length := by omega
      rw [List.drop_length, List.append_nil] at hrw
      rw [List.take_length] at hqm
      have HR := hide hrw
      have HF := hide hfr
      have HQM := hide hqm
      have HQL := hide hql
      clear hrw hfr hqm hql
      go_wp2_with fail
      go_ret
      refine ⟨qs, by rw [HQL.out]; rfl, by rw [HQM.out, hp], by rw [HQL.out]; exact HR.out, HF.out, hbl⟩
end Go.Proofs.Ytgpmghdoofcpaaa.Dv
