import Derived.Test.YtgpmghdoofcpaaaGreatDev10
import Derived.Test.YtgpmghdoofcpaaaGreatG17
import Derived.Deep.WholeRow
import Derived.LaidEql
import Derived.ChangeKeysEq
namespace Go.Proofs.YtgpmghdoofcpaaaGreat.Dv
open Go.RowKit Go.QK

theorem _root_.Go.QK.Owns.base {k : IntKind} {e : TypeId} {w : World} {B B' : Nat} {v : Value} {xs : List Int} (q : Owns k e w B v xs) (h : B' ≤ B) : Owns k e w B' v xs :=
  ⟨q.1, by
    rcases q.2 with r | ⟨g, cap, cur, r1, r2, r3⟩
    · exact .inl r
    · exact .inr ⟨g, cap, cur, r1, Nat.le_trans h r2, r3⟩⟩

/-- What 'Read' hands out. -/
def _root_.Go.QK.Dev.readB (g : Dev) (i : Int) : List Nat := if g.reach i = 0 then g.content i.toNat else []

theorem foldl_512 (i : Nat) : (ps : List (Nat × List Nat)) → (x : List Nat) → x.length = 512 → (∀ p ∈ ps, p.2.length = 512) → (ps.foldl (fun x p => if p.1 = i then p.2 else x) x).length = 512
  | [], x, h, _ => h
  | p :: ps, x, h, q => foldl_512 i ps _ (by dsimp only; split; exact q p (by simp); exact h) (fun r hr => q r (by simp [hr]))
theorem foldl_allB (i : Nat) : (ps : List (Nat × List Nat)) → (x : List Nat) → AllB x → (∀ p ∈ ps, AllB p.2) → AllB (ps.foldl (fun x p => if p.1 = i then p.2 else x) x)
  | [], x, h, _ => h
  | p :: ps, x, h, q => foldl_allB i ps _ (by dsimp only; split; exact q p (by simp); exact h) (fun r hr => q r (by simp [hr]))
theorem content_len {g : Dev} (ok : g.Ok) (i : Nat) (hi : 512 * i + 512 ≤ g.img.length) : (g.content i).length = 512 :=
  foldl_512 i g.pend _ (by simp [sector]; omega) (fun p hp => (ok.pend p hp).2.1)
theorem content_allB {g : Dev} (ok : g.Ok) (i : Nat) : AllB (g.content i) :=
  foldl_allB i g.pend _ ((ok.bytes.drop _).take _) (fun p hp => (ok.pend p hp).2.2)

set_option maxHeartbeats 400000 in
set_option maxRecDepth 100000 in
theorem read_any {w : World} {S : Nat → Prop} {d : Nat} {g : Dev} (h : PDev w S d g) (i : Int) (hpl : g.pend.length ≤ 1000000) :
    Calls Tryz.prog 45 #[.pointer (some ⟨d, 0, none⟩), .int .i64 i] w fun e w' => ∃ v, e = .returned (.tuple #[v, .int .i64 ((g.reach i : Nat) : Int)]) ∧ OwnB w' w.heap.size v (g.readB i) ∧ Below w.heap.size w w' := by
  have RE := hide (reach_any i h)
  by_cases hr : g.reach i = 0
  · obtain ⟨_, h0, h1, _⟩ := Dev.reach_ok h.ok hr
    have CO := hide (content_any h i.toNat h1 hpl)
    have hlen := content_len h.ok i.toNat h1
    have e0 : ((i.toNat : Nat) : Int) = i := by omega
    rw [e0] at CO
    have hrb : g.readB i = g.content i.toNat := by unfold Dev.readB; rw [if_pos hr]
    rw [hrb, hr]
    rw [hr] at RE
    generalize g.content i.toNat = x at *
    clear h hrb e0 h1 h0
    go_enter Tryz.func45, Tryz.ntmps45
    go_wp2_with fail
    refine RE.out.mono ?_
    rintro e w' ⟨rfl, hw⟩
    obtain rfl : w = w' := hw.symm
    go_wp2_with fail
    refine CO.out.mono ?_
    rintro e w1 ⟨a, c, rfl, hs, hn, hc, hb⟩
    have CL := hide (clone_any a x c w1 (Seen.below hs hb) (by omega) hn (by omega))
    rw [hlen] at CL
    clear hs
    go_wp2_with fail
    refine CL.out.mono ?_
    rintro e w2 ⟨v, rfl, ho, hb2⟩
    have HO := hide (Owns.base ho hb.size)
    clear ho CL
    go_wp2_with fail
    go_ret2
    exact ⟨v, rfl, HO.out, bnext hb hb2 (Nat.le_refl _)⟩
  · have hrb : g.readB i = [] := by unfold Dev.readB; rw [if_neg hr]
    rw [hrb]
    have hr' : (((g.reach i : Nat) : Int) != 0) = true := by simp; omega
    generalize g.reach i = r at *
    clear h hrb
    go_enter Tryz.func45, Tryz.ntmps45
    go_wp2_with fail
    refine RE.out.mono ?_
    rintro e w' ⟨rfl, hw⟩
    obtain rfl : w = w' := hw.symm
    go_wp2_with fail
    go_ret2
    exact ⟨_, rfl, Owns.nil _ _ _ _, Below.refl _ _⟩

/-- 'copy(out, v)' of pending writes. -/
theorem run_copyP (w : World) (ty : TypeId) (B B' g : Nat) (L : List Value) (v : Value) (ps : List PE) (hown : w.ownsRow B 124 2 (.slice (some ⟨g, 0, none⟩) ps.length ps.length) ps.length L) (hv : PRow w B' v ps) :
    ∃ w', (Builtin.copy_ #[78, 78] ty #[.slice (some ⟨g, 0, none⟩) ps.length ps.length, v]).run Tryz.prog w = .ok (goInt ps.length) w' ∧ PRow w' B (.slice (some ⟨g, 0, none⟩) ps.length ps.length) ps ∧ Keep (fun b => b = g) w w' := by
  obtain ⟨i0, hi, hz⟩ : ∃ i0, Tryz.prog.info? 124 = some i0 ∧ i0.size = 2 := by
    have this : (Tryz.prog.info? 124).map (fun i => i.size) = some 2 := by kernel_rfl
    cases hq : Tryz.prog.info? 124 with
    | none => rw [hq] at this; cases this
    | some i0 =>
      rw [hq] at this
      simp only [Option.map_some, Option.some.injEq] at this
      exact ⟨i0, rfl, this⟩
  obtain ⟨h1, h2⟩ := hown
  rcases h2 with ⟨q, _⟩ | ⟨g', cap, cur, q, hB, hg, hle, hmx, hsize, ht⟩
  · cases q
  · simp only [Value.slice.injEq, Option.some.injEq, Addr.mk.injEq] at q
    obtain ⟨⟨rfl, _, _⟩, _, rfl⟩ := q
    rcases hv.2 with ⟨rfl, hn⟩ | ⟨b, cap', cur', rfl, hB', hb, hle', hm', hs', ht'⟩
    · have : ps = [] := List.eq_nil_of_length_eq_zero hn
      subst this
      refine ⟨w, ?_, ⟨rfl, .inr ⟨g, 0, cur, rfl, hB, hg, Nat.le_refl _, hmx, hsize, by simp [rowOf]⟩⟩, Keep.refl _ _⟩
      simp [Builtin.copy_, run_underlying Tryz.underlying78, Builtin.lenOf, Builtin.firstCells, Go.sizeOf, typeInfo, hi, storeCells]
    · have hl := run_loadCells_list (P := Tryz.prog) w ⟨b, 0, none⟩ (rowOf ps) (fun j u hj => World.ownsRow.cells hv (g := b) rfl j u hj)
      have hst := run_storeCells_at Tryz.prog g 0 124 (rowOf ps) 0 cur w hg (by rw [rowOf_length]; omega) (by
        intro u hu
        simp only [rowOf, List.mem_flatMap] at hu
        obtain ⟨p, _, hp⟩ := hu
        simp at hp
        rcases hp with rfl | rfl <;> rfl)
      rw [rowOf_length] at hl
      refine ⟨_, by simp [Builtin.copy_, run_underlying Tryz.underlying78, Builtin.lenOf, Builtin.firstCells, Go.sizeOf, typeInfo, hi, hz, hl, hst]; rfl, ?_, setRow_keep _ _ _⟩
      refine ⟨rowOf_length ps, .inr ⟨g, ps.length, _, rfl, hB, setRow_heap w g _ _ 124 _ hg, Nat.le_refl _, hmx, ?_, ?_⟩⟩
      · simp [rowOf_length]
        omega
      · show List.take (ps.length * 2) (rowOf ps ++ List.drop (rowOf ps).length cur.toList) = rowOf ps
        rw [← rowOf_length, List.take_left]

/-- 'make([]Pending, n)'. -/
theorem makeP (w : World) (n : Nat) (hn : n ≤ 2000000) : ∃ w1 L, (Instr.makeSlice 78 (.int .i64 (n : Int)) (.int .i64 (n : Int))).run Tryz.prog w = .ok (.slice (some ⟨w.heap.size, 0, none⟩) n n) w1 ∧
    w1.ownsRow w.heap.size 124 2 (.slice (some ⟨w.heap.size, 0, none⟩) n n) n L ∧ Below w.heap.size w w1 := by
  obtain ⟨i0, hi, hz⟩ : ∃ i0, Tryz.prog.info? 124 = some i0 ∧ i0.zero = some (.agg #[.int .i64 0, .slice none 0 0]) ∧ i0.size = 2 ∧ i0.bytes = 32 := by
    have this : (Tryz.prog.info? 124).map (fun i => (i.zero, i.size, i.bytes)) = some (some (.agg #[.int .i64 0, .slice none 0 0]), 2, 32) := by kernel_rfl
    cases hq : Tryz.prog.info? 124 with
    | none => rw [hq] at this; cases this
    | some i0 =>
      rw [hq] at this
      simp only [Option.map_some, Option.some.injEq, Prod.mk.injEq] at this
      exact ⟨i0, rfl, this⟩
  obtain ⟨w1, h1, h2, h3⟩ := run_makeSlice_full (P := Tryz.prog) (w := w) w.heap.size 78 124 i0 (.agg #[.int .i64 0, .slice none 0 0]) 2 Tryz.underlying78 hi hz.1 hz.2.1 .i64 .i64 n (by omega) (by rw [hz.2.2]; omega) (by unfold maxLen; omega) (Nat.le_refl _)
  exact ⟨w1, _, h1, h2, (Below.refl _ _).grown h3 (Nat.le_refl _) (by nofun)⟩

theorem rowOf_set (qs ps : List PE) (p p' : PE) (hs : p'.s = p.s) : (rowOf (qs ++ p :: ps)).set (qs.length * 2 + 1) p'.v = rowOf (qs ++ p' :: ps) := by
  rw [rowOf_append, rowOf_append, List.set_append_right _ _ (by rw [rowOf_length]; omega), rowOf_length]
  rw [show qs.length * 2 + 1 - qs.length * 2 = 1 by omega]
  congr 1
  show List.set (.int .i64 (p.s : Int) :: p.v :: rowOf ps) 1 p'.v = .int .i64 (p'.s : Int) :: p'.v :: rowOf ps
  rw [hs]
  rfl

/-- Copies of pending writes: in blocks of their own, one behind the other, from B on. -/
structure Fresh (w : World) (B : Nat) (qs : List PE) : Prop where
  own : ∀ q ∈ qs, OwnB w B q.v q.b ∧ q.k < w.heap.size
  far : ∀ q ∈ qs, B < q.k
  up : qs.Pairwise (fun a b => a.k < b.k)
end Go.Proofs.YtgpmghdoofcpaaaGreat.Dv

namespace Go.Proofs.YtgpmghdoofcpaaaGreat.Dv
open Go.RowKit Go.QK

theorem Fresh.keep {w w' : World} {B : Nat} {qs : List PE} {T : Nat → Prop} (h : Fresh w B qs) (hk : Keep T w w') (hn : ∀ q ∈ qs, ¬ T q.k) : Fresh w' B qs :=
  ⟨fun q hq => ⟨Owns.keep (h.own q hq).1 hk (fun g hg => by
    have e : q.k = g := Option.some.inj hg
    subst e
    exact hn q hq), Nat.lt_of_lt_of_le (h.own q hq).2 hk.size⟩, h.far, h.up⟩

set_option maxHeartbeats 1000000 in
set_option maxRecDepth 100000 in
theorem cache_any {w : World} {S : Nat → Prop} {d : Nat} {g : Dev} (h : PDev w S d g) (hpl : g.pend.length ≤ 1000000) :
    Calls Tryz.prog 29 #[.pointer (some ⟨d, 0, none⟩)] w fun e w' => ∃ qs, e = .returned (.slice (some ⟨w.heap.size, 0, none⟩) qs.length qs.length) ∧ qs.map PE.out = g.pend ∧ PRow w' w.heap.size (.slice (some ⟨w.heap.size, 0, none⟩) qs.length qs.length) qs ∧ Fresh w' w.heap.size qs ∧ Below w.heap.size w w' := by
  obtain ⟨ib, ic, pv, ps, kv, tn, off, hc, hb, hp, ok⟩ := h
  have hps : ps.length ≤ 1000000 := by rw [hp] at hpl; simpa using hpl
  obtain ⟨w1, L, m1, o1, b1⟩ := makeP w ps.length (by omega)
  have r1 := hb.row.keep (S := fun _ => False) (Keep.of_below b1) (fun _ _ q => q)
  obtain ⟨w2, k2, o2, kp2⟩ := run_copyP w1 3 _ _ _ _ _ _ o1 r1
  obtain ⟨pa, pc, hpv, hpn, hple, hpm, hrow⟩ := hb.row.form
  subst hpv
  have hdl := hc.1
  obtain ⟨c1, _⟩ := hc.get 1 _ rfl
  have c1' := (b1.cell (p := ⟨d, 1, none⟩) hdl).trans c1
  have B2 : Below w.heap.size w w2 := b1.trans (kp2.below b1.size (fun j hj q => by omega))
  have OKG := hide ok
  have HB := hide hb
  have O2 := hide o2
  have hz2 : w.heap.size < w2.heap.size := (o2.lt _ rfl).2
  clear hb hc o1 o2 r1 hrow kp2
  go_enter Tryz.func29, Tryz.ntmps29
  go_wp2_with fail
  go_loopw [19] (fun i wr => ∃ k : Nat, k ≤ ps.length ∧ i = .int .i64 (k : Int) ∧ ∃ qs, qs.length = k ∧ qs.map PE.out = (ps.take k).map PE.out ∧ PRow wr w.heap.size (.slice (some ⟨w.heap.size, 0, none⟩) ps.length ps.length) (qs ++ ps.drop k) ∧ Fresh wr w.heap.size qs ∧ Below w.heap.size w wr ∧ w.heap.size < wr.heap.size) (fun i _ => ps.length - (intOf i).toNat)
  case atStart => exact ⟨0, Nat.zero_le _, rfl, [], rfl, rfl, O2.out, ⟨nofun, nofun, .nil⟩, B2, hz2⟩
  case round =>
    obtain ⟨k, hk, rfl, qs, hql, hqm, hrw, hfr, hbl, hgt⟩ := hrel
    by_cases hlt : k < ps.length
    · obtain ⟨p, hpe⟩ : ∃ p, p = ps[k] := ⟨_, rfl⟩
      have hdrop : ps.drop k = p :: ps.drop (k + 1) := by rw [hpe]; exact List.drop_eq_getElem_cons hlt
      rw [hdrop] at hrw
      obtain ⟨bb, ebb, _, z0, z1⟩ := hrw.form' k (by simp [hql])
      cases ebb
      have hget : (qs ++ p :: ps.drop (k + 1))[k]'(by simp [hql]) = p := by
        rw [List.getElem_append_right (by omega)]
        simp [hql]
      rw [hget] at z1
      have he : (qs ++ p :: ps.drop (k + 1)).length = ps.length := by
        simp [hql]
        omega
      have hrw' := hrw
      unfold PRow at hrw'
      rw [he] at hrw'
      have zf := World.ownsRow.frozenAt hrw' (k * 2 + 1)
      clear hrw' he
      obtain ⟨e1, e2, e2', e3, e4, e5, e6⟩ := HB.out.en p (by rw [hpe]; exact List.getElem_mem hlt)
      have hpl : p.b.length = 512 := (OKG.out.pend p.out (by rw [hp, hpe]; exact List.mem_map.2 ⟨_, List.getElem_mem hlt, rfl⟩)).2.1
      have CL := hide (clone_any _ p.b p.c wr (Seen.below e1 hbl) e2 nofun (by omega))
      have HTK := hide (show (ps.take (k + 1)).map PE.out = (ps.take k).map PE.out ++ [p.out] by rw [take_snoc ps k hlt, List.map_append, hpe]; rfl)
      unfold PE.v at z1
      have hlk : (k : Int) < (ps.length : Int) := by omega
      have HR := hide hrw
      have HF := hide hfr
      have HQM := hide hqm
      have HPE := hide hpe
      have HQL := hide hql
      have hpos : 0 < p.b.length := by omega
      clear z0 hget hpl
      clear hrw hfr hdrop hqm hpe hql e1
      go_wp2_with fail
      refine CL.out.mono ?_
      rintro e w3 ⟨v3, rfl, o3, b3⟩
      obtain ⟨kb, cb, hv3, hcb, hB3, hkb⟩ := o3.form (by simp; omega)
      rw [ints_length] at hv3
      subst hv3
      have y0 := (b3.cell (p := ⟨w.heap.size, k * 2 + 1, none⟩) hgt).trans z1
      have yf := (b3.frozen (p := ⟨w.heap.size, k * 2 + 1, none⟩) hgt).trans zf
      have O3 := hide o3
      have HR3 := hide (PRow.keep HR.out (S := fun _ => False) (Keep.of_below b3) (fun _ _ q => q))
      have HF3 := hide (Fresh.keep HF.out (T := fun _ => False) (Keep.of_below b3) (fun _ _ q => q))
      have FAR := hide (fun q (hq : q ∈ qs) => (HF.out.own q hq).2)
      have hs3 := b3.size
      clear o3 z1 zf CL HR HF
      go_wp2_with fail
      obtain ⟨w4, hw4⟩ : ∃ w4, w4 = w3.setCell ⟨w.heap.size, k * 2 + 1, none⟩ (.slice (some ⟨kb, 0, none⟩) p.b.length cb) := ⟨_, rfl⟩
      have K4 : Keep (fun b => b = w.heap.size) w3 w4 := by rw [hw4]; exact (Keep.refl (fun b => b = w.heap.size) w3).setCell (fun _ => rfl) _
      have R4 : PRow w4 w.heap.size (.slice (some ⟨w.heap.size, 0, none⟩) ps.length ps.length) ((qs ++ [(⟨p.s, kb, cb, p.b⟩ : PE)]) ++ ps.drop (k + 1)) := by
        have e : (qs ++ p :: ps.drop (k + 1)).length = ps.length := by
          simp [HQL.out]
          omega
        have q := HR3.out
        unfold PRow at q
        rw [e] at q
        have q2 := (World.ownsRow.stored q (k * 2 + 1) (PE.v ⟨p.s, kb, cb, p.b⟩)).1
        have q3 := rowOf_set qs (ps.drop (k + 1)) p ⟨p.s, kb, cb, p.b⟩ rfl
        rw [HQL.out] at q3
        rw [q3] at q2
        unfold PRow
        rw [List.append_assoc, show ((qs ++ ([(⟨p.s, kb, cb, p.b⟩ : PE)] ++ ps.drop (k + 1))).length) = ps.length by simp [HQL.out]; omega, hw4]
        exact q2
      have F4 : Fresh w4 w.heap.size (qs ++ [(⟨p.s, kb, cb, p.b⟩ : PE)]) := by
        have f := HF3.out.keep K4 (fun q hq e => by have := HF3.out.far q hq; omega)
        refine ⟨fun q hq => ?_, fun q hq => ?_, ?_⟩
        · rcases List.mem_append.1 hq with r | r
          · exact f.own q r
          · simp at r
            subst r
            exact ⟨Owns.keep (Owns.base O3.out (by omega)) K4 (fun g hg => by
              have e : kb = g := Option.some.inj hg
              omega), by show kb < _; have := K4.size; omega⟩
        · rcases List.mem_append.1 hq with r | r
          · exact f.far q r
          · simp at r
            subst r
            show w.heap.size < kb
            omega
        · rw [List.pairwise_append]
          refine ⟨f.up, by simp, fun x hx y hy => ?_⟩
          simp at hy
          subst hy
          have := FAR.out x hx
          show x.k < kb
          omega
      have B4 : Below w.heap.size w w4 := (bnext hbl b3 (Nat.le_refl _)).trans (K4.below (by omega) (fun j hj q => by omega))
      have z4 : w.heap.size < w4.heap.size := by have := K4.size; omega
      rw [← hw4]
      have HR4 := hide R4
      have HF4 := hide F4
      clear R4 F4 hw4 K4
      go_wp2_with fail
      go_roundw
      case rel => exact ⟨k + 1, by omega, by go_num, _, by simp [HQL.out], by rw [HTK.out, List.map_append, HQM.out]; rfl, HR4.out, HF4.out, B4, z4⟩
      case measure => simp [intOf]; omega
    · obtain rfl : k = ps.length := by omega
      rw [List.drop_length, List.append_nil] at hrw
      rw [List.take_length] at hqm
      have HR := hide hrw
      have HF := hide hfr
      have HQM := hide hqm
      have HQL := hide hql
      clear hrw hfr hqm hql
      go_wp2_with fail
      go_ret
      refine ⟨qs, by rw [HQL.out]; rfl, by rw [HQM.out, hp], by rw [HQL.out]; exact HR.out, HF.out, hbl⟩
end Go.Proofs.YtgpmghdoofcpaaaGreat.Dv

namespace Go.QK
theorem ints_set' (l : List Nat) (i x : Nat) : ints (l.set i x) = (ints l).set i (x : Int) := by simp [ints, List.map_set]
def zerosB : List Nat := List.replicate 512 0
end Go.QK
namespace Go.QK
open Go.RowKit

/-! Arrays of bytes: a block of their own, and by value. -/
def bytesV (L : List Nat) : Array Value := ((ints L).map (Value.int .u8)).toArray
@[simp] theorem bytesV_size (L : List Nat) : (bytesV L).size = L.length := by simp [bytesV]
/-- The array L lies at block g. -/
def Arr (w : World) (t : TypeId) (g : Nat) (L : List Nat) : Prop := w.heap[g]? = some (.cells (bytesV L) t)
section
variable {w w' : World} {t : TypeId} {g : Nat} {L : List Nat} {S : Nat → Prop}
theorem Arr.lt (h : Arr w t g L) : g < w.heap.size := (Array.getElem?_eq_some_iff.1 h).1
theorem Arr.keep (h : Arr w t g L) (hk : Keep S w w') (hn : ¬ S g) : Arr w' t g L := (hk.block g h.lt hn).trans h
theorem Arr.below (h : Arr w t g L) (hk : Below w.heap.size w w') : Arr w' t g L := (hk.block g h.lt).trans h
theorem Arr.new (w : World) (t : TypeId) (L : List Nat) : Arr (w.alloc (.cells (bytesV L) t)) t w.heap.size L := heap_alloc_last w _
theorem Arr.cell (h : Arr w t g L) (i : Nat) (hi : i < L.length) : w.cell? ⟨g, i, none⟩ = some (.int .u8 ((L.getD i 0 : Nat) : Int)) := by
  rw [cell_of_row w g i _ t (0, 0) h]
  simp [bytesV, ints, hi]
theorem Arr.frozen (h : Arr w t g L) (i : Nat) : w.frozen? ⟨g, i, none⟩ = false := by
  have h' : w.heap[g]? = some (.cells (bytesV L) t (0, 0)) := h
  simp [World.frozen?, h']
theorem Arr.seen (h : Arr w t g L) : Bytes w (some ⟨g, 0, none⟩) L := by
  refine .inr ⟨g, 0, rfl, h.lt, fun i hi => ?_⟩
  rw [Nat.zero_add, h.cell i (by simpa using hi), ints_getD]
theorem Arr.set (h : Arr w t g L) (i y : Nat) : Arr (w.setCell ⟨g, i, none⟩ (.int .u8 (y : Int))) t g (L.set i y) := by
  have h' : w.heap[g]? = some (.cells (bytesV L) t (0, 0)) := h
  unfold Arr
  have e : bytesV (L.set i y) = (bytesV L).setIfInBounds i (.int .u8 (y : Int)) := by
    simp [bytesV, ints_set', List.map_set]
  rw [e]
  simp [World.setCell, Array.getElem?_modify, h']
end
end Go.QK
namespace Go.Proofs.YtgpmghdoofcpaaaGreat.Dv
open Go.RowKit Go.QK
theorem info91 : (Tryz.prog.info? 150).map (fun i => i.size) = some 512 := by kernel_rfl
theorem zero91 : (Tryz.prog.info? 150).map (fun i => i.zero) = some (some (.agg (bytesV zerosB))) := by kernel_rfl
theorem zero_run (w : World) : (zeroValue 150).run Tryz.prog w = .ok (.agg (bytesV zerosB)) w := by
  have h := zero91
  cases hq : Tryz.prog.info? 150 with
  | none => simp [hq] at h
  | some i =>
    rw [hq] at h
    simp only [Option.map_some, Option.some.injEq] at h
    simp [zeroValue, typeInfo, hq, h]
theorem load_arr {w : World} {g : Nat} {L : List Nat} (h : Arr w 150 g L) (hl : L.length = 512) : (Instr.loadAt 150 (.pointer (some ⟨g, 0, none⟩))).run Tryz.prog w = .ok (.agg (bytesV L)) w := by
  simp only [Instr.loadAt, Instr.sureAddr, Sem.run_bind, Sem.run_pure, Result.andThen]
  exact run_loadVar_row w g 150 150 (bytesV L) (0, 0) _ h Tryz.underlying150 rfl (by rw [bytesV_size, hl]; exact info91)
theorem slice_arr (g : Nat) (w : World) : (Instr.sliceAt 150 (.pointer (some ⟨g, 0, none⟩)) none none none).run Tryz.prog w = .ok (.slice (some ⟨g, 0, none⟩) 512 512) w := by
  go_simp

theorem allOne_bytesV (L : List Nat) : (bytesV L).all (·.oneCell') = true := by
  rw [Array.all_eq_true_iff_forall_mem]
  intro v hv
  simp only [bytesV, List.mem_toArray, List.mem_map] at hv
  obtain ⟨x, _, rfl⟩ := hv
  rfl
theorem store_arr {w : World} {g : Nat} {L M : List Nat} (h : Arr w 150 g L) (hl : L.length = 512) (hm : M.length = 512) : (Instr.storeAt 150 (.pointer (some ⟨g, 0, none⟩)) (.agg (bytesV M))).run Tryz.prog w = .ok () (w.setRow g (bytesV M)) := by
  simp only [Instr.storeAt, Instr.sureAddr, Sem.run_bind, Sem.run_pure, Result.andThen]
  exact run_storeVar_row w g 150 150 (bytesV L) (bytesV M) h (by rw [bytesV_size, hm]; exact info91) (by rw [bytesV_size, bytesV_size, hl, hm]) (allOne_bytesV M)
theorem cells_arr {w : World} {g : Nat} {L M : List Nat} (h : Arr w 150 g L) (hl : L.length = 512) (hm : M.length = 512) :
    ∃ w', (storeCells ⟨g, 0, none⟩ (bytesV M).toList 0).run Tryz.prog w = .ok () w' ∧ Arr w' 150 g M ∧ Keep (fun b => b = g) w w' := by
  refine ⟨w.setRow g (bytesV M), ?_, setRow_heap w g _ _ 150 (0, 0) h, ⟨rfl, rfl, rfl, by simp [World.setRow], fun b hb hn => setRow_other w g b _ hn⟩⟩
  have hi : (Tryz.prog.info? 150).map (·.size) = some (bytesV M).size := by rw [bytesV_size, hm]; exact info91
  have := run_storeVar_row w g 150 150 (bytesV L) (bytesV M) h hi (by rw [bytesV_size, bytesV_size, hl, hm]) (allOne_bytesV M)
  cases hq : Tryz.prog.info? 150 with
  | none => simp [hq] at hi
  | some i =>
    have hs : (bytesV M).size = i.size := by simp [hq] at hi; rw [bytesV_size]; omega
    simpa [storeVar, sizeOf, typeInfo, hq, Value.cells, hs] using this
theorem wp_load_arr {op : Oper} {a : Act} {w : World} {K : Act → World → Prop} {Q : Exit → Act → World → Prop} (x : Operand) (ho : op.op = .load 150 x)
    (g : Nat) (hx : a.eval x = .pointer (some ⟨g, 0, none⟩)) (L : List Nat) (h : Arr w 150 g L) (hl : L.length = 512) (k : K (a.put op.dst (.agg (bytesV L))) w) : op.wp Tryz.prog a w K Q := by
  unfold Oper.wp execOp
  simp only [ho, hx, Sem.run_bind, load_arr h hl, Result.andThen]
  exact k
theorem wp_store_arr {op : Oper} {a : Act} {w : World} {K : Act → World → Prop} {Q : Exit → Act → World → Prop} (x y : Operand) (ho : op.op = .store 150 x y)
    (g : Nat) (hx : a.eval x = .pointer (some ⟨g, 0, none⟩)) (L M : List Nat) (hy : a.eval y = .agg (bytesV M)) (h : Arr w 150 g L) (hl : L.length = 512) (hm : M.length = 512)
    (k : ∀ w', Arr w' 150 g M → Keep (fun b => b = g) w w' → K (a.put op.dst undef) w') : op.wp Tryz.prog a w K Q := by
  unfold Oper.wp execOp
  simp only [ho, hx, hy, Sem.run_bind, store_arr h hl hm, Result.andThen]
  refine k _ (setRow_heap w g _ _ 150 (0, 0) h) ⟨rfl, rfl, rfl, by simp [World.setRow], fun b hb hn => setRow_other w g b _ hn⟩

theorem part5 (L : List Nat) (j : Nat) (hj : j < L.length) (w : World) : (part 5 (bytesV L) j).run Tryz.prog w = .ok (.int .u8 ((L.getD j 0 : Nat) : Int)) w := by
  have e : (bytesV L)[j]? = some (.int .u8 ((L.getD j 0 : Nat) : Int)) := by simp [bytesV, ints, hj]
  have ha : (isAgg 5).run Tryz.prog w = .ok false w := by
    unfold isAgg
    rw [Sem.run_bind, run_underlying Tryz.underlying5 w]
    rfl
  unfold part
  rw [Sem.run_bind, ha]
  simp only [Result.andThen_ok]
  simp [e]
theorem items5 (d : Nat) (L M : List Nat) (w : World) : (is : List Nat) → (∀ j ∈ is, j < L.length ∧ j < M.length) → (Op.eqItems (d + 1) 5 1 (bytesV L) (bytesV M) is).run Tryz.prog w = .ok (is.all fun j => L.getD j 0 == M.getD j 0) w
  | [], _ => by simp [Op.eqItems]
  | j :: is, h => by
    have ih := items5 d L M w is (fun k hk => h k (by simp [hk]))
    obtain ⟨h1, h2⟩ := h j (by simp)
    simp only [Op.eqItems, Sem.run_bind, Nat.mul_one, part5 L j h1 w, part5 M j h2 w, Result.andThen_ok, run_equalIn_int w d 5 .u8 .u8 _ _ Tryz.underlying5]
    by_cases q : L.getD j 0 = M.getD j 0
    · have q' : ((((L.getD j 0 : Nat) : Int)) == ((M.getD j 0 : Nat) : Int)) = true := by rw [q]; simp
      rw [q']
      simp only [Bool.not_true, Bool.false_eq_true, if_false, ih, List.all_cons, q, beq_self_eq_true, Bool.true_and]
    · have q' : ((((L.getD j 0 : Nat) : Int)) == ((M.getD j 0 : Nat) : Int)) = false := by rw [beq_eq_false_iff_ne]; omega
      have q2 : (L.getD j 0 == M.getD j 0) = false := by rw [beq_eq_false_iff_ne]; exact q
      rw [q']
      simp [List.all_cons]
      intro hh
      exact absurd (by simpa using hh) q
theorem neq_arr (L M : List Nat) (hl : L.length = 512) (hm : M.length = 512) (w : World) : (binOp .neq 150 (.agg (bytesV L)) (.agg (bytesV M))).run Tryz.prog w = .ok (.bool (!decide (L = M))) w := by
  obtain ⟨i, hi⟩ : ∃ i, Tryz.prog.info? 5 = some i := by
    have := info5
    cases hq : Tryz.prog.info? 5 with
    | none => simp [hq] at this
    | some i => exact ⟨i, rfl⟩
  have hc : Tryz.prog.cellsOf 5 = 1 := by kernel_rfl
  have e := run_equalIn_array w 9999 (bytesV L) (bytesV M) Tryz.underlying150 hi
  rw [hc] at e
  have k := items5 9998 L M w (List.range 512) (fun j hj => by simp at hj; omega)
  rw [k] at e
  have ea : ((List.range 512).all fun j => L.getD j 0 == M.getD j 0) = decide (L = M) := by
    by_cases q : L = M
    · subst q; simp
    · rw [decide_eq_false q, List.all_eq_false]
      by_cases r : ∀ j, j < 512 → L.getD j 0 = M.getD j 0
      · exfalso
        apply q
        apply List.ext_getElem (by omega)
        intro j h1 h2
        have := r j (by omega)
        simpa [h1, h2] using this
      · simp only [Classical.not_forall] at r
        obtain ⟨j, hj, hne⟩ := r
        exact ⟨j, by simpa using hj, by simpa using hne⟩
  rw [ea] at e
  simp only [binOp]
  simp [Op.equal, Op.maxDepth, e]
end Go.Proofs.YtgpmghdoofcpaaaGreat.Dv
