import Derived.Test.YtpddmimacjknfaaDev10
import Derived.Test.YtpddmimacjknfaaContent
namespace Go.Proofs.Ytpddmimacjknfaa
open Go.RowKit Go.QK

theorem _root_.Go.QK.Owns.base {k : IntKind} {e : TypeId} {w : World} {B B' : Nat} {v : Value} {xs : List Int} (q : Owns k e w B v xs) (h : B' ≤ B) : Owns k e w B' v xs :=
  ⟨q.1, by
    rcases q.2 with r | ⟨g, cap, cur, r1, r2, r3⟩
    · exact .inl r
    · exact .inr ⟨g, cap, cur, r1, Nat.le_trans h r2, r3⟩⟩

/-- What 'Read' hands out. -/
def _root_.Go.QK.Dev.readB (g : Dev) (i : Int) : List Nat := if g.reach i = 0 then g.content i.toNat else []

theorem foldl_512 (i : Nat) : (ps : List (Nat × List Nat)) → (x : List Nat) → x.length = 512 → (∀ p ∈ ps, p.2.length = 512) → (ps.foldl (fun x p => if p.1 = i then p.2 else x) x).length = 512
  | [], x, h, _ => h
  | p :: ps, x, h, q => foldl_512 i ps _ (by dsimp only; split; exact q p (by simp); exact h) (fun r hr => q r (by simp [hr]))
theorem foldl_allB (i : Nat) : (ps : List (Nat × List Nat)) → (x : List Nat) → AllB x → (∀ p ∈ ps, AllB p.2) → AllB (ps.foldl (fun x p => if p.1 = i then p.2 else x) x)
  | [], x, h, _ => h
  | p :: ps, x, h, q => foldl_allB i ps _ (by dsimp only; split; exact q p (by simp); exact h) (fun r hr => q r (by simp [hr]))
theorem content_len {g : Dev} (ok : g.Ok) (i : Nat) (hi : 512 * i + 512 ≤ g.img.length) : (g.content i).length = 512 :=
  foldl_512 i g.pend _ (by simp [sector]; omega) (fun p hp => (ok.pend p hp).2.1)
theorem content_allB {g : Dev} (ok : g.Ok) (i : Nat) : AllB (g.content i) :=
  foldl_allB i g.pend _ ((ok.bytes.drop _).take _) (fun p hp => (ok.pend p hp).2.2)

set_option maxHeartbeats 400000 in
set_option maxRecDepth 100000 in
theorem read_any {w : World} {S : Nat → Prop} {d : Nat} {g : Dev} (h : PDev w S d g) (i : Int) (hpl : g.pend.length ≤ 1000000) :
    Calls Try.prog 64 #[.pointer (some ⟨d, 0, none⟩), .int .i64 i] w fun e w' => ∃ v, e = .returned (.tuple #[v, .int .i64 ((g.reach i : Nat) : Int)]) ∧ OwnB w' w.heap.size v (g.readB i) ∧ Below w.heap.size w w' := by
  have RE := hide (reach_any i h)
  by_cases hr : g.reach i = 0
  · obtain ⟨_, h0, h1, _⟩ := Dev.reach_ok h.ok hr
    have CO := hide (content_any h i.toNat h1 hpl)
    have hlen := content_len h.ok i.toNat h1
    have e0 : ((i.toNat : Nat) : Int) = i := by omega
    rw [e0] at CO
    have hrb : g.readB i = g.content i.toNat := by unfold Dev.readB; rw [if_pos hr]
    rw [hrb, hr]
    rw [hr] at RE
    generalize g.content i.toNat = x at *
    clear h hrb e0 h1 h0
    go_enter Try.func64, Try.ntmps64
    go_wp2_with fail
    refine RE.out.mono ?_
    rintro e w' ⟨rfl, hw⟩
    obtain rfl : w = w' := hw.symm
    go_wp2_with fail
    refine CO.out.mono ?_
    rintro e w1 ⟨a, c, rfl, hs, hn, hc, hb⟩
    have CL := hide (clone_any a x c w1 (Seen.below hs hb) (by omega) hn (by omega))
    rw [hlen] at CL
    clear hs
    go_wp2_with fail
    refine CL.out.mono ?_
    rintro e w2 ⟨v, rfl, ho, hb2⟩
    have HO := hide (Owns.base ho hb.size)
    clear ho CL
    go_wp2_with fail
    go_ret2
    exact ⟨v, rfl, HO.out, bnext hb hb2 (Nat.le_refl _)⟩
  · have hrb : g.readB i = [] := by unfold Dev.readB; rw [if_neg hr]
    rw [hrb]
    have hr' : (((g.reach i : Nat) : Int) != 0) = true := by simp; omega
    generalize g.reach i = r at *
    clear h hrb
    go_enter Try.func64, Try.ntmps64
    go_wp2_with fail
    refine RE.out.mono ?_
    rintro e w' ⟨rfl, hw⟩
    obtain rfl : w = w' := hw.symm
    go_wp2_with fail
    go_ret2
    exact ⟨_, rfl, Owns.nil _ _ _ _, Below.refl _ _⟩

/-- 'copy(out, v)' of pending writes. -/
theorem run_copyP (w : World) (ty : TypeId) (B B' g : Nat) (L : List Value) (v : Value) (ps : List PE) (hown : w.ownsRow B 102 2 (.slice (some ⟨g, 0, none⟩) ps.length ps.length) ps.length L) (hv : PRow w B' v ps) :
    ∃ w', (Builtin.copy_ #[79, 79] ty #[.slice (some ⟨g, 0, none⟩) ps.length ps.length, v]).run Try.prog w = .ok (goInt ps.length) w' ∧ PRow w' B (.slice (some ⟨g, 0, none⟩) ps.length ps.length) ps ∧ Keep (fun b => b = g) w w' := by
  obtain ⟨i0, hi, hz⟩ : ∃ i0, Try.prog.info? 102 = some i0 ∧ i0.size = 2 := by
    have this : (Try.prog.info? 102).map (fun i => i.size) = some 2 := by kernel_rfl
    cases hq : Try.prog.info? 102 with
    | none => rw [hq] at this; cases this
    | some i0 =>
      rw [hq] at this
      simp only [Option.map_some, Option.some.injEq] at this
      exact ⟨i0, rfl, this⟩
  obtain ⟨h1, h2⟩ := hown
  rcases h2 with ⟨q, _⟩ | ⟨g', cap, cur, q, hB, hg, hle, hmx, hsize, ht⟩
  · cases q
  · simp only [Value.slice.injEq, Option.some.injEq, Addr.mk.injEq] at q
    obtain ⟨⟨rfl, _, _⟩, _, rfl⟩ := q
    rcases hv.2 with ⟨rfl, hn⟩ | ⟨b, cap', cur', rfl, hB', hb, hle', hm', hs', ht'⟩
    · have : ps = [] := List.eq_nil_of_length_eq_zero hn
      subst this
      refine ⟨w, ?_, ⟨rfl, .inr ⟨g, 0, cur, rfl, hB, hg, Nat.le_refl _, hmx, hsize, by simp [rowOf]⟩⟩, Keep.refl _ _⟩
      simp [Builtin.copy_, run_underlying Try.underlying79, Builtin.lenOf, Builtin.firstCells, Go.sizeOf, typeInfo, hi, storeCells]
    · have hl := run_loadCells_list (P := Try.prog) w ⟨b, 0, none⟩ (rowOf ps) (fun j u hj => World.ownsRow.cells hv (g := b) rfl j u hj)
      have hst := run_storeCells_at Try.prog g 0 102 (rowOf ps) 0 cur w hg (by rw [rowOf_length]; omega) (by
        intro u hu
        simp only [rowOf, List.mem_flatMap] at hu
        obtain ⟨p, _, hp⟩ := hu
        simp at hp
        rcases hp with rfl | rfl <;> rfl)
      rw [rowOf_length] at hl
      refine ⟨_, by simp [Builtin.copy_, run_underlying Try.underlying79, Builtin.lenOf, Builtin.firstCells, Go.sizeOf, typeInfo, hi, hz, hl, hst]; rfl, ?_, setRow_keep _ _ _⟩
      refine ⟨rowOf_length ps, .inr ⟨g, ps.length, _, rfl, hB, setRow_heap w g _ _ 102 _ hg, Nat.le_refl _, hmx, ?_, ?_⟩⟩
      · simp [rowOf_length]
        omega
      · show List.take (ps.length * 2) (rowOf ps ++ List.drop (rowOf ps).length cur.toList) = rowOf ps
        rw [← rowOf_length, List.take_left]

/-- 'make([]Pending, n)'. -/
theorem makeP (w : World) (n : Nat) (hn : n ≤ 2000000) : ∃ w1 L, (Instr.makeSlice 79 (.int .i64 (n : Int)) (.int .i64 (n : Int))).run Try.prog w = .ok (.slice (some ⟨w.heap.size, 0, none⟩) n n) w1 ∧
    w1.ownsRow w.heap.size 102 2 (.slice (some ⟨w.heap.size, 0, none⟩) n n) n L ∧ Below w.heap.size w w1 := by
  obtain ⟨i0, hi, hz⟩ : ∃ i0, Try.prog.info? 102 = some i0 ∧ i0.zero = some (.agg #[.int .i64 0, .slice none 0 0]) ∧ i0.size = 2 ∧ i0.bytes = 32 := by
    have this : (Try.prog.info? 102).map (fun i => (i.zero, i.size, i.bytes)) = some (some (.agg #[.int .i64 0, .slice none 0 0]), 2, 32) := by kernel_rfl
    cases hq : Try.prog.info? 102 with
    | none => rw [hq] at this; cases this
    | some i0 =>
      rw [hq] at this
      simp only [Option.map_some, Option.some.injEq, Prod.mk.injEq] at this
      exact ⟨i0, rfl, this⟩
  obtain ⟨w1, h1, h2, h3⟩ := run_makeSlice_full (P := Try.prog) (w := w) w.heap.size 79 102 i0 (.agg #[.int .i64 0, .slice none 0 0]) 2 Try.underlying79 hi hz.1 hz.2.1 .i64 .i64 n (by omega) (by rw [hz.2.2]; omega) (by unfold maxLen; omega) (Nat.le_refl _)
  exact ⟨w1, _, h1, h2, (Below.refl _ _).grown h3 (Nat.le_refl _) (by nofun)⟩

theorem rowOf_set (qs ps : List PE) (p p' : PE) (hs : p'.s = p.s) : (rowOf (qs ++ p :: ps)).set (qs.length * 2 + 1) p'.v = rowOf (qs ++ p' :: ps) := by
  rw [rowOf_append, rowOf_append, List.set_append_right _ _ (by rw [rowOf_length]; omega), rowOf_length]
  rw [show qs.length * 2 + 1 - qs.length * 2 = 1 by omega]
  congr 1
  show List.set (.int .i64 (p.s : Int) :: p.v :: rowOf ps) 1 p'.v = .int .i64 (p'.s : Int) :: p'.v :: rowOf ps
  rw [hs]
  rfl

/-- Copies of pending writes: in blocks of their own, one behind the other, from B on. -/
structure Fresh (w : World) (B : Nat) (qs : List PE) : Prop where
  own : ∀ q ∈ qs, OwnB w B q.v q.b ∧ q.k < w.heap.size
  far : ∀ q ∈ qs, B < q.k
  up : qs.Pairwise (fun a b => a.k < b.k)
end Go.Proofs.Ytpddmimacjknfaa
