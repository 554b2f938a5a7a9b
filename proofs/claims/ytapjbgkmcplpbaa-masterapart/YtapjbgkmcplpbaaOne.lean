import Derived.Test.YtapjbgkmcplpbaaCut
import Derived.Test.YtapjbgkmcplpbaaShapes
import Derived.Deep.DeepCutAuto
namespace Go.Proofs.Ytapjbgkmcplpbaa
open Go.RowKit Go.QK

theorem LossAt.low {w : World} {l : Loss} {a : Option Addr} {c : Nat} (h : LossAt w l a c) (hk : l.keep ≠ []) : ∀ ad, a = some ad → ad.block < w.heap.size := by
  intro ad had
  rcases h.seen with q | ⟨b, off, e, hlt, _⟩
  · exact (hk (by simpa [ints] using q)).elim
  · rw [had] at e
    cases e
    exact hlt
theorem LossAt.below {w w' : World} {l : Loss} {a : Option Addr} {c : Nat} (h : LossAt w l a c) (hb : Below w.heap.size w w') : LossAt w' l a c := ⟨h.seen.below hb, h.nil, h.cap, h.ok⟩

theorem neq_err (v : Value) (w : World) : (binOp .neq 32 (.iface 70 v) .nilIface).run Try.prog w = .ok (.bool true) w := by
  have e0 : ∀ d, (Op.equalIn (d + 1) 32 (.iface 70 v) .nilIface).run Try.prog w = .ok false w := fun d => by simp [Op.equalIn, run_underlying Try.underlying32]
  have e := e0 9999
  simp only [binOp]
  simp [Op.equal, Op.maxDepth, e]
theorem eql_err (v : Value) (w : World) : (binOp .eql 32 (.iface 70 v) .nilIface).run Try.prog w = .ok (.bool false) w := by
  have e0 : ∀ d, (Op.equalIn (d + 1) 32 (.iface 70 v) .nilIface).run Try.prog w = .ok false w := fun d => by simp [Op.equalIn, run_underlying Try.underlying32]
  have e := e0 9999
  simp only [binOp]
  simp [Op.equal, Op.maxDepth, e]
set_option maxRecDepth 100000 in
theorem neq_shape (p l f : Int) (w : World) : (binOp .neq 23 (.agg #[.int .i64 p, .int .i64 l, .int .i64 f]) (.agg #[.int .i64 p, .int .i64 l, .int .i64 f])).run Try.prog w = .ok (.bool false) w := by
  go_simp

/-- A loss in its box. -/
def Loss3 (b : Nat) (a : Option Addr) (l : Loss) (c : Nat) (wq : World) : Prop := wq.cell? ⟨b, 0, none⟩ = some (.slice a l.keep.length c) ∧ wq.cell? ⟨b, 1, none⟩ = some (.int .i64 l.torn) ∧ wq.cell? ⟨b, 2, none⟩ = some (.int .i64 l.off)
/-- What lies apart from the device, below B. -/
structure Rest (w : World) (w0 : World) (B : Nat) (S : Nat → Prop) (d : Nat) (g : Dev) (lb : Nat) (la : Option Addr) (l : Loss) (lc : Nat) (sb : Nat) (p q r : Int) : Prop where
  dev : PDev w S d g
  far : ∀ b, S b → B ≤ b
  bel : Below w0.heap.size w0 w
  le : w0.heap.size ≤ B
  hi : B ≤ w.heap.size
  loss : Cells w lb [.slice la l.keep.length lc, .int .i64 l.torn, .int .i64 l.off]
  lossLt : lb < B
  sh : cell3 w sb p q r
  shLt : sb < B
section
variable {w w' w0 : World} {B : Nat} {S S' : Nat → Prop} {d : Nat} {g g' : Dev} {lb : Nat} {la : Option Addr} {l : Loss} {lc sb : Nat} {p q r : Int}
theorem Rest.step (h : Rest w w0 B S d g lb la l lc sb p q r) (hd : PDev w' S' d g') (hs : Step w S w' S') : Rest w' w0 B S' d g' lb la l lc sb p q r := by
  refine ⟨hd, fun b hb => ?_, h.bel.trans (hs.1.below h.bel.size (fun k hk q => by have := h.far k q; have := h.le; omega)), h.le, Nat.le_trans h.hi hs.1.size, Cells.keep h.loss hs.1 (fun q => by have := h.far _ q; have := h.lossLt; omega), h.lossLt, h.sh.keep hs.1 (fun q => by have := h.far _ q; have := h.shLt; omega), h.shLt⟩
  rcases hs.2 b hb with q | q
  · exact h.far b q
  · have := h.hi; omega
theorem Rest.below (h : Rest w w0 B S d g lb la l lc sb p q r) (hb : Below w.heap.size w w') : Rest w' w0 B S d g lb la l lc sb p q r := h.step (h.dev.below hb) (Step.of_below hb)
theorem Rest.drew (h : Rest w w0 B S d g lb la l lc sb p q r) : Rest w.drew w0 B S d g lb la l lc sb p q r := h.below (Below.refl _ _).drew
theorem Rest.three (h : Rest w w0 B S d g lb la l lc sb p q r) : Loss3 lb la l lc w := ⟨(h.loss.get 0 _ rfl).1, (h.loss.get 1 _ rfl).1, (h.loss.get 2 _ rfl).1⟩
end

/-- What the loop of MasterOne keeps. -/
structure OneL (w0 w : World) (B d lb : Nat) (la : Option Addr) (l : Loss) (lc sb tb p q r j : Nat) : Prop where
  ex : ∃ (S : Nat → Prop) (g : Dev) (k pt : Nat), Rest w w0 B S d g lb la l lc sb p q r ∧ Has g p q r k pt ∧ k ≤ 22 + j ∧ g.calls ≤ 100 + 2 * j ∧ ¬ S tb ∧ ∃ x y z, cell3 w tb x y z

set_option maxHeartbeats 8000000 in
set_option maxRecDepth 100000 in
theorem one_walk (p0 l0 f0 : Int) (a : Option Addr) (xs : List Int) (c : Nat) (lsn step : Int) (la : Option Addr) (lc : Nat) (l : Loss) (a2 : Option Addr) (ys : List Int) (c2 : Nat) (w : World)
    (hs : Seen .i64 w a xs) (hc : xs.length ≤ c) (hcm : c ≤ maxLen) (hl : LossAt w l la lc) (hk : l.keep.length ≤ 17592186044415) (hs2 : Seen .i64 w a2 ys) (_hc2 : ys.length ≤ c2) (_hcm2 : c2 ≤ maxLen) :
    Calls Try.prog 5 #[.agg (shC p0 l0 f0), .slice a xs.length c, .int .i64 lsn, .int .i64 step, .agg #[.slice la l.keep.length lc, .int .i64 l.torn, .int .i64 l.off], .slice a2 ys.length c2] w fun e w' => e = .returned (.bool true) ∧ Below w.heap.size w w' := by
  obtain ⟨w1, hw1⟩ : ∃ w1, w1 = (w.alloc (.cells #[.int .i64 p0, .int .i64 l0, .int .i64 f0] 23)).alloc (.cells #[.slice la l.keep.length lc, .int .i64 l.torn, .int .i64 l.off] 41) := ⟨_, rfl⟩
  have b1 : Below w.heap.size w w1 := by rw [hw1]; exact ((Below.refl _ w).alloc (Nat.le_refl _) _).alloc (by simp) _
  have z1 : w1.heap.size = w.heap.size + 2 := by rw [hw1]; simp
  have C1 : cell3 w1 w.heap.size p0 l0 f0 := by rw [hw1]; exact (cell3.new w p0 l0 f0).below (alloc_below _ _)
  have L1 : Cells w1 (w.heap.size + 1) [.slice la l.keep.length lc, .int .i64 l.torn, .int .i64 l.off] := by
    have := Cells.new (w.alloc (.cells #[.int .i64 p0, .int .i64 l0, .int .i64 f0] 23)) #[.slice la l.keep.length lc, .int .i64 l.torn, .int .i64 l.off] 41
    rw [World.size_alloc] at this
    rw [hw1]; exact this
  have KS := small_any p0 l0 f0 w1
  have sl := small_lt p0 l0 f0
  have sm := small_may p0 l0 f0
  obtain ⟨p, hp⟩ : ∃ p : Nat, smP p0 = (p : Int) := ⟨(smP p0).toNat, by omega⟩
  obtain ⟨q, hq⟩ : ∃ q : Nat, smL l0 = (q : Int) := ⟨(smL l0).toNat, by omega⟩
  obtain ⟨r, hr⟩ : ∃ r : Nat, smF f0 = (r : Int) := ⟨(smF f0).toNat, by omega⟩
  rw [hp, hq, hr] at KS sm
  have c0 := C1.c0
  have c1 := C1.c1
  have c2' := C1.c2
  unfold shC at KS ⊢
  have KS := hide KS
  have HW := hide hw1
  have B1 := hide b1
  have L1 := hide L1
  have Z1 := hide z1
  have SM := hide sm
  have HS := hide hs
  have HS2 := hide hs2
  have HL := hide hl
  clear hw1 b1 C1 sl sm hp hq hr hs hs2 hl z1
  unfold maxLen at hcm _hcm2
  go_enter Try.func5, Try.ntmps5
  go_wp2_with fail
  rw [← HW.out]
  clear HW
  refine KS.out.mono ?_
  rintro e w2 ⟨rfl, b2⟩
  obtain ⟨w3, hw3⟩ : ∃ w3, w3 = w2.alloc (.cells #[.int .i64 (p : Int), .int .i64 (q : Int), .int .i64 (r : Int)] 23) := ⟨_, rfl⟩
  have b3 : Below w2.heap.size w2 w3 := by rw [hw3]; exact alloc_below _ _
  have bb := bnext b2 b3 (Nat.le_refl _)
  have SH3 : cell3 w3 w2.heap.size p q r := by rw [hw3]; exact cell3.new w2 p q r
  have L3 := hide (L1.out.below bb)
  have B3 := hide (bnext B1.out bb (Nat.le_refl _))
  have z3 : w3.heap.size = w2.heap.size + 1 := by rw [hw3]; simp
  have z2 : w1.heap.size ≤ w2.heap.size := b2.size
  have KF := formatted_any p q r SM.out a xs c w3 (HS.out.below B3.out) hc (by unfold maxLen; exact hcm)
  unfold shC at KF
  have KF := hide KF
  have SH3 := hide SH3
  have HW3 := hide hw3
  have s0 := SH3.out.c0
  have s1 := SH3.out.c1
  have s2 := SH3.out.c2
  have Z3 := hide (show w.heap.size + 1 < w3.heap.size ∧ w2.heap.size < w3.heap.size ∧ w.heap.size ≤ w3.heap.size by have := Z1.out; omega)
  clear hw3 b2 b3 bb KS L1 B1 c0 c1 c2' z2 z3 Z1
  go_upto_region 2 with fail
  rw [← HW3.out]
  clear HW3
  go_wp2_with fail
  refine KF.out.mono ?_
  rintro e w4 ⟨d, k, last, S4, g, rfl, M4, hk4, P4, far4, b4⟩
  have R4 := hide (show Rest w4 w w3.heap.size S4 d g (w.heap.size + 1) la l lc w2.heap.size p q r from ⟨P4, far4, bnext B3.out b4 (Nat.le_refl _), Z3.out.2.2, b4.size, L3.out.below b4, Z3.out.1, SH3.out.below b4, Z3.out.2.1⟩)
  have M4 := hide M4
  have KA := hide (awake_any w4)
  clear P4 far4 b4 KF L3 B3 SH3 Z3 s0 s1 s2
  go_wp2_with fail
  refine KA.out.mono ?_
  rintro e w5 ⟨rfl, b5⟩
  have R5 := hide (R4.out.below b5)
  have cl := M4.out.calls
  have pn := M4.out.still.pend
  clear b5 R4 KA
  by_cases hv : lsnN lsn
  · obtain ⟨x, rfl⟩ : ∃ x : Nat, lsn = (x : Int) := ⟨lsn.toNat, by unfold lsnN at hv; omega⟩
    have hx : x ≤ 2147483647 := by unfold lsnN at hv; omega
    have g1 : ¬ ((x : Int) < 0) := by omega
    have g2 : ¬ ((2147483647 : Int) < (x : Int)) := by omega
    clear hv
    have KR := rest_any step 3 (by omega) (by omega) w5.drew
    have r0 := Int.emod_nonneg step (show (3 : Int) ≠ 0 by decide)
    have r1 := Int.emod_lt_of_pos step (show (0 : Int) < 3 by decide)
    simp only [show ((3 : Nat) : Int) = 3 from rfl] at KR
    obtain ⟨rs, hrs⟩ : ∃ rs : Nat, step % 3 = (rs : Int) := ⟨(step % 3).toNat, by omega⟩
    rw [hrs] at KR r1
    have e1 : IntKind.i64.wrap (1 + (rs : Int)) = ((1 + rs : Nat) : Int) := by rw [IntKind.wrap_i64]; omega
    obtain ⟨n, hn, hE, hD, hcalls, hpend⟩ := M4.out.cut (by omega) x hx (1 + rs) (by omega) (by omega) l
    obtain ⟨k', pt, o1, o2, o3, o4, o5, o6⟩ := M4.out.one (by omega) x hx n _ hn
    rw [← hD] at o1 o2 o3
    have HAS := hide (show Has (((g.arm ((1 + rs : Nat) : Int) l).pointD (x : Int)).crash l).up p q r k' pt from ⟨o1, o2, o3, o4⟩)
    have HPT := hide o6
    have HE := hide hE
    have ar := arm_still M4.out.still (1 + rs) (by omega) l
    obtain ⟨st, hst⟩ : ∃ st : Nat, st = 1 + rs := ⟨_, rfl⟩
    rw [← hst] at HAS HE ar e1 hcalls hpend
    have ga : (g.arm (st : Int) l).pend = [] ∧ (g.arm (st : Int) l).calls = g.calls := by rw [ar.2]; exact ⟨pn, rfl⟩
    have KM := arm_any R5.out.drew.dev (st : Int) (by omega) l la lc (HL.out.below R5.out.drew.bel) (fun hke ad had q => by have := HL.out.low hke ad had; have := R5.out.far _ q; have := R5.out.le; omega) hk
    rw [ar.1] at KM
    have KM := hide KM
    have KR := hide KR
    have HRS := hide hrs
    have HST := hide hst
    clear hD o1 o2 o3 o4 o6 hE ar hrs hst r0 r1
    go_upto_region 7 with fail
    refine wp_region_held_drew (S := Loss3 (w.heap.size + 1) la l lc) (by kernel_rfl) R5.out.three (fun hS => ?_)
    refine take_at 0 (some 48) (v := ?_) rfl rfl (by kernel_rfl) (by kernel_rfl) (by kernel_rfl) (fun _ _ _ h => h) ⟨by rfl, ?_⟩ hS ?_
    rotate_left
    · intro wq hSw; go_simp; try rfl
    simp only [Act.put, List.setIfInBounds_toArray, List.set_cons_zero, List.set_cons_succ]
    refine take_at 1 (some 49) (v := ?_) rfl rfl (by kernel_rfl) (by kernel_rfl) (by kernel_rfl) (fun _ _ _ h => h) ⟨by rfl, ?_⟩ hS ?_
    rotate_left
    · intro wq hSw; go_simp; try rfl
    simp only [Act.put, List.setIfInBounds_toArray, List.set_cons_zero, List.set_cons_succ]
    refine take_at 4 (some 52) (v := ?_) rfl rfl (by kernel_rfl) (by kernel_rfl) (by kernel_rfl) (fun _ _ _ h => h) ⟨by rfl, ?_⟩ hS ?_
    rotate_left
    · intro wq hSw; obtain ⟨x0, x1, x2⟩ := hSw; go_simp; try rfl
    simp only [Act.put, List.setIfInBounds_toArray, List.set_cons_zero, List.set_cons_succ]
    refine wpAnyH_ready (rs := [2]) (by kernel_rfl) (by simp) ?_
    refine AllReadyH.cons rfl (fun K hK => ?_) AllReadyH.nil
    go_simp
    go_wp2_with fail
    refine KR.out.mono ?_
    rintro e w' ⟨rfl, hw⟩
    obtain rfl : w5.drew = w' := hw.symm
    go_wp2_with fail
    refine hK.out _ _ hS (fun hS => ?_)
    clear hK K
    clear KR
    (try simp only [Act.put, List.setIfInBounds_toArray, List.set_cons_zero, List.set_cons_succ])
    refine take_at 3 (some 51) (v := ?_) rfl rfl (by kernel_rfl) (by kernel_rfl) (by kernel_rfl) (fun _ _ _ h => h) ⟨by rfl, ?_⟩ hS ?_
    rotate_left
    · intro wq hSw; go_simp; try rfl
    simp only [Act.put, List.setIfInBounds_toArray, List.set_cons_zero, List.set_cons_succ]
    refine wpAnyH_ready (rs := [5]) (by kernel_rfl) (by simp) ?_
    refine AllReadyH.cons rfl (fun K hK => ?_) AllReadyH.nil
    go_simp
    go_wp2_with fail
    refine KM.out.mono ?_
    rintro e w6 ⟨S6, rfl, P6, st6⟩
    have R6 := hide (R5.out.drew.step P6 st6)
    clear P6 st6 KM R5
    go_wp2_with fail
    refine hK.out _ _ R6.out.three (fun hS => ?_)
    clear hK K
    (try simp only [Act.put, List.setIfInBounds_toArray, List.set_cons_zero, List.set_cons_succ])
    refine wpAnyH_done (by kernel_rfl) ?_ _
    have KP := hide (Point_any R6.out.dev (x : Int) (by rw [ga.1]; decide) (by rw [ga.2]; omega))
    clear hS
    go_wp2_with fail
    refine KP.out.mono ?_
    rintro e w7 ⟨S7, v7, rfl, e7, P7, st7⟩
    have R7 := hide (R6.out.step P7 st7)
    have E7 := hide e7
    clear P7 st7 KP R6 e7
    go_upto_region 9 with fail
    go_cut [63] (fun s w' => s = .bool false ∧ w' = w7)
    case first =>
      have NE := neq_err
      rcases HE.out with ⟨h0, _⟩ | h0
      · have := E7.out
        rw [h0] at this
        obtain rfl := this.none
        go_wp2_with fail
        go_meet
        exact ⟨rfl, rfl⟩
      · have e7 := E7.out
        rw [h0] at e7
        have KT := hide (told_any v7 pointS 40 40 w7 e7)
        rcases e7 with ⟨q, _⟩ | ⟨_, bb, rfl, _⟩
        · exact absurd q (by decide)
        · go_wp2_with fail
          refine KT.out.mono ?_
          rintro e w' ⟨rfl, hw⟩
          obtain rfl : w7 = w' := hw.symm
          go_wp2_with fail
          go_meet
          exact ⟨rfl, rfl⟩
    case rest =>
      obtain ⟨hs63, hwc⟩ := hcut
      subst hwc
      subst hs63
      have t0 := R7.out.three.1
      have t1 := R7.out.three.2.1
      have t2 := R7.out.three.2.2
      have KC := hide (crash_any R7.out.dev l la lc (HL.out.below R7.out.bel) (fun hke ad had q => by have := HL.out.low hke ad had; have := R7.out.far _ q; have := R7.out.le; omega) (by rw [hpend]; decide))
      go_wp2_with fail
      refine KC.out.mono ?_
      rintro e w8 ⟨rfl, P8, k8⟩
      have R8 := hide (R7.out.step P8 (Step.of_keep k8))
      have KU := hide (up_any R8.out.dev)
      clear P8 k8 KC R7 t0 t1 t2
      go_wp2_with fail
      refine KU.out.mono ?_
      rintro e w9 ⟨rfl, P9, k9⟩
      have R9 := R8.out.step P9 (Step.of_keep k9)
      clear P9 k9 KU R8
      obtain ⟨g9, hg9⟩ : ∃ g9, g9 = (((g.arm (st : Int) l).pointD (x : Int)).crash l).up := ⟨_, rfl⟩
      rw [← hg9] at R9 HAS hcalls
      have R9 := hide R9
      have EM := hide M4.out.mst
      clear hg9 M4 hpend ga pn
      go_wp2_with fail
      refine (num_any 0 w9).mono ?_
      rintro e w' ⟨rfl, hw⟩
      obtain rfl : w9 = w' := hw.symm
      have KO := Open_any R9.out.dev (by rw [HAS.out.still.pend]; decide)
      rw [HAS.out.openE.1, HAS.out.openE.2] at KO
      unfold shC at KO
      have KO := hide KO
      go_wp2_with fail
      refine KO.out.mono ?_
      rintro e w10 ⟨v10, rfl, e10, b10⟩
      obtain rfl := e10.none
      obtain ⟨w11, hw11⟩ : ∃ w11, w11 = w10.alloc (.cells #[.int .i64 (p : Int), .int .i64 (q : Int), .int .i64 (r : Int)] 23) := ⟨_, rfl⟩
      have b11 : Below w10.heap.size w10 w11 := by rw [hw11]; exact alloc_below _ _
      have z11 : w11.heap.size = w10.heap.size + 1 := by rw [hw11]; simp
      have T11 : cell3 w11 w10.heap.size p q r := by rw [hw11]; exact cell3.new w10 p q r
      have nS : ¬ S7 w10.heap.size := fun q => by have := R9.out.dev.lt _ q; have := b10.size; omega
      have R11 := hide (R9.out.below (bnext b10 b11 (Nat.le_refl _)))
      have HI10 := hide (show w3.heap.size ≤ w10.heap.size from Nat.le_trans R9.out.hi b10.size)
      have HW11 := hide hw11
      have E11 := hide (show v7 = .nilIface ∨ ∃ u, v7 = .iface 70 u from by
        rcases E7.out with ⟨_, q⟩ | ⟨_, bb, q, _⟩
        · exact .inl q
        · exact .inr ⟨_, q⟩)
      have Q7 := hide (show v7 = .nilIface → pt = x from fun q => by
        rcases HPT.out with h | ⟨h, hn5⟩
        · exact h
        · exfalso
          rcases HE.out with ⟨_, h5⟩ | h4
          · exact hn5 h5
          · rcases E7.out with ⟨h6, _⟩ | ⟨_, bb, h6, _⟩
            · rw [h4] at h6; simp at h6
            · rw [q] at h6; simp at h6)
      have PT := hide (show pt = x ∨ pt = last from by
        rcases HPT.out with h | ⟨h, _⟩
        · exact .inl h
        · exact .inr h)
      have t0 := T11.c0
      have t1 := T11.c1
      have t2 := T11.c2
      have s0 := R11.out.sh.c0
      have s1 := R11.out.sh.c1
      have s2 := R11.out.sh.c2
      have T11 := hide T11
      clear hw11 b10 b11 e10 KO R9 E7 HE HPT
      go_upto_region 15 with fail
      rw [← HW11.out]
      clear HW11
      go_cut [97] (fun s w' => s = .bool false ∧ w' = w11)
      case first =>
        have NS := neq_shape (p : Int) (q : Int) (r : Int)
        have NE := neq_err
        have EE := eql_err
        by_cases hx5 : pt = x
        · subst hx5
          go_wp2_with fail
          go_meet
          exact ⟨rfl, rfl⟩
        · have hx6 : ((pt : Int) != (x : Int)) = true := by rw [bne_iff_ne]; omega
          obtain rfl : pt = last := by
            rcases PT.out with h | h
            · exact absurd h hx5
            · exact h
          rcases E11.out with h | ⟨u, rfl⟩
          · exact absurd (Q7.out h) hx5
          · go_wp2_with fail
            go_meet
            exact ⟨rfl, rfl⟩
      case rest =>
        obtain ⟨hs97, hwc⟩ := hcut
        subst hwc
        subst hs97
        have z10 := z11
        clear t0 t1 t2 s0 s1 s2 PT Q7 E11 z11
        have O0 := hide (show OneL w wc w3.heap.size d (w.heap.size + 1) la l lc w2.heap.size w10.heap.size p q r 0 from ⟨S7, g9, k', pt, R11.out, HAS.out, by omega, by omega, nS, _, _, _, T11.out⟩)
        have ZL : w10.heap.size < wc.heap.size := by omega
        have W10 := hide (show w3.heap.size ≤ w10.heap.size ∧ w.heap.size ≤ w3.heap.size ∧ w.heap.size + 1 < w3.heap.size ∧ w2.heap.size < w3.heap.size from ⟨HI10.out, R11.out.le, R11.out.lossLt, R11.out.shLt⟩)
        clear R11 HAS nS T11 hcalls cl z10
        go_wp2_with fail
        go_loopw [21] (fun i wr => ∃ j : Nat, i = .int .i64 (j : Int) ∧ j ≤ ys.length ∧ j ≤ 5 ∧ OneL w wr w3.heap.size d (w.heap.size + 1) la l lc w2.heap.size w10.heap.size p q r j ∧ w10.heap.size < wr.heap.size) (fun i _ => 5 - (intOf i).toNat)
        case atStart => exact ⟨0, rfl, by omega, by omega, O0.out, ZL⟩
        case round =>
          obtain ⟨j, rfl, hj1, hj2, ⟨S, gj, kj, pj, hR, hH, hkj, hcj, hSj, xx, yy, zz, hT⟩, hzj⟩ := hrel
          have hR := hide hR
          have hH := hide hH
          have hT := hide hT
          clear O0
          by_cases q1 : j < ys.length
          · by_cases q2 : j < 5
            · have q1' : (j : Int) < (ys.length : Int) := by omega
              have q2' : (j : Int) < 5 := by omega
              obtain ⟨b, off, rfl, hbl, hcell⟩ := Seen.at (Seen.below HS2.out hR.out.bel) q1
              have KRR := rest_any ys[j] 2147483648 (by omega) (by omega) wr
              have r0 := Int.emod_nonneg ys[j] (show (2147483648 : Int) ≠ 0 by decide)
              have r1 := Int.emod_lt_of_pos ys[j] (show (0 : Int) < 2147483648 by decide)
              simp only [show ((2147483648 : Nat) : Int) = 2147483648 from rfl] at KRR
              obtain ⟨y, hy⟩ : ∃ y : Nat, ys[j] % 2147483648 = (y : Int) := ⟨(ys[j] % 2147483648).toNat, by omega⟩
              rw [hy] at KRR r1
              obtain ⟨yv, hyv⟩ : ∃ yv, yv = ys[j] := ⟨_, rfl⟩
              rw [← hyv] at hcell KRR
              obtain ⟨pE, H1, cl1⟩ := hH.out.point (by omega) y (by omega)
              have KP := Point_any hR.out.dev (y : Int) (by rw [hH.out.still.pend]; decide) (by omega)
              rw [pE] at KP
              obtain ⟨H2, cl2⟩ := H1.crashUp l
              have pn1 := H1.still.pend
              have KP := hide KP
              have KRR := hide KRR
              have H2 := hide H2
              clear hy hyv r0 pE H1
              go_wp2_with fail
              refine KRR.out.mono ?_
              rintro e w' ⟨rfl, hw⟩
              obtain rfl : wr = w' := hw.symm
              clear KRR
              go_wp2_with fail
              refine KP.out.mono ?_
              rintro e w5' ⟨S5, v5, rfl, e5, P5, st5⟩
              obtain rfl := e5.none
              have T5 := hide (hT.out.keep st5.1 hSj)
              have nS5 : ¬ S5 w10.heap.size := fun q => (st5.2 _ q).elim hSj (fun q => by omega)
              have R5' := hide (hR.out.step P5 st5)
              have z5 := Nat.le_trans hzj st5.1.size
              have t0 := R5'.out.three.1
              have t1 := R5'.out.three.2.1
              have t2 := R5'.out.three.2.2
              have KC := hide (crash_any R5'.out.dev l la lc (HL.out.below R5'.out.bel) (fun hke ad had q => by have := HL.out.low hke ad had; have := R5'.out.far _ q; have := R5'.out.le; omega) (by rw [pn1]; decide))
              clear e5 P5 st5 KP hT hR hcell
              go_wp2_with fail
              refine KC.out.mono ?_
              rintro e w6' ⟨rfl, P6, k6⟩
              have R6' := hide (R5'.out.step P6 (Step.of_keep k6))
              have T6 := hide (T5.out.keep k6 nS5)
              have z6 := Nat.le_trans z5 k6.size
              have KU := hide (up_any R6'.out.dev)
              clear P6 k6 KC R5' T5 t0 t1 t2
              go_wp2_with fail
              refine KU.out.mono ?_
              rintro e w7' ⟨rfl, P7, k7⟩
              have R7' := R6'.out.step P7 (Step.of_keep k7)
              have T7 := hide (T6.out.keep k7 nS5)
              have z7 := Nat.le_trans z6 k7.size
              clear P7 k7 KU R6' T6
              obtain ⟨g7, hg7⟩ : ∃ g7, g7 = ((gj.pointD (y : Int)).crash l).up := ⟨_, rfl⟩
              rw [← hg7] at R7' H2 cl2
              have R7' := hide R7'
              clear hg7
              have KO := Open_any R7'.out.dev (by rw [H2.out.still.pend]; decide)
              rw [H2.out.openE.1, H2.out.openE.2] at KO
              unfold shC at KO
              have KO := hide KO
              go_wp2_with fail
              refine KO.out.mono ?_
              rintro e w8' ⟨v8, rfl, e8, b8⟩
              obtain rfl := e8.none
              have R8' := R7'.out.below b8
              have T8 := T7.out.below b8
              have z8 := Nat.le_trans z7 b8.size
              have u0 := T8.c0
              have u1 := T8.c1
              have u2 := T8.c2
              have f0 := T8.fr 0 (by omega)
              have f1 := T8.fr 1 (by omega)
              have f2 := T8.fr 2 (by omega)
              obtain ⟨w9', hw9⟩ : ∃ w9', w9' = ((w8'.setCell ⟨w10.heap.size, 0, none⟩ (.int .i64 (p : Int))).setCell ⟨w10.heap.size, 1, none⟩ (.int .i64 (q : Int))).setCell ⟨w10.heap.size, 2, none⟩ (.int .i64 (r : Int)) := ⟨_, rfl⟩
              have k9 : Keep (fun b => b = w10.heap.size) w8' w9' := by rw [hw9]; exact (((Keep.refl (fun k => k = w10.heap.size) w8').setCell (fun _ => rfl) _).setCell (fun _ => rfl) _).setCell (fun _ => rfl) _
              have T9 : cell3 w9' w10.heap.size p q r := by rw [hw9]; exact ((Cells.stored T8 (j := 0) (by simp) _).stored (j := 1) (by simp) _).stored (j := 2) (by simp) _
              have R9' : Rest w9' w w3.heap.size S5 d g7 (w.heap.size + 1) la l lc w2.heap.size p q r := ⟨R8'.dev.keep k9 (fun b hb hs => by subst hb; exact nS5 hs), R8'.far, R8'.bel.trans (k9.below R8'.bel.size (fun k hk => by have := W10.out; omega)), R8'.le, Nat.le_trans R8'.hi k9.size, Cells.keep R8'.loss k9 (by have := W10.out; omega), R8'.lossLt, R8'.sh.keep k9 (by have := W10.out; omega), R8'.shLt⟩
              have z9 := Nat.le_trans z8 k9.size
              have v0 := T9.c0
              have v1 := T9.c1
              have v2 := T9.c2
              have s0 := R9'.sh.c0
              have s1 := R9'.sh.c1
              have s2 := R9'.sh.c2
              have NS := neq_shape (p : Int) (q : Int) (r : Int)
              have HW9 := hide hw9
              have OO := hide (show OneL w w9' w3.heap.size d (w.heap.size + 1) la l lc w2.heap.size w10.heap.size p q r (j + 1) from ⟨S5, g7, kj + 1, y, R9', H2.out, by omega, by omega, nS5, _, _, _, T9⟩)
              clear hw9 b8 e8 KO R7' T7 R8' T8 k9 T9 R9'
              go_upto_region 26 with fail
              rw [← HW9.out]
              clear HW9 u0 u1 u2 f0 f1 f2
              go_wp2_with fail
              go_roundw
              case rel => exact ⟨j + 1, by go_num, by omega, by omega, OO.out, by omega⟩
              case measure => simp [intOf]; omega
            · have q1' : (j : Int) < (ys.length : Int) := by omega
              have q2' : ¬ (j : Int) < 5 := by omega
              go_wp2_with fail
              go_ret
              exact ⟨rfl, hR.out.bel⟩
          · have q1' : ¬ (j : Int) < (ys.length : Int) := by omega
            go_wp2_with fail
            go_ret
            exact ⟨rfl, hR.out.bel⟩
  · have e4 : g.pointE lsn = 4 := by unfold Dev.pointE; rw [if_pos hv]
    have KP := Point_any R5.out.dev lsn (by rw [pn]; decide) (by omega)
    rw [e4] at KP
    have KP := hide KP
    have WW := hide hv
    clear hv e4
    by_cases h1 : lsn < 0
    · go_wp2_with fail
      refine KP.out.mono ?_
      rintro e w6 ⟨S6, v6, rfl, e6, P6, st6⟩
      have R6 := hide (R5.out.step P6 st6)
      have KT := hide (told_any v6 pointS 4 4 w6 e6)
      clear e6 P6 st6 KP R5
      go_wp2_with fail
      refine KT.out.mono ?_
      rintro e w' ⟨rfl, hw⟩
      obtain rfl : w6 = w' := hw.symm
      go_wp2_with fail
      go_ret
      exact ⟨rfl, R6.out.bel⟩
    · have h2 : 2147483647 < lsn := by have := WW.out; unfold lsnN at this; omega
      go_wp2_with fail
      refine KP.out.mono ?_
      rintro e w6 ⟨S6, v6, rfl, e6, P6, st6⟩
      have R6 := hide (R5.out.step P6 st6)
      have KT := hide (told_any v6 pointS 4 4 w6 e6)
      clear e6 P6 st6 KP R5
      go_wp2_with fail
      refine KT.out.mono ?_
      rintro e w' ⟨rfl, hw⟩
      obtain rfl : w6 = w' := hw.symm
      go_wp2_with fail
      go_ret
      exact ⟨rfl, R6.out.bel⟩
end Go.Proofs.Ytapjbgkmcplpbaa
