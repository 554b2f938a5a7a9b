import Derived.Test.YtapjbgkmcplpbaaGreatG05
import Derived.Test.YtapjbgkmcplpbaaGreatSmall
import Derived.Test.YtapjbgkmcplpbaaGreatRMas4
import Derived.Test.YtapjbgkmcplpbaaGreatMast
namespace Go.QK
variable {P : Program} {ops : Array Oper} {Q : Exit → Act → World → Prop} {md : Region.Mode} {S S' : World → Prop}
/-- In the midst of a region the condition may be made stronger. -/
theorem wpAnyH_stronger (h : ∀ w, S' w → S w) : (fuel : Nat) → (listed : Array Bool) → (a : Act) → (w : World) → wpAnyH P md ops Q S' fuel listed a w → wpAnyH P md ops Q S fuel listed a w
  | 0, _, _, _, k => k
  | fuel + 1, _, _, _, k => ⟨k.1, fun i hi => wpOp_mono (fun a' w' k' => ⟨h _ k'.1, wpAnyH_stronger h fuel _ a' w' k'.2⟩) (k.2 i hi)⟩
theorem hold_more (S' : World → Prop) {fuel : Nat} {listed : Array Bool} {a : Act} {w : World} (h : ∀ w, S' w → S w) (hS : S' w) (k : S' w → wpAnyH P md ops Q S' fuel listed a w) : wpAnyH P md ops Q S fuel listed a w := wpAnyH_stronger h _ _ _ _ (k hS)
end Go.QK

namespace Go.Proofs.YtapjbgkmcplpbaaGreat
open Go.RowKit Go.QK

theorem ErrAt.below {w w' : World} {v : Value} {call : ByteArray} {e : Nat} (h : ErrAt w v call e) (hb : Below w.heap.size w w') : ErrAt w' v call e := by
  rcases h with q | ⟨q, b, hv, hc⟩
  · exact .inl q
  · exact .inr ⟨q, b, hv, hc.below hb⟩

set_option maxHeartbeats 4000000 in
set_option maxRecDepth 100000 in
theorem layout_any (p l f page : Int) (w : World) : Calls Tryz.prog 21 #[.agg (shC p l f), .int .i64 page] w fun e w' => e = .returned (.bool true) ∧ Below w.heap.size w w' := by
  obtain ⟨w1, hw1⟩ : ∃ w1, w1 = w.alloc (.cells #[.int .i64 p, .int .i64 l, .int .i64 f] 23) := ⟨_, rfl⟩
  have b1 : Below w.heap.size w w1 := by rw [hw1]; exact alloc_below _ _
  have C1 : cell3 w1 w.heap.size p l f := by rw [hw1]; exact cell3.new w p l f
  have K1 := fun w' => need_any p l f w'
  have K2 := fun w' => rNeed_any p l f w'
  have K3 := fun w' => homeOf_any p l f page w'
  have K4 := fun w' => rHome_any p l f page w'
  have K5 := fun w' => log_any p l f w'
  have K6 := fun w' => rLog_any p l f w'
  generalize needN p l f = n1 at *
  generalize mayE p l f = m1 at *
  generalize homeN p l f page = h1 at *
  generalize homeE p l f page = he at *
  generalize (if mayN p l f then 5 + 2 * p else 0) = l1 at *
  unfold shC at K1 K2 K3 K4 K5 K6 ⊢
  have K1 := hide K1
  have K2 := hide K2
  have K3 := hide K3
  have K4 := hide K4
  have K5 := hide K5
  have K6 := hide K6
  have NU := hide (fun e w' => num_any e w')
  have HW := hide hw1
  have c0 := C1.c0
  have c1 := C1.c1
  have c2 := C1.c2
  have C1 := hide C1
  have B1 := hide b1
  clear hw1 b1
  go_enter Tryz.func21, Tryz.ntmps21
  go_wp2_with fail
  rw [← HW.out]
  clear HW
  refine (K1.out w1).mono ?_
  rintro e w2 ⟨rfl, b2⟩
  have C2 := hide (C1.out.below b2)
  have B2 := hide (bnext B1.out b2 (Nat.le_refl _))
  clear b2 C1 B1 c0 c1 c2
  have c0 := C2.out.c0
  have c1 := C2.out.c1
  have c2 := C2.out.c2
  go_wp2_with fail
  refine (K2.out w2).mono ?_
  rintro e w3 ⟨rfl, b3⟩
  have C3 := hide (C2.out.below b3)
  have B3 := hide (bnext B2.out b3 (Nat.le_refl _))
  clear b3 C2 B2 c0 c1 c2
  have c0 := C3.out.c0
  have c1 := C3.out.c1
  have c2 := C3.out.c2
  go_wp2_with fail
  refine (K3.out w3).mono ?_
  rintro e w4 ⟨rfl, b4⟩
  have C4 := hide (C3.out.below b4)
  have B4 := hide (bnext B3.out b4 (Nat.le_refl _))
  clear b4 C3 B3 c0 c1 c2
  have c0 := C4.out.c0
  have c1 := C4.out.c1
  have c2 := C4.out.c2
  go_wp2_with fail
  refine (K4.out w4).mono ?_
  rintro e w5 ⟨rfl, b5⟩
  have C5 := hide (C4.out.below b5)
  have B5 := hide (bnext B4.out b5 (Nat.le_refl _))
  clear b5 C4 B4 c0 c1 c2
  have c0 := C5.out.c0
  have c1 := C5.out.c1
  have c2 := C5.out.c2
  go_wp2_with fail
  refine (K5.out w5).mono ?_
  rintro e w6 ⟨rfl, b6⟩
  have C6 := hide (C5.out.below b6)
  have B6 := hide (bnext B5.out b6 (Nat.le_refl _))
  clear b6 C5 B5 c0 c1 c2
  have c0 := C6.out.c0
  have c1 := C6.out.c1
  have c2 := C6.out.c2
  go_wp2_with fail
  refine (K6.out w6).mono ?_
  rintro e w7 ⟨rfl, b7⟩
  have C7 := hide (C6.out.below b7)
  have B7 := hide (bnext B6.out b7 (Nat.le_refl _))
  clear b7 C6 B6 c0 c1 c2
  have c0 := C7.out.c0
  have c1 := C7.out.c1
  have c2 := C7.out.c2
  go_wp2_with fail
  refine (NU.out (m1 : Int) w7).mono ?_
  rintro e w' ⟨rfl, hw⟩
  obtain rfl : w7 = w' := hw.symm
  go_wp2_with fail
  refine (NU.out (he : Int) w7).mono ?_
  rintro e w' ⟨rfl, hw⟩
  obtain rfl : w7 = w' := hw.symm
  go_wp2_with fail
  refine (NU.out (m1 : Int) w7).mono ?_
  rintro e w' ⟨rfl, hw⟩
  obtain rfl : w7 = w' := hw.symm
  go_wp2_with fail
  go_ret
  exact ⟨rfl, B7.out⟩

end Go.Proofs.YtapjbgkmcplpbaaGreat

namespace Go.Proofs.YtapjbgkmcplpbaaGreat
open Go.RowKit Go.QK

/-- The two disks of a pair, which lies at block pb. -/
structure Duet (w : World) (S : Nat → Prop) (d : Nat) (g : Dev) (T : Nat → Prop) (c : Nat) (k : Dev) (pb : Nat) (p q r : Nat) : Prop where
  pr : Pr w S d g T c k
  cells : Cells w pb [.pointer (some ⟨d, 0, none⟩), .pointer (some ⟨c, 0, none⟩), .int .i64 (p : Int), .int .i64 (q : Int), .int .i64 (r : Int)]
  out : ¬ S pb ∧ ¬ T pb
section
variable {w w' : World} {S S' T T' : Nat → Prop} {d c : Nat} {g g' k k' : Dev} {pb p q r : Nat}
theorem Duet.left (h : Duet w S d g T c k pb p q r) (hd : PDev w' S' d g') (hs : Step w S w' S') : Duet w' S' d g' T c k pb p q r :=
  ⟨h.pr.left hd hs, h.cells.keep hs.1 h.out.1, fun x => (hs.2 _ x).elim h.out.1 (fun y => by have := h.cells.1; omega), h.out.2⟩
theorem Duet.right (h : Duet w S d g T c k pb p q r) (hd : RDev w' T' c k') (hs : Step w T w' T') : Duet w' S d g T' c k' pb p q r :=
  ⟨h.pr.right hd hs, h.cells.keep hs.1 h.out.2, h.out.1, fun x => (hs.2 _ x).elim h.out.2 (fun y => by have := h.cells.1; omega)⟩
theorem Duet.below (h : Duet w S d g T c k pb p q r) (hb : Below w.heap.size w w') : Duet w' S d g T c k pb p q r := h.left (h.pr.one.below hb) (Step.of_below hb)
theorem Duet.apart {V : Nat → Prop} (h : Duet w S d g T c k pb p q r) (hk : Keep V w w') (hV : ∀ b, V b → ¬ S b ∧ ¬ T b ∧ b ≠ pb) : Duet w' S d g T c k pb p q r :=
  ⟨⟨h.pr.one.keep hk (fun b x => (hV b x).1), h.pr.two.keep hk (fun b x => (hV b x).2.1), h.pr.ap⟩, h.cells.keep hk (fun x => (hV _ x).2.2 rfl), h.out⟩
/-- The pair's cells. -/
def PC (pb d c : Nat) (wq : World) : Prop := wq.cell? ⟨pb, 0, none⟩ = some (.pointer (some ⟨d, 0, none⟩)) ∧ wq.cell? ⟨pb, 1, none⟩ = some (.pointer (some ⟨c, 0, none⟩))
theorem Duet.pc (h : Duet w S d g T c k pb p q r) : PC pb d c w := ⟨(h.cells.get 0 _ rfl).1, (h.cells.get 1 _ rfl).1⟩
theorem Duet.sh (h : Duet w S d g T c k pb p q r) : w.cell? ⟨pb, 2, none⟩ = some (.int .i64 (p : Int)) ∧ w.cell? ⟨pb, 3, none⟩ = some (.int .i64 (q : Int)) ∧ w.cell? ⟨pb, 4, none⟩ = some (.int .i64 (r : Int)) := ⟨(h.cells.get 2 _ rfl).1, (h.cells.get 3 _ rfl).1, (h.cells.get 4 _ rfl).1⟩
end

theorem both_any (e : Int) (w : World) : Calls Tryz.prog 25 #[.int .i64 e, .int .i64 e] w fun r w' => r = .returned (.bool true) ∧ w' = w := by
  go_enter Tryz.func25, Tryz.ntmps25
  go_wp2_with fail
  refine (num_any e w).mono ?_
  rintro x w' ⟨rfl, hw⟩
  obtain rfl : w = w' := hw.symm
  go_wp2_with fail
  go_ret
  exact ⟨rfl, rfl⟩

set_option maxHeartbeats 2000000 in
set_option maxRecDepth 100000 in
theorem samePending_any (a b : Option Addr) (ps qs : List PE) (c e : Nat) (w : World) (hp : PSeen w a ps) (hq : PSeen w b qs) (he : ps.map PE.out = qs.map PE.out) (_hn : ps.length ≤ 1000000) :
    Calls Tryz.prog 41 #[.slice a ps.length c, .slice b qs.length e] w fun r w' => r = .returned (.bool true) ∧ Below w.heap.size w w' := by
  have hl : qs.length = ps.length := by have := congrArg List.length he; simpa using this.symm
  rw [hl]
  have HP := hide hp
  have HQ := hide hq
  have HE := hide he
  have HL := hide hl
  clear hp hq he hl
  go_enter Tryz.func41, Tryz.ntmps41
  go_wp2_with fail
  go_loopw [5] (fun i wr => ∃ j : Nat, j ≤ ps.length ∧ i = .int .i64 (j : Int) ∧ Below w.heap.size w wr) (fun i _ => ps.length - (intOf i).toNat)
  case atStart => exact ⟨0, Nat.zero_le _, rfl, Below.refl _ _⟩
  case round =>
    obtain ⟨j, hj, rfl, hbel⟩ := hrel
    by_cases hlt : j < ps.length
    · have hlt2 : j < qs.length := by rw [HL.out]; exact hlt
      obtain ⟨⟨b1, rfl, g1, p0, p1⟩, y1, z1⟩ := (HP.out.below hbel) j hlt
      obtain ⟨⟨b2, rfl, g2, q0, q1⟩, y2, z2⟩ := (HQ.out.below hbel) j hlt2
      have hout : ps[j].out = qs[j].out := by
        have := congrArg (fun l => l[j]?) HE.out
        simpa [hlt, hlt2] using this
      have hs : qs[j].s = ps[j].s := (congrArg Prod.fst hout).symm
      have hb : qs[j].b = ps[j].b := (congrArg Prod.snd hout).symm
      unfold PE.v at p1 q1
      rw [hs] at q0
      rw [hb] at q1 y2
      have cv1 := fun (n : Nat) => conv_any (some ⟨ps[j].k, 0, none⟩) ps[j].b ps[j].c (wr.drewN n) y1
      have cv2 := fun (n : Nat) => conv_any (some ⟨qs[j].k, 0, none⟩) ps[j].b qs[j].c (wr.drewN n) y2
      have hlk : (j : Int) < (ps.length : Int) := by omega
      clear hout hs hb y1 y2 z1 z2
      go_upto_region 6 with fail
      go_quiet (fail)
      go_wp2_with fail
      go_roundw
      case rel => exact ⟨j + 1, by omega, by go_num, below_drewN hbel _⟩
      case measure => simp [intOf]; omega
    · obtain rfl : j = ps.length := by omega
      go_wp2_with fail
      go_ret
      exact ⟨rfl, hbel⟩
end Go.Proofs.YtapjbgkmcplpbaaGreat

namespace Go.Proofs.YtapjbgkmcplpbaaGreat
open Go.RowKit Go.QK

/-- The error's block is a new one. -/
def ErrNew (v : Value) (B : Nat) : Prop := ∀ b, v = .iface 85 (.pointer (some ⟨b, 0, none⟩)) → B ≤ b
theorem errAt_keep {w w' : World} {v : Value} {call : ByteArray} {e : Nat} {T : Nat → Prop} (h : ErrAt w v call e) (hk : Keep T w w') (hn : ∀ b, v = .iface 85 (.pointer (some ⟨b, 0, none⟩)) → ¬ T b) : ErrAt w' v call e := by
  rcases h with q | ⟨q, b, hv, hc⟩
  · exact .inl q
  · exact .inr ⟨q, b, hv, Cells.keep hc hk (hn b hv)⟩

set_option maxHeartbeats 1000000 in
set_option maxRecDepth 100000 in
theorem fault_new (call : ByteArray) (e : Nat) (w : World) : Calls Tryz.prog 45 #[.string call, .int .i64 (e : Int)] w fun x w' => ∃ v, x = .returned v ∧ ErrAt w' v call e ∧ ErrNew v w.heap.size ∧ Below w.heap.size w w' := by
  by_cases h : e = 0
  · subst h
    go_enter Tryz.func45, Tryz.ntmps45
    go_wp2_with fail
    go_ret
    exact ⟨_, rfl, .inl ⟨rfl, rfl⟩, fun b q => by simp at q, Below.refl _ _⟩
  · have h' : ((e : Int) == 0) = false := by simpa using h
    have H := hide h
    clear h
    go_enter Tryz.func45, Tryz.ntmps45
    go_wp2_with fail
    go_ret
    exact ⟨_, rfl, .inr ⟨H.out, w.heap.size, rfl, Cells.new w _ 87⟩, fun b q => by simp at q; omega, alloc_below _ _⟩

set_option maxHeartbeats 1000000 in
set_option maxRecDepth 100000 in
theorem Format_new {w : World} {S : Nat → Prop} {d : Nat} {g : Dev} (h : PDev w S d g) (p l f : Int) (hpl : g.pend.length ≤ 999990) (hcl : g.calls ≤ 999990) :
    Calls Tryz.prog 14 #[.pointer (some ⟨d, 0, none⟩), .agg (shC p l f)] w fun x w' => ∃ S' v, x = .returned v ∧ ErrAt w' v formatS (g.formatE p l f) ∧ ErrNew v w.heap.size ∧ PDev w' S' d (g.formatD p l f) ∧ Step w S w' S' := by
  obtain ⟨w1, hw1⟩ : ∃ w1, w1 = w.alloc (.cells #[.int .i64 p, .int .i64 l, .int .i64 f] 23) := ⟨_, rfl⟩
  have b1 : Below w.heap.size w w1 := by rw [hw1]; exact alloc_below _ _
  have K := format_any (h.below b1) p l f hpl hcl
  generalize g.formatE p l f = ee at *
  generalize g.formatD p l f = gg at *
  unfold shC at K ⊢
  have K := hide K
  have HW := hide hw1
  have B1 := hide b1
  clear h hw1 b1
  go_enter Tryz.func14, Tryz.ntmps14
  go_wp2_with fail
  rw [← HW.out]
  clear HW
  refine K.out.mono ?_
  rintro e w2 ⟨S2, rfl, P2, st2⟩
  have KF := hide (fault_new formatS ee w2)
  have P2 := hide P2
  have ST := hide ((Step.of_below B1.out).trans st2)
  clear K st2 B1
  go_wp2_with fail
  refine KF.out.mono ?_
  rintro e w3 ⟨v, rfl, h3, n3, b3⟩
  go_wp2_with fail
  go_ret
  exact ⟨S2, v, rfl, h3, fun b q => Nat.le_trans ST.out.1.size (n3 b q), P2.out.below b3, ST.out.trans (Step.of_below b3)⟩

set_option maxHeartbeats 1000000 in
set_option maxRecDepth 100000 in
theorem Point_new {w : World} {S : Nat → Prop} {d : Nat} {g : Dev} (h : PDev w S d g) (lsn : Int) (hpl : g.pend.length ≤ 999990) (hcl : g.calls ≤ 999990) :
    Calls Tryz.prog 15 #[.pointer (some ⟨d, 0, none⟩), .int .i64 lsn] w fun x w' => ∃ S' v, x = .returned v ∧ ErrAt w' v pointS (g.pointE lsn) ∧ ErrNew v w.heap.size ∧ PDev w' S' d (g.pointD lsn) ∧ Step w S w' S' := by
  have K := point_any h lsn hpl hcl
  generalize g.pointE lsn = ee at *
  generalize g.pointD lsn = gg at *
  have K := hide K
  clear h
  go_enter Tryz.func15, Tryz.ntmps15
  go_wp2_with fail
  refine K.out.mono ?_
  rintro e w2 ⟨S2, rfl, P2, st2⟩
  have KF := hide (fault_new pointS ee w2)
  have P2 := hide P2
  have ST := hide st2
  clear K st2
  go_wp2_with fail
  refine KF.out.mono ?_
  rintro e w3 ⟨v, rfl, h3, n3, b3⟩
  go_wp2_with fail
  go_ret
  exact ⟨S2, v, rfl, h3, fun b q => Nat.le_trans ST.out.1.size (n3 b q), P2.out.below b3, ST.out.trans (Step.of_below b3)⟩

end Go.Proofs.YtapjbgkmcplpbaaGreat
