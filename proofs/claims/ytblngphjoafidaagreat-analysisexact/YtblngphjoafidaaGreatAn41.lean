import Derived.Test.YtblngphjoafidaaGreatXC
import Derived.Test.YtblngphjoafidaaGreatTake
import Derived.Test.YtblngphjoafidaaGreatHold
set_option linter.all false
namespace Go.Proofs.YtblngphjoafidaaGreat
open Go.RowKit Go.QK Go.Maps Go.QM Go.QT
set_option maxRecDepth 100000
/-- Behind 'keep'. -/
structure Lst1 (W : World) (Sc : Nat → Prop) (sz : Nat) (lv : Value) (m : Int) : Prop where
  mk' : Mk W sz lv m
  out : ∀ g, lv.ownBlock = some g → g < W.heap.size ∧ ¬ Sc g
theorem Lst1.step {W W' : World} {Sc S' : Nat → Prop} {sz : Nat} {lv : Value} {m : Int} (h : Lst1 W Sc sz lv m) (hk : Keep Sc W W') (hs : ∀ k, k < W.heap.size → S' k → Sc k) : Lst1 W' S' sz lv m :=
  ⟨h.mk'.keep hk (fun g q => (h.out g q).2), fun g q => ⟨Nat.lt_of_lt_of_le (h.out g q).1 hk.size, fun z => (h.out g q).2 (hs g (h.out g q).1 z)⟩⟩
theorem Lst1.beside {W W' : World} {T Sc : Nat → Prop} {sz : Nat} {lv : Value} {m : Int} (h : Lst1 W Sc sz lv m) (hk : Keep T W W') (hn : ∀ g, lv.ownBlock = some g → ¬ T g) : Lst1 W' Sc sz lv m :=
  ⟨h.mk'.keep hk hn, fun g q => ⟨Nat.lt_of_lt_of_le (h.out g q).1 hk.size, (h.out g q).2⟩⟩
theorem Lst1.below {W W' : World} {Sc : Nat → Prop} {sz : Nat} {lv : Value} {m : Int} (h : Lst1 W Sc sz lv m) (hk : Below W.heap.size W W') : Lst1 W' Sc sz lv m := h.beside (Keep.of_below (S := fun _ => False) hk) (fun _ _ => id)
theorem Lst1.step2 {W W' : World} {T Sc S' : Nat → Prop} {sz : Nat} {lv : Value} {m : Int} (h : Lst1 W Sc sz lv m) (hk : Keep T W W') (hn : ∀ g, lv.ownBlock = some g → ¬ T g) (hs : ∀ k, k < W.heap.size → S' k → Sc k) : Lst1 W' S' sz lv m :=
  ⟨h.mk'.keep hk hn, fun g q => ⟨Nat.lt_of_lt_of_le (h.out g q).1 hk.size, fun z => (h.out g q).2 (hs g (h.out g q).1 z)⟩⟩
structure Lst0 (W : World) (Sc : Nat → Prop) (e : TypeId) (sz : Nat) (lv : Value) (n : Nat) (m : Int) : Prop where
  gm : GM W e sz lv n m n
  out : ∀ g, lv.ownBlock = some g → g < W.heap.size ∧ ¬ Sc g
theorem Lst0.step {W W' : World} {Sc S' : Nat → Prop} {e : TypeId} {sz : Nat} {lv : Value} {n : Nat} {m : Int} (h : Lst0 W Sc e sz lv n m) (hk : Keep Sc W W') (hs : ∀ k, k < W.heap.size → S' k → Sc k) : Lst0 W' S' e sz lv n m :=
  ⟨h.gm.keep hk (fun g q => (h.out g q).2), fun g q => ⟨Nat.lt_of_lt_of_le (h.out g q).1 hk.size, fun z => (h.out g q).2 (hs g (h.out g q).1 z)⟩⟩
theorem Lst0.beside {W W' : World} {T Sc : Nat → Prop} {e : TypeId} {sz : Nat} {lv : Value} {n : Nat} {m : Int} (h : Lst0 W Sc e sz lv n m) (hk : Keep T W W') (hn : ∀ g, lv.ownBlock = some g → ¬ T g) : Lst0 W' Sc e sz lv n m :=
  ⟨h.gm.keep hk hn, fun g q => ⟨Nat.lt_of_lt_of_le (h.out g q).1 hk.size, (h.out g q).2⟩⟩
theorem Lst0.below {W W' : World} {Sc : Nat → Prop} {e : TypeId} {sz : Nat} {lv : Value} {n : Nat} {m : Int} (h : Lst0 W Sc e sz lv n m) (hk : Below W.heap.size W W') : Lst0 W' Sc e sz lv n m := h.beside (Keep.of_below (S := fun _ => False) hk) (fun _ _ => id)
theorem Lst0.step2 {W W' : World} {T Sc S' : Nat → Prop} {e : TypeId} {sz : Nat} {lv : Value} {n : Nat} {m : Int} (h : Lst0 W Sc e sz lv n m) (hk : Keep T W W') (hn : ∀ g, lv.ownBlock = some g → ¬ T g) (hs : ∀ k, k < W.heap.size → S' k → Sc k) : Lst0 W' S' e sz lv n m :=
  ⟨h.gm.keep hk hn, fun g q => ⟨Nat.lt_of_lt_of_le (h.out g q).1 hk.size, fun z => (h.out g q).2 (hs g (h.out g q).1 z)⟩⟩
theorem last_at {R : List Value} {K : Nat} (h : R.length = K) (v : Value) : (R ++ [v])[K]? = some v := by subst h; simp
def Kp (w : World) (S : Nat → Prop) (b K : Nat) (T : Nat → Prop) (w' : World) : Prop := ∃ S' vs' Rs', BK w' S' b vs' Rs' (K + 1) ∧ (∀ (j : Nat) (R : List Value), Rs'[j]? = some R → R.length = K + 1) ∧ (∀ k, k < w.heap.size → S' k → S k ∨ T k) ∧ Keep (fun k => S k ∨ T k) w w'
theorem grow_form {w : World} {B e size n c : Nat} {a : Option Addr} {xs : List Value} (h : GRow w B e size (.slice a n c) n xs) (hn : 0 < n) : ∃ g cp, Value.slice a n c = .slice (some ⟨g, 0, none⟩) n cp := by
  obtain ⟨g, cp, e, -⟩ := grow_open h hn
  exact ⟨g, cp, e⟩
set_option maxHeartbeats 16000000 in
theorem keep_any (S : Nat → Prop) (b K : Nat) (vs : List Value) (Rs : List (List Value)) (frm nxt : Int) (a1 a2 : Option Addr) (n1 n2 c1 c2 : Nat) (X1 X2 : List Value) (w : World) (h : BK w S b vs Rs K) (hK : ∀ (j : Nat) (R : List Value), Rs[j]? = some R → R.length = K) (hK2 : K ≤ 200)
    (g1 : GRow w 0 58 4 (.slice a1 n1 c1) n1 X1) (g2 : GRow w 0 60 2 (.slice a2 n2 c2) n2 X2) (l1 : n1 ≤ 900) (l2 : n2 ≤ 900)
    (o1 : ∀ g, (Value.slice a1 n1 c1).ownBlock = some g → ¬ S g) (o2 : ∀ g, (Value.slice a2 n2 c2).ownBlock = some g → ¬ S g) :
    Calls Tryz.prog 12 #[ptr b, .agg #[.slice a1 n1 c1, .slice a2 n2 c2, .int .i64 frm, .int .i64 nxt]] w fun e w' => e = .returned (.tuple #[]) ∧ Kp w S b K (fun k => (Value.slice a1 n1 c1).ownBlock = some k ∨ (Value.slice a2 n2 c2).ownBlock = some k) w' := by
  have d12 := grow_apart g1 g2 (by decide)
  obtain ⟨v0, v1, v2, v3, rfl⟩ := four h.l1
  obtain ⟨R0, R1, R2, R3, rfl⟩ := four h.l2
  have r0 := hK 0 R0 rfl
  have r1 := hK 1 R1 rfl
  have r2 := hK 2 R2 rfl
  have r3 := hK 3 R3 rfl
  obtain ⟨p0, q0, e0, -⟩ := GRow.lies (h.row 0 v0 R0 rfl rfl)
  rw [r0] at e0
  subst e0
  obtain ⟨p1, q1, e1, -⟩ := GRow.lies (h.row 1 v1 R1 rfl rfl)
  rw [r1] at e1
  subst e1
  obtain ⟨p2, q2, e2, -⟩ := GRow.lies (h.row 2 v2 R2 rfl rfl)
  rw [r2] at e2
  subst e2
  obtain ⟨p3, q3, e3, -⟩ := GRow.lies (h.row 3 v3 R3 rfl rfl)
  rw [r3] at e3
  subst e3
  have L1 := hide (fun g (q : (Value.slice a1 n1 c1).ownBlock = some g) => (World.ownsRow.lt g1 g q).2)
  have L2 := hide (fun g (q : (Value.slice a2 n2 c2).ownBlock = some g) => (World.ownsRow.lt g2 g q).2)
  have O1 := hide o1
  have O2 := hide o2
  have D12 := hide d12
  have HR := hide (And.intro r0 (And.intro r1 (And.intro r2 r3)))
  have HB := hide h
  have G1 := hide g1
  have G2 := hide g2
  clear hK r0 r1 r2 r3 h g1 g2 o1 o2 d12
  obtain ⟨w1, hw1⟩ : ∃ w1, w1 = w.alloc (.cells #[.slice a1 n1 c1, .slice a2 n2 c2, .int .i64 frm, .int .i64 nxt] 34) := ⟨_, rfl⟩
  obtain ⟨nb, hnb⟩ : ∃ nb, nb = w.heap.size := ⟨_, rfl⟩
  have b1 : Below w.heap.size w w1 := by rw [hw1]; exact alloc_below _ _
  have PB1 := hide (show Cells w1 nb [.slice a1 n1 c1, .slice a2 n2 c2, .int .i64 frm, .int .i64 nxt] by rw [hw1, hnb]; exact Cells.new w #[.slice a1 n1 c1, .slice a2 n2 c2, .int .i64 frm, .int .i64 nxt] 34)
  have HB1 := hide (HB.out.below b1)
  have M1 := hide (GM.start (GRow.below G1.out b1) (1000000 + (K : Int)))
  have M2 := hide (GM.start (GRow.below G2.out b1) (1000000 + (K : Int)))
  have NB := hide (show ¬ S nb ∧ (∀ g, (Value.slice a1 n1 c1).ownBlock = some g → ¬ nb = g) ∧ (∀ g, (Value.slice a2 n2 c2).ownBlock = some g → ¬ nb = g) from ⟨fun q => by have := HB.out.lt nb q; omega, fun g q z => by have := L1.out g q; omega, fun g q z => by have := L2.out g q; omega⟩)
  have B1 := hide b1
  have HNB := hide hnb
  clear b1 G1 G2
  obtain ⟨k0, -⟩ := HB1.out.box.get 0 _ rfl
  obtain ⟨m, hm⟩ : ∃ m : Int, m = 1000000 + (K : Int) := ⟨_, rfl⟩
  rw [← hm] at M1 M2
  have HM := hide hm
  clear hm HB
  go_enter Tryz.func12, Tryz.ntmps12
  go_upto_region 1 with fail
  rw [← hw1, ← hnb]
  clear hw1 hnb
  go_upto_region 3 with fail
  rw [← HM.out]
  clear k0
  have K0 := hide (show Keep (fun k => (Value.slice a1 n1 c1).ownBlock = some k ∨ (Value.slice a2 n2 c2).ownBlock = some k) w1 w1 from Keep.refl _ _)
  go_loopw [5] (fun vi wr => ∃ k : Nat, vi = .int .i64 (k : Int) ∧ k ≤ n1 ∧ GM wr 58 4 (Value.slice a1 n1 c1) n1 m k ∧ Keep (fun z => (Value.slice a1 n1 c1).ownBlock = some z) w1 wr) (fun vi _ => n1 - (intOf vi).toNat)
  case atStart => exact ⟨0, rfl, Nat.zero_le _, M1.out, Keep.refl _ _⟩
  case round =>
    obtain ⟨k, rfl, hk, hg, hkp⟩ := hrel
    have PB := hide (PB1.out.keep hkp (fun q => NB.out.2.1 _ q rfl))
    obtain ⟨pc, -⟩ := PB.out.get 0 _ rfl
    by_cases hlt : k < n1
    · obtain ⟨X, hX, -⟩ := id hg
      obtain ⟨g, cp, ev⟩ := grow_form hX (by omega)
      simp only [Value.slice.injEq] at ev
      obtain ⟨rfl, -, rfl⟩ := ev
      clear hX
      obtain ⟨⟨u0, y0⟩, f0, hgl⟩ := hg.at (j := 0) hlt (by decide)
      obtain ⟨⟨u1, y1⟩, f1, hgl⟩ := hg.at (j := 1) hlt (by decide)
      obtain ⟨⟨u2, y2⟩, f2, hgl⟩ := hg.at (j := 2) hlt (by decide)
      obtain ⟨⟨u3, y3⟩, f3, hgl⟩ := hg.at (j := 3) hlt (by decide)
      change wr.cell? ⟨g, k * 4, none⟩ = _ at y0
      change wr.frozen? ⟨g, k * 4, none⟩ = _ at f0
      have h0 := hg
      have OF := hide ((((h0.first hlt (by decide)).cell (k * 4 + 1) (.int .i64 0) (by omega)).cell (k * 4 + 2) (.bool false) (by omega)).cell (k * 4 + 3) (.bool false) (by omega))
      have MF := hide (((((hkp).setCell (g := g) (j := k * 4) (fun _ => rfl) (.int .i64 m)).setCell (g := g) (j := k * 4 + 1) (fun _ => rfl) (.int .i64 0)).setCell (g := g) (j := k * 4 + 2) (fun _ => rfl) (.bool false)).setCell (g := g) (j := k * 4 + 3) (fun _ => rfl) (.bool false))
      clear hg hkp h0
      go_wp2_with fail
      go_roundw
      case rel => exact ⟨k + 1, by go_num, by omega, OF.out, MF.out⟩
      case measure => simp [intOf]; omega
    · obtain rfl : n1 = k := by omega
      have Mx1 := hide hg
      have HBn := hide (HB1.out.keep hkp (fun k q z => O1.out k z q))
      have KPn := hide (K0.out.trans hkp (fun j hj z => .inl z))
      have My2 := hide (M2.out.keep hkp (fun g q z => D12.out g z q))
      clear hg hkp PB1 HB1 K0 M1 M2 hk
      have PB1 := PB
      have HB1 := HBn
      have K0 := KPn
      have M1 := Mx1
      have M2 := My2
      clear PB HBn KPn Mx1 My2
      go_upto_region 7 with fail
      clear pc hlt
      generalize wr = w2 at *
      go_loopw [6] (fun vi wr => ∃ k : Nat, vi = .int .i64 (k : Int) ∧ k ≤ n2 ∧ GM wr 60 2 (Value.slice a2 n2 c2) n2 m k ∧ Keep (fun z => (Value.slice a2 n2 c2).ownBlock = some z) w2 wr) (fun vi _ => n2 - (intOf vi).toNat)
      case atStart => exact ⟨0, rfl, Nat.zero_le _, M2.out, Keep.refl _ _⟩
      case round =>
        obtain ⟨k, rfl, hk, hg, hkp⟩ := hrel
        have PB := hide (PB1.out.keep hkp (fun q => NB.out.2.2 _ q rfl))
        obtain ⟨pc, -⟩ := PB.out.get 1 _ rfl
        by_cases hlt : k < n2
        · obtain ⟨X, hX, -⟩ := id hg
          obtain ⟨g, cp, ev⟩ := grow_form hX (by omega)
          simp only [Value.slice.injEq] at ev
          obtain ⟨rfl, -, rfl⟩ := ev
          clear hX
          obtain ⟨⟨u0, y0⟩, f0, hgl⟩ := hg.at (j := 0) hlt (by decide)
          obtain ⟨⟨u1, y1⟩, f1, hgl⟩ := hg.at (j := 1) hlt (by decide)
          change wr.cell? ⟨g, k * 2, none⟩ = _ at y0
          change wr.frozen? ⟨g, k * 2, none⟩ = _ at f0
          have h0 := hg
          have OF := hide ((h0.first hlt (by decide)).cell (k * 2 + 1) (.int .i64 0) (by omega))
          have MF := hide (((hkp).setCell (g := g) (j := k * 2) (fun _ => rfl) (.int .i64 m)).setCell (g := g) (j := k * 2 + 1) (fun _ => rfl) (.int .i64 0))
          clear hg hkp h0
          go_wp2_with fail
          go_roundw
          case rel => exact ⟨k + 1, by go_num, by omega, OF.out, MF.out⟩
          case measure => simp [intOf]; omega
        · obtain rfl : n2 = k := by omega
          have Mx2 := hide hg
          have HBn := hide (HB1.out.keep hkp (fun k q z => O2.out k z q))
          have KPn := hide (K0.out.trans hkp (fun j hj z => .inr z))
          have My1 := hide (M1.out.keep hkp (fun g q z => D12.out g q z))
          clear hg hkp PB1 HB1 K0 M1 M2 hk
          have PB1 := PB
          have HB1 := HBn
          have K0 := KPn
          have M2 := Mx2
          have M1 := My1
          clear PB HBn KPn Mx2 My1
          go_upto_region 10 with fail
          clear pc hlt
          generalize wr = w4 at *
          have H1 := hide (show Lst0 w4 S 58 4 (Value.slice a1 n1 c1) n1 m from ⟨M1.out, fun g q => ⟨Nat.lt_of_lt_of_le (L1.out g q) (Nat.le_trans B1.out.size K0.out.size), O1.out g q⟩⟩)
          have H2 := hide (show Lst0 w4 S 60 2 (Value.slice a2 n2 c2) n2 m from ⟨M2.out, fun g q => ⟨Nat.lt_of_lt_of_le (L2.out g q) (Nat.le_trans B1.out.size K0.out.size), O2.out g q⟩⟩)
          have NBS := hide (show nb < w4.heap.size ∧ ¬ S nb from ⟨PB1.out.1, NB.out.1⟩)
          have HBc := HB1
          have PBc := PB1
          have KA := hide (show Keep (fun k => S k ∨ (Value.slice a1 n1 c1).ownBlock = some k ∨ (Value.slice a2 n2 c2).ownBlock = some k) w w4 from (Keep.of_below B1.out).trans K0.out (fun j hj q => .inr q))
          have SU := hide (show ∀ k, k < w.heap.size → S k → S k from fun _ _ q => q)
          have NBV := hide NB.out.2
          clear HB1 PB1 K0 M1 M2 L1 L2 NB O1 O2 B1
          obtain ⟨r0, r1, r2, r3⟩ := HR.out
          go_cut [] (fun w' => ∃ p0' n0' q0' Sx, BK w' Sx b [.slice p0' n0' q0', .slice p1 K q1, .slice p2 K q2, .slice p3 K q3] [(R0 ++ [Value.slice a1 n1 c1]), R1, R2, R3] K ∧ (∀ k, k < w4.heap.size → Sx k → S k) ∧ Keep S w4 w')
          case first =>
            have HBd := HBc.out.below (Below.refl w4.heap.size w4).drew
            obtain ⟨p0', n0', q0', w9, hr, bx, k9, Sx, bk, sub, kp⟩ := HBd.push (j := 0) rfl rfl (show R0.length ≤ 1000 by omega) (show K ≤ R0.length by omega) a1 n1 c1 27
            simp only [tT, eT] at hr
            obtain ⟨u9, f9⟩ := bx.get 0 _ rfl
            obtain ⟨l0, -⟩ := HBd.box.get 0 _ rfl
            obtain ⟨l1, -⟩ := (HBd.below (alloc_below _ (.cells #[.slice a1 n1 c1] 31))).box.get 0 _ rfl
            have NX := hide (show ¬ (nb = b ∨ (.slice p0 K q0 : Value).ownBlock = some nb) from fun q => NBS.out.2 (q.elim (fun q => by rw [q]; exact HBc.out.sb) (fun q => (HBc.out.rs 0 _ nb rfl q).1)))
            have Q0 := hide l0
            have Q1 := hide l1
            have HRR := hide hr
            have K9 := hide k9
            have BKH := hide (And.intro bk (And.intro sub kp))
            clear l0 l1 hr k9 bk sub kp bx HBd
            refine wp_region_held_drew (S := fun wq => Keep (fun z => z = b ∨ (.slice p0 K q0 : Value).ownBlock = some z) w4 wq) (by kernel_rfl) (Keep.refl _ _).drew (fun hS => ?_)
            refine take_at 0 (some 39) (v := ?_) rfl rfl (by kernel_rfl) (by kernel_rfl) (by kernel_rfl) (fun _ _ _ h => h) ⟨by rfl, ?_⟩ hS ?_
            rotate_left
            · intro wq hSw; go_simp; try rfl
            simp only [Act.put, List.setIfInBounds_toArray, List.set_cons_zero, List.set_cons_succ]
            refine take_at 1 (some 40) (v := ?_) rfl rfl (by kernel_rfl) (by kernel_rfl) (by kernel_rfl) (fun _ _ _ h => h) ⟨by rfl, ?_⟩ hS ?_
            rotate_left
            · intro wq hSw; go_simp; try rfl
            simp only [Act.put, List.setIfInBounds_toArray, List.set_cons_zero, List.set_cons_succ]
            refine take_at 2 (some 41) (v := ?_) rfl rfl (by kernel_rfl) (by kernel_rfl) (by kernel_rfl) (fun _ _ _ h => h) ⟨by rfl, ?_⟩ hS ?_
            rotate_left
            · intro wq hSw; go_simp; try rfl
            simp only [Act.put, List.setIfInBounds_toArray, List.set_cons_zero, List.set_cons_succ]
            refine take_at 3 (some 42) (v := ?_) rfl rfl (by kernel_rfl) (by kernel_rfl) (by kernel_rfl) (fun _ _ _ h => h) ⟨by rfl, ?_⟩ hS ?_
            rotate_left
            · intro wq hSw; go_simp; try rfl
            simp only [Act.put, List.setIfInBounds_toArray, List.set_cons_zero, List.set_cons_succ]
            refine take_at 5 (some 44) (v := ?_) rfl rfl (by kernel_rfl) (by kernel_rfl) (by kernel_rfl) (fun _ _ _ h => h) ⟨by rfl, ?_⟩ hS ?_
            rotate_left
            · intro wq hSw; go_simp; try rfl
            simp only [Act.put, List.setIfInBounds_toArray, List.set_cons_zero, List.set_cons_succ]
            refine take_at 6 (some 45) (v := ?_) rfl rfl (by kernel_rfl) (by kernel_rfl) (by kernel_rfl) (fun _ _ _ h => h) ⟨by rfl, ?_⟩ hS ?_
            rotate_left
            · intro wq hSw; have q := ((PBc.out.keep hSw NX.out).get 0 _ rfl).1; go_simp; try rfl
            simp only [Act.put, List.setIfInBounds_toArray, List.set_cons_zero, List.set_cons_succ]
            have D1 := hide hS
            clear hS
            have BD := hide (show Below w4.heap.size w4 w4.drew from (Below.refl _ _).drew)
            generalize w4.drew = xd at *
            refine wpAnyH_ready (rs := [4, 7]) (by kernel_rfl) (by simp) ?_
            refine AllReadyH.cons rfl (fun K_ hK => ?_) (AllReadyH.cons rfl (fun K_ hK => ?_) AllReadyH.nil)
            · have q2 := Q0.out
              go_simp
              go_wp2_with fail
              refine hK.out _ _ D1.out (fun hS => ?_)
              clear hK K_ hS
              (try simp only [Act.put, List.setIfInBounds_toArray, List.set_cons_zero, List.set_cons_succ])
              refine wpAnyH_ready (rs := [7]) (by kernel_rfl) (by simp) ?_
              refine AllReadyH.cons rfl (fun K_ hK => ?_) AllReadyH.nil
              go_simp
              go_wp2_with fail
              refine hK.out _ _ (D1.out.alloc _) (fun hS => ?_)
              clear hK K_ hS
              (try simp only [Act.put, List.setIfInBounds_toArray, List.set_cons_zero, List.set_cons_succ])
              refine wpAnyH_ready (rs := [8]) (by kernel_rfl) (by simp) ?_
              refine AllReadyH.cons rfl (fun K_ hK => ?_) AllReadyH.nil
              refine wp_run 47 (.tmp 43) (.tmp 46) rfl rfl rfl rfl rfl HRR.out ?_
              refine hK.out _ _ (D1.out.trans K9.out (fun _ _ q => .inr q)) (fun hS => ?_)
              clear hK K_
              (try simp only [Act.put, List.setIfInBounds_toArray, List.set_cons_zero, List.set_cons_succ])
              refine take_at 9 (some 48) (v := ?_) rfl rfl (by kernel_rfl) (by kernel_rfl) (by kernel_rfl) (fun _ _ _ h => h) ⟨by rfl, ?_⟩ hS ?_
              rotate_left
              · intro wq hSw; go_simp; try rfl
              simp only [Act.put, List.setIfInBounds_toArray, List.set_cons_zero, List.set_cons_succ]
              refine take_at 10 (some 49) (v := ?_) rfl rfl (by kernel_rfl) (by kernel_rfl) (by kernel_rfl) (fun _ _ _ h => h) ⟨by rfl, ?_⟩ hS ?_
              rotate_left
              · intro wq hSw; go_simp; try rfl
              simp only [Act.put, List.setIfInBounds_toArray, List.set_cons_zero, List.set_cons_succ]
              refine wpAnyH_ready (rs := [11]) (by kernel_rfl) (by simp) ?_
              refine AllReadyH.cons rfl (fun K_ hK => ?_) AllReadyH.nil
              go_simp
              go_wp2_with fail
              refine hK.out _ _ (hS.setCell (fun _ => .inl rfl) _) (fun hS => ?_)
              clear hK K_ hS
              (try simp only [Act.put])
              refine wpAnyH_done (by kernel_rfl) ?_ _
              go_wp2_with fail
              go_meet
              exact ⟨_, _, _, Sx, BKH.out.1, fun k hk q => BKH.out.2.1 k (Nat.lt_of_lt_of_le hk BD.out.size) q, (Keep.of_below BD.out).trans BKH.out.2.2 (fun _ _ q => q)⟩
            · go_simp
              go_wp2_with fail
              refine hK.out _ _ (D1.out.alloc _) (fun hS => ?_)
              clear hK K_ hS
              (try simp only [Act.put, List.setIfInBounds_toArray, List.set_cons_zero, List.set_cons_succ])
              refine wpAnyH_ready (rs := [4]) (by kernel_rfl) (by simp) ?_
              refine AllReadyH.cons rfl (fun K_ hK => ?_) AllReadyH.nil
              have q2 := Q1.out
              go_simp
              go_wp2_with fail
              refine hK.out _ _ (D1.out.alloc _) (fun hS => ?_)
              clear hK K_ hS
              (try simp only [Act.put, List.setIfInBounds_toArray, List.set_cons_zero, List.set_cons_succ])
              refine wpAnyH_ready (rs := [8]) (by kernel_rfl) (by simp) ?_
              refine AllReadyH.cons rfl (fun K_ hK => ?_) AllReadyH.nil
              refine wp_run 47 (.tmp 43) (.tmp 46) rfl rfl rfl rfl rfl HRR.out ?_
              refine hK.out _ _ (D1.out.trans K9.out (fun _ _ q => .inr q)) (fun hS => ?_)
              clear hK K_
              (try simp only [Act.put, List.setIfInBounds_toArray, List.set_cons_zero, List.set_cons_succ])
              refine take_at 9 (some 48) (v := ?_) rfl rfl (by kernel_rfl) (by kernel_rfl) (by kernel_rfl) (fun _ _ _ h => h) ⟨by rfl, ?_⟩ hS ?_
              rotate_left
              · intro wq hSw; go_simp; try rfl
              simp only [Act.put, List.setIfInBounds_toArray, List.set_cons_zero, List.set_cons_succ]
              refine take_at 10 (some 49) (v := ?_) rfl rfl (by kernel_rfl) (by kernel_rfl) (by kernel_rfl) (fun _ _ _ h => h) ⟨by rfl, ?_⟩ hS ?_
              rotate_left
              · intro wq hSw; go_simp; try rfl
              simp only [Act.put, List.setIfInBounds_toArray, List.set_cons_zero, List.set_cons_succ]
              refine wpAnyH_ready (rs := [11]) (by kernel_rfl) (by simp) ?_
              refine AllReadyH.cons rfl (fun K_ hK => ?_) AllReadyH.nil
              go_simp
              go_wp2_with fail
              refine hK.out _ _ (hS.setCell (fun _ => .inl rfl) _) (fun hS => ?_)
              clear hK K_ hS
              (try simp only [Act.put])
              refine wpAnyH_done (by kernel_rfl) ?_ _
              go_wp2_with fail
              go_meet
              exact ⟨_, _, _, Sx, BKH.out.1, fun k hk q => BKH.out.2.1 k (Nat.lt_of_lt_of_le hk BD.out.size) q, (Keep.of_below BD.out).trans BKH.out.2.2 (fun _ _ q => q)⟩
          case rest =>
            obtain ⟨p0', n0', q0', S1, bk, sub, kp⟩ := hcut
            have H1n := hide (H1.out.step kp sub)
            have H2n := hide (H2.out.step kp sub)
            clear H1 H2
            have H1 := H1n
            have H2 := H2n
            clear H1n H2n
            have NBSn := hide (show nb < _ ∧ ¬ S1 nb from ⟨Nat.lt_of_lt_of_le NBS.out.1 kp.size, fun q => NBS.out.2 (sub nb NBS.out.1 q)⟩)
            have PBn := hide (PBc.out.keep kp NBS.out.2)
            have HBn := hide bk
            have KAn := hide (KA.out.trans kp (fun k hk q => .inl (SU.out k hk q)))
            have SUn := hide (show ∀ k, k < w.heap.size → S1 k → S k from fun k hk q => SU.out k hk (sub k (Nat.lt_of_lt_of_le hk KA.out.size) q))
            clear bk sub kp NBS PBc HBc KA SU
            have NBS := NBSn
            have PBc := PBn
            have HBc := HBn
            have KA := KAn
            have SU := SUn
            clear NBSn PBn HBn KAn SUn
            go_upto_region 11 with fail
            refine named (P := Code.wp _ _ _ _) ?_
            intro z1 hz1
            subst hz1
            go_cut [] (fun w' => ∃ p2' n2' q2' Sx, BK w' Sx b [.slice p0' n0' q0', .slice p1 K q1, .slice p2' n2' q2', .slice p3 K q3] [(R0 ++ [Value.slice a1 n1 c1]), R1, (R2 ++ [Value.slice a2 n2 c2]), R3] K ∧ (∀ k, k < z1.heap.size → Sx k → S1 k) ∧ Keep S1 z1 w')
            case first =>
              have HBd := HBc.out.below (Below.refl z1.heap.size z1).drew
              obtain ⟨p2', n2', q2', w9, hr, bx, k9, Sx, bk, sub, kp⟩ := HBd.push (j := 2) rfl rfl (show R2.length ≤ 1000 by omega) (show K ≤ R2.length by omega) a2 n2 c2 28
              simp only [tT, eT] at hr
              obtain ⟨u9, f9⟩ := bx.get 2 _ rfl
              obtain ⟨l0, -⟩ := HBd.box.get 2 _ rfl
              obtain ⟨l1, -⟩ := (HBd.below (alloc_below _ (.cells #[.slice a2 n2 c2] 32))).box.get 2 _ rfl
              have NX := hide (show ¬ (nb = b ∨ (.slice p2 K q2 : Value).ownBlock = some nb) from fun q => NBS.out.2 (q.elim (fun q => by rw [q]; exact HBc.out.sb) (fun q => (HBc.out.rs 2 _ nb rfl q).1)))
              have Q0 := hide l0
              have Q1 := hide l1
              have HRR := hide hr
              have K9 := hide k9
              have BKH := hide (And.intro bk (And.intro sub kp))
              clear l0 l1 hr k9 bk sub kp bx HBd
              refine wp_region_held_drew (S := fun wq => Keep (fun z => z = b ∨ (.slice p2 K q2 : Value).ownBlock = some z) z1 wq) (by kernel_rfl) (Keep.refl _ _).drew (fun hS => ?_)
              refine take_at 0 (some 50) (v := ?_) rfl rfl (by kernel_rfl) (by kernel_rfl) (by kernel_rfl) (fun _ _ _ h => h) ⟨by rfl, ?_⟩ hS ?_
              rotate_left
              · intro wq hSw; go_simp; try rfl
              simp only [Act.put, List.setIfInBounds_toArray, List.set_cons_zero, List.set_cons_succ]
              refine take_at 1 (some 51) (v := ?_) rfl rfl (by kernel_rfl) (by kernel_rfl) (by kernel_rfl) (fun _ _ _ h => h) ⟨by rfl, ?_⟩ hS ?_
              rotate_left
              · intro wq hSw; go_simp; try rfl
              simp only [Act.put, List.setIfInBounds_toArray, List.set_cons_zero, List.set_cons_succ]
              refine take_at 2 (some 52) (v := ?_) rfl rfl (by kernel_rfl) (by kernel_rfl) (by kernel_rfl) (fun _ _ _ h => h) ⟨by rfl, ?_⟩ hS ?_
              rotate_left
              · intro wq hSw; go_simp; try rfl
              simp only [Act.put, List.setIfInBounds_toArray, List.set_cons_zero, List.set_cons_succ]
              refine take_at 3 (some 53) (v := ?_) rfl rfl (by kernel_rfl) (by kernel_rfl) (by kernel_rfl) (fun _ _ _ h => h) ⟨by rfl, ?_⟩ hS ?_
              rotate_left
              · intro wq hSw; go_simp; try rfl
              simp only [Act.put, List.setIfInBounds_toArray, List.set_cons_zero, List.set_cons_succ]
              refine take_at 5 (some 55) (v := ?_) rfl rfl (by kernel_rfl) (by kernel_rfl) (by kernel_rfl) (fun _ _ _ h => h) ⟨by rfl, ?_⟩ hS ?_
              rotate_left
              · intro wq hSw; go_simp; try rfl
              simp only [Act.put, List.setIfInBounds_toArray, List.set_cons_zero, List.set_cons_succ]
              refine take_at 6 (some 56) (v := ?_) rfl rfl (by kernel_rfl) (by kernel_rfl) (by kernel_rfl) (fun _ _ _ h => h) ⟨by rfl, ?_⟩ hS ?_
              rotate_left
              · intro wq hSw; have q := ((PBc.out.keep hSw NX.out).get 1 _ rfl).1; go_simp; try rfl
              simp only [Act.put, List.setIfInBounds_toArray, List.set_cons_zero, List.set_cons_succ]
              have D1 := hide hS
              clear hS
              have BD := hide (show Below z1.heap.size z1 z1.drew from (Below.refl _ _).drew)
              generalize z1.drew = xd at *
              refine wpAnyH_ready (rs := [4, 7]) (by kernel_rfl) (by simp) ?_
              refine AllReadyH.cons rfl (fun K_ hK => ?_) (AllReadyH.cons rfl (fun K_ hK => ?_) AllReadyH.nil)
              · have q2 := Q0.out
                go_simp
                go_wp2_with fail
                refine hK.out _ _ D1.out (fun hS => ?_)
                clear hK K_ hS
                (try simp only [Act.put, List.setIfInBounds_toArray, List.set_cons_zero, List.set_cons_succ])
                refine wpAnyH_ready (rs := [7]) (by kernel_rfl) (by simp) ?_
                refine AllReadyH.cons rfl (fun K_ hK => ?_) AllReadyH.nil
                go_simp
                go_wp2_with fail
                refine hK.out _ _ (D1.out.alloc _) (fun hS => ?_)
                clear hK K_ hS
                (try simp only [Act.put, List.setIfInBounds_toArray, List.set_cons_zero, List.set_cons_succ])
                refine wpAnyH_ready (rs := [8]) (by kernel_rfl) (by simp) ?_
                refine AllReadyH.cons rfl (fun K_ hK => ?_) AllReadyH.nil
                refine wp_run 58 (.tmp 54) (.tmp 57) rfl rfl rfl rfl rfl HRR.out ?_
                refine hK.out _ _ (D1.out.trans K9.out (fun _ _ q => .inr q)) (fun hS => ?_)
                clear hK K_
                (try simp only [Act.put, List.setIfInBounds_toArray, List.set_cons_zero, List.set_cons_succ])
                refine take_at 9 (some 59) (v := ?_) rfl rfl (by kernel_rfl) (by kernel_rfl) (by kernel_rfl) (fun _ _ _ h => h) ⟨by rfl, ?_⟩ hS ?_
                rotate_left
                · intro wq hSw; go_simp; try rfl
                simp only [Act.put, List.setIfInBounds_toArray, List.set_cons_zero, List.set_cons_succ]
                refine take_at 10 (some 60) (v := ?_) rfl rfl (by kernel_rfl) (by kernel_rfl) (by kernel_rfl) (fun _ _ _ h => h) ⟨by rfl, ?_⟩ hS ?_
                rotate_left
                · intro wq hSw; go_simp; try rfl
                simp only [Act.put, List.setIfInBounds_toArray, List.set_cons_zero, List.set_cons_succ]
                refine wpAnyH_ready (rs := [11]) (by kernel_rfl) (by simp) ?_
                refine AllReadyH.cons rfl (fun K_ hK => ?_) AllReadyH.nil
                go_simp
                go_wp2_with fail
                refine hK.out _ _ (hS.setCell (fun _ => .inl rfl) _) (fun hS => ?_)
                clear hK K_ hS
                (try simp only [Act.put])
                refine wpAnyH_done (by kernel_rfl) ?_ _
                go_wp2_with fail
                go_meet
                exact ⟨_, _, _, Sx, BKH.out.1, fun k hk q => BKH.out.2.1 k (Nat.lt_of_lt_of_le hk BD.out.size) q, (Keep.of_below BD.out).trans BKH.out.2.2 (fun _ _ q => q)⟩
              · go_simp
                go_wp2_with fail
                refine hK.out _ _ (D1.out.alloc _) (fun hS => ?_)
                clear hK K_ hS
                (try simp only [Act.put, List.setIfInBounds_toArray, List.set_cons_zero, List.set_cons_succ])
                refine wpAnyH_ready (rs := [4]) (by kernel_rfl) (by simp) ?_
                refine AllReadyH.cons rfl (fun K_ hK => ?_) AllReadyH.nil
                have q2 := Q1.out
                go_simp
                go_wp2_with fail
                refine hK.out _ _ (D1.out.alloc _) (fun hS => ?_)
                clear hK K_ hS
                (try simp only [Act.put, List.setIfInBounds_toArray, List.set_cons_zero, List.set_cons_succ])
                refine wpAnyH_ready (rs := [8]) (by kernel_rfl) (by simp) ?_
                refine AllReadyH.cons rfl (fun K_ hK => ?_) AllReadyH.nil
                refine wp_run 58 (.tmp 54) (.tmp 57) rfl rfl rfl rfl rfl HRR.out ?_
                refine hK.out _ _ (D1.out.trans K9.out (fun _ _ q => .inr q)) (fun hS => ?_)
                clear hK K_
                (try simp only [Act.put, List.setIfInBounds_toArray, List.set_cons_zero, List.set_cons_succ])
                refine take_at 9 (some 59) (v := ?_) rfl rfl (by kernel_rfl) (by kernel_rfl) (by kernel_rfl) (fun _ _ _ h => h) ⟨by rfl, ?_⟩ hS ?_
                rotate_left
                · intro wq hSw; go_simp; try rfl
                simp only [Act.put, List.setIfInBounds_toArray, List.set_cons_zero, List.set_cons_succ]
                refine take_at 10 (some 60) (v := ?_) rfl rfl (by kernel_rfl) (by kernel_rfl) (by kernel_rfl) (fun _ _ _ h => h) ⟨by rfl, ?_⟩ hS ?_
                rotate_left
                · intro wq hSw; go_simp; try rfl
                simp only [Act.put, List.setIfInBounds_toArray, List.set_cons_zero, List.set_cons_succ]
                refine wpAnyH_ready (rs := [11]) (by kernel_rfl) (by simp) ?_
                refine AllReadyH.cons rfl (fun K_ hK => ?_) AllReadyH.nil
                go_simp
                go_wp2_with fail
                refine hK.out _ _ (hS.setCell (fun _ => .inl rfl) _) (fun hS => ?_)
                clear hK K_ hS
                (try simp only [Act.put])
                refine wpAnyH_done (by kernel_rfl) ?_ _
                go_wp2_with fail
                go_meet
                exact ⟨_, _, _, Sx, BKH.out.1, fun k hk q => BKH.out.2.1 k (Nat.lt_of_lt_of_le hk BD.out.size) q, (Keep.of_below BD.out).trans BKH.out.2.2 (fun _ _ q => q)⟩
            case rest =>
              obtain ⟨p2', n2', q2', S2, bk, sub, kp⟩ := hcut
              have H1n := hide (H1.out.step kp sub)
              have H2n := hide (H2.out.step kp sub)
              clear H1 H2
              have H1 := H1n
              have H2 := H2n
              clear H1n H2n
              have NBSn := hide (show nb < _ ∧ ¬ S2 nb from ⟨Nat.lt_of_lt_of_le NBS.out.1 kp.size, fun q => NBS.out.2 (sub nb NBS.out.1 q)⟩)
              have PBn := hide (PBc.out.keep kp NBS.out.2)
              have HBn := hide bk
              have KAn := hide (KA.out.trans kp (fun k hk q => .inl (SU.out k hk q)))
              have SUn := hide (show ∀ k, k < w.heap.size → S2 k → S k from fun k hk q => SU.out k hk (sub k (Nat.lt_of_lt_of_le hk KA.out.size) q))
              clear bk sub kp NBS PBc HBc KA SU
              have NBS := NBSn
              have PBc := PBn
              have HBc := HBn
              have KA := KAn
              have SU := SUn
              clear NBSn PBn HBn KAn SUn
              go_upto_region 12 with fail
              refine named (P := Code.wp _ _ _ _) ?_
              intro z2 hz2
              subst hz2
              go_cut [] (fun w' => ∃ xa1 xn1 xc1 p1' n1' q1' Sx, BK w' Sx b [.slice p0' n0' q0', .slice p1' n1' q1', .slice p2' n2' q2', .slice p3 K q3] [(R0 ++ [Value.slice a1 n1 c1]), (R1 ++ [Value.slice xa1 xn1 xc1]), (R2 ++ [Value.slice a2 n2 c2]), R3] K ∧ (∀ k, k < z2.heap.size → Sx k → S2 k) ∧ Keep (fun k => S2 k ∨ (Value.slice a1 n1 c1).ownBlock = some k) z2 w' ∧ Lst1 w' Sx 4 (Value.slice a1 n1 c1) m ∧ Lst1 w' Sx 4 (Value.slice xa1 xn1 xc1) m ∧ (∀ g, (Value.slice xa1 xn1 xc1).ownBlock = some g → (Value.slice a1 n1 c1).ownBlock = some g ∨ z2.heap.size ≤ g))
              case first =>
                have HBd0 := HBc.out.below (Below.refl z2.heap.size z2).drew
                have H1d := H1.out.below (Below.refl z2.heap.size z2).drew
                obtain ⟨xa1, xn1, xc1, w5, hr1, mkN, mkO, k5, nbk⟩ := H1d.gm.more Tryz.underlying31 info26 rfl (by decide) (by decide) 31 (by omega) [.int .i64 m, .int .i64 0, .bool false, .bool false] rfl rfl (by intro u hu; simp at hu; rcases hu with rfl | rfl | rfl <;> rfl)
                have HBd := HBd0.keep k5 (fun k q z => (H1d.out k z).2 q)
                obtain ⟨p1', n1', q1', w9, hr, bx, k9, Sx, bk, sub, kp⟩ := HBd.push (j := 1) rfl rfl (show R1.length ≤ 1000 by omega) (show K ≤ R1.length by omega) xa1 xn1 xc1 27
                simp only [tT, eT] at hr
                obtain ⟨u9, f9⟩ := bx.get 1 _ rfl
                obtain ⟨l0, -⟩ := HBd0.box.get 1 _ rfl
                obtain ⟨l1, -⟩ := (HBd0.below (alloc_below _ (.cells #[.int .i64 m, .int .i64 0, .bool false, .bool false] 58))).box.get 1 _ rfl
                obtain ⟨l2, -⟩ := HBd.box.get 1 _ rfl
                obtain ⟨l3, -⟩ := (HBd.below (alloc_below _ (.cells #[Value.slice xa1 xn1 xc1] 31))).box.get 1 _ rfl
                have NX := hide (show ¬ (nb = b ∨ (.slice p1 K q1 : Value).ownBlock = some nb ∨ (Value.slice a1 n1 c1).ownBlock = some nb) from fun q => q.elim (fun q => NBS.out.2 (by rw [q]; exact HBc.out.sb)) (fun q => q.elim (fun q => NBS.out.2 (HBc.out.rs 1 _ nb rfl q).1) (fun q => NBV.out.1 nb q rfl)))
                have BD := hide (show Below z2.heap.size z2 z2.drew from (Below.refl _ _).drew)
                have FINX := hide (show Lst1 (w9.setCell ⟨b, 1, none⟩ (.slice p1' n1' q1')) Sx 4 (Value.slice a1 n1 c1) m ∧ Lst1 (w9.setCell ⟨b, 1, none⟩ (.slice p1' n1' q1')) Sx 4 (Value.slice xa1 xn1 xc1) m ∧ (∀ g, (Value.slice xa1 xn1 xc1).ownBlock = some g → (Value.slice a1 n1 c1).ownBlock = some g ∨ z2.heap.size ≤ g) ∧ (∀ k, k < z2.heap.size → Sx k → S2 k) ∧ Keep (fun k => S2 k ∨ (Value.slice a1 n1 c1).ownBlock = some k) z2 (w9.setCell ⟨b, 1, none⟩ (.slice p1' n1' q1')) from by
                  have e1 : Lst1 w5 S2 4 (Value.slice a1 n1 c1) m := ⟨mkO, fun g q => ⟨Nat.lt_of_lt_of_le (H1d.out g q).1 k5.size, (H1d.out g q).2⟩⟩
                  have e2 : Lst1 w5 S2 4 (Value.slice xa1 xn1 xc1) m := ⟨mkN, fun g q => ⟨(nbk g q).2, fun z => (nbk g q).1.elim (fun y => (H1d.out g y).2 z) (fun y => by have := HBd0.lt g z; omega)⟩⟩
                  refine ⟨e1.step kp sub, e2.step kp sub, fun g q => (nbk g q).1.elim .inl (fun y => .inr (by have := BD.out.size; omega)), fun k hk q => sub k (Nat.lt_of_lt_of_le hk (Nat.le_trans BD.out.size k5.size)) q, ((Keep.of_below BD.out).trans k5 (fun _ _ q => .inr q)).trans kp (fun _ _ q => .inl q)⟩)
                have Q0 := hide l0
                have Q1 := hide l1
                have Q2 := hide l2
                have Q3 := hide l3
                have HRR1 := hide hr1
                have HRR := hide hr
                have K5 := hide k5
                have K9 := hide k9
                have BKH := hide bk
                clear l0 l1 l2 l3 hr1 hr k5 k9 bk sub kp bx HBd HBd0 H1d mkN mkO nbk
                refine wp_region_held_drew (S := fun wq => Keep (fun z => z = b ∨ (.slice p1 K q1 : Value).ownBlock = some z ∨ (Value.slice a1 n1 c1).ownBlock = some z) z2 wq) (by kernel_rfl) (Keep.refl _ _).drew (fun hS => ?_)
                refine take_at 0 (some 61) (v := ?_) rfl rfl (by kernel_rfl) (by kernel_rfl) (by kernel_rfl) (fun _ _ _ h => h) ⟨by rfl, ?_⟩ hS ?_
                rotate_left
                · intro wq hSw; go_simp; try rfl
                simp only [Act.put, List.setIfInBounds_toArray, List.set_cons_zero, List.set_cons_succ]
                refine take_at 1 (some 62) (v := ?_) rfl rfl (by kernel_rfl) (by kernel_rfl) (by kernel_rfl) (fun _ _ _ h => h) ⟨by rfl, ?_⟩ hS ?_
                rotate_left
                · intro wq hSw; go_simp; try rfl
                simp only [Act.put, List.setIfInBounds_toArray, List.set_cons_zero, List.set_cons_succ]
                refine take_at 2 (some 63) (v := ?_) rfl rfl (by kernel_rfl) (by kernel_rfl) (by kernel_rfl) (fun _ _ _ h => h) ⟨by rfl, ?_⟩ hS ?_
                rotate_left
                · intro wq hSw; go_simp; try rfl
                simp only [Act.put, List.setIfInBounds_toArray, List.set_cons_zero, List.set_cons_succ]
                refine take_at 3 (some 64) (v := ?_) rfl rfl (by kernel_rfl) (by kernel_rfl) (by kernel_rfl) (fun _ _ _ h => h) ⟨by rfl, ?_⟩ hS ?_
                rotate_left
                · intro wq hSw; go_simp; try rfl
                simp only [Act.put, List.setIfInBounds_toArray, List.set_cons_zero, List.set_cons_succ]
                refine take_at 5 (some 66) (v := ?_) rfl rfl (by kernel_rfl) (by kernel_rfl) (by kernel_rfl) (fun _ _ _ h => h) ⟨by rfl, ?_⟩ hS ?_
                rotate_left
                · intro wq hSw; go_simp; try rfl
                simp only [Act.put, List.setIfInBounds_toArray, List.set_cons_zero, List.set_cons_succ]
                refine take_at 6 (some 67) (v := ?_) rfl rfl (by kernel_rfl) (by kernel_rfl) (by kernel_rfl) (fun _ _ _ h => h) ⟨by rfl, ?_⟩ hS ?_
                rotate_left
                · intro wq hSw; have q := ((PBc.out.keep hSw NX.out).get 0 _ rfl).1; go_simp; try rfl
                simp only [Act.put, List.setIfInBounds_toArray, List.set_cons_zero, List.set_cons_succ]
                refine take_at 7 (some 68) (v := ?_) rfl rfl (by kernel_rfl) (by kernel_rfl) (by kernel_rfl) (fun _ _ _ h => h) ⟨by rfl, ?_⟩ hS ?_
                rotate_left
                · intro wq hSw; go_simp; try rfl
                simp only [Act.put, List.setIfInBounds_toArray, List.set_cons_zero, List.set_cons_succ]
                refine take_at 8 (some 69) (v := ?_) rfl rfl (by kernel_rfl) (by kernel_rfl) (by kernel_rfl) (fun _ _ _ h => h) ⟨by rfl, ?_⟩ hS ?_
                rotate_left
                · intro wq hSw; go_simp; try rfl
                simp only [Act.put, List.setIfInBounds_toArray, List.set_cons_zero, List.set_cons_succ]
                have D1 := hide hS
                clear hS
                generalize z2.drew = xd at *
                refine wpAnyH_ready (rs := [4, 9]) (by kernel_rfl) (by simp) ?_
                refine AllReadyH.cons rfl (fun K_ hK => ?_) (AllReadyH.cons rfl (fun K_ hK => ?_) AllReadyH.nil)
                · have q2 := Q0.out
                  go_simp
                  go_wp2_with fail
                  refine hK.out _ _ D1.out (fun hS => ?_)
                  clear hK K_ hS
                  (try simp only [Act.put, List.setIfInBounds_toArray, List.set_cons_zero, List.set_cons_succ])
                  refine wpAnyH_ready (rs := [9]) (by kernel_rfl) (by simp) ?_
                  refine AllReadyH.cons rfl (fun K_ hK => ?_) AllReadyH.nil
                  go_simp
                  go_wp2_with fail
                  refine hK.out _ _ (D1.out.alloc _) (fun hS => ?_)
                  clear hK K_ hS
                  (try simp only [Act.put, List.setIfInBounds_toArray, List.set_cons_zero, List.set_cons_succ])
                  refine wpAnyH_ready (rs := [10]) (by kernel_rfl) (by simp) ?_
                  refine AllReadyH.cons rfl (fun K_ hK => ?_) AllReadyH.nil
                  refine wp_run 71 (.tmp 67) (.tmp 70) rfl rfl rfl rfl rfl HRR1.out ?_
                  refine hK.out _ _ (D1.out.trans K5.out (fun _ _ q => .inr (.inr q))) (fun hS => ?_)
                  clear hK K_ hS
                  (try simp only [Act.put, List.setIfInBounds_toArray, List.set_cons_zero, List.set_cons_succ])
                  refine wpAnyH_ready (rs := [11]) (by kernel_rfl) (by simp) ?_
                  refine AllReadyH.cons rfl (fun K_ hK => ?_) AllReadyH.nil
                  go_simp
                  go_wp2_with fail
                  refine hK.out _ _ ((D1.out.trans K5.out (fun _ _ q => .inr (.inr q))).alloc _) (fun hS => ?_)
                  clear hK K_ hS
                  (try simp only [Act.put, List.setIfInBounds_toArray, List.set_cons_zero, List.set_cons_succ])
                  refine wpAnyH_ready (rs := [12]) (by kernel_rfl) (by simp) ?_
                  refine AllReadyH.cons rfl (fun K_ hK => ?_) AllReadyH.nil
                  refine wp_run 73 (.tmp 65) (.tmp 72) rfl rfl rfl rfl rfl HRR.out ?_
                  refine hK.out _ _ ((D1.out.trans K5.out (fun _ _ q => .inr (.inr q))).trans K9.out (fun _ _ q => .inr (.inl q))) (fun hS => ?_)
                  clear hK K_
                  (try simp only [Act.put, List.setIfInBounds_toArray, List.set_cons_zero, List.set_cons_succ])
                  refine take_at 13 (some 74) (v := ?_) rfl rfl (by kernel_rfl) (by kernel_rfl) (by kernel_rfl) (fun _ _ _ h => h) ⟨by rfl, ?_⟩ hS ?_
                  rotate_left
                  · intro wq hSw; go_simp; try rfl
                  simp only [Act.put, List.setIfInBounds_toArray, List.set_cons_zero, List.set_cons_succ]
                  refine take_at 14 (some 75) (v := ?_) rfl rfl (by kernel_rfl) (by kernel_rfl) (by kernel_rfl) (fun _ _ _ h => h) ⟨by rfl, ?_⟩ hS ?_
                  rotate_left
                  · intro wq hSw; go_simp; try rfl
                  simp only [Act.put, List.setIfInBounds_toArray, List.set_cons_zero, List.set_cons_succ]
                  refine wpAnyH_ready (rs := [15]) (by kernel_rfl) (by simp) ?_
                  refine AllReadyH.cons rfl (fun K_ hK => ?_) AllReadyH.nil
                  go_simp
                  go_wp2_with fail
                  refine hK.out _ _ (hS.setCell (fun _ => .inl rfl) _) (fun hS => ?_)
                  clear hK K_ hS
                  (try simp only [Act.put])
                  refine wpAnyH_done (by kernel_rfl) ?_ _
                  go_wp2_with fail
                  go_meet
                  exact ⟨_, _, _, _, _, _, Sx, BKH.out, FINX.out.2.2.2.1, FINX.out.2.2.2.2, FINX.out.1, FINX.out.2.1, FINX.out.2.2.1⟩
                · go_simp
                  go_wp2_with fail
                  refine hK.out _ _ (D1.out.alloc _) (fun hS => ?_)
                  clear hK K_ hS
                  (try simp only [Act.put, List.setIfInBounds_toArray, List.set_cons_zero, List.set_cons_succ])
                  refine wpAnyH_ready (rs := [4, 10]) (by kernel_rfl) (by simp) ?_
                  refine AllReadyH.cons rfl (fun K_ hK => ?_) (AllReadyH.cons rfl (fun K_ hK => ?_) AllReadyH.nil)
                  · have q2 := Q1.out
                    go_simp
                    go_wp2_with fail
                    refine hK.out _ _ (D1.out.alloc _) (fun hS => ?_)
                    clear hK K_ hS
                    (try simp only [Act.put, List.setIfInBounds_toArray, List.set_cons_zero, List.set_cons_succ])
                    refine wpAnyH_ready (rs := [10]) (by kernel_rfl) (by simp) ?_
                    refine AllReadyH.cons rfl (fun K_ hK => ?_) AllReadyH.nil
                    refine wp_run 71 (.tmp 67) (.tmp 70) rfl rfl rfl rfl rfl HRR1.out ?_
                    refine hK.out _ _ (D1.out.trans K5.out (fun _ _ q => .inr (.inr q))) (fun hS => ?_)
                    clear hK K_ hS
                    (try simp only [Act.put, List.setIfInBounds_toArray, List.set_cons_zero, List.set_cons_succ])
                    refine wpAnyH_ready (rs := [11]) (by kernel_rfl) (by simp) ?_
                    refine AllReadyH.cons rfl (fun K_ hK => ?_) AllReadyH.nil
                    go_simp
                    go_wp2_with fail
                    refine hK.out _ _ ((D1.out.trans K5.out (fun _ _ q => .inr (.inr q))).alloc _) (fun hS => ?_)
                    clear hK K_ hS
                    (try simp only [Act.put, List.setIfInBounds_toArray, List.set_cons_zero, List.set_cons_succ])
                    refine wpAnyH_ready (rs := [12]) (by kernel_rfl) (by simp) ?_
                    refine AllReadyH.cons rfl (fun K_ hK => ?_) AllReadyH.nil
                    refine wp_run 73 (.tmp 65) (.tmp 72) rfl rfl rfl rfl rfl HRR.out ?_
                    refine hK.out _ _ ((D1.out.trans K5.out (fun _ _ q => .inr (.inr q))).trans K9.out (fun _ _ q => .inr (.inl q))) (fun hS => ?_)
                    clear hK K_
                    (try simp only [Act.put, List.setIfInBounds_toArray, List.set_cons_zero, List.set_cons_succ])
                    refine take_at 13 (some 74) (v := ?_) rfl rfl (by kernel_rfl) (by kernel_rfl) (by kernel_rfl) (fun _ _ _ h => h) ⟨by rfl, ?_⟩ hS ?_
                    rotate_left
                    · intro wq hSw; go_simp; try rfl
                    simp only [Act.put, List.setIfInBounds_toArray, List.set_cons_zero, List.set_cons_succ]
                    refine take_at 14 (some 75) (v := ?_) rfl rfl (by kernel_rfl) (by kernel_rfl) (by kernel_rfl) (fun _ _ _ h => h) ⟨by rfl, ?_⟩ hS ?_
                    rotate_left
                    · intro wq hSw; go_simp; try rfl
                    simp only [Act.put, List.setIfInBounds_toArray, List.set_cons_zero, List.set_cons_succ]
                    refine wpAnyH_ready (rs := [15]) (by kernel_rfl) (by simp) ?_
                    refine AllReadyH.cons rfl (fun K_ hK => ?_) AllReadyH.nil
                    go_simp
                    go_wp2_with fail
                    refine hK.out _ _ (hS.setCell (fun _ => .inl rfl) _) (fun hS => ?_)
                    clear hK K_ hS
                    (try simp only [Act.put])
                    refine wpAnyH_done (by kernel_rfl) ?_ _
                    go_wp2_with fail
                    go_meet
                    exact ⟨_, _, _, _, _, _, Sx, BKH.out, FINX.out.2.2.2.1, FINX.out.2.2.2.2, FINX.out.1, FINX.out.2.1, FINX.out.2.2.1⟩
                  · refine wp_run 71 (.tmp 67) (.tmp 70) rfl rfl rfl rfl rfl HRR1.out ?_
                    refine hK.out _ _ (D1.out.trans K5.out (fun _ _ q => .inr (.inr q))) (fun hS => ?_)
                    clear hK K_ hS
                    (try simp only [Act.put, List.setIfInBounds_toArray, List.set_cons_zero, List.set_cons_succ])
                    refine wpAnyH_ready (rs := [4, 11]) (by kernel_rfl) (by simp) ?_
                    refine AllReadyH.cons rfl (fun K_ hK => ?_) (AllReadyH.cons rfl (fun K_ hK => ?_) AllReadyH.nil)
                    · have q2 := Q2.out
                      go_simp
                      go_wp2_with fail
                      refine hK.out _ _ (D1.out.trans K5.out (fun _ _ q => .inr (.inr q))) (fun hS => ?_)
                      clear hK K_ hS
                      (try simp only [Act.put, List.setIfInBounds_toArray, List.set_cons_zero, List.set_cons_succ])
                      refine wpAnyH_ready (rs := [11]) (by kernel_rfl) (by simp) ?_
                      refine AllReadyH.cons rfl (fun K_ hK => ?_) AllReadyH.nil
                      go_simp
                      go_wp2_with fail
                      refine hK.out _ _ ((D1.out.trans K5.out (fun _ _ q => .inr (.inr q))).alloc _) (fun hS => ?_)
                      clear hK K_ hS
                      (try simp only [Act.put, List.setIfInBounds_toArray, List.set_cons_zero, List.set_cons_succ])
                      refine wpAnyH_ready (rs := [12]) (by kernel_rfl) (by simp) ?_
                      refine AllReadyH.cons rfl (fun K_ hK => ?_) AllReadyH.nil
                      refine wp_run 73 (.tmp 65) (.tmp 72) rfl rfl rfl rfl rfl HRR.out ?_
                      refine hK.out _ _ ((D1.out.trans K5.out (fun _ _ q => .inr (.inr q))).trans K9.out (fun _ _ q => .inr (.inl q))) (fun hS => ?_)
                      clear hK K_
                      (try simp only [Act.put, List.setIfInBounds_toArray, List.set_cons_zero, List.set_cons_succ])
                      refine take_at 13 (some 74) (v := ?_) rfl rfl (by kernel_rfl) (by kernel_rfl) (by kernel_rfl) (fun _ _ _ h => h) ⟨by rfl, ?_⟩ hS ?_
                      rotate_left
                      · intro wq hSw; go_simp; try rfl
                      simp only [Act.put, List.setIfInBounds_toArray, List.set_cons_zero, List.set_cons_succ]
                      refine take_at 14 (some 75) (v := ?_) rfl rfl (by kernel_rfl) (by kernel_rfl) (by kernel_rfl) (fun _ _ _ h => h) ⟨by rfl, ?_⟩ hS ?_
                      rotate_left
                      · intro wq hSw; go_simp; try rfl
                      simp only [Act.put, List.setIfInBounds_toArray, List.set_cons_zero, List.set_cons_succ]
                      refine wpAnyH_ready (rs := [15]) (by kernel_rfl) (by simp) ?_
                      refine AllReadyH.cons rfl (fun K_ hK => ?_) AllReadyH.nil
                      go_simp
                      go_wp2_with fail
                      refine hK.out _ _ (hS.setCell (fun _ => .inl rfl) _) (fun hS => ?_)
                      clear hK K_ hS
                      (try simp only [Act.put])
                      refine wpAnyH_done (by kernel_rfl) ?_ _
                      go_wp2_with fail
                      go_meet
                      exact ⟨_, _, _, _, _, _, Sx, BKH.out, FINX.out.2.2.2.1, FINX.out.2.2.2.2, FINX.out.1, FINX.out.2.1, FINX.out.2.2.1⟩
                    · go_simp
                      go_wp2_with fail
                      refine hK.out _ _ ((D1.out.trans K5.out (fun _ _ q => .inr (.inr q))).alloc _) (fun hS => ?_)
                      clear hK K_ hS
                      (try simp only [Act.put, List.setIfInBounds_toArray, List.set_cons_zero, List.set_cons_succ])
                      refine wpAnyH_ready (rs := [4]) (by kernel_rfl) (by simp) ?_
                      refine AllReadyH.cons rfl (fun K_ hK => ?_) AllReadyH.nil
                      have q2 := Q3.out
                      go_simp
                      go_wp2_with fail
                      refine hK.out _ _ ((D1.out.trans K5.out (fun _ _ q => .inr (.inr q))).alloc _) (fun hS => ?_)
                      clear hK K_ hS
                      (try simp only [Act.put, List.setIfInBounds_toArray, List.set_cons_zero, List.set_cons_succ])
                      refine wpAnyH_ready (rs := [12]) (by kernel_rfl) (by simp) ?_
                      refine AllReadyH.cons rfl (fun K_ hK => ?_) AllReadyH.nil
                      refine wp_run 73 (.tmp 65) (.tmp 72) rfl rfl rfl rfl rfl HRR.out ?_
                      refine hK.out _ _ ((D1.out.trans K5.out (fun _ _ q => .inr (.inr q))).trans K9.out (fun _ _ q => .inr (.inl q))) (fun hS => ?_)
                      clear hK K_
                      (try simp only [Act.put, List.setIfInBounds_toArray, List.set_cons_zero, List.set_cons_succ])
                      refine take_at 13 (some 74) (v := ?_) rfl rfl (by kernel_rfl) (by kernel_rfl) (by kernel_rfl) (fun _ _ _ h => h) ⟨by rfl, ?_⟩ hS ?_
                      rotate_left
                      · intro wq hSw; go_simp; try rfl
                      simp only [Act.put, List.setIfInBounds_toArray, List.set_cons_zero, List.set_cons_succ]
                      refine take_at 14 (some 75) (v := ?_) rfl rfl (by kernel_rfl) (by kernel_rfl) (by kernel_rfl) (fun _ _ _ h => h) ⟨by rfl, ?_⟩ hS ?_
                      rotate_left
                      · intro wq hSw; go_simp; try rfl
                      simp only [Act.put, List.setIfInBounds_toArray, List.set_cons_zero, List.set_cons_succ]
                      refine wpAnyH_ready (rs := [15]) (by kernel_rfl) (by simp) ?_
                      refine AllReadyH.cons rfl (fun K_ hK => ?_) AllReadyH.nil
                      go_simp
                      go_wp2_with fail
                      refine hK.out _ _ (hS.setCell (fun _ => .inl rfl) _) (fun hS => ?_)
                      clear hK K_ hS
                      (try simp only [Act.put])
                      refine wpAnyH_done (by kernel_rfl) ?_ _
                      go_wp2_with fail
                      go_meet
                      exact ⟨_, _, _, _, _, _, Sx, BKH.out, FINX.out.2.2.2.1, FINX.out.2.2.2.2, FINX.out.1, FINX.out.2.1, FINX.out.2.2.1⟩
              case rest =>
                obtain ⟨xa1, xn1, xc1, p1', n1', q1', S3, bk, sub, kp, jv, jn, ng⟩ := hcut
                have NE12 := hide (fun g (q : (Value.slice xa1 xn1 xc1).ownBlock = some g) (z : (Value.slice a2 n2 c2).ownBlock = some g) => (ng g q).elim (fun y => D12.out g y z) (fun y => by have := (H2.out.out g z).1; omega))
                have H2n := hide (H2.out.step2 kp (fun g q z => z.elim (H2.out.out g q).2 (fun z => D12.out g z q)) sub)
                have NG1 := hide (show ∀ g, (Value.slice xa1 xn1 xc1).ownBlock = some g → (Value.slice a1 n1 c1).ownBlock = some g ∨ w.heap.size ≤ g from fun g q => (ng g q).elim .inl (fun y => .inr (Nat.le_trans KA.out.size y)))
                clear H2 H1
                have H2 := H2n
                clear H2n
                have J1 := hide jv
                have N1 := hide jn
                clear jv jn ng
                have NBSn := hide (show nb < _ ∧ ¬ S3 nb from ⟨Nat.lt_of_lt_of_le NBS.out.1 kp.size, fun q => NBS.out.2 (sub nb NBS.out.1 q)⟩)
                have PBn := hide (PBc.out.keep kp (fun q => q.elim NBS.out.2 (fun q => NBV.out.1 nb q rfl)))
                have HBn := hide bk
                have KAn := hide (KA.out.trans kp (fun k hk q => q.elim (fun q => .inl (SU.out k hk q)) (fun q => .inr (.inl q))))
                have SUn := hide (show ∀ k, k < w.heap.size → S3 k → S k from fun k hk q => SU.out k hk (sub k (Nat.lt_of_lt_of_le hk KA.out.size) q))
                clear bk sub kp NBS PBc HBc KA SU
                have NBS := NBSn
                have PBc := PBn
                have HBc := HBn
                have KA := KAn
                have SU := SUn
                clear NBSn PBn HBn KAn SUn
                go_upto_region 13 with fail
                refine named (P := Code.wp _ _ _ _) ?_
                intro z3 hz3
                subst hz3
                have HBd0 := HBc.out.below (Below.refl z3.heap.size z3).drew
                have H2d := H2.out.below (Below.refl z3.heap.size z3).drew
                obtain ⟨xa2, xn2, xc2, w5, hr1, mkN, mkO, k5, nbk⟩ := H2d.gm.more Tryz.underlying32 info52 rfl (by decide) (by decide) 32 (by omega) [.int .i64 m, .int .i64 0] rfl rfl (by intro u hu; simp at hu; rcases hu with rfl | rfl <;> rfl)
                have HBd := HBd0.keep k5 (fun k q z => (H2d.out k z).2 q)
                obtain ⟨p3', n3', q3', w9, hr, bx, k9, Sx, bk, sub, kp⟩ := HBd.push (j := 3) rfl rfl (show R3.length ≤ 1000 by omega) (show K ≤ R3.length by omega) xa2 xn2 xc2 28
                simp only [tT, eT] at hr
                obtain ⟨u9, f9⟩ := bx.get 3 _ rfl
                obtain ⟨l0, -⟩ := HBd0.box.get 3 _ rfl
                obtain ⟨l1, -⟩ := (HBd0.below (alloc_below _ (.cells #[.int .i64 m, .int .i64 0] 60))).box.get 3 _ rfl
                obtain ⟨l2, -⟩ := HBd.box.get 3 _ rfl
                obtain ⟨l3, -⟩ := (HBd.below (alloc_below _ (.cells #[Value.slice xa2 xn2 xc2] 32))).box.get 3 _ rfl
                have NX := hide (show ¬ (nb = b ∨ (.slice p3 K q3 : Value).ownBlock = some nb ∨ (Value.slice a2 n2 c2).ownBlock = some nb) from fun q => q.elim (fun q => NBS.out.2 (by rw [q]; exact HBc.out.sb)) (fun q => q.elim (fun q => NBS.out.2 (HBc.out.rs 3 _ nb rfl q).1) (fun q => NBV.out.2 nb q rfl)))
                have BD := hide (show Below z3.heap.size z3 z3.drew from (Below.refl _ _).drew)
                have FINX := hide (show Lst1 (w9.setCell ⟨b, 3, none⟩ (.slice p3' n3' q3')) Sx 2 (Value.slice a2 n2 c2) m ∧ Lst1 (w9.setCell ⟨b, 3, none⟩ (.slice p3' n3' q3')) Sx 2 (Value.slice xa2 xn2 xc2) m ∧ (∀ g, (Value.slice xa2 xn2 xc2).ownBlock = some g → (Value.slice a2 n2 c2).ownBlock = some g ∨ z3.heap.size ≤ g) ∧ (∀ k, k < z3.heap.size → Sx k → S3 k) ∧ Keep (fun k => S3 k ∨ (Value.slice a2 n2 c2).ownBlock = some k) z3 (w9.setCell ⟨b, 3, none⟩ (.slice p3' n3' q3')) from by
                  have e1 : Lst1 w5 S3 2 (Value.slice a2 n2 c2) m := ⟨mkO, fun g q => ⟨Nat.lt_of_lt_of_le (H2d.out g q).1 k5.size, (H2d.out g q).2⟩⟩
                  have e2 : Lst1 w5 S3 2 (Value.slice xa2 xn2 xc2) m := ⟨mkN, fun g q => ⟨(nbk g q).2, fun z => (nbk g q).1.elim (fun y => (H2d.out g y).2 z) (fun y => by have := HBd0.lt g z; omega)⟩⟩
                  refine ⟨e1.step kp sub, e2.step kp sub, fun g q => (nbk g q).1.elim .inl (fun y => .inr (by have := BD.out.size; omega)), fun k hk q => sub k (Nat.lt_of_lt_of_le hk (Nat.le_trans BD.out.size k5.size)) q, ((Keep.of_below BD.out).trans k5 (fun _ _ q => .inr q)).trans kp (fun _ _ q => .inl q)⟩)
                have Q0 := hide l0
                have Q1 := hide l1
                have Q2 := hide l2
                have Q3 := hide l3
                have HRR1 := hide hr1
                have HRR := hide hr
                have K5 := hide k5
                have K9 := hide k9
                have BKH := hide bk
                clear l0 l1 l2 l3 hr1 hr k5 k9 bk sub kp bx HBd HBd0 H2d mkN mkO nbk
                refine wp_region_held_drew (S := fun wq => Keep (fun z => z = b ∨ (.slice p3 K q3 : Value).ownBlock = some z ∨ (Value.slice a2 n2 c2).ownBlock = some z) z3 wq) (by kernel_rfl) (Keep.refl _ _).drew (fun hS => ?_)
                refine take_at 0 (some 76) (v := ?_) rfl rfl (by kernel_rfl) (by kernel_rfl) (by kernel_rfl) (fun _ _ _ h => h) ⟨by rfl, ?_⟩ hS ?_
                rotate_left
                · intro wq hSw; go_simp; try rfl
                simp only [Act.put, List.setIfInBounds_toArray, List.set_cons_zero, List.set_cons_succ]
                refine take_at 1 (some 77) (v := ?_) rfl rfl (by kernel_rfl) (by kernel_rfl) (by kernel_rfl) (fun _ _ _ h => h) ⟨by rfl, ?_⟩ hS ?_
                rotate_left
                · intro wq hSw; go_simp; try rfl
                simp only [Act.put, List.setIfInBounds_toArray, List.set_cons_zero, List.set_cons_succ]
                refine take_at 2 (some 78) (v := ?_) rfl rfl (by kernel_rfl) (by kernel_rfl) (by kernel_rfl) (fun _ _ _ h => h) ⟨by rfl, ?_⟩ hS ?_
                rotate_left
                · intro wq hSw; go_simp; try rfl
                simp only [Act.put, List.setIfInBounds_toArray, List.set_cons_zero, List.set_cons_succ]
                refine take_at 3 (some 79) (v := ?_) rfl rfl (by kernel_rfl) (by kernel_rfl) (by kernel_rfl) (fun _ _ _ h => h) ⟨by rfl, ?_⟩ hS ?_
                rotate_left
                · intro wq hSw; go_simp; try rfl
                simp only [Act.put, List.setIfInBounds_toArray, List.set_cons_zero, List.set_cons_succ]
                refine take_at 5 (some 81) (v := ?_) rfl rfl (by kernel_rfl) (by kernel_rfl) (by kernel_rfl) (fun _ _ _ h => h) ⟨by rfl, ?_⟩ hS ?_
                rotate_left
                · intro wq hSw; go_simp; try rfl
                simp only [Act.put, List.setIfInBounds_toArray, List.set_cons_zero, List.set_cons_succ]
                refine take_at 6 (some 82) (v := ?_) rfl rfl (by kernel_rfl) (by kernel_rfl) (by kernel_rfl) (fun _ _ _ h => h) ⟨by rfl, ?_⟩ hS ?_
                rotate_left
                · intro wq hSw; have q := ((PBc.out.keep hSw NX.out).get 1 _ rfl).1; go_simp; try rfl
                simp only [Act.put, List.setIfInBounds_toArray, List.set_cons_zero, List.set_cons_succ]
                refine take_at 7 (some 83) (v := ?_) rfl rfl (by kernel_rfl) (by kernel_rfl) (by kernel_rfl) (fun _ _ _ h => h) ⟨by rfl, ?_⟩ hS ?_
                rotate_left
                · intro wq hSw; go_simp; try rfl
                simp only [Act.put, List.setIfInBounds_toArray, List.set_cons_zero, List.set_cons_succ]
                refine take_at 8 (some 84) (v := ?_) rfl rfl (by kernel_rfl) (by kernel_rfl) (by kernel_rfl) (fun _ _ _ h => h) ⟨by rfl, ?_⟩ hS ?_
                rotate_left
                · intro wq hSw; go_simp; try rfl
                simp only [Act.put, List.setIfInBounds_toArray, List.set_cons_zero, List.set_cons_succ]
                have D1 := hide hS
                clear hS
                generalize z3.drew = xd at *
                refine wpAnyH_ready (rs := [4, 9]) (by kernel_rfl) (by simp) ?_
                refine AllReadyH.cons rfl (fun K_ hK => ?_) (AllReadyH.cons rfl (fun K_ hK => ?_) AllReadyH.nil)
                · have q2 := Q0.out
                  go_simp
                  go_wp2_with fail
                  refine hK.out _ _ D1.out (fun hS => ?_)
                  clear hK K_ hS
                  (try simp only [Act.put, List.setIfInBounds_toArray, List.set_cons_zero, List.set_cons_succ])
                  refine wpAnyH_ready (rs := [9]) (by kernel_rfl) (by simp) ?_
                  refine AllReadyH.cons rfl (fun K_ hK => ?_) AllReadyH.nil
                  go_simp
                  go_wp2_with fail
                  refine hK.out _ _ (D1.out.alloc _) (fun hS => ?_)
                  clear hK K_ hS
                  (try simp only [Act.put, List.setIfInBounds_toArray, List.set_cons_zero, List.set_cons_succ])
                  refine wpAnyH_ready (rs := [10]) (by kernel_rfl) (by simp) ?_
                  refine AllReadyH.cons rfl (fun K_ hK => ?_) AllReadyH.nil
                  refine wp_run 86 (.tmp 82) (.tmp 85) rfl rfl rfl rfl rfl HRR1.out ?_
                  refine hK.out _ _ (D1.out.trans K5.out (fun _ _ q => .inr (.inr q))) (fun hS => ?_)
                  clear hK K_ hS
                  (try simp only [Act.put, List.setIfInBounds_toArray, List.set_cons_zero, List.set_cons_succ])
                  refine wpAnyH_ready (rs := [11]) (by kernel_rfl) (by simp) ?_
                  refine AllReadyH.cons rfl (fun K_ hK => ?_) AllReadyH.nil
                  go_simp
                  go_wp2_with fail
                  refine hK.out _ _ ((D1.out.trans K5.out (fun _ _ q => .inr (.inr q))).alloc _) (fun hS => ?_)
                  clear hK K_ hS
                  (try simp only [Act.put, List.setIfInBounds_toArray, List.set_cons_zero, List.set_cons_succ])
                  refine wpAnyH_ready (rs := [12]) (by kernel_rfl) (by simp) ?_
                  refine AllReadyH.cons rfl (fun K_ hK => ?_) AllReadyH.nil
                  refine wp_run 88 (.tmp 80) (.tmp 87) rfl rfl rfl rfl rfl HRR.out ?_
                  refine hK.out _ _ ((D1.out.trans K5.out (fun _ _ q => .inr (.inr q))).trans K9.out (fun _ _ q => .inr (.inl q))) (fun hS => ?_)
                  clear hK K_
                  (try simp only [Act.put, List.setIfInBounds_toArray, List.set_cons_zero, List.set_cons_succ])
                  refine take_at 13 (some 89) (v := ?_) rfl rfl (by kernel_rfl) (by kernel_rfl) (by kernel_rfl) (fun _ _ _ h => h) ⟨by rfl, ?_⟩ hS ?_
                  rotate_left
                  · intro wq hSw; go_simp; try rfl
                  simp only [Act.put, List.setIfInBounds_toArray, List.set_cons_zero, List.set_cons_succ]
                  refine take_at 14 (some 90) (v := ?_) rfl rfl (by kernel_rfl) (by kernel_rfl) (by kernel_rfl) (fun _ _ _ h => h) ⟨by rfl, ?_⟩ hS ?_
                  rotate_left
                  · intro wq hSw; go_simp; try rfl
                  simp only [Act.put, List.setIfInBounds_toArray, List.set_cons_zero, List.set_cons_succ]
                  refine wpAnyH_ready (rs := [15]) (by kernel_rfl) (by simp) ?_
                  refine AllReadyH.cons rfl (fun K_ hK => ?_) AllReadyH.nil
                  go_simp
                  go_wp2_with fail
                  refine hK.out _ _ (hS.setCell (fun _ => .inl rfl) _) (fun hS => ?_)
                  clear hK K_ hS
                  (try simp only [Act.put])
                  refine wpAnyH_done (by kernel_rfl) ?_ _
                  go_wp2_with fail
                  go_end0
                  have bk := BKH.out
                  have sub := FINX.out.2.2.2.1
                  have kp := FINX.out.2.2.2.2
                  have jv := FINX.out.1
                  have jn := FINX.out.2.1
                  have ng := FINX.out.2.2.1
                  clear BKH FINX
                  have J1n := hide (J1.out.step2 kp (fun g q z => z.elim (J1.out.out g q).2 (fun z => D12.out g q z)) sub)
                  have N1n := hide (N1.out.step2 kp (fun g q z => z.elim (N1.out.out g q).2 (fun z => NE12.out g q z)) sub)
                  have NG2 := hide (show ∀ g, (Value.slice xa2 xn2 xc2).ownBlock = some g → (Value.slice a2 n2 c2).ownBlock = some g ∨ w.heap.size ≤ g from fun g q => (ng g q).elim .inl (fun y => .inr (Nat.le_trans KA.out.size y)))
                  clear J1 N1 H2
                  have J1 := J1n
                  have N1 := N1n
                  clear J1n N1n
                  have J2 := hide jv
                  have N2 := hide jn
                  clear jv jn ng
                  have NBSn := hide (show nb < _ ∧ ¬ Sx nb from ⟨Nat.lt_of_lt_of_le NBS.out.1 kp.size, fun q => NBS.out.2 (sub nb NBS.out.1 q)⟩)
                  have PBn := hide (PBc.out.keep kp (fun q => q.elim NBS.out.2 (fun q => NBV.out.2 nb q rfl)))
                  have HBn := hide bk
                  have KAn := hide (KA.out.trans kp (fun k hk q => q.elim (fun q => .inl (SU.out k hk q)) (fun q => .inr (.inr q))))
                  have SUn := hide (show ∀ k, k < w.heap.size → Sx k → S k from fun k hk q => SU.out k hk (sub k (Nat.lt_of_lt_of_le hk KA.out.size) q))
                  clear bk sub kp NBS PBc HBc KA SU
                  have NBS := NBSn
                  have PBc := PBn
                  have HBc := HBn
                  have KA := KAn
                  have SU := SUn
                  clear NBSn PBn HBn KAn SUn
                  have CL := HBc.out.close (fun j R hR => by
                    match j, hR with
                    | 0, hR => cases hR; exact ⟨_, last_at r0 _, by rw [← HM.out]; exact J1.out.mk', J1.out.out⟩
                    | 1, hR => cases hR; exact ⟨_, last_at r1 _, by rw [← HM.out]; exact N1.out.mk', N1.out.out⟩
                    | 2, hR => cases hR; exact ⟨_, last_at r2 _, by rw [← HM.out]; exact J2.out.mk', J2.out.out⟩
                    | 3, hR => cases hR; exact ⟨_, last_at r3 _, by rw [← HM.out]; exact N2.out.mk', N2.out.out⟩
                    | j + 4, hR => simp at hR)
                  refine ⟨rfl, _, _, _, CL, fun j R hR => ?_, fun k hk q => ?_, KA.out⟩
                  · match j, hR with
                    | 0, hR => cases hR; simp; omega
                    | 1, hR => cases hR; simp; omega
                    | 2, hR => cases hR; simp; omega
                    | 3, hR => cases hR; simp; omega
                    | j + 4, hR => simp at hR
                  · rcases q with q | ⟨j, R, lv, h1, h2, h3⟩
                    · exact .inl (SU.out k hk q)
                    · refine .inr ?_
                      match j, h1 with
                      | 0, h1 => cases h1; rw [last_at r0] at h2; cases h2; exact .inl h3
                      | 1, h1 => cases h1; rw [last_at r1] at h2; cases h2; exact (NG1.out k h3).elim .inl (fun y => by omega)
                      | 2, h1 => cases h1; rw [last_at r2] at h2; cases h2; exact .inr h3
                      | 3, h1 => cases h1; rw [last_at r3] at h2; cases h2; exact .inr ((NG2.out k h3).elim id (fun y => by omega))
                      | j + 4, h1 => simp at h1
                · go_simp
                  go_wp2_with fail
                  refine hK.out _ _ (D1.out.alloc _) (fun hS => ?_)
                  clear hK K_ hS
                  (try simp only [Act.put, List.setIfInBounds_toArray, List.set_cons_zero, List.set_cons_succ])
                  refine wpAnyH_ready (rs := [4, 10]) (by kernel_rfl) (by simp) ?_
                  refine AllReadyH.cons rfl (fun K_ hK => ?_) (AllReadyH.cons rfl (fun K_ hK => ?_) AllReadyH.nil)
                  · have q2 := Q1.out
                    go_simp
                    go_wp2_with fail
                    refine hK.out _ _ (D1.out.alloc _) (fun hS => ?_)
                    clear hK K_ hS
                    (try simp only [Act.put, List.setIfInBounds_toArray, List.set_cons_zero, List.set_cons_succ])
                    refine wpAnyH_ready (rs := [10]) (by kernel_rfl) (by simp) ?_
                    refine AllReadyH.cons rfl (fun K_ hK => ?_) AllReadyH.nil
                    refine wp_run 86 (.tmp 82) (.tmp 85) rfl rfl rfl rfl rfl HRR1.out ?_
                    refine hK.out _ _ (D1.out.trans K5.out (fun _ _ q => .inr (.inr q))) (fun hS => ?_)
                    clear hK K_ hS
                    (try simp only [Act.put, List.setIfInBounds_toArray, List.set_cons_zero, List.set_cons_succ])
                    refine wpAnyH_ready (rs := [11]) (by kernel_rfl) (by simp) ?_
                    refine AllReadyH.cons rfl (fun K_ hK => ?_) AllReadyH.nil
                    go_simp
                    go_wp2_with fail
                    refine hK.out _ _ ((D1.out.trans K5.out (fun _ _ q => .inr (.inr q))).alloc _) (fun hS => ?_)
                    clear hK K_ hS
                    (try simp only [Act.put, List.setIfInBounds_toArray, List.set_cons_zero, List.set_cons_succ])
                    refine wpAnyH_ready (rs := [12]) (by kernel_rfl) (by simp) ?_
                    refine AllReadyH.cons rfl (fun K_ hK => ?_) AllReadyH.nil
                    refine wp_run 88 (.tmp 80) (.tmp 87) rfl rfl rfl rfl rfl HRR.out ?_
                    refine hK.out _ _ ((D1.out.trans K5.out (fun _ _ q => .inr (.inr q))).trans K9.out (fun _ _ q => .inr (.inl q))) (fun hS => ?_)
                    clear hK K_
                    (try simp only [Act.put, List.setIfInBounds_toArray, List.set_cons_zero, List.set_cons_succ])
                    refine take_at 13 (some 89) (v := ?_) rfl rfl (by kernel_rfl) (by kernel_rfl) (by kernel_rfl) (fun _ _ _ h => h) ⟨by rfl, ?_⟩ hS ?_
                    rotate_left
                    · intro wq hSw; go_simp; try rfl
                    simp only [Act.put, List.setIfInBounds_toArray, List.set_cons_zero, List.set_cons_succ]
                    refine take_at 14 (some 90) (v := ?_) rfl rfl (by kernel_rfl) (by kernel_rfl) (by kernel_rfl) (fun _ _ _ h => h) ⟨by rfl, ?_⟩ hS ?_
                    rotate_left
                    · intro wq hSw; go_simp; try rfl
                    simp only [Act.put, List.setIfInBounds_toArray, List.set_cons_zero, List.set_cons_succ]
                    refine wpAnyH_ready (rs := [15]) (by kernel_rfl) (by simp) ?_
                    refine AllReadyH.cons rfl (fun K_ hK => ?_) AllReadyH.nil
                    go_simp
                    go_wp2_with fail
                    refine hK.out _ _ (hS.setCell (fun _ => .inl rfl) _) (fun hS => ?_)
                    clear hK K_ hS
                    (try simp only [Act.put])
                    refine wpAnyH_done (by kernel_rfl) ?_ _
                    go_wp2_with fail
                    go_end0
                    have bk := BKH.out
                    have sub := FINX.out.2.2.2.1
                    have kp := FINX.out.2.2.2.2
                    have jv := FINX.out.1
                    have jn := FINX.out.2.1
                    have ng := FINX.out.2.2.1
                    clear BKH FINX
                    have J1n := hide (J1.out.step2 kp (fun g q z => z.elim (J1.out.out g q).2 (fun z => D12.out g q z)) sub)
                    have N1n := hide (N1.out.step2 kp (fun g q z => z.elim (N1.out.out g q).2 (fun z => NE12.out g q z)) sub)
                    have NG2 := hide (show ∀ g, (Value.slice xa2 xn2 xc2).ownBlock = some g → (Value.slice a2 n2 c2).ownBlock = some g ∨ w.heap.size ≤ g from fun g q => (ng g q).elim .inl (fun y => .inr (Nat.le_trans KA.out.size y)))
                    clear J1 N1 H2
                    have J1 := J1n
                    have N1 := N1n
                    clear J1n N1n
                    have J2 := hide jv
                    have N2 := hide jn
                    clear jv jn ng
                    have NBSn := hide (show nb < _ ∧ ¬ Sx nb from ⟨Nat.lt_of_lt_of_le NBS.out.1 kp.size, fun q => NBS.out.2 (sub nb NBS.out.1 q)⟩)
                    have PBn := hide (PBc.out.keep kp (fun q => q.elim NBS.out.2 (fun q => NBV.out.2 nb q rfl)))
                    have HBn := hide bk
                    have KAn := hide (KA.out.trans kp (fun k hk q => q.elim (fun q => .inl (SU.out k hk q)) (fun q => .inr (.inr q))))
                    have SUn := hide (show ∀ k, k < w.heap.size → Sx k → S k from fun k hk q => SU.out k hk (sub k (Nat.lt_of_lt_of_le hk KA.out.size) q))
                    clear bk sub kp NBS PBc HBc KA SU
                    have NBS := NBSn
                    have PBc := PBn
                    have HBc := HBn
                    have KA := KAn
                    have SU := SUn
                    clear NBSn PBn HBn KAn SUn
                    have CL := HBc.out.close (fun j R hR => by
                      match j, hR with
                      | 0, hR => cases hR; exact ⟨_, last_at r0 _, by rw [← HM.out]; exact J1.out.mk', J1.out.out⟩
                      | 1, hR => cases hR; exact ⟨_, last_at r1 _, by rw [← HM.out]; exact N1.out.mk', N1.out.out⟩
                      | 2, hR => cases hR; exact ⟨_, last_at r2 _, by rw [← HM.out]; exact J2.out.mk', J2.out.out⟩
                      | 3, hR => cases hR; exact ⟨_, last_at r3 _, by rw [← HM.out]; exact N2.out.mk', N2.out.out⟩
                      | j + 4, hR => simp at hR)
                    refine ⟨rfl, _, _, _, CL, fun j R hR => ?_, fun k hk q => ?_, KA.out⟩
                    · match j, hR with
                      | 0, hR => cases hR; simp; omega
                      | 1, hR => cases hR; simp; omega
                      | 2, hR => cases hR; simp; omega
                      | 3, hR => cases hR; simp; omega
                      | j + 4, hR => simp at hR
                    · rcases q with q | ⟨j, R, lv, h1, h2, h3⟩
                      · exact .inl (SU.out k hk q)
                      · refine .inr ?_
                        match j, h1 with
                        | 0, h1 => cases h1; rw [last_at r0] at h2; cases h2; exact .inl h3
                        | 1, h1 => cases h1; rw [last_at r1] at h2; cases h2; exact (NG1.out k h3).elim .inl (fun y => by omega)
                        | 2, h1 => cases h1; rw [last_at r2] at h2; cases h2; exact .inr h3
                        | 3, h1 => cases h1; rw [last_at r3] at h2; cases h2; exact .inr ((NG2.out k h3).elim id (fun y => by omega))
                        | j + 4, h1 => simp at h1
                  · refine wp_run 86 (.tmp 82) (.tmp 85) rfl rfl rfl rfl rfl HRR1.out ?_
                    refine hK.out _ _ (D1.out.trans K5.out (fun _ _ q => .inr (.inr q))) (fun hS => ?_)
                    clear hK K_ hS
                    (try simp only [Act.put, List.setIfInBounds_toArray, List.set_cons_zero, List.set_cons_succ])
                    refine wpAnyH_ready (rs := [4, 11]) (by kernel_rfl) (by simp) ?_
                    refine AllReadyH.cons rfl (fun K_ hK => ?_) (AllReadyH.cons rfl (fun K_ hK => ?_) AllReadyH.nil)
                    · have q2 := Q2.out
                      go_simp
                      go_wp2_with fail
                      refine hK.out _ _ (D1.out.trans K5.out (fun _ _ q => .inr (.inr q))) (fun hS => ?_)
                      clear hK K_ hS
                      (try simp only [Act.put, List.setIfInBounds_toArray, List.set_cons_zero, List.set_cons_succ])
                      refine wpAnyH_ready (rs := [11]) (by kernel_rfl) (by simp) ?_
                      refine AllReadyH.cons rfl (fun K_ hK => ?_) AllReadyH.nil
                      go_simp
                      go_wp2_with fail
                      refine hK.out _ _ ((D1.out.trans K5.out (fun _ _ q => .inr (.inr q))).alloc _) (fun hS => ?_)
                      clear hK K_ hS
                      (try simp only [Act.put, List.setIfInBounds_toArray, List.set_cons_zero, List.set_cons_succ])
                      refine wpAnyH_ready (rs := [12]) (by kernel_rfl) (by simp) ?_
                      refine AllReadyH.cons rfl (fun K_ hK => ?_) AllReadyH.nil
                      refine wp_run 88 (.tmp 80) (.tmp 87) rfl rfl rfl rfl rfl HRR.out ?_
                      refine hK.out _ _ ((D1.out.trans K5.out (fun _ _ q => .inr (.inr q))).trans K9.out (fun _ _ q => .inr (.inl q))) (fun hS => ?_)
                      clear hK K_
                      (try simp only [Act.put, List.setIfInBounds_toArray, List.set_cons_zero, List.set_cons_succ])
                      refine take_at 13 (some 89) (v := ?_) rfl rfl (by kernel_rfl) (by kernel_rfl) (by kernel_rfl) (fun _ _ _ h => h) ⟨by rfl, ?_⟩ hS ?_
                      rotate_left
                      · intro wq hSw; go_simp; try rfl
                      simp only [Act.put, List.setIfInBounds_toArray, List.set_cons_zero, List.set_cons_succ]
                      refine take_at 14 (some 90) (v := ?_) rfl rfl (by kernel_rfl) (by kernel_rfl) (by kernel_rfl) (fun _ _ _ h => h) ⟨by rfl, ?_⟩ hS ?_
                      rotate_left
                      · intro wq hSw; go_simp; try rfl
                      simp only [Act.put, List.setIfInBounds_toArray, List.set_cons_zero, List.set_cons_succ]
                      refine wpAnyH_ready (rs := [15]) (by kernel_rfl) (by simp) ?_
                      refine AllReadyH.cons rfl (fun K_ hK => ?_) AllReadyH.nil
                      go_simp
                      go_wp2_with fail
                      refine hK.out _ _ (hS.setCell (fun _ => .inl rfl) _) (fun hS => ?_)
                      clear hK K_ hS
                      (try simp only [Act.put])
                      refine wpAnyH_done (by kernel_rfl) ?_ _
                      go_wp2_with fail
                      go_end0
                      have bk := BKH.out
                      have sub := FINX.out.2.2.2.1
                      have kp := FINX.out.2.2.2.2
                      have jv := FINX.out.1
                      have jn := FINX.out.2.1
                      have ng := FINX.out.2.2.1
                      clear BKH FINX
                      have J1n := hide (J1.out.step2 kp (fun g q z => z.elim (J1.out.out g q).2 (fun z => D12.out g q z)) sub)
                      have N1n := hide (N1.out.step2 kp (fun g q z => z.elim (N1.out.out g q).2 (fun z => NE12.out g q z)) sub)
                      have NG2 := hide (show ∀ g, (Value.slice xa2 xn2 xc2).ownBlock = some g → (Value.slice a2 n2 c2).ownBlock = some g ∨ w.heap.size ≤ g from fun g q => (ng g q).elim .inl (fun y => .inr (Nat.le_trans KA.out.size y)))
                      clear J1 N1 H2
                      have J1 := J1n
                      have N1 := N1n
                      clear J1n N1n
                      have J2 := hide jv
                      have N2 := hide jn
                      clear jv jn ng
                      have NBSn := hide (show nb < _ ∧ ¬ Sx nb from ⟨Nat.lt_of_lt_of_le NBS.out.1 kp.size, fun q => NBS.out.2 (sub nb NBS.out.1 q)⟩)
                      have PBn := hide (PBc.out.keep kp (fun q => q.elim NBS.out.2 (fun q => NBV.out.2 nb q rfl)))
                      have HBn := hide bk
                      have KAn := hide (KA.out.trans kp (fun k hk q => q.elim (fun q => .inl (SU.out k hk q)) (fun q => .inr (.inr q))))
                      have SUn := hide (show ∀ k, k < w.heap.size → Sx k → S k from fun k hk q => SU.out k hk (sub k (Nat.lt_of_lt_of_le hk KA.out.size) q))
                      clear bk sub kp NBS PBc HBc KA SU
                      have NBS := NBSn
                      have PBc := PBn
                      have HBc := HBn
                      have KA := KAn
                      have SU := SUn
                      clear NBSn PBn HBn KAn SUn
                      have CL := HBc.out.close (fun j R hR => by
                        match j, hR with
                        | 0, hR => cases hR; exact ⟨_, last_at r0 _, by rw [← HM.out]; exact J1.out.mk', J1.out.out⟩
                        | 1, hR => cases hR; exact ⟨_, last_at r1 _, by rw [← HM.out]; exact N1.out.mk', N1.out.out⟩
                        | 2, hR => cases hR; exact ⟨_, last_at r2 _, by rw [← HM.out]; exact J2.out.mk', J2.out.out⟩
                        | 3, hR => cases hR; exact ⟨_, last_at r3 _, by rw [← HM.out]; exact N2.out.mk', N2.out.out⟩
                        | j + 4, hR => simp at hR)
                      refine ⟨rfl, _, _, _, CL, fun j R hR => ?_, fun k hk q => ?_, KA.out⟩
                      · match j, hR with
                        | 0, hR => cases hR; simp; omega
                        | 1, hR => cases hR; simp; omega
                        | 2, hR => cases hR; simp; omega
                        | 3, hR => cases hR; simp; omega
                        | j + 4, hR => simp at hR
                      · rcases q with q | ⟨j, R, lv, h1, h2, h3⟩
                        · exact .inl (SU.out k hk q)
                        · refine .inr ?_
                          match j, h1 with
                          | 0, h1 => cases h1; rw [last_at r0] at h2; cases h2; exact .inl h3
                          | 1, h1 => cases h1; rw [last_at r1] at h2; cases h2; exact (NG1.out k h3).elim .inl (fun y => by omega)
                          | 2, h1 => cases h1; rw [last_at r2] at h2; cases h2; exact .inr h3
                          | 3, h1 => cases h1; rw [last_at r3] at h2; cases h2; exact .inr ((NG2.out k h3).elim id (fun y => by omega))
                          | j + 4, h1 => simp at h1
                    · go_simp
                      go_wp2_with fail
                      refine hK.out _ _ ((D1.out.trans K5.out (fun _ _ q => .inr (.inr q))).alloc _) (fun hS => ?_)
                      clear hK K_ hS
                      (try simp only [Act.put, List.setIfInBounds_toArray, List.set_cons_zero, List.set_cons_succ])
                      refine wpAnyH_ready (rs := [4]) (by kernel_rfl) (by simp) ?_
                      refine AllReadyH.cons rfl (fun K_ hK => ?_) AllReadyH.nil
                      have q2 := Q3.out
                      go_simp
                      go_wp2_with fail
                      refine hK.out _ _ ((D1.out.trans K5.out (fun _ _ q => .inr (.inr q))).alloc _) (fun hS => ?_)
                      clear hK K_ hS
                      (try simp only [Act.put, List.setIfInBounds_toArray, List.set_cons_zero, List.set_cons_succ])
                      refine wpAnyH_ready (rs := [12]) (by kernel_rfl) (by simp) ?_
                      refine AllReadyH.cons rfl (fun K_ hK => ?_) AllReadyH.nil
                      refine wp_run 88 (.tmp 80) (.tmp 87) rfl rfl rfl rfl rfl HRR.out ?_
                      refine hK.out _ _ ((D1.out.trans K5.out (fun _ _ q => .inr (.inr q))).trans K9.out (fun _ _ q => .inr (.inl q))) (fun hS => ?_)
                      clear hK K_
                      (try simp only [Act.put, List.setIfInBounds_toArray, List.set_cons_zero, List.set_cons_succ])
                      refine take_at 13 (some 89) (v := ?_) rfl rfl (by kernel_rfl) (by kernel_rfl) (by kernel_rfl) (fun _ _ _ h => h) ⟨by rfl, ?_⟩ hS ?_
                      rotate_left
                      · intro wq hSw; go_simp; try rfl
                      simp only [Act.put, List.setIfInBounds_toArray, List.set_cons_zero, List.set_cons_succ]
                      refine take_at 14 (some 90) (v := ?_) rfl rfl (by kernel_rfl) (by kernel_rfl) (by kernel_rfl) (fun _ _ _ h => h) ⟨by rfl, ?_⟩ hS ?_
                      rotate_left
                      · intro wq hSw; go_simp; try rfl
                      simp only [Act.put, List.setIfInBounds_toArray, List.set_cons_zero, List.set_cons_succ]
                      refine wpAnyH_ready (rs := [15]) (by kernel_rfl) (by simp) ?_
                      refine AllReadyH.cons rfl (fun K_ hK => ?_) AllReadyH.nil
                      go_simp
                      go_wp2_with fail
                      refine hK.out _ _ (hS.setCell (fun _ => .inl rfl) _) (fun hS => ?_)
                      clear hK K_ hS
                      (try simp only [Act.put])
                      refine wpAnyH_done (by kernel_rfl) ?_ _
                      go_wp2_with fail
                      go_end0
                      have bk := BKH.out
                      have sub := FINX.out.2.2.2.1
                      have kp := FINX.out.2.2.2.2
                      have jv := FINX.out.1
                      have jn := FINX.out.2.1
                      have ng := FINX.out.2.2.1
                      clear BKH FINX
                      have J1n := hide (J1.out.step2 kp (fun g q z => z.elim (J1.out.out g q).2 (fun z => D12.out g q z)) sub)
                      have N1n := hide (N1.out.step2 kp (fun g q z => z.elim (N1.out.out g q).2 (fun z => NE12.out g q z)) sub)
                      have NG2 := hide (show ∀ g, (Value.slice xa2 xn2 xc2).ownBlock = some g → (Value.slice a2 n2 c2).ownBlock = some g ∨ w.heap.size ≤ g from fun g q => (ng g q).elim .inl (fun y => .inr (Nat.le_trans KA.out.size y)))
                      clear J1 N1 H2
                      have J1 := J1n
                      have N1 := N1n
                      clear J1n N1n
                      have J2 := hide jv
                      have N2 := hide jn
                      clear jv jn ng
                      have NBSn := hide (show nb < _ ∧ ¬ Sx nb from ⟨Nat.lt_of_lt_of_le NBS.out.1 kp.size, fun q => NBS.out.2 (sub nb NBS.out.1 q)⟩)
                      have PBn := hide (PBc.out.keep kp (fun q => q.elim NBS.out.2 (fun q => NBV.out.2 nb q rfl)))
                      have HBn := hide bk
                      have KAn := hide (KA.out.trans kp (fun k hk q => q.elim (fun q => .inl (SU.out k hk q)) (fun q => .inr (.inr q))))
                      have SUn := hide (show ∀ k, k < w.heap.size → Sx k → S k from fun k hk q => SU.out k hk (sub k (Nat.lt_of_lt_of_le hk KA.out.size) q))
                      clear bk sub kp NBS PBc HBc KA SU
                      have NBS := NBSn
                      have PBc := PBn
                      have HBc := HBn
                      have KA := KAn
                      have SU := SUn
                      clear NBSn PBn HBn KAn SUn
                      have CL := HBc.out.close (fun j R hR => by
                        match j, hR with
                        | 0, hR => cases hR; exact ⟨_, last_at r0 _, by rw [← HM.out]; exact J1.out.mk', J1.out.out⟩
                        | 1, hR => cases hR; exact ⟨_, last_at r1 _, by rw [← HM.out]; exact N1.out.mk', N1.out.out⟩
                        | 2, hR => cases hR; exact ⟨_, last_at r2 _, by rw [← HM.out]; exact J2.out.mk', J2.out.out⟩
                        | 3, hR => cases hR; exact ⟨_, last_at r3 _, by rw [← HM.out]; exact N2.out.mk', N2.out.out⟩
                        | j + 4, hR => simp at hR)
                      refine ⟨rfl, _, _, _, CL, fun j R hR => ?_, fun k hk q => ?_, KA.out⟩
                      · match j, hR with
                        | 0, hR => cases hR; simp; omega
                        | 1, hR => cases hR; simp; omega
                        | 2, hR => cases hR; simp; omega
                        | 3, hR => cases hR; simp; omega
                        | j + 4, hR => simp at hR
                      · rcases q with q | ⟨j, R, lv, h1, h2, h3⟩
                        · exact .inl (SU.out k hk q)
                        · refine .inr ?_
                          match j, h1 with
                          | 0, h1 => cases h1; rw [last_at r0] at h2; cases h2; exact .inl h3
                          | 1, h1 => cases h1; rw [last_at r1] at h2; cases h2; exact (NG1.out k h3).elim .inl (fun y => by omega)
                          | 2, h1 => cases h1; rw [last_at r2] at h2; cases h2; exact .inr h3
                          | 3, h1 => cases h1; rw [last_at r3] at h2; cases h2; exact .inr ((NG2.out k h3).elim id (fun y => by omega))
                          | j + 4, h1 => simp at h1
end Go.Proofs.YtblngphjoafidaaGreat
