import Derived.Test.YtoocbpbaieedmaaAp36
namespace Go.Proofs.Ytoocbpbaieedmaa
open Go.RowKit Go.QK Quota
set_option maxRecDepth 100000
theorem Lent.keep {w w' : World} {B : Nat} {p : Pg} {t : At} {g1 g2 : Nat} {T : Nat → Prop} (h : Lent w B p t g1 g2) (hk : Keep T w w') (n1 : ¬ T g1) (n2 : ¬ T g2) : Lent w' B p t g1 g2 := by
  refine ⟨h.ta, h.tb, GRow.keep h.r1 hk (fun g q => ?_), GRow.keep h.r2 hk (fun g q => ?_), h.ne⟩
  · rw [h.ta] at q
    simp [Value.ownBlock] at q
    rw [← q]
    exact n1
  · rw [h.tb] at q
    simp [Value.ownBlock] at q
    rw [← q]
    exact n2
theorem Lent.lt {w : World} {B : Nat} {p : Pg} {t : At} {g1 g2 : Nat} (h : Lent w B p t g1 g2) : (B ≤ g1 ∧ g1 < w.heap.size) ∧ (B ≤ g2 ∧ g2 < w.heap.size) := by
  refine ⟨World.ownsRow.lt h.r1 g1 ?_, World.ownsRow.lt h.r2 g2 ?_⟩
  · rw [h.ta]; rfl
  · rw [h.tb]; rfl
theorem Lent.below {w w' : World} {B : Nat} {p : Pg} {t : At} {g1 g2 : Nat} (h : Lent w B p t g1 g2) (hb : Below w.heap.size w w') : Lent w' B p t g1 g2 := ⟨h.ta, h.tb, GRow.below h.r1 hb, GRow.below h.r2 hb, h.ne⟩
/-- A page variable of the law's own, with lists that it was lent. -/
structure OwnV (w : World) (B : Nat) (p : Pg) (ob : Nat) (u : At) (g1 g2 : Nat) : Prop where
  box : Cells w ob [.int .i64 p.num, .int .i64 p.lsn, .slice u.a p.cs.length u.c, .slice u.b p.gs.length u.d]
  lent : Lent w B p u g1 g2
  lo : B ≤ ob
  n1 : g1 ≠ ob
  n2 : g2 ≠ ob
def DoP2 (w : World) (D : Bool) (E : Int) (Q : Pg) (e : Ending) (w' : World) : Prop := ∃ v1 c1 v2 c2, e = .returned (.tuple #[.agg #[.int .i64 Q.num, .int .i64 Q.lsn, .slice v1 Q.cs.length c1, .slice v2 Q.gs.length c2], .bool D, .int .i64 E]) ∧ GRow w' w.heap.size 32 5 (.slice v1 Q.cs.length c1) Q.cs.length (rowsC ctrC Q.cs) ∧ GRow w' w.heap.size 69 2 (.slice v2 Q.gs.length c2) Q.gs.length (rowsC grpC Q.gs) ∧ (∀ g, (Value.slice v1 Q.cs.length c1).ownBlock = some g → (Value.slice v2 Q.gs.length c2).ownBlock ≠ some g) ∧ Below w.heap.size w w'
theorem DoPost.two {w w' : World} {p : Pg} {r : Rc} {e : Ending} (h : DoPost w p r e w') : DoP2 w (didB p r) (doE p r) (doP p r) e w' := by
  obtain ⟨v, rfl, ⟨v1, v2, rfl, g1, g2, ap⟩, hb⟩ := h
  obtain ⟨a1, c1, rfl, -⟩ := GRow.lies g1
  obtain ⟨a2, c2, rfl, -⟩ := GRow.lies g2
  exact ⟨a1, c1, a2, c2, rfl, g1, g2, ap, hb⟩
theorem pin2 {w : World} {B : Nat} {Q : Pg} {a1 a2 : Option Addr} {c1 c2 : Nat} (g1 : GRow w B 32 5 (.slice a1 Q.cs.length c1) Q.cs.length (rowsC ctrC Q.cs)) (g2 : GRow w B 69 2 (.slice a2 Q.gs.length c2) Q.gs.length (rowsC grpC Q.gs)) : PIn w Q ⟨a1, c1, a2, c2⟩ := by
  obtain ⟨x1, y1, e1, l1, n1, -, z1, -⟩ := GRow.lies g1
  obtain ⟨x2, y2, e2, l2, n2, -, z2, -⟩ := GRow.lies g2
  simp only [Value.slice.injEq, true_and] at e1 e2
  obtain ⟨rfl, rfl⟩ := e1
  obtain ⟨rfl, rfl⟩ := e2
  exact ⟨l1, l2, fun q => ⟨z1 q, by have := z1 q; omega⟩, fun q => ⟨z2 q, by have := z2 q; omega⟩, n1, n2⟩
theorem glies {w : World} {B : Nat} {e : TypeId} {sz n c : Nat} {a : Option Addr} {xs : List Value} (g : GRow w B e sz (.slice a n c) n xs) : Lies w a xs := by
  obtain ⟨x1, y1, e1, l1, -⟩ := GRow.lies g
  simp only [Value.slice.injEq, true_and] at e1
  obtain ⟨rfl, rfl⟩ := e1
  exact l1
def PgP2 (w : World) (L : List Int) (e : Ending) (w' : World) : Prop := ∃ a c, e = .returned (.slice a L.length c) ∧ GRow w' w.heap.size 3 1 (.slice a L.length c) L.length (rowsC iC L) ∧ Below w.heap.size w w'
theorem PagesPost.two {w w' : World} {r : Rc} {e : Ending} (h : PagesPost w r e w') : PgP2 w (pagesL r) e w' := by
  obtain ⟨v, rfl, g, hb⟩ := h
  obtain ⟨a, c, rfl, -⟩ := GRow.lies g
  exact ⟨a, c, rfl, g, hb⟩
/-- Behind 'does'. -/
def Does (w : World) (S : Nat → Prop) (b K : Nat) (p : Pg) (r : Rc) (e : Ending) (w' : World) : Prop := ∃ S' vs' Rs' a1 c1 a2 c2, e = .returned (.tuple #[.agg #[.int .i64 (doP p r).num, .int .i64 (doP p r).lsn, .slice a1 (doP p r).cs.length c1, .slice a2 (doP p r).gs.length c2], .int .i64 (doE p r), .bool true]) ∧ BK w' S' b vs' Rs' (K + 2) ∧ (∀ (j : Nat) (R : List Value), Rs'[j]? = some R → R.length = K + 2) ∧ (∀ k, k < w.heap.size → S' k → S k) ∧ Keep S w w' ∧ PIn w' (doP p r) ⟨a1, c1, a2, c2⟩ ∧ (∀ g, ((Value.slice a1 (doP p r).cs.length c1).ownBlock = some g ∨ (Value.slice a2 (doP p r).gs.length c2).ownBlock = some g) → w.heap.size ≤ g ∧ g < w'.heap.size ∧ ¬ S' g)
set_option maxHeartbeats 16000000 in
theorem does_any (S : Nat → Prop) (K : Nat) (vs : List Value) (Rs : List (List Value)) (p : Pg) (t : At) (r : Rc) (b : Nat) (w : World) (hbk : BK w S b vs Rs K) (hRs : ∀ (j : Nat) (R : List Value), Rs[j]? = some R → R.length = K) (hK : K ≤ 198) (ht : PIn w p t) (hf : p.Fit) (hr : r.Fit) (hl1 : p.cs.length ≤ 800) (hl2 : p.gs.length ≤ 800) :
    Calls Try.prog 18 #[ptr b, pgV p t, recV r] w (Does w S b K p r) := by
  have KL := hide (fun w' (h : PIn w' p t) => lent_any p t w' h (by omega) (by omega))
  obtain ⟨D, hD⟩ : ∃ D, D = didB p r := ⟨_, rfl⟩
  obtain ⟨E, hE⟩ : ∃ E, E = doE p r := ⟨_, rfl⟩
  obtain ⟨Q, hQ⟩ : ∃ Q, Q = doP p r := ⟨_, rfl⟩
  have KD : ∀ w' u, PIn w' p u → Calls Try.prog 14 #[pgV p u, recV r] w' (DoP2 w' D E Q) := fun w' u h => (do_any p u r w' h hf hr).mono (fun e w2 q => by rw [hD, hE, hQ]; exact q.two)
  have KR : ∀ w' u, PIn w' p u → Calls Try.prog 25 #[pgV p u, recV r] w' (DoP2 w' D E Q) := fun w' u h => (rdo_any p u r w' h hf hr).mono (fun e w2 q => by rw [hD, hE, hQ]; exact q.two)
  obtain ⟨L, hL⟩ : ∃ L, L = pagesL r := ⟨_, rfl⟩
  have KPx : ∀ w', Calls Try.prog 21 #[recV r] w' (PgP2 w' L) := fun w' => (pages_any r w').mono (fun e w2 q => by rw [hL]; exact q.two)
  have KQx : ∀ w', Calls Try.prog 26 #[recV r] w' (PgP2 w' L) := fun w' => (rpages_any r w').mono (fun e w2 q => by rw [hL]; exact q.two)
  have HLL := hide (show L.length ≤ 2 by rw [hL]; exact pages_len r)
  clear hL
  have HQL := hide (show Q.cs.length ≤ 801 ∧ Q.gs.length ≤ 801 by rw [hQ]; have := do_len p r; omega)
  have HEQ := hide (And.intro hD (And.intro hE hQ))
  have HSZ := hide (show (recA r).size = 17 from rfl)
  have R0 := fun w' => rbox_new w' r
  clear hD hE hQ
  obtain ⟨RA, hRA⟩ : ∃ RA, RA = recA r := ⟨_, rfl⟩
  simp only [recV] at KD KR KPx KQx
  rw [← hRA] at HSZ
  simp only [← hRA] at R0 KD KR KPx KQx
  obtain ⟨num, lsn, cs, gs⟩ := p
  obtain ⟨ta, tc, tb, td⟩ := t
  simp only [pgV, pgA, recV] at *
  rw [← hRA]
  have HRA := hide hRA
  have I0 := hide ht
  have KDh := hide KD
  have KRh := hide KR
  have KP := hide KPx
  have KQ := hide KQx
  clear hRA ht KD KR KPx KQx hf hr
  go_enter Try.func18, Try.ntmps18
  go_upto_region 1 with fail
  refine named (P := Code.wp _ _ _ _) ?_
  intro w0 hw0
  obtain ⟨nb, hnb⟩ : ∃ nb, nb = w.heap.size := ⟨_, rfl⟩
  rw [← hnb]
  have a1 := alloc_below w (.cells #[.int .i64 num, .int .i64 lsn, .slice ta cs.length tc, .slice tb gs.length td] 25)
  have a2 := alloc_below (w.alloc (.cells #[.int .i64 num, .int .i64 lsn, .slice ta cs.length tc, .slice tb gs.length td] 25)) (.cells RA 38)
  have a3 := alloc_below ((w.alloc (.cells #[.int .i64 num, .int .i64 lsn, .slice ta cs.length tc, .slice tb gs.length td] 25)).alloc (.cells RA 38)) (.cells #[.int .i64 0, .int .i64 0, .slice none 0 0, .slice none 0 0] 25)
  have b0 : Below w.heap.size w w0 := by rw [hw0]; exact (a1.trans (a2.mono a1.size)).trans (a3.mono (Nat.le_trans a1.size a2.size))
  have CP := hide (show Cells w0 nb [.int .i64 num, .int .i64 lsn, .slice ta cs.length tc, .slice tb gs.length td] by rw [hw0, hnb]; exact ((Cells.new w #[.int .i64 num, .int .i64 lsn, .slice ta cs.length tc, .slice tb gs.length td] 25).below a2).below a3)
  have CR := hide (show RBox w0 (nb + 1) 38 RA by rw [hw0, hnb]; have q := (R0 (w.alloc (.cells #[.int .i64 num, .int .i64 lsn, .slice ta cs.length tc, .slice tb gs.length td] 25))).below a3; rw [World.size_alloc] at q; exact q)
  have J0 := hide (I0.out.below b0)
  have BF := hide (hbk.below b0)
  have BLT := hide (show ∀ k, S k → k < nb from fun k q => by rw [hnb]; exact hbk.lt k q)
  have HRS := hide hRs
  have CZ := hide (show Cells w0 (nb + 2) [.int .i64 0, .int .i64 0, .slice none 0 0, .slice none 0 0] by rw [hw0, hnb]; have q := Cells.new ((w.alloc (.cells #[.int .i64 num, .int .i64 lsn, .slice ta cs.length tc, .slice tb gs.length td] 25)).alloc (.cells RA 38)) #[.int .i64 0, .int .i64 0, .slice none 0 0, .slice none 0 0] 25; rw [World.size_alloc, World.size_alloc] at q; exact q)
  have Z0 := hide (show w.heap.size = nb ∧ nb + 3 ≤ w0.heap.size by have := CZ.out.1; omega)
  clear hbk hRs
  have B0 := hide b0
  clear a1 a2 a3 b0 hw0 hnb R0 I0
  obtain ⟨f0, -⟩ := CP.out.get 0 _ rfl
  obtain ⟨f1, -⟩ := CP.out.get 1 _ rfl
  obtain ⟨f2, -⟩ := CP.out.get 2 _ rfl
  obtain ⟨f3, -⟩ := CP.out.get 3 _ rfl
  go_upto_region 2 with (go_at_call 10; refine (KL.out _ J0.out).mono ?_; rintro e x1 ⟨u, g1, g2, rfl, hLe, h1⟩; obtain ⟨ua, uc, ub, ud⟩ := u; dsimp only)
  clear f0 f1 f2 f3 KL
  refine named (P := Code.wp _ _ _ _) ?_
  intro w1 hw1
  obtain ⟨ob, hob⟩ : ∃ ob, ob = x1.heap.size := ⟨_, rfl⟩
  rw [← hob]
  have al : Below x1.heap.size x1 w1 := by rw [hw1]; exact alloc_below _ _
  have hb : Below w0.heap.size w0 w1 := h1.trans (al.mono h1.size)
  have Cob := hide (show Cells w1 ob [.int .i64 num, .int .i64 lsn, .slice ua cs.length uc, .slice ub gs.length ud] by rw [hw1, hob]; exact Cells.new _ _ _)
  have Bn := hide (B0.out.trans (hb.mono B0.out.size))
  clear B0
  have B0 := Bn
  clear Bn
  have Lob := hide (show w0.heap.size ≤ ob by rw [hob]; exact h1.size)
  have CPn := hide (CP.out.below hb)
  clear CP
  have CP := CPn
  clear CPn
  have CRn := hide (CR.out.below hb)
  clear CR
  have CR := CRn
  clear CRn
  have J0n := hide (J0.out.below hb)
  clear J0
  have J0 := J0n
  clear J0n
  have BFn := hide (BF.out.below hb)
  clear BF
  have BF := BFn
  clear BFn
  have CZn := hide (CZ.out.below hb)
  clear CZ
  have CZ := CZn
  clear CZn
  have LE := hide (hLe.below al)
  have JU := hide LE.out.in_
  have N1 := hide (show (g1 ≠ ob ∧ g2 ≠ ob) ∧ (w0.heap.size ≤ g1 ∧ g1 < w1.heap.size) ∧ (w0.heap.size ≤ g2 ∧ g2 < w1.heap.size) ∧ w0.heap.size ≤ ob ∧ ob < w1.heap.size by have := hLe.lt; have := Cob.out.1; have := Lob.out; have := al.size; omega)
  have Z1 := hide hb.size
  clear hw1 hob al hb h1 hLe
  obtain ⟨f0, -⟩ := Cob.out.get 0 _ rfl
  obtain ⟨f1, -⟩ := Cob.out.get 1 _ rfl
  obtain ⟨f2, -⟩ := Cob.out.get 2 _ rfl
  obtain ⟨f3, -⟩ := Cob.out.get 3 _ rfl
  go_upto_region 3 with (first | refine wpList_load38 CR.out HSZ.out rfl ?_ | (go_at_call 14; refine (KDh.out _ _ JU.out).mono ?_; rintro e W2 ⟨x1, xc, x2, xd, rfl, xg, xh, xa, h2⟩))
  clear f0 f1 f2 f3
  refine named (P := Code.wp _ _ _ _) ?_
  intro w2 hw2
  obtain ⟨xb, hxb⟩ : ∃ xb, xb = W2.heap.size := ⟨_, rfl⟩
  rw [← hxb]
  have al : Below W2.heap.size W2 w2 := by rw [hw2]; exact alloc_below _ _
  have hb : Below w1.heap.size w1 w2 := h2.trans (al.mono h2.size)
  have Cxb := hide (show Cells w2 xb [.int .i64 Q.num, .int .i64 Q.lsn, .slice x1 Q.cs.length xc, .slice x2 Q.gs.length xd] by rw [hw2, hxb]; exact Cells.new _ _ _)
  have Bn := hide (B0.out.trans (hb.mono B0.out.size))
  clear B0
  have B0 := Bn
  clear Bn
  have Lxb := hide (show w1.heap.size ≤ xb by rw [hxb]; exact h2.size)
  have CPn := hide (CP.out.below hb)
  clear CP
  have CP := CPn
  clear CPn
  have CRn := hide (CR.out.below hb)
  clear CR
  have CR := CRn
  clear CRn
  have J0n := hide (J0.out.below hb)
  clear J0
  have J0 := J0n
  clear J0n
  have Cobn := hide (Cob.out.below hb)
  clear Cob
  have Cob := Cobn
  clear Cobn
  have LEn := hide (LE.out.below hb)
  clear LE
  have LE := LEn
  clear LEn
  have JUn := hide (JU.out.below hb)
  clear JU
  have JU := JUn
  clear JUn
  have BFn := hide (BF.out.below hb)
  clear BF
  have BF := BFn
  clear BFn
  have CZn := hide (CZ.out.below hb)
  clear CZ
  have CZ := CZn
  clear CZn
  have Ux := hide (show ∀ g, ((Value.slice x1 Q.cs.length xc).ownBlock = some g ∨ (Value.slice x2 Q.gs.length xd).ownBlock = some g) → w1.heap.size ≤ g ∧ g < w2.heap.size from fun g q => by have := al.size; rcases q with q | q; (have := World.ownsRow.lt xg g q; omega); (have := World.ownsRow.lt xh g q; omega))
  have Yx := hide (show w1.heap.size ≤ xb ∧ xb < w2.heap.size from ⟨Lxb.out, Cxb.out.1⟩)
  have Z2 := hide hb.size
  have Gx1 := hide (GRow.below xg al)
  have Gx2 := hide (GRow.below xh al)
  have Ax := hide xa
  clear hw2 hxb al hb h2 xg xh xa
  obtain ⟨f0, -⟩ := Cob.out.get 0 _ rfl
  obtain ⟨f1, -⟩ := Cob.out.get 1 _ rfl
  obtain ⟨f2, -⟩ := Cob.out.get 2 _ rfl
  obtain ⟨f3, -⟩ := Cob.out.get 3 _ rfl
  go_upto_region 4 with (first | refine wpList_load38 CR.out HSZ.out rfl ?_ | (go_at_call 14; refine (KDh.out _ _ JU.out).mono ?_; rintro e W3 ⟨y1, yc, y2, yd, rfl, yg, yh, ya, h3⟩))
  clear f0 f1 f2 f3
  refine named (P := Code.wp _ _ _ _) ?_
  intro w3 hw3
  obtain ⟨yb, hyb⟩ : ∃ yb, yb = W3.heap.size := ⟨_, rfl⟩
  rw [← hyb]
  have al : Below W3.heap.size W3 w3 := by rw [hw3]; exact alloc_below _ _
  have hb : Below w2.heap.size w2 w3 := h3.trans (al.mono h3.size)
  have Cyb := hide (show Cells w3 yb [.int .i64 Q.num, .int .i64 Q.lsn, .slice y1 Q.cs.length yc, .slice y2 Q.gs.length yd] by rw [hw3, hyb]; exact Cells.new _ _ _)
  have Bn := hide (B0.out.trans (hb.mono B0.out.size))
  clear B0
  have B0 := Bn
  clear Bn
  have Lyb := hide (show w2.heap.size ≤ yb by rw [hyb]; exact h3.size)
  have CPn := hide (CP.out.below hb)
  clear CP
  have CP := CPn
  clear CPn
  have CRn := hide (CR.out.below hb)
  clear CR
  have CR := CRn
  clear CRn
  have J0n := hide (J0.out.below hb)
  clear J0
  have J0 := J0n
  clear J0n
  have Cobn := hide (Cob.out.below hb)
  clear Cob
  have Cob := Cobn
  clear Cobn
  have LEn := hide (LE.out.below hb)
  clear LE
  have LE := LEn
  clear LEn
  have JUn := hide (JU.out.below hb)
  clear JU
  have JU := JUn
  clear JUn
  have BFn := hide (BF.out.below hb)
  clear BF
  have BF := BFn
  clear BFn
  have CZn := hide (CZ.out.below hb)
  clear CZ
  have CZ := CZn
  clear CZn
  have Cxbn := hide (Cxb.out.below hb)
  clear Cxb
  have Cxb := Cxbn
  clear Cxbn
  have Gx1n := hide (GRow.below Gx1.out hb)
  clear Gx1
  have Gx1 := Gx1n
  clear Gx1n
  have Gx2n := hide (GRow.below Gx2.out hb)
  clear Gx2
  have Gx2 := Gx2n
  clear Gx2n
  have Uy := hide (show ∀ g, ((Value.slice y1 Q.cs.length yc).ownBlock = some g ∨ (Value.slice y2 Q.gs.length yd).ownBlock = some g) → w2.heap.size ≤ g ∧ g < w3.heap.size from fun g q => by have := al.size; rcases q with q | q; (have := World.ownsRow.lt yg g q; omega); (have := World.ownsRow.lt yh g q; omega))
  have Yy := hide (show w2.heap.size ≤ yb ∧ yb < w3.heap.size from ⟨Lyb.out, Cyb.out.1⟩)
  have Z3 := hide hb.size
  have Gy1 := hide (GRow.below yg al)
  have Gy2 := hide (GRow.below yh al)
  have Ay := hide ya
  clear hw3 hyb al hb h3 yg yh ya
  obtain ⟨f0, -⟩ := CP.out.get 0 _ rfl
  obtain ⟨f1, -⟩ := CP.out.get 1 _ rfl
  obtain ⟨f2, -⟩ := CP.out.get 2 _ rfl
  obtain ⟨f3, -⟩ := CP.out.get 3 _ rfl
  go_upto_region 5 with (first | refine wpList_load38 CR.out HSZ.out rfl ?_ | (go_at_call 25; refine (KRh.out _ _ J0.out).mono ?_; rintro e W4 ⟨z1, zc, z2, zd, rfl, zg, zh, za, h4⟩))
  clear f0 f1 f2 f3
  refine named (P := Code.wp _ _ _ _) ?_
  intro w4 hw4
  obtain ⟨zb, hzb⟩ : ∃ zb, zb = W4.heap.size := ⟨_, rfl⟩
  rw [← hzb]
  have al : Below W4.heap.size W4 w4 := by rw [hw4]; exact alloc_below _ _
  have hb : Below w3.heap.size w3 w4 := h4.trans (al.mono h4.size)
  have Czb := hide (show Cells w4 zb [.int .i64 Q.num, .int .i64 Q.lsn, .slice z1 Q.cs.length zc, .slice z2 Q.gs.length zd] by rw [hw4, hzb]; exact Cells.new _ _ _)
  have Bn := hide (B0.out.trans (hb.mono B0.out.size))
  clear B0
  have B0 := Bn
  clear Bn
  have Lzb := hide (show w3.heap.size ≤ zb by rw [hzb]; exact h4.size)
  have CPn := hide (CP.out.below hb)
  clear CP
  have CP := CPn
  clear CPn
  have CRn := hide (CR.out.below hb)
  clear CR
  have CR := CRn
  clear CRn
  have J0n := hide (J0.out.below hb)
  clear J0
  have J0 := J0n
  clear J0n
  have Cobn := hide (Cob.out.below hb)
  clear Cob
  have Cob := Cobn
  clear Cobn
  have LEn := hide (LE.out.below hb)
  clear LE
  have LE := LEn
  clear LEn
  have JUn := hide (JU.out.below hb)
  clear JU
  have JU := JUn
  clear JUn
  have BFn := hide (BF.out.below hb)
  clear BF
  have BF := BFn
  clear BFn
  have CZn := hide (CZ.out.below hb)
  clear CZ
  have CZ := CZn
  clear CZn
  have Cxbn := hide (Cxb.out.below hb)
  clear Cxb
  have Cxb := Cxbn
  clear Cxbn
  have Cybn := hide (Cyb.out.below hb)
  clear Cyb
  have Cyb := Cybn
  clear Cybn
  have Gx1n := hide (GRow.below Gx1.out hb)
  clear Gx1
  have Gx1 := Gx1n
  clear Gx1n
  have Gx2n := hide (GRow.below Gx2.out hb)
  clear Gx2
  have Gx2 := Gx2n
  clear Gx2n
  have Gy1n := hide (GRow.below Gy1.out hb)
  clear Gy1
  have Gy1 := Gy1n
  clear Gy1n
  have Gy2n := hide (GRow.below Gy2.out hb)
  clear Gy2
  have Gy2 := Gy2n
  clear Gy2n
  have Uz := hide (show ∀ g, ((Value.slice z1 Q.cs.length zc).ownBlock = some g ∨ (Value.slice z2 Q.gs.length zd).ownBlock = some g) → w3.heap.size ≤ g ∧ g < w4.heap.size from fun g q => by have := al.size; rcases q with q | q; (have := World.ownsRow.lt zg g q; omega); (have := World.ownsRow.lt zh g q; omega))
  have Yz := hide (show w3.heap.size ≤ zb ∧ zb < w4.heap.size from ⟨Lzb.out, Czb.out.1⟩)
  have Z4 := hide hb.size
  have Gz1 := hide (GRow.below zg al)
  have Gz2 := hide (GRow.below zh al)
  have Az := hide za
  clear hw4 hzb al hb h4 zg zh za
  go_upto_region 6 with (first | refine wpList_load38 CR.out HSZ.out rfl ?_ | (go_at_call 21; refine (KP.out _).mono ?_; rintro e w5 ⟨n1, nc, rfl, ng, hb⟩))
  have Un := hide (show ∀ g, (Value.slice n1 L.length nc).ownBlock = some g → w4.heap.size ≤ g ∧ g < w5.heap.size from fun g q => World.ownsRow.lt ng g q)
  have Z5 := hide hb.size
  have Gn1 := hide ng
  have Bn := hide (B0.out.trans (hb.mono B0.out.size))
  clear B0
  have B0 := Bn
  clear Bn
  have CPn := hide (CP.out.below hb)
  clear CP
  have CP := CPn
  clear CPn
  have CRn := hide (CR.out.below hb)
  clear CR
  have CR := CRn
  clear CRn
  have J0n := hide (J0.out.below hb)
  clear J0
  have J0 := J0n
  clear J0n
  have Cobn := hide (Cob.out.below hb)
  clear Cob
  have Cob := Cobn
  clear Cobn
  have LEn := hide (LE.out.below hb)
  clear LE
  have LE := LEn
  clear LEn
  have JUn := hide (JU.out.below hb)
  clear JU
  have JU := JUn
  clear JUn
  have BFn := hide (BF.out.below hb)
  clear BF
  have BF := BFn
  clear BFn
  have CZn := hide (CZ.out.below hb)
  clear CZ
  have CZ := CZn
  clear CZn
  have Cxbn := hide (Cxb.out.below hb)
  clear Cxb
  have Cxb := Cxbn
  clear Cxbn
  have Cybn := hide (Cyb.out.below hb)
  clear Cyb
  have Cyb := Cybn
  clear Cybn
  have Czbn := hide (Czb.out.below hb)
  clear Czb
  have Czb := Czbn
  clear Czbn
  have Gx1n := hide (GRow.below Gx1.out hb)
  clear Gx1
  have Gx1 := Gx1n
  clear Gx1n
  have Gx2n := hide (GRow.below Gx2.out hb)
  clear Gx2
  have Gx2 := Gx2n
  clear Gx2n
  have Gy1n := hide (GRow.below Gy1.out hb)
  clear Gy1
  have Gy1 := Gy1n
  clear Gy1n
  have Gy2n := hide (GRow.below Gy2.out hb)
  clear Gy2
  have Gy2 := Gy2n
  clear Gy2n
  have Gz1n := hide (GRow.below Gz1.out hb)
  clear Gz1
  have Gz1 := Gz1n
  clear Gz1n
  have Gz2n := hide (GRow.below Gz2.out hb)
  clear Gz2
  have Gz2 := Gz2n
  clear Gz2n
  clear hb ng
  go_upto_region 7 with (first | refine wpList_load38 CR.out HSZ.out rfl ?_ | (go_at_call 21; refine (KP.out _).mono ?_; rintro e w6 ⟨m1, mc, rfl, mg, hb⟩))
  have Um := hide (show ∀ g, (Value.slice m1 L.length mc).ownBlock = some g → w5.heap.size ≤ g ∧ g < w6.heap.size from fun g q => World.ownsRow.lt mg g q)
  have Z6 := hide hb.size
  have Gm1 := hide mg
  have Bn := hide (B0.out.trans (hb.mono B0.out.size))
  clear B0
  have B0 := Bn
  clear Bn
  have CPn := hide (CP.out.below hb)
  clear CP
  have CP := CPn
  clear CPn
  have CRn := hide (CR.out.below hb)
  clear CR
  have CR := CRn
  clear CRn
  have J0n := hide (J0.out.below hb)
  clear J0
  have J0 := J0n
  clear J0n
  have Cobn := hide (Cob.out.below hb)
  clear Cob
  have Cob := Cobn
  clear Cobn
  have LEn := hide (LE.out.below hb)
  clear LE
  have LE := LEn
  clear LEn
  have JUn := hide (JU.out.below hb)
  clear JU
  have JU := JUn
  clear JUn
  have BFn := hide (BF.out.below hb)
  clear BF
  have BF := BFn
  clear BFn
  have CZn := hide (CZ.out.below hb)
  clear CZ
  have CZ := CZn
  clear CZn
  have Cxbn := hide (Cxb.out.below hb)
  clear Cxb
  have Cxb := Cxbn
  clear Cxbn
  have Cybn := hide (Cyb.out.below hb)
  clear Cyb
  have Cyb := Cybn
  clear Cybn
  have Czbn := hide (Czb.out.below hb)
  clear Czb
  have Czb := Czbn
  clear Czbn
  have Gx1n := hide (GRow.below Gx1.out hb)
  clear Gx1
  have Gx1 := Gx1n
  clear Gx1n
  have Gx2n := hide (GRow.below Gx2.out hb)
  clear Gx2
  have Gx2 := Gx2n
  clear Gx2n
  have Gy1n := hide (GRow.below Gy1.out hb)
  clear Gy1
  have Gy1 := Gy1n
  clear Gy1n
  have Gy2n := hide (GRow.below Gy2.out hb)
  clear Gy2
  have Gy2 := Gy2n
  clear Gy2n
  have Gz1n := hide (GRow.below Gz1.out hb)
  clear Gz1
  have Gz1 := Gz1n
  clear Gz1n
  have Gz2n := hide (GRow.below Gz2.out hb)
  clear Gz2
  have Gz2 := Gz2n
  clear Gz2n
  have Gn1n := hide (GRow.below Gn1.out hb)
  clear Gn1
  have Gn1 := Gn1n
  clear Gn1n
  clear hb mg
  go_upto_region 8 with (first | refine wpList_load38 CR.out HSZ.out rfl ?_ | (go_at_call 26; refine (KQ.out _).mono ?_; rintro e w7 ⟨l1, lc, rfl, lg, hb⟩))
  have Ul := hide (show ∀ g, (Value.slice l1 L.length lc).ownBlock = some g → w6.heap.size ≤ g ∧ g < w7.heap.size from fun g q => World.ownsRow.lt lg g q)
  have Z7 := hide hb.size
  have Gl1 := hide lg
  have Bn := hide (B0.out.trans (hb.mono B0.out.size))
  clear B0
  have B0 := Bn
  clear Bn
  have CPn := hide (CP.out.below hb)
  clear CP
  have CP := CPn
  clear CPn
  have CRn := hide (CR.out.below hb)
  clear CR
  have CR := CRn
  clear CRn
  have J0n := hide (J0.out.below hb)
  clear J0
  have J0 := J0n
  clear J0n
  have Cobn := hide (Cob.out.below hb)
  clear Cob
  have Cob := Cobn
  clear Cobn
  have LEn := hide (LE.out.below hb)
  clear LE
  have LE := LEn
  clear LEn
  have JUn := hide (JU.out.below hb)
  clear JU
  have JU := JUn
  clear JUn
  have BFn := hide (BF.out.below hb)
  clear BF
  have BF := BFn
  clear BFn
  have CZn := hide (CZ.out.below hb)
  clear CZ
  have CZ := CZn
  clear CZn
  have Cxbn := hide (Cxb.out.below hb)
  clear Cxb
  have Cxb := Cxbn
  clear Cxbn
  have Cybn := hide (Cyb.out.below hb)
  clear Cyb
  have Cyb := Cybn
  clear Cybn
  have Czbn := hide (Czb.out.below hb)
  clear Czb
  have Czb := Czbn
  clear Czbn
  have Gx1n := hide (GRow.below Gx1.out hb)
  clear Gx1
  have Gx1 := Gx1n
  clear Gx1n
  have Gx2n := hide (GRow.below Gx2.out hb)
  clear Gx2
  have Gx2 := Gx2n
  clear Gx2n
  have Gy1n := hide (GRow.below Gy1.out hb)
  clear Gy1
  have Gy1 := Gy1n
  clear Gy1n
  have Gy2n := hide (GRow.below Gy2.out hb)
  clear Gy2
  have Gy2 := Gy2n
  clear Gy2n
  have Gz1n := hide (GRow.below Gz1.out hb)
  clear Gz1
  have Gz1 := Gz1n
  clear Gz1n
  have Gz2n := hide (GRow.below Gz2.out hb)
  clear Gz2
  have Gz2 := Gz2n
  clear Gz2n
  have Gn1n := hide (GRow.below Gn1.out hb)
  clear Gn1
  have Gn1 := Gn1n
  clear Gn1n
  have Gm1n := hide (GRow.below Gm1.out hb)
  clear Gm1
  have Gm1 := Gm1n
  clear Gm1n
  clear hb lg
  have Ix := hide (pin2 Gx1.out Gx2.out)
  have Iy := hide (pin2 Gy1.out Gy2.out)
  have Iz := hide (pin2 Gz1.out Gz2.out)
  have KB := hide (fun u w2 => back_any Q u w2)
  have KS := hide (fun w2 u t (h1 : PIn w2 Q u) (h2 : PIn w2 Q t) => same_true Q u t w2 h1 h2 (by have := HQL.out; omega) (by have := HQL.out; omega))
  have KK := hide (fun w2 (h1 : Lent w2 w0.heap.size (Pg.mk num lsn cs gs) ⟨ua, uc, ub, ud⟩ g1 g2) (h2 : PIn w2 (Pg.mk num lsn cs gs) ⟨ta, tc, tb, td⟩) => kept_any (Pg.mk num lsn cs gs) ⟨ta, tc, tb, td⟩ ⟨ua, uc, ub, ud⟩ w0.heap.size g1 g2 w2 h1 h2 (show cs.length ≤ 1000 by omega) (show gs.length ≤ 1000 by omega))
  simp only [pgV, pgA] at KB KS KK
  have Ln := hide (glies Gn1.out)
  have Lm := hide (glies Gm1.out)
  have Ll := hide (glies Gl1.out)
  go_cut [22] (fun s w' => s = .bool true ∧ Below w7.heap.size w7 w')
  case first =>
    refine wp_region_held_drew (S := fun wq => Below w7.heap.size w7 wq) (by kernel_rfl) (Below.refl _ _).drew (fun hS => ?_)
    refine take_at 0 (some 54) (v := ?_) rfl rfl (by kernel_rfl) (by kernel_rfl) (by kernel_rfl) (fun _ _ _ h => h) ⟨by rfl, ?_⟩ hS ?_
    rotate_left
    · intro wq hSw; go_simp; try rfl
    simp only [Act.put, List.setIfInBounds_toArray, List.set_cons_zero, List.set_cons_succ]
    refine take_at 2 (some 56) (v := ?_) rfl rfl (by kernel_rfl) (by kernel_rfl) (by kernel_rfl) (fun _ _ _ h => h) ⟨by rfl, ?_⟩ hS ?_
    rotate_left
    · intro wq hSw; go_simp; try rfl
    simp only [Act.put, List.setIfInBounds_toArray, List.set_cons_zero, List.set_cons_succ]
    refine wpAnyH_ready (rs := [1]) (by kernel_rfl) (by simp) ?_
    refine AllReadyH.cons rfl (fun K hK => ?_) AllReadyH.nil
    go_simp
    go_wp2_with fail
    refine (num_any E _).mono ?_
    rintro e v1 ⟨rfl, rfl⟩
    go_wp2_with fail
    refine hK.out _ _ hS (fun hS => ?_)
    clear hK K
    (try simp only [Act.put, List.setIfInBounds_toArray, List.set_cons_zero, List.set_cons_succ])
    refine take_at 3 (some 57) (v := ?_) rfl rfl (by kernel_rfl) (by kernel_rfl) (by kernel_rfl) (fun _ _ _ h => h) ⟨by rfl, ?_⟩ hS ?_
    rotate_left
    · intro wq hSw; go_simp; try rfl
    simp only [Act.put, List.setIfInBounds_toArray, List.set_cons_zero, List.set_cons_succ]
    refine take_at 4 (some 58) (v := ?_) rfl rfl (by kernel_rfl) (by kernel_rfl) (by kernel_rfl) (fun _ _ _ h => h) ⟨by rfl, ?_⟩ hS ?_
    rotate_left
    · intro wq hSw; go_simp; try rfl
    simp only [Act.put, List.setIfInBounds_toArray, List.set_cons_zero, List.set_cons_succ]
    refine take_at 5 (some 59) (v := ?_) rfl rfl (by kernel_rfl) (by kernel_rfl) (by kernel_rfl) (fun _ _ _ h => h) ⟨by rfl, ?_⟩ hS ?_
    rotate_left
    · intro wq hSw; go_simp; try rfl
    simp only [Act.put, List.setIfInBounds_toArray, List.set_cons_zero, List.set_cons_succ]
    refine take_at 7 (some 61) (v := ?_) rfl rfl (by kernel_rfl) (by kernel_rfl) (by kernel_rfl) (fun _ _ _ h => h) ⟨by rfl, ?_⟩ hS ?_
    rotate_left
    · intro wq hSw; go_simp; try rfl
    simp only [Act.put, List.setIfInBounds_toArray, List.set_cons_zero, List.set_cons_succ]
    refine wpAnyH_ready (rs := [6]) (by kernel_rfl) (by simp) ?_
    refine AllReadyH.cons rfl (fun K hK => ?_) AllReadyH.nil
    go_simp
    go_wp2_with fail
    refine (num_any E _).mono ?_
    rintro e v6 ⟨rfl, rfl⟩
    go_wp2_with fail
    refine hK.out _ _ hS (fun hS => ?_)
    clear hK K
    (try simp only [Act.put, List.setIfInBounds_toArray, List.set_cons_zero, List.set_cons_succ])
    refine take_at 8 (some 62) (v := ?_) rfl rfl (by kernel_rfl) (by kernel_rfl) (by kernel_rfl) (fun _ _ _ h => h) ⟨by rfl, ?_⟩ hS ?_
    rotate_left
    · intro wq hSw; go_simp; try rfl
    simp only [Act.put, List.setIfInBounds_toArray, List.set_cons_zero, List.set_cons_succ]
    refine take_at 9 (some 63) (v := ?_) rfl rfl (by kernel_rfl) (by kernel_rfl) (by kernel_rfl) (fun _ _ _ h => h) ⟨by rfl, ?_⟩ hS ?_
    rotate_left
    · intro wq hSw; go_simp; try rfl
    simp only [Act.put, List.setIfInBounds_toArray, List.set_cons_zero, List.set_cons_succ]
    refine take_at 10 (some 64) (v := ?_) rfl rfl (by kernel_rfl) (by kernel_rfl) (by kernel_rfl) (fun _ _ _ h => h) ⟨by rfl, ?_⟩ hS ?_
    rotate_left
    · intro wq hSw; go_simp; try rfl
    simp only [Act.put, List.setIfInBounds_toArray, List.set_cons_zero, List.set_cons_succ]
    refine take_at 11 (some 65) (v := ?_) rfl rfl (by kernel_rfl) (by kernel_rfl) (by kernel_rfl) (fun _ _ _ h => h) ⟨by rfl, ?_⟩ hS ?_
    rotate_left
    · intro wq hSw; go_simp; try rfl
    simp only [Act.put, List.setIfInBounds_toArray, List.set_cons_zero, List.set_cons_succ]
    refine take_at 12 (some 66) (v := ?_) rfl rfl (by kernel_rfl) (by kernel_rfl) (by kernel_rfl) (fun _ _ _ h => h) ⟨by rfl, ?_⟩ hS ?_
    rotate_left
    · intro wq hSw; go_simp; try rfl
    simp only [Act.put, List.setIfInBounds_toArray, List.set_cons_zero, List.set_cons_succ]
    refine take_at 13 (some 67) (v := ?_) rfl rfl (by kernel_rfl) (by kernel_rfl) (by kernel_rfl) (fun _ _ _ h => h) ⟨by rfl, ?_⟩ hS ?_
    rotate_left
    · intro wq hSw; go_simp; try rfl
    simp only [Act.put, List.setIfInBounds_toArray, List.set_cons_zero, List.set_cons_succ]
    refine take_at 14 (some 68) (v := ?_) rfl rfl (by kernel_rfl) (by kernel_rfl) (by kernel_rfl) (fun _ _ _ h => h) ⟨by rfl, ?_⟩ hS ?_
    rotate_left
    · intro wq hSw; go_simp; try rfl
    simp only [Act.put, List.setIfInBounds_toArray, List.set_cons_zero, List.set_cons_succ]
    refine take_at 15 (some 69) (v := ?_) rfl rfl (by kernel_rfl) (by kernel_rfl) (by kernel_rfl) (fun _ _ _ h => h) ⟨by rfl, ?_⟩ hS ?_
    rotate_left
    · intro wq hSw; go_simp; try rfl
    simp only [Act.put, List.setIfInBounds_toArray, List.set_cons_zero, List.set_cons_succ]
    refine take_at 16 (some 70) (v := ?_) rfl rfl (by kernel_rfl) (by kernel_rfl) (by kernel_rfl) (fun _ _ _ h => h) ⟨by rfl, ?_⟩ hS ?_
    rotate_left
    · intro wq hSw; go_simp; try rfl
    simp only [Act.put, List.setIfInBounds_toArray, List.set_cons_zero, List.set_cons_succ]
    refine take_at 17 (some 71) (v := ?_) rfl rfl (by kernel_rfl) (by kernel_rfl) (by kernel_rfl) (fun _ _ _ h => h) ⟨by rfl, ?_⟩ hS ?_
    rotate_left
    · intro wq hSw; go_simp; try rfl
    simp only [Act.put, List.setIfInBounds_toArray, List.set_cons_zero, List.set_cons_succ]
    refine take_at 18 (some 72) (v := ?_) rfl rfl (by kernel_rfl) (by kernel_rfl) (by kernel_rfl) (fun _ _ _ h => h) ⟨by rfl, ?_⟩ hS ?_
    rotate_left
    · intro wq hSw; go_simp; try rfl
    simp only [Act.put, List.setIfInBounds_toArray, List.set_cons_zero, List.set_cons_succ]
    refine take_at 19 (some 73) (v := ?_) rfl rfl (by kernel_rfl) (by kernel_rfl) (by kernel_rfl) (fun _ _ _ h => h) ⟨by rfl, ?_⟩ hS ?_
    rotate_left
    · intro wq hSw; go_simp; try rfl
    simp only [Act.put, List.setIfInBounds_toArray, List.set_cons_zero, List.set_cons_succ]
    refine take_at 20 (some 74) (v := ?_) rfl rfl (by kernel_rfl) (by kernel_rfl) (by kernel_rfl) (fun _ _ _ h => h) ⟨by rfl, ?_⟩ hS ?_
    rotate_left
    · intro wq hSw; go_simp; try rfl
    simp only [Act.put, List.setIfInBounds_toArray, List.set_cons_zero, List.set_cons_succ]
    refine take_at 21 (some 75) (v := ?_) rfl rfl (by kernel_rfl) (by kernel_rfl) (by kernel_rfl) (fun _ _ _ h => h) ⟨by rfl, ?_⟩ hS ?_
    rotate_left
    · intro wq hSw; have qq := (Cxb.out.below hSw); obtain ⟨q0, _⟩ := qq.get 0 _ rfl; obtain ⟨q1, _⟩ := qq.get 1 _ rfl; obtain ⟨q2, _⟩ := qq.get 2 _ rfl; obtain ⟨q3, _⟩ := qq.get 3 _ rfl; clear qq; go_simp; try rfl
    simp only [Act.put, List.setIfInBounds_toArray, List.set_cons_zero, List.set_cons_succ]
    refine take_at 23 (some 77) (v := ?_) rfl rfl (by kernel_rfl) (by kernel_rfl) (by kernel_rfl) (fun _ _ _ h => h) ⟨by rfl, ?_⟩ hS ?_
    rotate_left
    · intro wq hSw; have qq := (Czb.out.below hSw); obtain ⟨q0, _⟩ := qq.get 0 _ rfl; obtain ⟨q1, _⟩ := qq.get 1 _ rfl; obtain ⟨q2, _⟩ := qq.get 2 _ rfl; obtain ⟨q3, _⟩ := qq.get 3 _ rfl; clear qq; go_simp; try rfl
    simp only [Act.put, List.setIfInBounds_toArray, List.set_cons_zero, List.set_cons_succ]
    refine wpAnyH_ready (rs := [22]) (by kernel_rfl) (by simp) ?_
    refine AllReadyH.cons rfl (fun K hK => ?_) AllReadyH.nil
    go_simp
    go_wp2_with fail
    refine (KB.out ⟨x1, xc, x2, xd⟩ _).mono ?_
    rintro e v22 ⟨rfl, hh⟩
    go_wp2_with fail
    refine hK.out _ _ (hS.trans (hh.mono hS.size)) (fun hS => ?_)
    clear hK K
    (try simp only [Act.put, List.setIfInBounds_toArray, List.set_cons_zero, List.set_cons_succ])
    refine wpAnyH_ready (rs := [24]) (by kernel_rfl) (by simp) ?_
    refine AllReadyH.cons rfl (fun K hK => ?_) AllReadyH.nil
    go_simp
    go_wp2_with fail
    refine (KS.out _ ⟨x1, xc, x2, xd⟩ ⟨z1, zc, z2, zd⟩ (Ix.out.below hS) (Iz.out.below hS)).mono ?_
    rintro e v24 ⟨rfl, hh⟩
    go_wp2_with fail
    refine hK.out _ _ (hS.trans (hh.mono hS.size)) (fun hS => ?_)
    clear hK K
    (try simp only [Act.put, List.setIfInBounds_toArray, List.set_cons_zero, List.set_cons_succ])
    refine take_at 25 (some 79) (v := ?_) rfl rfl (by kernel_rfl) (by kernel_rfl) (by kernel_rfl) (fun _ _ _ h => h) ⟨by rfl, ?_⟩ hS ?_
    rotate_left
    · intro wq hSw; go_simp; try rfl
    simp only [Act.put, List.setIfInBounds_toArray, List.set_cons_zero, List.set_cons_succ]
    refine take_at 26 (some 80) (v := ?_) rfl rfl (by kernel_rfl) (by kernel_rfl) (by kernel_rfl) (fun _ _ _ h => h) ⟨by rfl, ?_⟩ hS ?_
    rotate_left
    · intro wq hSw; go_simp; try rfl
    simp only [Act.put, List.setIfInBounds_toArray, List.set_cons_zero, List.set_cons_succ]
    refine take_at 27 (some 81) (v := ?_) rfl rfl (by kernel_rfl) (by kernel_rfl) (by kernel_rfl) (fun _ _ _ h => h) ⟨by rfl, ?_⟩ hS ?_
    rotate_left
    · intro wq hSw; have qq := (Cyb.out.below hSw); obtain ⟨q0, _⟩ := qq.get 0 _ rfl; obtain ⟨q1, _⟩ := qq.get 1 _ rfl; obtain ⟨q2, _⟩ := qq.get 2 _ rfl; obtain ⟨q3, _⟩ := qq.get 3 _ rfl; clear qq; go_simp; try rfl
    simp only [Act.put, List.setIfInBounds_toArray, List.set_cons_zero, List.set_cons_succ]
    refine take_at 29 (some 83) (v := ?_) rfl rfl (by kernel_rfl) (by kernel_rfl) (by kernel_rfl) (fun _ _ _ h => h) ⟨by rfl, ?_⟩ hS ?_
    rotate_left
    · intro wq hSw; have qq := (Czb.out.below hSw); obtain ⟨q0, _⟩ := qq.get 0 _ rfl; obtain ⟨q1, _⟩ := qq.get 1 _ rfl; obtain ⟨q2, _⟩ := qq.get 2 _ rfl; obtain ⟨q3, _⟩ := qq.get 3 _ rfl; clear qq; go_simp; try rfl
    simp only [Act.put, List.setIfInBounds_toArray, List.set_cons_zero, List.set_cons_succ]
    refine wpAnyH_ready (rs := [28]) (by kernel_rfl) (by simp) ?_
    refine AllReadyH.cons rfl (fun K hK => ?_) AllReadyH.nil
    go_simp
    go_wp2_with fail
    refine (KB.out ⟨y1, yc, y2, yd⟩ _).mono ?_
    rintro e v28 ⟨rfl, hh⟩
    go_wp2_with fail
    refine hK.out _ _ (hS.trans (hh.mono hS.size)) (fun hS => ?_)
    clear hK K
    (try simp only [Act.put, List.setIfInBounds_toArray, List.set_cons_zero, List.set_cons_succ])
    refine wpAnyH_ready (rs := [30]) (by kernel_rfl) (by simp) ?_
    refine AllReadyH.cons rfl (fun K hK => ?_) AllReadyH.nil
    go_simp
    go_wp2_with fail
    refine (KS.out _ ⟨y1, yc, y2, yd⟩ ⟨z1, zc, z2, zd⟩ (Iy.out.below hS) (Iz.out.below hS)).mono ?_
    rintro e v30 ⟨rfl, hh⟩
    go_wp2_with fail
    refine hK.out _ _ (hS.trans (hh.mono hS.size)) (fun hS => ?_)
    clear hK K
    (try simp only [Act.put, List.setIfInBounds_toArray, List.set_cons_zero, List.set_cons_succ])
    refine take_at 31 (some 85) (v := ?_) rfl rfl (by kernel_rfl) (by kernel_rfl) (by kernel_rfl) (fun _ _ _ h => h) ⟨by rfl, ?_⟩ hS ?_
    rotate_left
    · intro wq hSw; go_simp; try rfl
    simp only [Act.put, List.setIfInBounds_toArray, List.set_cons_zero, List.set_cons_succ]
    refine take_at 32 (some 86) (v := ?_) rfl rfl (by kernel_rfl) (by kernel_rfl) (by kernel_rfl) (fun _ _ _ h => h) ⟨by rfl, ?_⟩ hS ?_
    rotate_left
    · intro wq hSw; go_simp; try rfl
    simp only [Act.put, List.setIfInBounds_toArray, List.set_cons_zero, List.set_cons_succ]
    refine take_at 33 (some 87) (v := ?_) rfl rfl (by kernel_rfl) (by kernel_rfl) (by kernel_rfl) (fun _ _ _ h => h) ⟨by rfl, ?_⟩ hS ?_
    rotate_left
    · intro wq hSw; have qq := (Cob.out.below hSw); obtain ⟨q0, _⟩ := qq.get 0 _ rfl; obtain ⟨q1, _⟩ := qq.get 1 _ rfl; obtain ⟨q2, _⟩ := qq.get 2 _ rfl; obtain ⟨q3, _⟩ := qq.get 3 _ rfl; clear qq; go_simp; try rfl
    simp only [Act.put, List.setIfInBounds_toArray, List.set_cons_zero, List.set_cons_succ]
    refine take_at 34 (some 88) (v := ?_) rfl rfl (by kernel_rfl) (by kernel_rfl) (by kernel_rfl) (fun _ _ _ h => h) ⟨by rfl, ?_⟩ hS ?_
    rotate_left
    · intro wq hSw; have qq := (CP.out.below hSw); obtain ⟨q0, _⟩ := qq.get 0 _ rfl; obtain ⟨q1, _⟩ := qq.get 1 _ rfl; obtain ⟨q2, _⟩ := qq.get 2 _ rfl; obtain ⟨q3, _⟩ := qq.get 3 _ rfl; clear qq; go_simp; try rfl
    simp only [Act.put, List.setIfInBounds_toArray, List.set_cons_zero, List.set_cons_succ]
    refine wpAnyH_ready (rs := [35]) (by kernel_rfl) (by simp) ?_
    refine AllReadyH.cons rfl (fun K hK => ?_) AllReadyH.nil
    go_simp
    go_wp2_with fail
    refine (KK.out _ (LE.out.below hS) (J0.out.below hS)).mono ?_
    rintro e v35 ⟨rfl, hh⟩
    go_wp2_with fail
    refine hK.out _ _ (hS.trans (hh.mono hS.size)) (fun hS => ?_)
    clear hK K
    (try simp only [Act.put, List.setIfInBounds_toArray, List.set_cons_zero, List.set_cons_succ])
    refine take_at 36 (some 90) (v := ?_) rfl rfl (by kernel_rfl) (by kernel_rfl) (by kernel_rfl) (fun _ _ _ h => h) ⟨by rfl, ?_⟩ hS ?_
    rotate_left
    · intro wq hSw; go_simp; try rfl
    simp only [Act.put, List.setIfInBounds_toArray, List.set_cons_zero, List.set_cons_succ]
    refine take_at 37 (some 91) (v := ?_) rfl rfl (by kernel_rfl) (by kernel_rfl) (by kernel_rfl) (fun _ _ _ h => h) ⟨by rfl, ?_⟩ hS ?_
    rotate_left
    · intro wq hSw; go_simp; try rfl
    simp only [Act.put, List.setIfInBounds_toArray, List.set_cons_zero, List.set_cons_succ]
    refine take_at 38 (some 92) (v := ?_) rfl rfl (by kernel_rfl) (by kernel_rfl) (by kernel_rfl) (fun _ _ _ h => h) ⟨by rfl, ?_⟩ hS ?_
    rotate_left
    · intro wq hSw; go_simp; try rfl
    simp only [Act.put, List.setIfInBounds_toArray, List.set_cons_zero, List.set_cons_succ]
    refine take_at 39 (some 93) (v := ?_) rfl rfl (by kernel_rfl) (by kernel_rfl) (by kernel_rfl) (fun _ _ _ h => h) ⟨by rfl, ?_⟩ hS ?_
    rotate_left
    · intro wq hSw; go_simp; try rfl
    simp only [Act.put, List.setIfInBounds_toArray, List.set_cons_zero, List.set_cons_succ]
    refine wpAnyH_ready (rs := [40]) (by kernel_rfl) (by simp) ?_
    refine AllReadyH.cons rfl (fun K hK => ?_) AllReadyH.nil
    go_simp
    go_wp2_with fail
    refine (sameInts_true L n1 l1 nc lc _ (Ln.out.below hS) (Ll.out.below hS) (by have := HLL.out; omega)).mono ?_
    rintro e v40 ⟨rfl, hh⟩
    go_wp2_with fail
    refine hK.out _ _ (hS.trans (hh.mono hS.size)) (fun hS => ?_)
    clear hK K
    (try simp only [Act.put, List.setIfInBounds_toArray, List.set_cons_zero, List.set_cons_succ])
    refine take_at 41 (some 95) (v := ?_) rfl rfl (by kernel_rfl) (by kernel_rfl) (by kernel_rfl) (fun _ _ _ h => h) ⟨by rfl, ?_⟩ hS ?_
    rotate_left
    · intro wq hSw; go_simp; try rfl
    simp only [Act.put, List.setIfInBounds_toArray, List.set_cons_zero, List.set_cons_succ]
    refine take_at 42 (some 96) (v := ?_) rfl rfl (by kernel_rfl) (by kernel_rfl) (by kernel_rfl) (fun _ _ _ h => h) ⟨by rfl, ?_⟩ hS ?_
    rotate_left
    · intro wq hSw; go_simp; try rfl
    simp only [Act.put, List.setIfInBounds_toArray, List.set_cons_zero, List.set_cons_succ]
    refine take_at 43 (some 97) (v := ?_) rfl rfl (by kernel_rfl) (by kernel_rfl) (by kernel_rfl) (fun _ _ _ h => h) ⟨by rfl, ?_⟩ hS ?_
    rotate_left
    · intro wq hSw; go_simp; try rfl
    simp only [Act.put, List.setIfInBounds_toArray, List.set_cons_zero, List.set_cons_succ]
    refine take_at 44 (some 98) (v := ?_) rfl rfl (by kernel_rfl) (by kernel_rfl) (by kernel_rfl) (fun _ _ _ h => h) ⟨by rfl, ?_⟩ hS ?_
    rotate_left
    · intro wq hSw; go_simp; try rfl
    simp only [Act.put, List.setIfInBounds_toArray, List.set_cons_zero, List.set_cons_succ]
    refine wpAnyH_ready (rs := [45]) (by kernel_rfl) (by simp) ?_
    refine AllReadyH.cons rfl (fun K hK => ?_) AllReadyH.nil
    go_simp
    go_wp2_with fail
    refine (sameInts_true L m1 l1 mc lc _ (Lm.out.below hS) (Ll.out.below hS) (by have := HLL.out; omega)).mono ?_
    rintro e v45 ⟨rfl, hh⟩
    go_wp2_with fail
    refine hK.out _ _ (hS.trans (hh.mono hS.size)) (fun hS => ?_)
    clear hK K
    (try simp only [Act.put, List.setIfInBounds_toArray, List.set_cons_zero, List.set_cons_succ])
    refine take_at 46 (some 100) (v := ?_) rfl rfl (by kernel_rfl) (by kernel_rfl) (by kernel_rfl) (fun _ _ _ h => h) ⟨by rfl, ?_⟩ hS ?_
    rotate_left
    · intro wq hSw; go_simp; try rfl
    simp only [Act.put, List.setIfInBounds_toArray, List.set_cons_zero, List.set_cons_succ]
    refine take_at 47 (some 22) (v := ?_) rfl rfl (by kernel_rfl) (by kernel_rfl) (by kernel_rfl) (fun _ _ _ h => h) ⟨by rfl, ?_⟩ hS ?_
    rotate_left
    · intro wq hSw; go_simp; try rfl
    simp only [Act.put, List.setIfInBounds_toArray, List.set_cons_zero, List.set_cons_succ]
    have SS := hide hS
    clear hS
    refine wpAnyH_done (by kernel_rfl) ?_ _
    go_wp2_with fail
    go_meet
    exact ⟨rfl, SS.out⟩
  case rest =>
    obtain ⟨rfl, hb⟩ := hcut
    have Z8 := hide hb.size
    have BW := hide (B0.out.trans (hb.mono B0.out.size))
    have BFn := hide (BF.out.below hb)
    clear BF
    have BF := BFn
    clear BFn
    have CZn := hide (CZ.out.below hb)
    clear CZ
    have CZ := CZn
    clear CZn
    have Cobn := hide (Cob.out.below hb)
    clear Cob
    have Cob := Cobn
    clear Cobn
    have LEn := hide (LE.out.below hb)
    clear LE
    have LE := LEn
    clear LEn
    have Cxbn := hide (Cxb.out.below hb)
    clear Cxb
    have Cxb := Cxbn
    clear Cxbn
    have Cybn := hide (Cyb.out.below hb)
    clear Cyb
    have Cyb := Cybn
    clear Cybn
    have Czbn := hide (Czb.out.below hb)
    clear Czb
    have Czb := Czbn
    clear Czbn
    have Gx1n := hide (GRow.below Gx1.out hb)
    clear Gx1
    have Gx1 := Gx1n
    clear Gx1n
    have Gx2n := hide (GRow.below Gx2.out hb)
    clear Gx2
    have Gx2 := Gx2n
    clear Gx2n
    have Gy1n := hide (GRow.below Gy1.out hb)
    clear Gy1
    have Gy1 := Gy1n
    clear Gy1n
    have Gy2n := hide (GRow.below Gy2.out hb)
    clear Gy2
    have Gy2 := Gy2n
    clear Gy2n
    have Gz1n := hide (GRow.below Gz1.out hb)
    clear Gz1
    have Gz1 := Gz1n
    clear Gz1n
    have Gz2n := hide (GRow.below Gz2.out hb)
    clear Gz2
    have Gz2 := Gz2n
    clear Gz2n
    have Gn1n := hide (GRow.below Gn1.out hb)
    clear Gn1
    have Gn1 := Gn1n
    clear Gn1n
    have Gm1n := hide (GRow.below Gm1.out hb)
    clear Gm1
    have Gm1 := Gm1n
    clear Gm1n
    have Gl1n := hide (GRow.below Gl1.out hb)
    clear Gl1
    have Gl1 := Gl1n
    clear Gl1n
    clear hb B0 JU Ix Iy Iz KB KS KK Ln Lm Ll Gl1 KP KQ KDh KRh CP CR HSZ HRA
    have ZZ := hide (show (w.heap.size = nb ∧ nb + 3 ≤ w0.heap.size) ∧ w0.heap.size ≤ w1.heap.size ∧ w1.heap.size ≤ w2.heap.size ∧ w2.heap.size ≤ w3.heap.size ∧ w3.heap.size ≤ w4.heap.size ∧ w4.heap.size ≤ w5.heap.size ∧ w5.heap.size ≤ w6.heap.size ∧ w6.heap.size ≤ w7.heap.size ∧ w7.heap.size ≤ wc.heap.size from ⟨Z0.out, Z1.out, Z2.out, Z3.out, Z4.out, Z5.out, Z6.out, Z7.out, Z8.out⟩)
    clear Z0 Z1 Z2 Z3 Z4 Z5 Z6 Z7 Z8 Lob Lxb Lyb Lzb
    obtain ⟨f0, -⟩ := Cxb.out.get 0 _ rfl
    obtain ⟨f1, -⟩ := Cxb.out.get 1 _ rfl
    obtain ⟨f2, -⟩ := Cxb.out.get 2 _ rfl
    obtain ⟨f3, -⟩ := Cxb.out.get 3 _ rfl
    go_upto_region 10 with (go_at_call 28; refine (keep_any S b K vs Rs Q.num Q.lsn x1 x2 n1 Q.cs.length Q.gs.length L.length xc xd nc _ _ _ _ BF.out HRS.out (by omega) (GRow.mono Gx1.out (Nat.zero_le _)) (GRow.mono Gx2.out (Nat.zero_le _)) (GRow.mono Gn1.out (Nat.zero_le _)) (by have := HQL.out; omega) (by have := HQL.out; omega) (by have := HLL.out; omega) Ax.out (fun g q z => by have h1 := ZZ.out; have h2 := Ux.out g (.inl q); have h3 := Un.out g z; omega) (fun g q z => by have h1 := ZZ.out; have h2 := Ux.out g (.inr q); have h3 := Un.out g z; omega) (fun g q z => by have h1 := ZZ.out; have h2 := Ux.out g (.inl q); have h3 := BLT.out g z; omega) (fun g q z => by have h1 := ZZ.out; have h2 := Ux.out g (.inr q); have h3 := BLT.out g z; omega) (fun g q z => by have h1 := ZZ.out; have h2 := Un.out g q; have h3 := BLT.out g z; omega)).mono ?_; rintro e k1 ⟨rfl, S1, vs1, Rs1, bk1, hr1, hs1, kp1⟩)
    clear f0 f1 f2 f3
    have T1 := hide (show ∀ g, (S g ∨ ((Value.slice x1 Q.cs.length xc).ownBlock = some g ∨ (Value.slice x2 Q.gs.length xd).ownBlock = some g ∨ (Value.slice n1 L.length nc).ownBlock = some g)) → g < nb ∨ (w1.heap.size ≤ g ∧ g < w2.heap.size) ∨ (w4.heap.size ≤ g ∧ g < w5.heap.size) from fun g q => by rcases q with q | q | q | q; (exact .inl (BLT.out g q)); (exact .inr (.inl (Ux.out g (.inl q)))); (exact .inr (.inl (Ux.out g (.inr q)))); (exact .inr (.inr (Un.out g q))))
    have CZn := hide (CZ.out.keep kp1 (fun z => by have h1 := ZZ.out; have h2 := T1.out _ z; have h3 := ZZ.out; omega))
    clear CZ
    have CZ := CZn
    clear CZn
    have Cobn := hide (Cob.out.keep kp1 (fun z => by have h1 := ZZ.out; have h2 := T1.out _ z; have h3 := N1.out; omega))
    clear Cob
    have Cob := Cobn
    clear Cobn
    have LEn := hide (LE.out.keep kp1 (fun z => by have h1 := ZZ.out; have h2 := T1.out _ z; have h3 := N1.out; omega) (fun z => by have h1 := ZZ.out; have h2 := T1.out _ z; have h3 := N1.out; omega))
    clear LE
    have LE := LEn
    clear LEn
    have Czbn := hide (Czb.out.keep kp1 (fun z => by have h1 := ZZ.out; have h2 := T1.out _ z; have h3 := Yz.out; omega))
    clear Czb
    have Czb := Czbn
    clear Czbn
    have Cybn := hide (Cyb.out.keep kp1 (fun z => by have h1 := ZZ.out; have h2 := T1.out _ z; have h3 := Yy.out; omega))
    clear Cyb
    have Cyb := Cybn
    clear Cybn
    have Gz1n := hide (GRow.keep Gz1.out kp1 (fun g q z => by have h1 := ZZ.out; have h2 := T1.out g z; have h3 := Uz.out g (.inl q); omega))
    clear Gz1
    have Gz1 := Gz1n
    clear Gz1n
    have Gz2n := hide (GRow.keep Gz2.out kp1 (fun g q z => by have h1 := ZZ.out; have h2 := T1.out g z; have h3 := Uz.out g (.inr q); omega))
    clear Gz2
    have Gz2 := Gz2n
    clear Gz2n
    have Gy1n := hide (GRow.keep Gy1.out kp1 (fun g q z => by have h1 := ZZ.out; have h2 := T1.out g z; have h3 := Uy.out g (.inl q); omega))
    clear Gy1
    have Gy1 := Gy1n
    clear Gy1n
    have Gy2n := hide (GRow.keep Gy2.out kp1 (fun g q z => by have h1 := ZZ.out; have h2 := T1.out g z; have h3 := Uy.out g (.inr q); omega))
    clear Gy2
    have Gy2 := Gy2n
    clear Gy2n
    have Gm1n := hide (GRow.keep Gm1.out kp1 (fun g q z => by have h1 := ZZ.out; have h2 := T1.out g z; have h3 := Um.out g q; omega))
    clear Gm1
    have Gm1 := Gm1n
    clear Gm1n
    have BK1 := hide bk1
    have HR1 := hide hr1
    have HS1 := hide hs1
    have KP1 := hide kp1
    have ZK1 := hide kp1.size
    clear bk1 hr1 hs1 kp1 BF Gx1 Gx2 Gn1 Cxb
    have NS1 := hide (show ∀ g, g < wc.heap.size → S1 g → g < nb ∨ (w1.heap.size ≤ g ∧ g < w2.heap.size) ∨ (w4.heap.size ≤ g ∧ g < w5.heap.size) from fun g hg z => T1.out g (HS1.out g hg z))
    obtain ⟨f0, -⟩ := Cyb.out.get 0 _ rfl
    obtain ⟨f1, -⟩ := Cyb.out.get 1 _ rfl
    obtain ⟨f2, -⟩ := Cyb.out.get 2 _ rfl
    obtain ⟨f3, -⟩ := Cyb.out.get 3 _ rfl
    go_upto_region 11 with (go_at_call 28; refine (keep_any S1 b (K + 1) vs1 Rs1 Q.num Q.lsn y1 y2 m1 Q.cs.length Q.gs.length L.length yc yd mc _ _ _ _ BK1.out HR1.out (by omega) (GRow.mono Gy1.out (Nat.zero_le _)) (GRow.mono Gy2.out (Nat.zero_le _)) (GRow.mono Gm1.out (Nat.zero_le _)) (by have := HQL.out; omega) (by have := HQL.out; omega) (by have := HLL.out; omega) Ay.out (fun g q z => by have h1 := ZZ.out; have h2 := Uy.out g (.inl q); have h3 := Um.out g z; omega) (fun g q z => by have h1 := ZZ.out; have h2 := Uy.out g (.inr q); have h3 := Um.out g z; omega) (fun g q z => by have h1 := ZZ.out; have h2 := Uy.out g (.inl q); have h3 := NS1.out g (by omega) z; omega) (fun g q z => by have h1 := ZZ.out; have h2 := Uy.out g (.inr q); have h3 := NS1.out g (by omega) z; omega) (fun g q z => by have h1 := ZZ.out; have h2 := Um.out g q; have h3 := NS1.out g (by omega) z; omega)).mono ?_; rintro e k2 ⟨rfl, S2, vs2, Rs2, bk2, hr2, hs2, kp2⟩)
    clear f0 f1 f2 f3
    have T2 := hide (show ∀ g, (S1 g ∨ ((Value.slice y1 Q.cs.length yc).ownBlock = some g ∨ (Value.slice y2 Q.gs.length yd).ownBlock = some g ∨ (Value.slice m1 L.length mc).ownBlock = some g)) → g < nb ∨ (w1.heap.size ≤ g ∧ g < w2.heap.size) ∨ (w4.heap.size ≤ g ∧ g < w5.heap.size) ∨ (w2.heap.size ≤ g ∧ g < w3.heap.size) ∨ (w5.heap.size ≤ g ∧ g < w6.heap.size) ∨ wc.heap.size ≤ g from fun g q => by have h1 := ZZ.out; rcases q with q | q | q | q; (by_cases hg : g < wc.heap.size; (have := NS1.out g hg q; omega); omega); (have := Uy.out g (.inl q); omega); (have := Uy.out g (.inr q); omega); (have := Um.out g q; omega))
    have CZn := hide (CZ.out.keep kp2 (fun z => by have h1 := ZZ.out; have h2 := T2.out _ z; have h3 := ZZ.out; omega))
    clear CZ
    have CZ := CZn
    clear CZn
    have Cobn := hide (Cob.out.keep kp2 (fun z => by have h1 := ZZ.out; have h2 := T2.out _ z; have h3 := N1.out; omega))
    clear Cob
    have Cob := Cobn
    clear Cobn
    have LEn := hide (LE.out.keep kp2 (fun z => by have h1 := ZZ.out; have h2 := T2.out _ z; have h3 := N1.out; omega) (fun z => by have h1 := ZZ.out; have h2 := T2.out _ z; have h3 := N1.out; omega))
    clear LE
    have LE := LEn
    clear LEn
    have Czbn := hide (Czb.out.keep kp2 (fun z => by have h1 := ZZ.out; have h2 := T2.out _ z; have h3 := Yz.out; omega))
    clear Czb
    have Czb := Czbn
    clear Czbn
    have Gz1n := hide (GRow.keep Gz1.out kp2 (fun g q z => by have h1 := ZZ.out; have h2 := T2.out g z; have h3 := Uz.out g (.inl q); omega))
    clear Gz1
    have Gz1 := Gz1n
    clear Gz1n
    have Gz2n := hide (GRow.keep Gz2.out kp2 (fun g q z => by have h1 := ZZ.out; have h2 := T2.out g z; have h3 := Uz.out g (.inr q); omega))
    clear Gz2
    have Gz2 := Gz2n
    clear Gz2n
    have BK2 := hide bk2
    have HR2 := hide hr2
    have HS2 := hide hs2
    have KS := hide (show Keep (fun g => S g ∨ nb ≤ g) w k2 from (((Keep.of_below (S := fun g => S g ∨ nb ≤ g) BW.out).trans KP1.out (fun g _ z => by rcases z with z | z; (exact .inl z); (have h1 := ZZ.out; have h2 := T1.out g (.inr z); right; rcases z with z | z | z; (have := Ux.out g (.inl z); omega); (have := Ux.out g (.inr z); omega); (have := Un.out g z; omega)))).trans kp2 (fun g hg z => by rcases z with z | z; (have h1 := ZZ.out; rcases HS1.out g (by omega) z with q | q; (exact .inl q); (right; rcases q with q | q | q; (have := Ux.out g (.inl q); omega); (have := Ux.out g (.inr q); omega); (have := Un.out g q; omega))); (right; have h1 := ZZ.out; rcases z with z | z | z; (have := Uy.out g (.inl z); omega); (have := Uy.out g (.inr z); omega); (have := Um.out g z; omega)))))
    have ZK2 := hide kp2.size
    have ZKK := hide (show wc.heap.size ≤ k1.heap.size from ZK1.out)
    have NS2 := hide (show ∀ g, g < wc.heap.size → S2 g → S g ∨ (w1.heap.size ≤ g ∧ g < w2.heap.size) ∨ (w4.heap.size ≤ g ∧ g < w5.heap.size) ∨ (w2.heap.size ≤ g ∧ g < w3.heap.size) ∨ (w5.heap.size ≤ g ∧ g < w6.heap.size) from fun g hg z => by have hk := ZK1.out; rcases HS2.out g (by omega) z with q | q; (rcases HS1.out g hg q with q | q; (exact .inl q); (rcases q with q | q | q; (have := Ux.out g (.inl q); omega); (have := Ux.out g (.inr q); omega); (have := Un.out g q; omega))); (rcases q with q | q | q; (have := Uy.out g (.inl q); omega); (have := Uy.out g (.inr q); omega); (have := Um.out g q; omega)))
    clear bk2 hr2 hs2 kp2 BK1 HR1 HS1 KP1 Gy1 Gy2 Gm1 Cyb NS1 T1 T2 ZK1
    have eu1 : ua = some ⟨g1, 0, none⟩ := LE.out.ta
    have eu2 : ub = some ⟨g2, 0, none⟩ := LE.out.tb
    subst eu1 eu2
    have GMs := hide (show GM k2 32 5 (.slice (some ⟨g1, 0, none⟩) (cs.length + 1) uc) (cs.length + 1) 4 0 from GM.start (GRow.mono LE.out.r1 (Nat.zero_le _)) 4)
    have GMt := hide (show GM k2 69 2 (.slice (some ⟨g2, 0, none⟩) (gs.length + 1) ud) (gs.length + 1) 4 0 from GM.start (GRow.mono LE.out.r2 (Nat.zero_le _)) 4)
    have HNE := hide LE.out.ne
    clear LE
    go_wp2_with fail
    go_loopw [23] (fun vi wr => ∃ k : Nat, vi = .int .i64 (k : Int) ∧ k ≤ cs.length ∧ GM wr 32 5 (.slice (some ⟨g1, 0, none⟩) (cs.length + 1) uc) (cs.length + 1) 4 k ∧ Keep (fun z => z = g1) k2 wr) (fun vi _ => cs.length - (intOf vi).toNat)
    case atStart => exact ⟨0, rfl, Nat.zero_le _, GMs.out, Keep.refl _ _⟩
    case round =>
      obtain ⟨k, rfl, hk, hg, hkp⟩ := hrel
      have PB := hide (Cob.out.keep hkp (fun q => N1.out.1.1 q.symm))
      obtain ⟨pc, -⟩ := PB.out.get 2 _ rfl
      by_cases hlt : k < cs.length
      · obtain ⟨⟨u0, y0⟩, f0, hgl0⟩ := hg.at (i := k) (j := 0) (Nat.lt_succ_of_lt hlt) (by decide)
        obtain ⟨⟨u1, y1⟩, f1, hgl1⟩ := hg.at (i := k) (j := 1) (Nat.lt_succ_of_lt hlt) (by decide)
        obtain ⟨⟨u2, y2⟩, f2, hgl2⟩ := hg.at (i := k) (j := 2) (Nat.lt_succ_of_lt hlt) (by decide)
        obtain ⟨⟨u3, y3⟩, f3, hgl3⟩ := hg.at (i := k) (j := 3) (Nat.lt_succ_of_lt hlt) (by decide)
        obtain ⟨⟨u4, y4⟩, f4, hgl4⟩ := hg.at (i := k) (j := 4) (Nat.lt_succ_of_lt hlt) (by decide)
        change wr.cell? ⟨g1, k * 5, none⟩ = _ at y0
        change wr.frozen? ⟨g1, k * 5, none⟩ = _ at f0
        have h0 := hg
        have OF := hide (((((h0.first (Nat.lt_succ_of_lt hlt) (by decide)).cell (k * 5 + 1) (.int .i64 0) (by omega)).cell (k * 5 + 2) (.int .i64 0) (by omega)).cell (k * 5 + 3) (.int .i64 0) (by omega)).cell (k * 5 + 4) (.int .i64 0) (by omega))
        have MF := hide ((((((hkp).setCell (g := g1) (j := k * 5) (fun _ => rfl) (.int .i64 4)).setCell (g := g1) (j := k * 5 + 1) (fun _ => rfl) (.int .i64 0)).setCell (g := g1) (j := k * 5 + 2) (fun _ => rfl) (.int .i64 0)).setCell (g := g1) (j := k * 5 + 3) (fun _ => rfl) (.int .i64 0)).setCell (g := g1) (j := k * 5 + 4) (fun _ => rfl) (.int .i64 0))
        clear hg hkp h0
        go_wp2_with fail
        go_roundw
        case rel => first | exact ⟨k + 1, by go_num, by omega, OF.out, MF.out⟩ | ((repeat apply Exists.intro); exact ⟨⟨k + 1, by go_num, by omega, OF.out, MF.out⟩, rfl⟩)
        case measure => simp [intOf]; omega
      · obtain rfl : k = cs.length := by omega
        have GMt2 := hide (GMt.out.keep hkp (fun g q z => by simp [Value.ownBlock] at q; exact HNE.out (z.symm.trans q.symm)))
        have Cob2 := PB
        have CZ2 := hide (CZ.out.keep hkp (fun q => by have h1 := ZZ.out; have h3 := N1.out; omega))
        have Czb2 := hide (Czb.out.keep hkp (fun q => by have h1 := ZZ.out; have h2 := N1.out; have h3 := Yz.out; omega))
        have Gz12 := hide (GRow.keep Gz1.out hkp (fun g q z => by have h1 := ZZ.out; have h2 := N1.out; have h3 := Uz.out g (.inl q); omega))
        have Gz22 := hide (GRow.keep Gz2.out hkp (fun g q z => by have h1 := ZZ.out; have h2 := N1.out; have h3 := Uz.out g (.inr q); omega))
        have BK3 := hide (BK2.out.keep hkp (fun g q z => by have h1 := ZZ.out; have h2 := N1.out; rcases NS2.out g (by omega) q with h3 | h3; (have h4 := BLT.out g h3; omega); omega))
        have KS3 := hide (KS.out.trans hkp (fun g _ z => .inr (by have h1 := ZZ.out; have h2 := N1.out; omega)))
        have ZK3 := hide (show k2.heap.size ≤ wr.heap.size from hkp.size)
        obtain ⟨k3, hk3⟩ : ∃ x, x = wr := ⟨_, rfl⟩
        subst hk3
        clear hg hkp PB Cob CZ Czb Gz1 Gz2 BK2 KS GMs GMt
        have Cob := Cob2
        have CZ := CZ2
        have Czb := Czb2
        have Gz1 := Gz12
        have Gz2 := Gz22
        have KS := KS3
        have GMs := GMt2
        clear Cob2 CZ2 Czb2 Gz12 Gz22 KS3 GMt2
        go_wp2_with fail
        go_loopw [24] (fun vi wr => ∃ k : Nat, vi = .int .i64 (k : Int) ∧ k ≤ gs.length ∧ GM wr 69 2 (.slice (some ⟨g2, 0, none⟩) (gs.length + 1) ud) (gs.length + 1) 4 k ∧ Keep (fun z => z = g2) k3 wr) (fun vi _ => gs.length - (intOf vi).toNat)
        case atStart => exact ⟨0, rfl, Nat.zero_le _, GMs.out, Keep.refl _ _⟩
        case round =>
          obtain ⟨k, rfl, hk, hg, hkp⟩ := hrel
          have PB := hide (Cob.out.keep hkp (fun q => N1.out.1.2 q.symm))
          obtain ⟨pc, -⟩ := PB.out.get 3 _ rfl
          by_cases hlt : k < gs.length
          · obtain ⟨⟨u0, y0⟩, f0, hgl0⟩ := hg.at (i := k) (j := 0) (Nat.lt_succ_of_lt hlt) (by decide)
            obtain ⟨⟨u1, y1⟩, f1, hgl1⟩ := hg.at (i := k) (j := 1) (Nat.lt_succ_of_lt hlt) (by decide)
            change wr.cell? ⟨g2, k * 2, none⟩ = _ at y0
            change wr.frozen? ⟨g2, k * 2, none⟩ = _ at f0
            have h0 := hg
            have OF := hide ((h0.first (Nat.lt_succ_of_lt hlt) (by decide)).cell (k * 2 + 1) (.int .i64 0) (by omega))
            have MF := hide (((hkp).setCell (g := g2) (j := k * 2) (fun _ => rfl) (.int .i64 4)).setCell (g := g2) (j := k * 2 + 1) (fun _ => rfl) (.int .i64 0))
            clear hg hkp h0
            go_wp2_with fail
            go_roundw
            case rel => first | exact ⟨k + 1, by go_num, by omega, OF.out, MF.out⟩ | ((repeat apply Exists.intro); exact ⟨⟨k + 1, by go_num, by omega, OF.out, MF.out⟩, rfl⟩)
            case measure => simp [intOf]; omega
          · obtain rfl : k = gs.length := by omega
            have CZ2 := hide (CZ.out.keep hkp (fun q => by have h1 := ZZ.out; have h3 := N1.out; omega))
            have Czb2 := hide (Czb.out.keep hkp (fun q => by have h1 := ZZ.out; have h2 := N1.out; have h3 := Yz.out; omega))
            have Gz12 := hide (GRow.keep Gz1.out hkp (fun g q z => by have h1 := ZZ.out; have h2 := N1.out; have h3 := Uz.out g (.inl q); omega))
            have Gz22 := hide (GRow.keep Gz2.out hkp (fun g q z => by have h1 := ZZ.out; have h2 := N1.out; have h3 := Uz.out g (.inr q); omega))
            have BK4 := hide (BK3.out.keep hkp (fun g q z => by have h1 := ZZ.out; have h2 := N1.out; rcases NS2.out g (by omega) q with h3 | h3; (have h4 := BLT.out g h3; omega); omega))
            have KS3 := hide (KS.out.trans hkp (fun g _ z => .inr (by have h1 := ZZ.out; have h2 := N1.out; omega)))
            have ZK4 := hide (show k3.heap.size ≤ wr.heap.size from hkp.size)
            clear hg hkp PB Cob CZ Czb Gz1 Gz2 BK3 KS GMs
            obtain ⟨f0, -⟩ := Czb2.out.get 0 _ rfl
            obtain ⟨f1, -⟩ := Czb2.out.get 1 _ rfl
            obtain ⟨f2, -⟩ := Czb2.out.get 2 _ rfl
            obtain ⟨f3, -⟩ := Czb2.out.get 3 _ rfl
            obtain ⟨y0, z0⟩ := CZ2.out.get 0 _ rfl
            obtain ⟨y1, zz1⟩ := CZ2.out.get 1 _ rfl
            obtain ⟨y2, zz2⟩ := CZ2.out.get 2 _ rfl
            obtain ⟨y3, zz3⟩ := CZ2.out.get 3 _ rfl
            go_wp2_with fail
            refine named (P := fun w2 => bodyPost _ _ _ _ _ w2) ?_
            intro wF hwF
            have KF := ((((Keep.refl (fun i => i = nb + 1 + 1) wr).setCell (g := nb + 1 + 1) (j := 0) (fun _ => rfl) (.int .i64 Q.num)).setCell (g := nb + 1 + 1) (j := 1) (fun _ => rfl) (.int .i64 Q.lsn)).setCell (g := nb + 1 + 1) (j := 2) (fun _ => rfl) (.slice z1 Q.cs.length zc)).setCell (g := nb + 1 + 1) (j := 3) (fun _ => rfl) (.slice z2 Q.gs.length zd)
            have CF := (((CZ2.out.stored (j := 0) (by simp) (.int .i64 Q.num)).stored (j := 1) (by simp) (.int .i64 Q.lsn)).stored (j := 2) (by simp) (.slice z1 Q.cs.length zc)).stored (j := 3) (by simp) (.slice z2 Q.gs.length zd)
            rw [show nb + 2 = nb + 1 + 1 from rfl, ← hwF] at CF
            rw [← hwF] at KF
            obtain ⟨j0, -⟩ := CF.get 0 _ rfl
            obtain ⟨j1, -⟩ := CF.get 1 _ rfl
            obtain ⟨j2, -⟩ := CF.get 2 _ rfl
            obtain ⟨j3, -⟩ := CF.get 3 _ rfl
            refine bodyPost_ret (v := .tuple #[.agg #[.int .i64 Q.num, .int .i64 Q.lsn, .slice z1 Q.cs.length zc, .slice z2 Q.gs.length zd], .int .i64 E, .bool true]) (by simp [results, Try.results18, go_sem, j0, j1, j2, j3]) rfl ?_
            obtain ⟨hD, hE, hQ⟩ := HEQ.out
            subst hE hQ
            refine ⟨S2, vs2, Rs2, z1, zc, z2, zd, rfl, BK4.out.keep KF (fun g q z => by have h1 := ZZ.out; rcases NS2.out g (by omega) q with h3 | h3; (have h4 := BLT.out g h3; omega); omega), HR2.out, fun g hg q => ?_, (KS3.out.trans KF (fun g _ z => .inr (by omega))).mono (fun g hg q => ?_), pin2 (GRow.keep Gz12.out KF (fun g q z => by have h1 := ZZ.out; have h3 := Uz.out g (.inl q); omega)) (GRow.keep Gz22.out KF (fun g q z => by have h1 := ZZ.out; have h3 := Uz.out g (.inr q); omega)), fun g q => ?_⟩
            · have h1 := ZZ.out
              rcases NS2.out g (by omega) q with h3 | h3
              · exact h3
              · omega
            · have h1 := ZZ.out
              rcases q with q | q
              · exact q
              · omega
            · have h1 := ZZ.out
              have h3 := Uz.out g q
              have h4 := KF.size
              have h5 := ZK4.out
              have h6 := ZK3.out
              have h7 := ZK2.out
              have h8 := ZKK.out
              refine ⟨by omega, by omega, fun z => ?_⟩
              rcases NS2.out g (by omega) z with q3 | q3
              · have := BLT.out g q3; omega
              · omega
end Go.Proofs.Ytoocbpbaieedmaa
