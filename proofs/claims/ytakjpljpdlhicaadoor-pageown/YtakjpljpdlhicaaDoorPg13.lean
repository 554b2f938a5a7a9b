import Derived.Test.YtakjpljpdlhicaaDoorPg9
import Derived.Test.YtakjpljpdlhicaaDoorPg10
namespace Go.Proofs.YtakjpljpdlhicaaDoor
open Go.RowKit Go.QK Go.Pg
set_option maxRecDepth 100000

theorem zs_split {a b : Nat} (h : a ≤ b) : zs b = zs a ++ zs (b - a) := by unfold zs; rw [List.replicate_append_replicate]; congr 1; omega
theorem layC (g B n u0 u1 u2 u3 u4 : Nat) (pre : List Nat) (w5 : World) (sa na : Nat) (ho : OwnB w5 B (.slice (some ⟨g, 0, none⟩) 1024 1024) (pre ++ zs n)) (hs : Seen .i64 w5 (some ⟨sa, 0, none⟩) (ints ctrS)) (hu : Seen .u64 w5 (some ⟨na, 0, none⟩) (ints [u0, u1, u2, u3, u4])) (hsa : sa ≠ g) (hna : na ≠ g) (hf : FitN ctrS [u0, u1, u2, u3, u4]) (hn : 32 ≤ n) (hn2 : n ≤ 1024) :
    Calls Tryd.prog 55 #[.slice (some ⟨g, pre.length, none⟩) n n, .slice (some ⟨sa, 0, none⟩) 5 5, .slice (some ⟨na, 0, none⟩) 5 5] w5 fun e w' => ∃ a', e = .returned (.slice a' (n - 32) (n - 32)) ∧ (0 < n - 32 → a' = some ⟨g, pre.length + 32, none⟩) ∧ OwnB w' B (.slice (some ⟨g, 0, none⟩) 1024 1024) (pre ++ numsB ctrS [u0, u1, u2, u3, u4] ++ zs (n - 32)) ∧ Keep (fun k => k = g) w5 w' := by
  rw [zs_split hn, ← List.append_assoc] at ho
  have q := lay_any g 1024 1024 B n n (some ⟨g, pre.length, none⟩) (some ⟨sa, 0, none⟩) (some ⟨na, 0, none⟩) 5 5 ctrS [u0, u1, u2, u3, u4] pre (zs 32) (zs (n - 32)) w5 ho (by simp; omega) (by omega) (by omega) (fun _ => rfl) hs hu
      (by intro ad q; cases q; exact hsa) (by intro ad q; cases q; exact hna) hf sizesC (by decide) (by simp; rfl)
  rw [zs_length] at q
  exact q
theorem layG (g B n u0 u1 : Nat) (pre : List Nat) (w5 : World) (sa na : Nat) (ho : OwnB w5 B (.slice (some ⟨g, 0, none⟩) 1024 1024) (pre ++ zs n)) (hs : Seen .i64 w5 (some ⟨sa, 0, none⟩) (ints grpS)) (hu : Seen .u64 w5 (some ⟨na, 0, none⟩) (ints [u0, u1])) (hsa : sa ≠ g) (hna : na ≠ g) (hf : FitN grpS [u0, u1]) (hn : 12 ≤ n) (hn2 : n ≤ 1024) :
    Calls Tryd.prog 55 #[.slice (some ⟨g, pre.length, none⟩) n n, .slice (some ⟨sa, 0, none⟩) 2 2, .slice (some ⟨na, 0, none⟩) 2 2] w5 fun e w' => ∃ a', e = .returned (.slice a' (n - 12) (n - 12)) ∧ (0 < n - 12 → a' = some ⟨g, pre.length + 12, none⟩) ∧ OwnB w' B (.slice (some ⟨g, 0, none⟩) 1024 1024) (pre ++ numsB grpS [u0, u1] ++ zs (n - 12)) ∧ Keep (fun k => k = g) w5 w' := by
  rw [zs_split hn, ← List.append_assoc] at ho
  have q := lay_any g 1024 1024 B n n (some ⟨g, pre.length, none⟩) (some ⟨sa, 0, none⟩) (some ⟨na, 0, none⟩) 2 2 grpS [u0, u1] pre (zs 12) (zs (n - 12)) w5 ho (by simp; omega) (by omega) (by omega) (fun _ => rfl) hs hu
      (by intro ad q; cases q; exact hsa) (by intro ad q; cases q; exact hna) hf sizesG (by decide) (by simp; rfl)
  rw [zs_length] at q
  exact q

/-- What stands while a page is laid. -/
structure Lay (w ws : World) (G0 G1 g B : Nat) (box head : List Value) (l : List Nat) : Prop where
  box : Cells ws G0 box
  head : Cells ws G1 head
  own : OwnB ws B (.slice (some ⟨g, 0, none⟩) 1024 1024) l
  keep : Keep (fun k => k = g) w ws
theorem Lay.below {w ws w' : World} {G0 G1 g B : Nat} {box head : List Value} {l : List Nat} (h : Lay w ws G0 G1 g B box head l) (b : Below ws.heap.size ws w') : Lay w w' G0 G1 g B box head l :=
  ⟨h.box.below b, h.head.below b, Owns.below h.own b, h.keep.then_below b⟩
theorem Lay.on {w ws w' : World} {G0 G1 g B : Nat} {box head : List Value} {l m : List Nat} (h : Lay w ws G0 G1 g B box head l) (k : Keep (fun k => k = g) ws w') (o : OwnB w' B (.slice (some ⟨g, 0, none⟩) 1024 1024) m) (h0 : G0 ≠ g) (h1 : G1 ≠ g) : Lay w w' G0 G1 g B box head m :=
  ⟨h.box.keep k h0, h.head.keep k h1, o, h.keep.trans k (fun _ _ q => q)⟩

set_option maxHeartbeats 16000000 in
theorem layPage_any (p : PageM) (t : At) (g B : Nat) (w0 w : World) (h : PageIn w0 p t) (hb0 : Below w0.heap.size w0 w) (hg0 : w0.heap.size ≤ g) (hck : checkE p = 0) (hne : isEmpty p = false) (ht : Tab w) (hg2 : 2 ≠ g) (ho : OwnB w B (.slice (some ⟨g, 0, none⟩) 1024 1024) (zs 1024)) :
    Calls Tryd.prog 33 #[.slice (some ⟨g, 0, none⟩) 1024 1024, pageV p t] w fun e w' => e = .returned (.tuple #[]) ∧ OwnB w' B (.slice (some ⟨g, 0, none⟩) 1024 1024) (encB p) ∧ Keep (fun k => k = g) w w' := by
  have hgl : g < w.heap.size := (World.ownsRow.lt ho g rfl).2
  obtain ⟨h1, h2, h3, h4, h5, h6, h7⟩ := checkE_zero hck
  obtain ⟨zc, zg⟩ := slotsE_zero h7
  have HO := fun w => headOf_any p t w (by omega) (by omega)
  have hfit0 := headB_fit hck (s := 0) (by decide)
  have hfitS := fun s hs => headB_fit hck (s := s) hs
  have eenc : encB p = headB p (psum (headB p 0 ++ restB p)) ++ restB p := by unfold encB; rw [hne]; rfl
  have hrl := restB_length (body_le hck)
  have hps : psum (headB p 0 ++ restB p) < 4294967296 := psum_lt ((headB_bytes p 0).append (restB_bytes p))
  have habs : AllB (headB p 0 ++ restB p) := (headB_bytes p 0).append (restB_bytes p)
  have hbody : 32 * p.cs.length + 12 * p.gs.length ≤ 1008 := by have := body_le hck; simpa [bodyB] using this
  have hH : ∀ s, headB p s = numsB headS [113, kindOf p, un p.num, countOf p, 0, un p.lsn, s] := fun _ => rfl
  have hrest : restB p = (ctrsB p.cs ++ grpsB p.gs) ++ zs (1008 - 32 * p.cs.length - 12 * p.gs.length) := by
    unfold restB bodyB
    congr 2
    simp
    omega
  have hf7 : ∀ s, headN p s = [113, kindOf p, un p.num, countOf p, 0, un p.lsn, s] := fun _ => rfl
  obtain ⟨ENC, hENC⟩ : ∃ e, e = encB p := ⟨_, rfl⟩
  obtain ⟨SUM, hSUM⟩ : ∃ e, e = psum (headB p 0 ++ restB p) := ⟨_, rfl⟩
  obtain ⟨RB, hRB⟩ : ∃ e, e = restB p := ⟨_, rfl⟩
  obtain ⟨HB0, hHB0⟩ : ∃ e, e = headB p 0 := ⟨_, rfl⟩
  obtain ⟨HBS, hHBS⟩ : ∃ e, e = headB p SUM := ⟨_, rfl⟩
  rw [← hENC]
  have eE : ENC = HBS ++ RB := by rw [hENC, hHBS, hSUM, hRB]; exact eenc
  rw [← hRB] at hrl hrest habs hps hSUM
  rw [← hHB0] at habs hps hSUM
  have hl0 : HB0.length = 16 := by rw [hHB0]; simp
  have f0 := hfit0
  have fS := hfitS SUM (by rw [hSUM]; exact hps)
  rw [hf7] at f0 fS
  have l0 : numsB headS [113, kindOf p, un p.num, countOf p, 0, un p.lsn, 0] = HB0 := by rw [hHB0]; rfl
  have lS : numsB headS [113, kindOf p, un p.num, countOf p, 0, un p.lsn, SUM] = HBS := by rw [hHBS]; rfl
  have hS32 : SUM < 4294967296 := by rw [hSUM]; exact hps
  have HPS := hide hSUM
  have HEE := hide eE
  have HRB := hide hrest
  have HRL := hide hrl
  have HAB := hide habs
  have HL0 := hide hl0
  have L0 := hide l0
  have LS := hide lS
  have F0 := hide f0
  have FSm := hide fS
  have hcs := h.cs
  have hgs := h.gs
  clear hSUM eE hrest hrl habs hps hl0 l0 lS f0 fS hENC hRB hHB0 hHBS hH hf7 hfit0 hfitS eenc hne hck h h6 h7
  obtain ⟨num, lsn, cs, gs⟩ := p
  obtain ⟨ta, tc, tb, td⟩ := t
  simp only [pageV] at *
  generalize kindOf ⟨num, lsn, cs, gs⟩ = kd at *
  generalize countOf ⟨num, lsn, cs, gs⟩ = ct at *
  generalize un num = unum at *
  generalize un lsn = ulsn at *
  have HCS := hide hcs
  have HGS := hide hgs
  have ZC := hide zc
  have ZG := hide zg
  have HT := hide ht
  have HBD := hide hbody
  have e0 : IntKind.u64.wrap (SUM : Int) = (SUM : Int) := by rw [IntKind.wrap_u64]; omega
  obtain ⟨w2, hw2⟩ : ∃ w2, w2 = w.alloc (.cells #[.int .i64 num, .int .i64 lsn, .slice ta cs.length tc, .slice tb gs.length td] 27) := ⟨_, rfl⟩
  have b2 : Below w.heap.size w w2 := by rw [hw2]; exact alloc_below _ _
  have c2 : Cells w2 w.heap.size [.int .i64 num, .int .i64 lsn, .slice ta cs.length tc, .slice tb gs.length td] := by rw [hw2]; exact Cells.new w _ _
  have o2 := Owns.below ho b2
  have HW := hide hw2
  clear hw2 hcs hgs zc zg ht hbody ho
  go_enter Tryd.func33, Tryd.ntmps33
  go_upto_region 1 with fail
  rw [← HW.out]
  obtain ⟨g0, x0⟩ := c2.get 0 _ rfl
  obtain ⟨g1, x1⟩ := c2.get 1 _ rfl
  obtain ⟨g2, x2⟩ := c2.get 2 _ rfl
  obtain ⟨g3, x3⟩ := c2.get 3 _ rfl
  go_wp2_with fail
  refine (HO _).mono ?_
  rintro e w3 ⟨rfl, b3⟩
  clear g0 g1 g2 g3 x0 x1 x2 x3
  obtain ⟨w4, hw4⟩ : ∃ w4, w4 = w3.alloc (.cells #[.int .u64 113, .int .u64 (kd : Int), .int .u64 (unum : Int), .int .u64 (ct : Int), .int .u64 0, .int .u64 (ulsn : Int), .int .u64 0] 65) := ⟨_, rfl⟩
  have b4 : Below w3.heap.size w3 w4 := by rw [hw4]; exact alloc_below _ _
  have c4 : Cells w4 w3.heap.size [.int .u64 113, .int .u64 (kd : Int), .int .u64 (unum : Int), .int .u64 (ct : Int), .int .u64 0, .int .u64 (ulsn : Int), .int .u64 0] := by rw [hw4]; exact Cells.new w3 _ _
  have z3 := b3.size
  have z2 : w.heap.size < w2.heap.size := c2.1
  have n0 : w.heap.size ≠ g := by omega
  have n1 : w3.heap.size ≠ g := by omega
  have nw : w.heap.size < w3.heap.size := by omega
  have ly0 : Lay w w4 w.heap.size w3.heap.size g B [.int .i64 num, .int .i64 lsn, .slice ta cs.length tc, .slice tb gs.length td] [.int .u64 113, .int .u64 (kd : Int), .int .u64 (unum : Int), .int .u64 (ct : Int), .int .u64 0, .int .u64 (ulsn : Int), .int .u64 0] (zs 1024) :=
    ⟨(c2.below b3).below b4, c4, Owns.below (Owns.below o2 b3) b4, ((Keep.of_below b2).then_below b3).then_below b4⟩
  have LY0 := hide ly0
  have N0 := hide n0
  have N1 := hide n1
  have HW4 := hide hw4
  obtain ⟨G1, hG1⟩ : ∃ G1, G1 = w3.heap.size := ⟨_, rfl⟩
  rw [← hG1] at LY0 N1 nw
  have NW := hide nw
  clear nw
  have HG1 := hide hG1
  clear hw4 b4 c4 z3 z2 n0 n1 ly0 o2 c2 b2 b3 hG1
  go_upto_region 2 with fail
  rw [← HW4.out, ← HG1.out]
  clear HW4 HG1
  have hz := zs_split (a := 16) (b := 1024) (by decide)
  have O4 := LY0.out.own
  rw [hz] at O4
  obtain ⟨g0, x0⟩ := LY0.out.head.get 0 _ rfl
  obtain ⟨g1, x1⟩ := LY0.out.head.get 1 _ rfl
  obtain ⟨g2, x2⟩ := LY0.out.head.get 2 _ rfl
  obtain ⟨g3, x3⟩ := LY0.out.head.get 3 _ rfl
  obtain ⟨g4, x4⟩ := LY0.out.head.get 4 _ rfl
  obtain ⟨g5, x5⟩ := LY0.out.head.get 5 _ rfl
  obtain ⟨g6, x6⟩ := LY0.out.head.get 6 _ rfl
  go_wp2_with fail
  refine (layHead_any g B 113 kd unum ct 0 ulsn 0 (zs 16) (zs 1008) w4 O4 (by simp) (by simp) F0.out).mono ?_
  rintro e w5 ⟨rfl, o5, k5⟩
  rw [L0.out] at o5
  have LY := hide (LY0.out.on k5 o5 N0.out N1.out)
  clear o5 k5 O4 hz g0 g1 g2 g3 g4 g5 g6 x0 x1 x2 x3 x4 x5 x6 LY0
  obtain ⟨g2, x2⟩ := LY.out.box.get 2 _ rfl
  go_wp2_with fail
  go_loopw [5, 18] (fun bv i ws => ∃ (k : Nat) (a5 : Option Addr), i = .int .i64 (k : Int) ∧ k ≤ cs.length ∧ bv = .slice a5 (1008 - 32 * k) (1008 - 32 * k) ∧ (0 < 1008 - 32 * k → a5 = some ⟨g, 16 + 32 * k, none⟩) ∧
    Lay w ws w.heap.size G1 g B [.int .i64 num, .int .i64 lsn, .slice ta cs.length tc, .slice tb gs.length td] [.int .u64 113, .int .u64 (kd : Int), .int .u64 (unum : Int), .int .u64 (ct : Int), .int .u64 0, .int .u64 (ulsn : Int), .int .u64 0] (HB0 ++ ctrsB (cs.take k) ++ zs (1008 - 32 * k))) (fun _ i _ => cs.length - (intOf i).toNat)
  case atStart => exact ⟨0, some ⟨g, 16, none⟩, rfl, Nat.zero_le _, rfl, fun _ => rfl, by simpa [ctrsB] using LY.out⟩
  case round =>
    obtain ⟨k, a5, rfl, hk, rfl, ha5, hlay⟩ := hrel
    by_cases hlt : k < cs.length
    · obtain ⟨b, off, rfl, hbl, hcell⟩ := Lies.rowAt ctrC 5 ctrC_length (Lies.below HCS.out (hb0.trans (hlay.keep.below hb0.size (fun k hk q => by omega)))) k hlt (by decide)
      have hbd := HBD.out
      have ha := ha5 (by omega)
      subst ha
      have hok := ZC.out cs[k] (List.getElem_mem hlt)
      have hfit := ctrFit hok
      have hsn := ctrsB_snoc (cs.take k) cs[k]
      rw [← List.take_succ_eq_append_getElem hlt] at hsn
      have hpl : (HB0 ++ ctrsB (cs.take k)).length = 16 + 32 * k := by
        rw [List.length_append, HL0.out, ctrsB_length, List.length_take, Nat.min_eq_left (by omega)]
      generalize hck : cs[k] = ck at *
      obtain ⟨id, grp, lo, hi, val⟩ := ck
      have y0 := hcell 0 _ rfl
      have y1 := hcell 1 _ rfl
      have y2 := hcell 2 _ rfl
      have y3 := hcell 3 _ rfl
      have y4 := hcell 4 _ rfl
      rw [Nat.add_zero] at y0
      simp only [ctrB, ctrN] at hsn hfit
      have e1 := wrap_un id
      have e2 := wrap_un grp
      have e3 := wrap_un lo
      have e4 := wrap_un hi
      have e5 := wrap_un val
      generalize un id = u0 at *
      generalize un grp = u1 at *
      generalize un lo = u2 at *
      generalize un hi = u3 at *
      generalize un val = u4 at *
      have HSN := hide hsn
      have HFT := hide hfit
      have HPL := hide hpl
      have LYk := hide hlay
      have HBD2 := hide hbd
      have HG := hide (World.ownsRow.lt hlay.own g rfl).2
      clear hsn hfit hpl hlay hok hck hcell ha5 hbd hbl
      go_upto_region 6 with fail
      refine named (P := Code.wp _ _ _ _) ?_
      intro w6 hw6
      have b6 : Below wr.heap.size wr w6 := by rw [hw6]; exact alloc_below _ _
      have c6 : Cells w6 wr.heap.size [.int .i64 id, .int .i64 grp, .int .i64 lo, .int .i64 hi, .int .i64 val] := by rw [hw6]; exact Cells.new wr _ _
      have n6 : wr.heap.size ≠ g := by have := HG.out; omega
      have LY6 := hide (LYk.out.below b6)
      have N6 := hide n6
      obtain ⟨G2, hG2⟩ : ∃ G2, G2 = wr.heap.size := ⟨_, rfl⟩
      rw [← hG2] at c6 N6 ⊢
      have C6 := hide c6
      obtain ⟨t0, -⟩ := c6.get 0 _ rfl
      obtain ⟨t1, -⟩ := c6.get 1 _ rfl
      obtain ⟨t2, -⟩ := c6.get 2 _ rfl
      obtain ⟨t3, -⟩ := c6.get 3 _ rfl
      obtain ⟨t4, -⟩ := c6.get 4 _ rfl
      refine wp_region_held_drew (S := fun wq => wq.cell? ⟨G2, 0, none⟩ = some (.int .i64 id) ∧ wq.cell? ⟨G2, 1, none⟩ = some (.int .i64 grp) ∧ wq.cell? ⟨G2, 2, none⟩ = some (.int .i64 lo) ∧ wq.cell? ⟨G2, 3, none⟩ = some (.int .i64 hi) ∧ wq.cell? ⟨G2, 4, none⟩ = some (.int .i64 val)) (by kernel_rfl) ⟨t0, t1, t2, t3, t4⟩ (fun hS => ?_)
      have C6 := hide (C6.out.drew)
      have LY6 := hide (LY6.out.below (Below.refl _ _).drew)
      clear t0 t1 t2 t3 t4 c6 b6 hw6 hG2 n6 y0 y1 y2 y3 y4 LYk HG
      generalize w6.drew = w7 at *
      refine take_at 0 (some 22) (v := ?_) rfl rfl (by kernel_rfl) (by kernel_rfl) (by kernel_rfl) (fun _ _ _ h => h) ⟨by rfl, ?_⟩ hS ?_
      rotate_left
      · intro wq hSw; go_simp; try rfl
      simp only [Act.put, List.setIfInBounds_toArray, List.set_cons_zero, List.set_cons_succ]
      refine take_at 2 (some 24) (v := ?_) rfl rfl (by kernel_rfl) (by kernel_rfl) (by kernel_rfl) (fun _ _ _ h => h) ⟨by rfl, ?_⟩ hS ?_
      rotate_left
      · intro wq hSw; go_simp; try rfl
      simp only [Act.put, List.setIfInBounds_toArray, List.set_cons_zero, List.set_cons_succ]
      refine take_at 3 (some 25) (v := ?_) rfl rfl (by kernel_rfl) (by kernel_rfl) (by kernel_rfl) (fun _ _ _ h => h) ⟨by rfl, ?_⟩ hS ?_
      rotate_left
      · intro wq hSw; obtain ⟨r0, r1, r2, r3, r4⟩ := hSw; go_simp; try rfl
      simp only [Act.put, List.setIfInBounds_toArray, List.set_cons_zero, List.set_cons_succ]
      refine take_at 4 (some 26) (v := ?_) rfl rfl (by kernel_rfl) (by kernel_rfl) (by kernel_rfl) (fun _ _ _ h => h) ⟨by rfl, ?_⟩ hS ?_
      rotate_left
      · intro wq hSw; go_simp; try rfl
      simp only [Act.put, List.setIfInBounds_toArray, List.set_cons_zero, List.set_cons_succ]
      refine take_at 5 (some 27) (v := ?_) rfl rfl (by kernel_rfl) (by kernel_rfl) (by kernel_rfl) (fun _ _ _ h => h) ⟨by rfl, ?_⟩ hS ?_
      rotate_left
      · intro wq hSw; go_simp; try rfl
      simp only [Act.put, List.setIfInBounds_toArray, List.set_cons_zero, List.set_cons_succ]
      refine take_at 6 (some 28) (v := ?_) rfl rfl (by kernel_rfl) (by kernel_rfl) (by kernel_rfl) (fun _ _ _ h => h) ⟨by rfl, ?_⟩ hS ?_
      rotate_left
      · intro wq hSw; obtain ⟨r0, r1, r2, r3, r4⟩ := hSw; go_simp; try rfl
      simp only [Act.put, List.setIfInBounds_toArray, List.set_cons_zero, List.set_cons_succ]
      refine take_at 7 (some 29) (v := ?_) rfl rfl (by kernel_rfl) (by kernel_rfl) (by kernel_rfl) (fun _ _ _ h => h) ⟨by rfl, ?_⟩ hS ?_
      rotate_left
      · intro wq hSw; go_simp; try rfl
      simp only [Act.put, List.setIfInBounds_toArray, List.set_cons_zero, List.set_cons_succ]
      refine take_at 8 (some 30) (v := ?_) rfl rfl (by kernel_rfl) (by kernel_rfl) (by kernel_rfl) (fun _ _ _ h => h) ⟨by rfl, ?_⟩ hS ?_
      rotate_left
      · intro wq hSw; go_simp; try rfl
      simp only [Act.put, List.setIfInBounds_toArray, List.set_cons_zero, List.set_cons_succ]
      refine take_at 9 (some 31) (v := ?_) rfl rfl (by kernel_rfl) (by kernel_rfl) (by kernel_rfl) (fun _ _ _ h => h) ⟨by rfl, ?_⟩ hS ?_
      rotate_left
      · intro wq hSw; go_simp; try rfl
      simp only [Act.put, List.setIfInBounds_toArray, List.set_cons_zero, List.set_cons_succ]
      refine take_at 10 (some 32) (v := ?_) rfl rfl (by kernel_rfl) (by kernel_rfl) (by kernel_rfl) (fun _ _ _ h => h) ⟨by rfl, ?_⟩ hS ?_
      rotate_left
      · intro wq hSw; obtain ⟨r0, r1, r2, r3, r4⟩ := hSw; go_simp; try rfl
      simp only [Act.put, List.setIfInBounds_toArray, List.set_cons_zero, List.set_cons_succ]
      refine take_at 11 (some 33) (v := ?_) rfl rfl (by kernel_rfl) (by kernel_rfl) (by kernel_rfl) (fun _ _ _ h => h) ⟨by rfl, ?_⟩ hS ?_
      rotate_left
      · intro wq hSw; go_simp; try rfl
      simp only [Act.put, List.setIfInBounds_toArray, List.set_cons_zero, List.set_cons_succ]
      refine take_at 12 (some 34) (v := ?_) rfl rfl (by kernel_rfl) (by kernel_rfl) (by kernel_rfl) (fun _ _ _ h => h) ⟨by rfl, ?_⟩ hS ?_
      rotate_left
      · intro wq hSw; go_simp; try rfl
      simp only [Act.put, List.setIfInBounds_toArray, List.set_cons_zero, List.set_cons_succ]
      refine take_at 13 (some 35) (v := ?_) rfl rfl (by kernel_rfl) (by kernel_rfl) (by kernel_rfl) (fun _ _ _ h => h) ⟨by rfl, ?_⟩ hS ?_
      rotate_left
      · intro wq hSw; go_simp; try rfl
      simp only [Act.put, List.setIfInBounds_toArray, List.set_cons_zero, List.set_cons_succ]
      refine take_at 14 (some 36) (v := ?_) rfl rfl (by kernel_rfl) (by kernel_rfl) (by kernel_rfl) (fun _ _ _ h => h) ⟨by rfl, ?_⟩ hS ?_
      rotate_left
      · intro wq hSw; obtain ⟨r0, r1, r2, r3, r4⟩ := hSw; go_simp; try rfl
      simp only [Act.put, List.setIfInBounds_toArray, List.set_cons_zero, List.set_cons_succ]
      refine take_at 15 (some 37) (v := ?_) rfl rfl (by kernel_rfl) (by kernel_rfl) (by kernel_rfl) (fun _ _ _ h => h) ⟨by rfl, ?_⟩ hS ?_
      rotate_left
      · intro wq hSw; go_simp; try rfl
      simp only [Act.put, List.setIfInBounds_toArray, List.set_cons_zero, List.set_cons_succ]
      refine take_at 16 (some 38) (v := ?_) rfl rfl (by kernel_rfl) (by kernel_rfl) (by kernel_rfl) (fun _ _ _ h => h) ⟨by rfl, ?_⟩ hS ?_
      rotate_left
      · intro wq hSw; go_simp; try rfl
      simp only [Act.put, List.setIfInBounds_toArray, List.set_cons_zero, List.set_cons_succ]
      refine take_at 17 (some 39) (v := ?_) rfl rfl (by kernel_rfl) (by kernel_rfl) (by kernel_rfl) (fun _ _ _ h => h) ⟨by rfl, ?_⟩ hS ?_
      rotate_left
      · intro wq hSw; obtain ⟨r0, r1, r2, r3, r4⟩ := hSw; go_simp; try rfl
      simp only [Act.put, List.setIfInBounds_toArray, List.set_cons_zero, List.set_cons_succ]
      refine take_at 18 (some 40) (v := ?_) rfl rfl (by kernel_rfl) (by kernel_rfl) (by kernel_rfl) (fun _ _ _ h => h) ⟨by rfl, ?_⟩ hS ?_
      rotate_left
      · intro wq hSw; go_simp; try rfl
      simp only [Act.put, List.setIfInBounds_toArray, List.set_cons_zero, List.set_cons_succ]
      refine wpAnyH_ready (rs := [1, 19]) (by kernel_rfl) (by simp) ?_
      refine AllReadyH.cons rfl (fun K hK => ?_) (AllReadyH.cons rfl (fun K hK => ?_) AllReadyH.nil)
      · go_simp
        go_wp2_with fail
        refine (counterSizes_any w7).mono ?_
        rintro e w8 ⟨rfl, hss, b8, z8⟩
        have C8 := hide (C6.out.below b8)
        have OU : Seen .u64 (w8.alloc (.cells #[.int .u64 (u0 : Int), .int .u64 (u1 : Int), .int .u64 (u2 : Int), .int .u64 (u3 : Int), .int .u64 (u4 : Int)] 63)) (some ⟨w8.heap.size, 0, none⟩) (ints [u0, u1, u2, u3, u4]) := Seen.lit w8 (ints [u0, u1, u2, u3, u4]) 63
        have C9 := hide (C8.out.below (alloc_below w8 (.cells #[.int .u64 (u0 : Int), .int .u64 (u1 : Int), .int .u64 (u2 : Int), .int .u64 (u3 : Int), .int .u64 (u4 : Int)] 63)))
        have LY9 := hide ((LY6.out.below b8).below (alloc_below w8 (.cells #[.int .u64 (u0 : Int), .int .u64 (u1 : Int), .int .u64 (u2 : Int), .int .u64 (u3 : Int), .int .u64 (u4 : Int)] 63)))
        have hg7 := (World.ownsRow.lt LY6.out.own g rfl).2
        have hz8 := b8.size
        have LC := layC g B (1008 - 32 * k) u0 u1 u2 u3 u4 (HB0 ++ ctrsB (cs.take k)) (w8.alloc (.cells #[.int .u64 (u0 : Int), .int .u64 (u1 : Int), .int .u64 (u2 : Int), .int .u64 (u3 : Int), .int .u64 (u4 : Int)] 63)) w7.heap.size w8.heap.size LY9.out.own (Seen.below hss (alloc_below _ _)) OU (by omega) (by omega) HFT.out (by have := HBD2.out; omega) (by omega)
        rw [HPL.out] at LC
        clear hss b8 z8 OU hg7 hz8
        go_wp2_with fail
        refine hK.out _ _ (⟨(C8.out.get 0 _ rfl).1, (C8.out.get 1 _ rfl).1, (C8.out.get 2 _ rfl).1, (C8.out.get 3 _ rfl).1, (C8.out.get 4 _ rfl).1⟩) (fun hS => ?_)
        clear hK K
        (try simp only [Act.put, List.setIfInBounds_toArray, List.set_cons_zero, List.set_cons_succ])
        refine wpAnyH_ready (rs := [19]) (by kernel_rfl) (by simp) ?_
        refine AllReadyH.cons rfl (fun K hK => ?_) AllReadyH.nil
        go_simp
        go_wp2_with fail
        refine hK.out _ _ (⟨(C9.out.get 0 _ rfl).1, (C9.out.get 1 _ rfl).1, (C9.out.get 2 _ rfl).1, (C9.out.get 3 _ rfl).1, (C9.out.get 4 _ rfl).1⟩) (fun hS => ?_)
        clear hK K
        (try simp only [Act.put, List.setIfInBounds_toArray, List.set_cons_zero, List.set_cons_succ])
        refine wpAnyH_ready (rs := [20]) (by kernel_rfl) (by simp) ?_
        refine AllReadyH.cons rfl (fun K hK => ?_) AllReadyH.nil
        go_simp
        go_wp2_with fail
        refine LC.mono ?_
        rintro e w10 ⟨a', rfl, ha', o10, k10⟩
        have LY10 := hide (LY9.out.on k10 o10 N0.out N1.out)
        have C10 := hide (C9.out.keep k10 N6.out)
        have HA := hide ha'
        clear o10 k10 LC ha'
        go_wp2_with fail
        refine hK.out _ _ (⟨(C10.out.get 0 _ rfl).1, (C10.out.get 1 _ rfl).1, (C10.out.get 2 _ rfl).1, (C10.out.get 3 _ rfl).1, (C10.out.get 4 _ rfl).1⟩) (fun hS => ?_)
        clear hK K
        (try simp only [Act.put, List.setIfInBounds_toArray, List.set_cons_zero, List.set_cons_succ])
        refine take_at 21 (some 5) (v := ?_) rfl rfl (by kernel_rfl) (by kernel_rfl) (by kernel_rfl) (fun _ _ _ h => h) ⟨by rfl, ?_⟩ hS ?_
        rotate_left
        · intro wq hSw; go_simp; try rfl
        simp only [Act.put, List.setIfInBounds_toArray, List.set_cons_zero, List.set_cons_succ]
        refine wpAnyH_done (by kernel_rfl) ?_ _
        go_wp2_with fail
        go_roundw
        case rel =>
          refine ⟨k + 1, a', by go_num, by omega, ?_, ?_, ?_⟩
          · have q : 1008 - 32 * (k + 1) = 1008 - 32 * k - 32 := by omega
            rw [q]
          · intro q
            rw [HA.out (by omega)]
            congr 2
          · have q : 1008 - 32 * (k + 1) = 1008 - 32 * k - 32 := by omega
            have := LY10.out
            rw [q, HSN.out, ← List.append_assoc]
            exact this
        case measure => simp [intOf]; omega
      · go_simp
        go_wp2_with fail
        have C8 := hide (C6.out.below (alloc_below w7 (.cells #[.int .u64 (u0 : Int), .int .u64 (u1 : Int), .int .u64 (u2 : Int), .int .u64 (u3 : Int), .int .u64 (u4 : Int)] 63)))
        refine hK.out _ _ (⟨(C8.out.get 0 _ rfl).1, (C8.out.get 1 _ rfl).1, (C8.out.get 2 _ rfl).1, (C8.out.get 3 _ rfl).1, (C8.out.get 4 _ rfl).1⟩) (fun hS => ?_)
        clear hK K
        (try simp only [Act.put, List.setIfInBounds_toArray, List.set_cons_zero, List.set_cons_succ])
        refine wpAnyH_ready (rs := [1]) (by kernel_rfl) (by simp) ?_
        refine AllReadyH.cons rfl (fun K hK => ?_) AllReadyH.nil
        go_simp
        go_wp2_with fail
        refine (counterSizes_any _).mono ?_
        rintro e w9 ⟨rfl, hss, b9, z9⟩
        have OU := Seen.below (show Seen .u64 (w7.alloc (.cells #[.int .u64 (u0 : Int), .int .u64 (u1 : Int), .int .u64 (u2 : Int), .int .u64 (u3 : Int), .int .u64 (u4 : Int)] 63)) (some ⟨w7.heap.size, 0, none⟩) (ints [u0, u1, u2, u3, u4]) from Seen.lit w7 (ints [u0, u1, u2, u3, u4]) 63) b9
        have C9 := hide (C8.out.below b9)
        have LY9 := hide ((LY6.out.below (alloc_below w7 (.cells #[.int .u64 (u0 : Int), .int .u64 (u1 : Int), .int .u64 (u2 : Int), .int .u64 (u3 : Int), .int .u64 (u4 : Int)] 63))).below b9)
        have hg7 := (World.ownsRow.lt LY6.out.own g rfl).2
        have LC := layC g B (1008 - 32 * k) u0 u1 u2 u3 u4 (HB0 ++ ctrsB (cs.take k)) w9 (w7.alloc (.cells #[.int .u64 (u0 : Int), .int .u64 (u1 : Int), .int .u64 (u2 : Int), .int .u64 (u3 : Int), .int .u64 (u4 : Int)] 63)).heap.size w7.heap.size LY9.out.own hss OU (by simp; omega) (by omega) HFT.out (by have := HBD2.out; omega) (by omega)
        rw [HPL.out] at LC
        simp only [World.size_alloc] at LC
        clear hss b9 z9 OU hg7
        go_wp2_with fail
        refine hK.out _ _ (⟨(C9.out.get 0 _ rfl).1, (C9.out.get 1 _ rfl).1, (C9.out.get 2 _ rfl).1, (C9.out.get 3 _ rfl).1, (C9.out.get 4 _ rfl).1⟩) (fun hS => ?_)
        clear hK K
        (try simp only [Act.put, List.setIfInBounds_toArray, List.set_cons_zero, List.set_cons_succ])
        refine wpAnyH_ready (rs := [20]) (by kernel_rfl) (by simp) ?_
        refine AllReadyH.cons rfl (fun K hK => ?_) AllReadyH.nil
        go_simp
        go_wp2_with fail
        refine LC.mono ?_
        rintro e w10 ⟨a', rfl, ha', o10, k10⟩
        have LY10 := hide (LY9.out.on k10 o10 N0.out N1.out)
        have C10 := hide (C9.out.keep k10 N6.out)
        have HA := hide ha'
        clear o10 k10 LC ha'
        go_wp2_with fail
        refine hK.out _ _ (⟨(C10.out.get 0 _ rfl).1, (C10.out.get 1 _ rfl).1, (C10.out.get 2 _ rfl).1, (C10.out.get 3 _ rfl).1, (C10.out.get 4 _ rfl).1⟩) (fun hS => ?_)
        clear hK K
        (try simp only [Act.put, List.setIfInBounds_toArray, List.set_cons_zero, List.set_cons_succ])
        refine take_at 21 (some 5) (v := ?_) rfl rfl (by kernel_rfl) (by kernel_rfl) (by kernel_rfl) (fun _ _ _ h => h) ⟨by rfl, ?_⟩ hS ?_
        rotate_left
        · intro wq hSw; go_simp; try rfl
        simp only [Act.put, List.setIfInBounds_toArray, List.set_cons_zero, List.set_cons_succ]
        refine wpAnyH_done (by kernel_rfl) ?_ _
        go_wp2_with fail
        go_roundw
        case rel =>
          refine ⟨k + 1, a', by go_num, by omega, ?_, ?_, ?_⟩
          · have q : 1008 - 32 * (k + 1) = 1008 - 32 * k - 32 := by omega
            rw [q]
          · intro q
            rw [HA.out (by omega)]
            congr 2
          · have q : 1008 - 32 * (k + 1) = 1008 - 32 * k - 32 := by omega
            have := LY10.out
            rw [q, HSN.out, ← List.append_assoc]
            exact this
        case measure => simp [intOf]; omega
    · obtain rfl : k = cs.length := by omega
      rw [List.take_length] at hlay
      have LYc := hide hlay
      obtain ⟨g3, x3⟩ := hlay.box.get 3 _ rfl
      have HA5 := hide ha5
      clear hlay ha5 g2 x2
      go_wp2_with fail
      go_loopw [5, 47] (fun bv i ws => ∃ (k : Nat) (a5 : Option Addr), i = .int .i64 (k : Int) ∧ k ≤ gs.length ∧ bv = .slice a5 (1008 - 32 * cs.length - 12 * k) (1008 - 32 * cs.length - 12 * k) ∧ (0 < 1008 - 32 * cs.length - 12 * k → a5 = some ⟨g, 16 + 32 * cs.length + 12 * k, none⟩) ∧
        Lay w ws w.heap.size G1 g B [.int .i64 num, .int .i64 lsn, .slice ta cs.length tc, .slice tb gs.length td] [.int .u64 113, .int .u64 (kd : Int), .int .u64 (unum : Int), .int .u64 (ct : Int), .int .u64 0, .int .u64 (ulsn : Int), .int .u64 0] (HB0 ++ ctrsB cs ++ grpsB (gs.take k) ++ zs (1008 - 32 * cs.length - 12 * k))) (fun _ i _ => gs.length - (intOf i).toNat)
      case atStart => exact ⟨0, a5, rfl, Nat.zero_le _, rfl, HA5.out, by simpa [grpsB] using LYc.out⟩
      case round =>
        obtain ⟨k, a5, rfl, hk, rfl, ha5, hlay⟩ := hrel
        by_cases hlt : k < gs.length
        · obtain ⟨b, off, rfl, hbl, hcell⟩ := Lies.rowAt grpC 2 grpC_length (Lies.below HGS.out (hb0.trans (hlay.keep.below hb0.size (fun k hk q => by omega)))) k hlt (by decide)
          have hbd := HBD.out
          have ha := ha5 (by omega)
          subst ha
          have hok := ZG.out gs[k] (List.getElem_mem hlt)
          have hfit := grpFit hok
          have hsn := grpsB_snoc (gs.take k) gs[k]
          rw [← List.take_succ_eq_append_getElem hlt] at hsn
          have hpl : (HB0 ++ ctrsB cs ++ grpsB (gs.take k)).length = 16 + 32 * cs.length + 12 * k := by
            rw [List.length_append, List.length_append, HL0.out, ctrsB_length, grpsB_length, List.length_take, Nat.min_eq_left (by omega)]
          generalize hck : gs[k] = ck at *
          obtain ⟨id, sm⟩ := ck
          have y0 := hcell 0 _ rfl
          have y1 := hcell 1 _ rfl
          rw [Nat.add_zero] at y0
          simp only [grpB, grpN] at hsn hfit
          have e1 := wrap_un id
          have e2 := wrap_un sm
          generalize un id = u0 at *
          generalize un sm = u1 at *
          have HSN := hide hsn
          have HFT := hide hfit
          have HPL := hide hpl
          have LYk := hide hlay
          have HBD2 := hide hbd
          have HG := hide (World.ownsRow.lt hlay.own g rfl).2
          clear hsn hfit hpl hlay hok hck hcell ha5 hbd hbl
          go_upto_region 11 with fail
          refine named (P := Code.wp _ _ _ _) ?_
          intro w6 hw6
          have b6 : Below wr.heap.size wr w6 := by rw [hw6]; exact alloc_below _ _
          have c6 : Cells w6 wr.heap.size [.int .i64 id, .int .i64 sm] := by rw [hw6]; exact Cells.new wr _ _
          have n6 : wr.heap.size ≠ g := by have := HG.out; omega
          have LY6 := hide (LYk.out.below b6)
          have N6 := hide n6
          obtain ⟨G2, hG2⟩ : ∃ G2, G2 = wr.heap.size := ⟨_, rfl⟩
          rw [← hG2] at c6 N6 ⊢
          have C6 := hide c6
          obtain ⟨t0, -⟩ := c6.get 0 _ rfl
          obtain ⟨t1, -⟩ := c6.get 1 _ rfl
          refine wp_region_held_drew (S := fun wq => wq.cell? ⟨G2, 0, none⟩ = some (.int .i64 id) ∧ wq.cell? ⟨G2, 1, none⟩ = some (.int .i64 sm)) (by kernel_rfl) ⟨t0, t1⟩ (fun hS => ?_)
          have C6 := hide (C6.out.drew)
          have LY6 := hide (LY6.out.below (Below.refl _ _).drew)
          clear t0 t1 c6 b6 hw6 hG2 n6 y0 y1 LYk HG
          generalize w6.drew = w7 at *
          refine take_at 0 (some 51) (v := ?_) rfl rfl (by kernel_rfl) (by kernel_rfl) (by kernel_rfl) (fun _ _ _ h => h) ⟨by rfl, ?_⟩ hS ?_
          rotate_left
          · intro wq hSw; go_simp; try rfl
          simp only [Act.put, List.setIfInBounds_toArray, List.set_cons_zero, List.set_cons_succ]
          refine take_at 2 (some 53) (v := ?_) rfl rfl (by kernel_rfl) (by kernel_rfl) (by kernel_rfl) (fun _ _ _ h => h) ⟨by rfl, ?_⟩ hS ?_
          rotate_left
          · intro wq hSw; go_simp; try rfl
          simp only [Act.put, List.setIfInBounds_toArray, List.set_cons_zero, List.set_cons_succ]
          refine take_at 3 (some 54) (v := ?_) rfl rfl (by kernel_rfl) (by kernel_rfl) (by kernel_rfl) (fun _ _ _ h => h) ⟨by rfl, ?_⟩ hS ?_
          rotate_left
          · intro wq hSw; obtain ⟨r0, r1⟩ := hSw; go_simp; try rfl
          simp only [Act.put, List.setIfInBounds_toArray, List.set_cons_zero, List.set_cons_succ]
          refine take_at 4 (some 55) (v := ?_) rfl rfl (by kernel_rfl) (by kernel_rfl) (by kernel_rfl) (fun _ _ _ h => h) ⟨by rfl, ?_⟩ hS ?_
          rotate_left
          · intro wq hSw; go_simp; try rfl
          simp only [Act.put, List.setIfInBounds_toArray, List.set_cons_zero, List.set_cons_succ]
          refine take_at 5 (some 56) (v := ?_) rfl rfl (by kernel_rfl) (by kernel_rfl) (by kernel_rfl) (fun _ _ _ h => h) ⟨by rfl, ?_⟩ hS ?_
          rotate_left
          · intro wq hSw; go_simp; try rfl
          simp only [Act.put, List.setIfInBounds_toArray, List.set_cons_zero, List.set_cons_succ]
          refine take_at 6 (some 57) (v := ?_) rfl rfl (by kernel_rfl) (by kernel_rfl) (by kernel_rfl) (fun _ _ _ h => h) ⟨by rfl, ?_⟩ hS ?_
          rotate_left
          · intro wq hSw; obtain ⟨r0, r1⟩ := hSw; go_simp; try rfl
          simp only [Act.put, List.setIfInBounds_toArray, List.set_cons_zero, List.set_cons_succ]
          refine take_at 7 (some 58) (v := ?_) rfl rfl (by kernel_rfl) (by kernel_rfl) (by kernel_rfl) (fun _ _ _ h => h) ⟨by rfl, ?_⟩ hS ?_
          rotate_left
          · intro wq hSw; go_simp; try rfl
          simp only [Act.put, List.setIfInBounds_toArray, List.set_cons_zero, List.set_cons_succ]
          refine wpAnyH_ready (rs := [1, 8]) (by kernel_rfl) (by simp) ?_
          refine AllReadyH.cons rfl (fun K hK => ?_) (AllReadyH.cons rfl (fun K hK => ?_) AllReadyH.nil)
          · go_simp
            go_wp2_with fail
            refine (groupSizes_any w7).mono ?_
            rintro e w8 ⟨rfl, hss, b8, z8⟩
            have C8 := hide (C6.out.below b8)
            have OU : Seen .u64 (w8.alloc (.cells #[.int .u64 (u0 : Int), .int .u64 (u1 : Int)] 63)) (some ⟨w8.heap.size, 0, none⟩) (ints [u0, u1]) := Seen.lit w8 (ints [u0, u1]) 63
            have C9 := hide (C8.out.below (alloc_below w8 (.cells #[.int .u64 (u0 : Int), .int .u64 (u1 : Int)] 63)))
            have LY9 := hide ((LY6.out.below b8).below (alloc_below w8 (.cells #[.int .u64 (u0 : Int), .int .u64 (u1 : Int)] 63)))
            have hg7 := (World.ownsRow.lt LY6.out.own g rfl).2
            have hz8 := b8.size
            have LC := layG g B (1008 - 32 * cs.length - 12 * k) u0 u1 (HB0 ++ ctrsB cs ++ grpsB (gs.take k)) (w8.alloc (.cells #[.int .u64 (u0 : Int), .int .u64 (u1 : Int)] 63)) w7.heap.size w8.heap.size LY9.out.own (Seen.below hss (alloc_below _ _)) OU (by omega) (by omega) HFT.out (by have := HBD2.out; omega) (by omega)
            rw [HPL.out] at LC
            clear hss b8 z8 OU hg7 hz8
            go_wp2_with fail
            refine hK.out _ _ (⟨(C8.out.get 0 _ rfl).1, (C8.out.get 1 _ rfl).1⟩) (fun hS => ?_)
            clear hK K
            (try simp only [Act.put, List.setIfInBounds_toArray, List.set_cons_zero, List.set_cons_succ])
            refine wpAnyH_ready (rs := [8]) (by kernel_rfl) (by simp) ?_
            refine AllReadyH.cons rfl (fun K hK => ?_) AllReadyH.nil
            go_simp
            go_wp2_with fail
            refine hK.out _ _ (⟨(C9.out.get 0 _ rfl).1, (C9.out.get 1 _ rfl).1⟩) (fun hS => ?_)
            clear hK K
            (try simp only [Act.put, List.setIfInBounds_toArray, List.set_cons_zero, List.set_cons_succ])
            refine wpAnyH_ready (rs := [9]) (by kernel_rfl) (by simp) ?_
            refine AllReadyH.cons rfl (fun K hK => ?_) AllReadyH.nil
            go_simp
            go_wp2_with fail
            refine LC.mono ?_
            rintro e w10 ⟨a', rfl, ha', o10, k10⟩
            have LY10 := hide (LY9.out.on k10 o10 N0.out N1.out)
            have C10 := hide (C9.out.keep k10 N6.out)
            have HA := hide ha'
            clear o10 k10 LC ha'
            go_wp2_with fail
            refine hK.out _ _ (⟨(C10.out.get 0 _ rfl).1, (C10.out.get 1 _ rfl).1⟩) (fun hS => ?_)
            clear hK K
            (try simp only [Act.put, List.setIfInBounds_toArray, List.set_cons_zero, List.set_cons_succ])
            refine take_at 10 (some 5) (v := ?_) rfl rfl (by kernel_rfl) (by kernel_rfl) (by kernel_rfl) (fun _ _ _ h => h) ⟨by rfl, ?_⟩ hS ?_
            rotate_left
            · intro wq hSw; go_simp; try rfl
            simp only [Act.put, List.setIfInBounds_toArray, List.set_cons_zero, List.set_cons_succ]
            refine wpAnyH_done (by kernel_rfl) ?_ _
            go_wp2_with fail
            go_roundw
            case rel =>
              refine ⟨k + 1, a', by go_num, by omega, ?_, ?_, ?_⟩
              · have q : 1008 - 32 * cs.length - 12 * (k + 1) = 1008 - 32 * cs.length - 12 * k - 12 := by omega
                rw [q]
              · intro q
                rw [HA.out (by omega)]
                congr 2
              · have q : 1008 - 32 * cs.length - 12 * (k + 1) = 1008 - 32 * cs.length - 12 * k - 12 := by omega
                have := LY10.out
                rw [q, HSN.out, ← List.append_assoc]
                exact this
            case measure => simp [intOf]; omega
          · go_simp
            go_wp2_with fail
            have C8 := hide (C6.out.below (alloc_below w7 (.cells #[.int .u64 (u0 : Int), .int .u64 (u1 : Int)] 63)))
            refine hK.out _ _ (⟨(C8.out.get 0 _ rfl).1, (C8.out.get 1 _ rfl).1⟩) (fun hS => ?_)
            clear hK K
            (try simp only [Act.put, List.setIfInBounds_toArray, List.set_cons_zero, List.set_cons_succ])
            refine wpAnyH_ready (rs := [1]) (by kernel_rfl) (by simp) ?_
            refine AllReadyH.cons rfl (fun K hK => ?_) AllReadyH.nil
            go_simp
            go_wp2_with fail
            refine (groupSizes_any _).mono ?_
            rintro e w9 ⟨rfl, hss, b9, z9⟩
            have OU := Seen.below (show Seen .u64 (w7.alloc (.cells #[.int .u64 (u0 : Int), .int .u64 (u1 : Int)] 63)) (some ⟨w7.heap.size, 0, none⟩) (ints [u0, u1]) from Seen.lit w7 (ints [u0, u1]) 63) b9
            have C9 := hide (C8.out.below b9)
            have LY9 := hide ((LY6.out.below (alloc_below w7 (.cells #[.int .u64 (u0 : Int), .int .u64 (u1 : Int)] 63))).below b9)
            have hg7 := (World.ownsRow.lt LY6.out.own g rfl).2
            have LC := layG g B (1008 - 32 * cs.length - 12 * k) u0 u1 (HB0 ++ ctrsB cs ++ grpsB (gs.take k)) w9 (w7.alloc (.cells #[.int .u64 (u0 : Int), .int .u64 (u1 : Int)] 63)).heap.size w7.heap.size LY9.out.own hss OU (by simp; omega) (by omega) HFT.out (by have := HBD2.out; omega) (by omega)
            rw [HPL.out] at LC
            simp only [World.size_alloc] at LC
            clear hss b9 z9 OU hg7
            go_wp2_with fail
            refine hK.out _ _ (⟨(C9.out.get 0 _ rfl).1, (C9.out.get 1 _ rfl).1⟩) (fun hS => ?_)
            clear hK K
            (try simp only [Act.put, List.setIfInBounds_toArray, List.set_cons_zero, List.set_cons_succ])
            refine wpAnyH_ready (rs := [9]) (by kernel_rfl) (by simp) ?_
            refine AllReadyH.cons rfl (fun K hK => ?_) AllReadyH.nil
            go_simp
            go_wp2_with fail
            refine LC.mono ?_
            rintro e w10 ⟨a', rfl, ha', o10, k10⟩
            have LY10 := hide (LY9.out.on k10 o10 N0.out N1.out)
            have C10 := hide (C9.out.keep k10 N6.out)
            have HA := hide ha'
            clear o10 k10 LC ha'
            go_wp2_with fail
            refine hK.out _ _ (⟨(C10.out.get 0 _ rfl).1, (C10.out.get 1 _ rfl).1⟩) (fun hS => ?_)
            clear hK K
            (try simp only [Act.put, List.setIfInBounds_toArray, List.set_cons_zero, List.set_cons_succ])
            refine take_at 10 (some 5) (v := ?_) rfl rfl (by kernel_rfl) (by kernel_rfl) (by kernel_rfl) (fun _ _ _ h => h) ⟨by rfl, ?_⟩ hS ?_
            rotate_left
            · intro wq hSw; go_simp; try rfl
            simp only [Act.put, List.setIfInBounds_toArray, List.set_cons_zero, List.set_cons_succ]
            refine wpAnyH_done (by kernel_rfl) ?_ _
            go_wp2_with fail
            go_roundw
            case rel =>
              refine ⟨k + 1, a', by go_num, by omega, ?_, ?_, ?_⟩
              · have q : 1008 - 32 * cs.length - 12 * (k + 1) = 1008 - 32 * cs.length - 12 * k - 12 := by omega
                rw [q]
              · intro q
                rw [HA.out (by omega)]
                congr 2
              · have q : 1008 - 32 * cs.length - 12 * (k + 1) = 1008 - 32 * cs.length - 12 * k - 12 := by omega
                have := LY10.out
                rw [q, HSN.out, ← List.append_assoc]
                exact this
            case measure => simp [intOf]; omega
        · obtain rfl : k = gs.length := by omega
          rw [List.take_length] at hlay
          have hmem : HB0 ++ ctrsB cs ++ grpsB gs ++ zs (1008 - 32 * cs.length - 12 * gs.length) = HB0 ++ RB := by rw [HRB.out]; simp
          rw [hmem] at hlay
          have hlen : (HB0 ++ RB).length = 1024 := by rw [List.length_append, HL0.out, HRL.out]
          have SM := sumOf_any (some ⟨g, 0, none⟩) 1024 (HB0 ++ RB) wr (Owns.seen_at hlay.own) HAB.out hlen (Nat.le_refl _) (HT.out.keep hlay.keep hg2)
          rw [← HPS.out] at SM
          have LYd := hide hlay
          clear hlay hmem hlen ha5 g3 x3
          go_wp2_with fail
          refine SM.mono ?_
          rintro e w8 ⟨rfl, b8⟩
          have LY8 := hide (LYd.out.below b8)
          obtain ⟨g6, x6⟩ := LY8.out.head.get 6 _ rfl
          have ly9 : Lay w (w8.setCell ⟨G1, 6, none⟩ (.int .u64 (SUM : Int))) w.heap.size G1 g B [.int .i64 num, .int .i64 lsn, .slice ta cs.length tc, .slice tb gs.length td] [.int .u64 113, .int .u64 (kd : Int), .int .u64 (unum : Int), .int .u64 (ct : Int), .int .u64 0, .int .u64 (ulsn : Int), .int .u64 (SUM : Int)] (HB0 ++ RB) :=
            ⟨LY8.out.box.other (by have := NW.out; omega), LY8.out.head.stored (j := 6) (by simp) _, Owns.other LY8.out.own (by intro q; exact N1.out (by simpa [Value.ownBlock] using q.symm)), LY8.out.keep.setCell (fun q => by have := NW.out; omega) _⟩
          have LY9 := hide ly9
          clear ly9 b8 SM
          go_upto_region 14 with fail
          refine named (P := Code.wp _ _ _ _) ?_
          intro w9 hw9
          have LY9 : Hid (Lay w w9 w.heap.size G1 g B [.int .i64 num, .int .i64 lsn, .slice ta cs.length tc, .slice tb gs.length td] [.int .u64 113, .int .u64 (kd : Int), .int .u64 (unum : Int), .int .u64 (ct : Int), .int .u64 0, .int .u64 (ulsn : Int), .int .u64 (SUM : Int)] (HB0 ++ RB)) := by rw [hw9]; exact LY9
          clear hw9 g6 x6 LY8 LYd
          obtain ⟨g0, x0⟩ := LY9.out.head.get 0 _ rfl
          obtain ⟨g1, x1⟩ := LY9.out.head.get 1 _ rfl
          obtain ⟨g2, x2⟩ := LY9.out.head.get 2 _ rfl
          obtain ⟨g3, x3⟩ := LY9.out.head.get 3 _ rfl
          obtain ⟨g4, x4⟩ := LY9.out.head.get 4 _ rfl
          obtain ⟨g5, x5⟩ := LY9.out.head.get 5 _ rfl
          obtain ⟨g6, x6⟩ := LY9.out.head.get 6 _ rfl
          go_wp2_with fail
          refine (layHead_any g B 113 kd unum ct 0 ulsn SUM HB0 RB w9 LY9.out.own HL0.out HRL.out FSm.out).mono ?_
          rintro e w10 ⟨rfl, o10, k10⟩
          rw [LS.out, ← HEE.out] at o10
          have O10 := hide o10
          have K10 := hide (LY9.out.keep.trans k10 (fun _ _ q => q))
          clear o10 k10
          go_wp2_with fail
          go_end0
          exact ⟨rfl, O10.out, K10.out⟩
end Go.Proofs.YtakjpljpdlhicaaDoor
