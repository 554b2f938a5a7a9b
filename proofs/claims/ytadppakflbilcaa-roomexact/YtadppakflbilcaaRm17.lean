import Derived.Test.YtadppakflbilcaaRm16
namespace Go.Proofs.Ytadppakflbilcaa
open Go.RowKit Go.QK Go.Maps Go.QM Go.QR
set_option maxRecDepth 100000
/-- Two pairs of rooms and their variables. -/
structure Tab (w0 w : World) (na nb p1 r1 p2 r2 : Nat) (U1 U2 : Nat → Prop) (L1 L2 : List Tx) : Prop where
  base : Below w0.heap.size w0 w
  ca : Cells w na [ptr p1, ptr r1]
  cb : Cells w nb [ptr p2, ptr r2]
  d1 : Duo w U1 p1 r1 L1 L1
  d2 : Duo w U2 p2 r2 L2 L2
  dis : ∀ k, U1 k → ¬ U2 k
  n1 : ¬ U1 na ∧ ¬ U1 nb
  n2 : ¬ U2 na ∧ ¬ U2 nb
  b1 : ∀ k, U1 k → w0.heap.size ≤ k
  b2 : ∀ k, U2 k → w0.heap.size ≤ k
section
variable {w0 w w' : World} {na nb p1 r1 p2 r2 : Nat} {U1 U2 U' : Nat → Prop} {L1 L2 L : List Tx}
theorem Tab.below (h : Tab w0 w na nb p1 r1 p2 r2 U1 U2 L1 L2) (hb : Below w.heap.size w w') : Tab w0 w' na nb p1 r1 p2 r2 U1 U2 L1 L2 :=
  ⟨h.base.trans (hb.mono h.base.size), h.ca.keep (Keep.of_below (S := fun _ => False) hb) id, h.cb.keep (Keep.of_below (S := fun _ => False) hb) id, h.d1.below hb, h.d2.below hb, h.dis, h.n1, h.n2, h.b1, h.b2⟩
theorem Tab.step1 (h : Tab w0 w na nb p1 r1 p2 r2 U1 U2 L1 L2) (hs : Step U1 w w' U') (hd : Duo w' U' p1 r1 L L) : Tab w0 w' na nb p1 r1 p2 r2 U' U2 L L2 := by
  have hn : ∀ k, U' k → (k < w.heap.size ∧ U1 k) ∨ w.heap.size ≤ k := fun k q => by
    by_cases z : k < w.heap.size
    · exact .inl ⟨z, hs.sub k z q⟩
    · exact .inr (by omega)
  refine ⟨h.base.trans (hs.keep.below h.base.size (fun k hk q => by have := h.b1 k q; omega)), h.ca.keep hs.keep h.n1.1, h.cb.keep hs.keep h.n1.2, hd, h.d2.keep hs.keep (fun k q z => h.dis k z q), fun k q z => ?_, ⟨fun q => ?_, fun q => ?_⟩, h.n2, fun k q => ?_, h.b2⟩
  · rcases hn k q with y | y
    · exact h.dis k y.2 z
    · have := h.d2.lt k z; omega
  · rcases hn na q with y | y
    · exact h.n1.1 y.2
    · have := h.ca.1; omega
  · rcases hn nb q with y | y
    · exact h.n1.2 y.2
    · have := h.cb.1; omega
  · rcases hn k q with y | y
    · exact h.b1 k y.2
    · have := h.base.size; omega
theorem Tab.flip (h : Tab w0 w na nb p1 r1 p2 r2 U1 U2 L1 L2) : Tab w0 w nb na p2 r2 p1 r1 U2 U1 L2 L1 :=
  ⟨h.base, h.cb, h.ca, h.d2, h.d1, fun k q z => h.dis k z q, ⟨h.n2.2, h.n2.1⟩, ⟨h.n1.2, h.n1.1⟩, h.b2, h.b1⟩
theorem Tab.step2 (h : Tab w0 w na nb p1 r1 p2 r2 U1 U2 L1 L2) (hs : Step U2 w w' U') (hd : Duo w' U' p2 r2 L L) : Tab w0 w' na nb p1 r1 p2 r2 U1 U' L1 L := (h.flip.step1 hs hd).flip
end
set_option maxHeartbeats 8000000 in
theorem law_exact (xs : List OpX) (sa : Option Addr) (sc : Nat) (w : World) (hL : Lies w sa (rowsC OpX.cs xs)) (hok : ∀ o ∈ xs, o.Ok) : Calls Try.prog 8 #[.slice sa xs.length sc] w fun e w' => e = .returned (.bool true) ∧ Below w.heap.size w w' := by
  have K1 := begun_any w
  have HL := hide hL
  have HO := hide hok
  clear hL hok
  go_enter Try.func8, Try.ntmps8
  go_wp2_with fail
  refine K1.mono ?_
  rintro e w1 ⟨p1, r1, U1, rfl, D1, l1, b1⟩
  have K2 := begun_any (w1.alloc (.cells #[ptr p1, ptr r1] 54))
  obtain ⟨w2, hw2⟩ : ∃ w2, w2 = w1.alloc (.cells #[ptr p1, ptr r1] 54) := ⟨_, rfl⟩
  obtain ⟨na, hna⟩ : ∃ na, na = w1.heap.size := ⟨_, rfl⟩
  have A2 : Below w1.heap.size w1 w2 := by rw [hw2]; exact alloc_below _ _
  have CA : Cells w2 na [ptr p1, ptr r1] := by rw [hw2, hna]; exact Cells.new w1 #[ptr p1, ptr r1] 54
  have D2 := D1.below A2
  have NA : ¬ U1 na := fun q => by have := D1.lt na q; omega
  rw [← hw2] at K2
  have HNA := hide hna
  go_upto_region 2 with fail
  rw [← hw2, ← hna]
  clear hw2 hna
  go_wp2_with fail
  refine K2.mono ?_
  rintro e w3 ⟨p2, r2, U2, rfl, D3, l3, b3⟩
  obtain ⟨w4, hw4⟩ : ∃ w4, w4 = w3.alloc (.cells #[ptr p2, ptr r2] 54) := ⟨_, rfl⟩
  obtain ⟨nb, hnb⟩ : ∃ nb, nb = w3.heap.size := ⟨_, rfl⟩
  have A4 : Below w3.heap.size w3 w4 := by rw [hw4]; exact alloc_below _ _
  have CB : Cells w4 nb [ptr p2, ptr r2] := by rw [hw4, hnb]; exact Cells.new w3 #[ptr p2, ptr r2] 54
  have lna : na < w2.heap.size := CA.1
  have TB : Tab w w4 na nb p1 r1 p2 r2 U1 U2 [] [] := by
    refine ⟨?_, ?_, CB, ?_, D3.below A4, fun k q z => ?_, ⟨NA, fun q => ?_⟩, ⟨fun q => ?_, fun q => ?_⟩, l1, fun k q => ?_⟩
    · exact ((b1.trans (A2.mono b1.size)).trans (b3.mono (Nat.le_trans b1.size A2.size))).trans (A4.mono (Nat.le_trans (Nat.le_trans b1.size A2.size) b3.size))
    · exact (CA.keep (Keep.of_below (S := fun _ => False) b3) id).keep (Keep.of_below (S := fun _ => False) A4) id
    · exact (D2.below b3).below A4
    · have := D2.lt k q; have := l3 k z; omega
    · have := (D2.below b3).lt nb q; omega
    · have := l3 na q; omega
    · have := D3.lt nb q; omega
    · have := l3 k q; have := A2.size; have := b1.size; omega
  go_upto_region 3 with fail
  rw [← hw4, ← hnb]
  clear hw4 hnb CA CB D1 D2 D3 A2 A4 b1 b3 l1 l3 NA K1 K2 lna HNA
  have K9 := awake_any w4
  have HTB := hide TB
  clear TB
  go_upto_region 6 with (go_at_call 9; refine K9.mono ?_; rintro e w5 ⟨rfl, b5⟩)
  have T5 := hide (HTB.out.below b5)
  clear HTB b5 K9
  go_loopw [7] (fun vi wr => ∃ (k : Nat) (U1 U2 : Nat → Prop) (L1 L2 : List Tx), vi = .int .i64 (k : Int) ∧ k ≤ xs.length ∧ k ≤ 3000 ∧ Tab w wr na nb p1 r1 p2 r2 U1 U2 L1 L2) (fun vi _ => 3000 - (intOf vi).toNat)
  case atStart => exact ⟨0, U1, U2, [], [], rfl, Nat.zero_le _, Nat.zero_le _, T5.out⟩
  case round =>
    obtain ⟨k, V1, V2, L1, L2, rfl, hk, hk3, TT⟩ := hrel
    clear T5
    have HT := hide TT
    obtain ⟨a0, -⟩ := TT.ca.get 0 _ rfl
    obtain ⟨a1, -⟩ := TT.ca.get 1 _ rfl
    obtain ⟨c0, -⟩ := TT.cb.get 0 _ rfl
    obtain ⟨c1, -⟩ := TT.cb.get 1 _ rfl
    by_cases hgo : k < xs.length ∧ k < 3000
    · obtain ⟨hlt, h3⟩ := hgo
      obtain ⟨gb, off, rfl, hgb, hcl⟩ := op_at HL.out hlt
      have blk : wr.heap[gb]? = w.heap[gb]? := TT.base.block gb hgb
      have q1 := hcl wr blk 1 _ rfl
      have OKX := hide (HO.out _ (List.getElem_mem hlt))
      have HCL := hide hcl
      have HBL := hide blk
      have lgb : gb < wr.heap.size := Nat.lt_of_lt_of_le hgb TT.base.size
      have NG : ¬ V1 gb ∧ ¬ V2 gb := ⟨fun q => by have := TT.b1 gb q; omega, fun q => by have := TT.b2 gb q; omega⟩
      have HNG := hide NG
      have LNA : na < wr.heap.size := TT.ca.1
      have LNB : nb < wr.heap.size := TT.cb.1
      clear TT hcl blk NG
      generalize xs[k] = o at *
      obtain ⟨okind, otwo, otx, octr, owhat, ofree, omore⟩ := o
      simp only at q1
      cases otwo with
      | false =>
        go_upto_region 11 with fail
        refine named (P := Code.wp _ _ _ _) ?_
        intro wx hwx
        have bx : Below wr.heap.size wr wx := by rw [hwx]; exact alloc_below _ _
        have HCX := hide (show Cells wx wr.heap.size [ptr p1, ptr r1] from by rw [hwx]; exact Cells.new wr #[ptr p1, ptr r1] 54)
        have HTX := hide (HT.out.below bx)
        have HBX := hide (show wx.heap[gb]? = w.heap[gb]? from (bx.block gb lgb).trans HBL.out)
        have HNX := hide (show ¬ V1 wr.heap.size from fun q => by have := HT.out.d1.lt _ q; omega)
        obtain ⟨nx, hnx⟩ : ∃ nx, nx = wr.heap.size := ⟨_, rfl⟩
        rw [← hnx] at HCX HNX ⊢
        have lgx : gb < wx.heap.size := Nat.lt_of_lt_of_le lgb bx.size
        clear hwx hnx bx HT HBL q1 a0 a1 c0 c1 LNA LNB
        refine wp_region_held_drew (S := fun wq => Keep (fun z => V1 z) wx wq) (by kernel_rfl) (Keep.refl _ _).drew (fun hS => ?_)
        refine take_at 0 (some 45) (v := ?_) rfl rfl (by kernel_rfl) (by kernel_rfl) (by kernel_rfl) (fun _ _ _ h => h) ⟨by rfl, ?_⟩ hS ?_
        rotate_left
        · intro wq hSw; obtain ⟨q0, -⟩ := (HCX.out.keep hSw HNX.out).get 0 _ rfl; obtain ⟨q1, -⟩ := (HCX.out.keep hSw HNX.out).get 1 _ rfl; go_simp; try rfl
        simp only [Act.put, List.setIfInBounds_toArray, List.set_cons_zero, List.set_cons_succ]
        refine take_at 1 (some 46) (v := ?_) rfl rfl (by kernel_rfl) (by kernel_rfl) (by kernel_rfl) (fun _ _ _ h => h) ⟨by rfl, ?_⟩ hS ?_
        rotate_left
        · intro wq hSw; go_simp; try rfl
        simp only [Act.put, List.setIfInBounds_toArray, List.set_cons_zero, List.set_cons_succ]
        refine take_at 2 (some 47) (v := ?_) rfl rfl (by kernel_rfl) (by kernel_rfl) (by kernel_rfl) (fun _ _ _ h => h) ⟨by rfl, ?_⟩ hS ?_
        rotate_left
        · intro wq hSw; go_simp; try rfl
        simp only [Act.put, List.setIfInBounds_toArray, List.set_cons_zero, List.set_cons_succ]
        refine take_at 3 (some 48) (v := ?_) rfl rfl (by kernel_rfl) (by kernel_rfl) (by kernel_rfl) (fun _ _ _ h => h) ⟨by rfl, ?_⟩ hS ?_
        rotate_left
        · intro wq hSw; go_simp; try rfl
        simp only [Act.put, List.setIfInBounds_toArray, List.set_cons_zero, List.set_cons_succ]
        refine take_at 4 (some 49) (v := ?_) rfl rfl (by kernel_rfl) (by kernel_rfl) (by kernel_rfl) (fun _ _ _ h => h) ⟨by rfl, ?_⟩ hS ?_
        rotate_left
        · intro wq hSw; have e9 := (hSw.block gb lgx HNG.out.1).trans HBX.out; have q0 : wq.cell? ⟨gb, off + k * 7, none⟩ = some (.int .i64 okind) := HCL.out wq e9 0 _ rfl; have q1 : wq.cell? ⟨gb, off + k * 7 + 1, none⟩ = some (.bool false) := HCL.out wq e9 1 _ rfl; have q2 : wq.cell? ⟨gb, off + k * 7 + 2, none⟩ = some (.int .i64 otx) := HCL.out wq e9 2 _ rfl; have q3 : wq.cell? ⟨gb, off + k * 7 + 3, none⟩ = some (.int .i64 octr) := HCL.out wq e9 3 _ rfl; have q4 : wq.cell? ⟨gb, off + k * 7 + 4, none⟩ = some (.int .i64 owhat) := HCL.out wq e9 4 _ rfl; have q5 : wq.cell? ⟨gb, off + k * 7 + 5, none⟩ = some (.int .i64 ofree) := HCL.out wq e9 5 _ rfl; have q6 : wq.cell? ⟨gb, off + k * 7 + 6, none⟩ = some (.int .i64 omore) := HCL.out wq e9 6 _ rfl; go_simp; try rfl
        simp only [Act.put, List.setIfInBounds_toArray, List.set_cons_zero, List.set_cons_succ]
        have TX := hide (HTX.out.below (Below.refl _ _).drew)
        have KX := hide hS
        clear hS HTX HCX HCL HBX
        generalize wx.drew = x1 at *
        have K23 := plays_any V1 p1 r1 L1 ⟨okind, false, otx, octr, owhat, ofree, omore⟩ x1 TX.out.d1 OKX.out
        simp only [OpX.cs] at K23
        refine wpAnyH_ready (rs := [5]) (by kernel_rfl) (by simp) ?_
        refine AllReadyH.cons rfl (fun K hK => ?_) AllReadyH.nil
        go_simp
        go_wp2_with fail
        refine K23.mono ?_
        rintro e x2 ⟨rfl, U9, L9, D9, s9⟩
        have T9 := hide (TX.out.step1 s9 D9)
        have K9 := hide (KX.out.trans s9.keep (fun _ _ q => q))
        clear D9 s9 K23 TX KX
        go_wp2_with fail
        refine hK.out _ _ K9.out (fun hS => ?_)
        clear hK K
        (try simp only [Act.put, List.setIfInBounds_toArray, List.set_cons_zero, List.set_cons_succ])
        refine take_at 6 (some 9) (v := ?_) rfl rfl (by kernel_rfl) (by kernel_rfl) (by kernel_rfl) (fun _ _ _ h => h) ⟨by rfl, ?_⟩ hS ?_
        rotate_left
        · intro wq hSw; go_simp; try rfl
        simp only [Act.put, List.setIfInBounds_toArray, List.set_cons_zero, List.set_cons_succ]
        refine wpAnyH_done (by kernel_rfl) ?_ _
        clear hS
        go_wp2_with fail
        go_roundw
        case rel => first | exact ⟨k + 1, U9, V2, L9, L2, by go_num, by omega, by omega, T9.out⟩ | ((repeat apply Exists.intro); exact ⟨⟨k + 1, U9, V2, L9, L2, by go_num, by omega, by omega, T9.out⟩, rfl⟩)
        case measure => simp [intOf]; omega
      | true =>
        go_upto_region 11 with fail
        refine named (P := Code.wp _ _ _ _) ?_
        intro wx hwx
        have bx : Below wr.heap.size wr wx := by rw [hwx]; exact alloc_below _ _
        have HCX := hide (show Cells wx wr.heap.size [ptr p2, ptr r2] from by rw [hwx]; exact Cells.new wr #[ptr p2, ptr r2] 54)
        have HTX := hide (HT.out.below bx)
        have HBX := hide (show wx.heap[gb]? = w.heap[gb]? from (bx.block gb lgb).trans HBL.out)
        have HNX := hide (show ¬ V2 wr.heap.size from fun q => by have := HT.out.d2.lt _ q; omega)
        obtain ⟨nx, hnx⟩ : ∃ nx, nx = wr.heap.size := ⟨_, rfl⟩
        rw [← hnx] at HCX HNX ⊢
        have lgx : gb < wx.heap.size := Nat.lt_of_lt_of_le lgb bx.size
        clear hwx hnx bx HT HBL q1 a0 a1 c0 c1 LNA LNB
        refine wp_region_held_drew (S := fun wq => Keep (fun z => V2 z) wx wq) (by kernel_rfl) (Keep.refl _ _).drew (fun hS => ?_)
        refine take_at 0 (some 45) (v := ?_) rfl rfl (by kernel_rfl) (by kernel_rfl) (by kernel_rfl) (fun _ _ _ h => h) ⟨by rfl, ?_⟩ hS ?_
        rotate_left
        · intro wq hSw; obtain ⟨q0, -⟩ := (HCX.out.keep hSw HNX.out).get 0 _ rfl; obtain ⟨q1, -⟩ := (HCX.out.keep hSw HNX.out).get 1 _ rfl; go_simp; try rfl
        simp only [Act.put, List.setIfInBounds_toArray, List.set_cons_zero, List.set_cons_succ]
        refine take_at 1 (some 46) (v := ?_) rfl rfl (by kernel_rfl) (by kernel_rfl) (by kernel_rfl) (fun _ _ _ h => h) ⟨by rfl, ?_⟩ hS ?_
        rotate_left
        · intro wq hSw; go_simp; try rfl
        simp only [Act.put, List.setIfInBounds_toArray, List.set_cons_zero, List.set_cons_succ]
        refine take_at 2 (some 47) (v := ?_) rfl rfl (by kernel_rfl) (by kernel_rfl) (by kernel_rfl) (fun _ _ _ h => h) ⟨by rfl, ?_⟩ hS ?_
        rotate_left
        · intro wq hSw; go_simp; try rfl
        simp only [Act.put, List.setIfInBounds_toArray, List.set_cons_zero, List.set_cons_succ]
        refine take_at 3 (some 48) (v := ?_) rfl rfl (by kernel_rfl) (by kernel_rfl) (by kernel_rfl) (fun _ _ _ h => h) ⟨by rfl, ?_⟩ hS ?_
        rotate_left
        · intro wq hSw; go_simp; try rfl
        simp only [Act.put, List.setIfInBounds_toArray, List.set_cons_zero, List.set_cons_succ]
        refine take_at 4 (some 49) (v := ?_) rfl rfl (by kernel_rfl) (by kernel_rfl) (by kernel_rfl) (fun _ _ _ h => h) ⟨by rfl, ?_⟩ hS ?_
        rotate_left
        · intro wq hSw; have e9 := (hSw.block gb lgx HNG.out.2).trans HBX.out; have q0 : wq.cell? ⟨gb, off + k * 7, none⟩ = some (.int .i64 okind) := HCL.out wq e9 0 _ rfl; have q1 : wq.cell? ⟨gb, off + k * 7 + 1, none⟩ = some (.bool true) := HCL.out wq e9 1 _ rfl; have q2 : wq.cell? ⟨gb, off + k * 7 + 2, none⟩ = some (.int .i64 otx) := HCL.out wq e9 2 _ rfl; have q3 : wq.cell? ⟨gb, off + k * 7 + 3, none⟩ = some (.int .i64 octr) := HCL.out wq e9 3 _ rfl; have q4 : wq.cell? ⟨gb, off + k * 7 + 4, none⟩ = some (.int .i64 owhat) := HCL.out wq e9 4 _ rfl; have q5 : wq.cell? ⟨gb, off + k * 7 + 5, none⟩ = some (.int .i64 ofree) := HCL.out wq e9 5 _ rfl; have q6 : wq.cell? ⟨gb, off + k * 7 + 6, none⟩ = some (.int .i64 omore) := HCL.out wq e9 6 _ rfl; go_simp; try rfl
        simp only [Act.put, List.setIfInBounds_toArray, List.set_cons_zero, List.set_cons_succ]
        have TX := hide (HTX.out.below (Below.refl _ _).drew)
        have KX := hide hS
        clear hS HTX HCX HCL HBX
        generalize wx.drew = x1 at *
        have K23 := plays_any V2 p2 r2 L2 ⟨okind, true, otx, octr, owhat, ofree, omore⟩ x1 TX.out.d2 OKX.out
        simp only [OpX.cs] at K23
        refine wpAnyH_ready (rs := [5]) (by kernel_rfl) (by simp) ?_
        refine AllReadyH.cons rfl (fun K hK => ?_) AllReadyH.nil
        go_simp
        go_wp2_with fail
        refine K23.mono ?_
        rintro e x2 ⟨rfl, U9, L9, D9, s9⟩
        have T9 := hide (TX.out.step2 s9 D9)
        have K9 := hide (KX.out.trans s9.keep (fun _ _ q => q))
        clear D9 s9 K23 TX KX
        go_wp2_with fail
        refine hK.out _ _ K9.out (fun hS => ?_)
        clear hK K
        (try simp only [Act.put, List.setIfInBounds_toArray, List.set_cons_zero, List.set_cons_succ])
        refine take_at 6 (some 9) (v := ?_) rfl rfl (by kernel_rfl) (by kernel_rfl) (by kernel_rfl) (fun _ _ _ h => h) ⟨by rfl, ?_⟩ hS ?_
        rotate_left
        · intro wq hSw; go_simp; try rfl
        simp only [Act.put, List.setIfInBounds_toArray, List.set_cons_zero, List.set_cons_succ]
        refine wpAnyH_done (by kernel_rfl) ?_ _
        clear hS
        go_wp2_with fail
        go_roundw
        case rel => first | exact ⟨k + 1, V1, U9, L1, L9, by go_num, by omega, by omega, T9.out⟩ | ((repeat apply Exists.intro); exact ⟨⟨k + 1, V1, U9, L1, L9, by go_num, by omega, by omega, T9.out⟩, rfl⟩)
        case measure => simp [intOf]; omega
    · have HE := hide hgo
      have K24 := looks_any V1 p1 r1 L1 wr TT.d1
      have hend : (k < xs.length → ¬ k < 3000) := fun q z => hgo ⟨q, z⟩
      have fin : ∀ w6, Below wr.heap.size wr w6 → Calls Try.prog 24 #[bothV p2 r2] w6 fun e w' => e = .returned (.bool true) ∧ Below w6.heap.size w6 w' := fun w6 b6 => looks_any V2 p2 r2 L2 w6 (TT.d2.below b6)
      have cbx : ∀ w6, Below wr.heap.size wr w6 → w6.cell? ⟨nb, 0, none⟩ = some (ptr p2) ∧ w6.cell? ⟨nb, 1, none⟩ = some (ptr r2) := fun w6 b6 => by
        have := TT.cb.keep (Keep.of_below (S := fun _ => False) b6) id
        exact ⟨(this.get 0 _ rfl).1, (this.get 1 _ rfl).1⟩
      have HB := hide TT.base
      clear TT hgo HE
      by_cases hlt : k < xs.length
      · have h3 := hend hlt
        clear hend
        go_wp2_with (first | (go_at_call 24; refine K24.mono ?_; rintro e w6 ⟨rfl, b6⟩; have F6 := fin w6 b6; obtain ⟨y0, y1⟩ := cbx w6 b6; clear K24 fin cbx) | (go_at_call 24; refine F6.mono ?_; rintro e w7 ⟨rfl, b7⟩))
        go_ret
        exact ⟨rfl, HB.out.trans ((b6.trans (b7.mono b6.size)).mono HB.out.size)⟩
      · clear hend
        go_wp2_with (first | (go_at_call 24; refine K24.mono ?_; rintro e w6 ⟨rfl, b6⟩; have F6 := fin w6 b6; obtain ⟨y0, y1⟩ := cbx w6 b6; clear K24 fin cbx) | (go_at_call 24; refine F6.mono ?_; rintro e w7 ⟨rfl, b7⟩))
        go_ret
        exact ⟨rfl, HB.out.trans ((b6.trans (b7.mono b6.size)).mono HB.out.size)⟩
end Go.Proofs.Ytadppakflbilcaa
