import Derived.Test.YtohkmigahbellaaArmed
namespace Go.Proofs.Ytohkmigahbellaa
open Go.RowKit Go.QK

/-- One call of a script, in plain numbers. -/
structure OpM where
  k : Int
  two : Bool
  i : Int
  fill : Nat
  len : Int
  l : Loss
def OpM.v (o : OpM) (a : Option Addr) (c : Nat) : Array Value := opC o.k o.two o.i o.fill o.len a o.l.keep.length c o.l.torn o.l.off
/-- What is known of it. -/
structure OpOk (w : World) (o : OpM) (a : Option Addr) (c : Nat) : Prop where
  loss : LossAt w o.l a c
  len : o.l.keep.length ≤ 17592186044415
theorem OpOk.below {w w' : World} {o : OpM} {a : Option Addr} {c : Nat} (h : OpOk w o a c) (hb : Below w.heap.size w w') : OpOk w' o a c := ⟨h.loss.below hb, h.len⟩

def stepE (g : Dev) (o : OpM) : Nat :=
  if o.k = 1 then g.reach (bring o.i (g.n + 1)) else if o.k = 2 then g.writeE (bring o.i (g.n + 1)) (fillLen o.len) else if o.k = 3 then g.syncE else if o.k = 4 then g.armE ((bring o.i 9 : Int) - 1) else if o.k = 5 then g.crashE else 0
def stepB (g : Dev) (o : OpM) : List Nat := if o.k = 1 then g.readB (bring o.i (g.n + 1)) else []
def stepD (g : Dev) (o : OpM) : Dev :=
  if o.k = 2 then g.write (bring o.i (g.n + 1)) (filledB o.fill (fillLen o.len)) else if o.k = 3 then g.sync else if o.k = 4 then g.arm ((bring o.i 9 : Int) - 1) o.l else if o.k = 5 then g.crash o.l else if o.k = 6 then g.up else g

/-- The box of a call. -/
def OB (b : Nat) (k : Int) (two : Bool) (i : Int) (fill : Nat) (len : Int) (a : Option Addr) (n c : Nat) (tn off : Int) (x : World) : Prop :=
  x.cell? ⟨b, 0, none⟩ = some (.int .i64 k) ∧ x.cell? ⟨b, 1, none⟩ = some (.bool two) ∧ x.cell? ⟨b, 2, none⟩ = some (.int .i64 i) ∧ x.cell? ⟨b, 3, none⟩ = some (.int .u8 (fill : Int)) ∧ x.cell? ⟨b, 4, none⟩ = some (.int .i64 len) ∧
  x.cell? ⟨b, 5, none⟩ = some (.slice a n c) ∧ x.cell? ⟨b, 6, none⟩ = some (.int .i64 tn) ∧ x.cell? ⟨b, 7, none⟩ = some (.int .i64 off)
theorem OB.keep {b : Nat} {k : Int} {two : Bool} {i : Int} {fill : Nat} {len : Int} {a : Option Addr} {n c : Nat} {tn off : Int} {x y : World} {T : Nat → Prop} (h : OB b k two i fill len a n c tn off x) (hk : Keep T x y) (hb : b < x.heap.size) (hn : ¬ T b) : OB b k two i fill len a n c tn off y :=
  ⟨(hk.cell (p := ⟨b, 0, none⟩) hb hn).trans h.1, (hk.cell (p := ⟨b, 1, none⟩) hb hn).trans h.2.1, (hk.cell (p := ⟨b, 2, none⟩) hb hn).trans h.2.2.1, (hk.cell (p := ⟨b, 3, none⟩) hb hn).trans h.2.2.2.1, (hk.cell (p := ⟨b, 4, none⟩) hb hn).trans h.2.2.2.2.1, (hk.cell (p := ⟨b, 5, none⟩) hb hn).trans h.2.2.2.2.2.1, (hk.cell (p := ⟨b, 6, none⟩) hb hn).trans h.2.2.2.2.2.2.1, (hk.cell (p := ⟨b, 7, none⟩) hb hn).trans h.2.2.2.2.2.2.2⟩
theorem OB.new (w : World) (k : Int) (two : Bool) (i : Int) (fill : Nat) (len : Int) (a : Option Addr) (n c : Nat) (tn off : Int) : OB w.heap.size k two i fill len a n c tn off (w.alloc (.cells (opC k two i fill len a n c tn off) 39)) := by
  refine ⟨?_, ?_, ?_, ?_, ?_, ?_, ?_, ?_⟩ <;> (rw [World.cell?_alloc_new]; rfl)
theorem dev_n_le {g : Dev} (ok : g.Ok) : g.n ≤ 8192 ∧ 1 ≤ g.n := by
  obtain ⟨n, n1, n2, hn⟩ := ok.size
  unfold Dev.n
  omega

set_option maxHeartbeats 1000000 in
set_option maxRecDepth 100000 in
theorem step_1 {w : World} {S : Nat → Prop} {d : Nat} {g : Dev} (h : PDev w S d g) (o : OpM) (a : Option Addr) (c : Nat) (ho : OpOk w o a c) (hk : o.k = 1) (hl : o.l.keep ≠ [] → ∀ ad, a = some ad → ¬ S ad.block) (hpl : g.pend.length ≤ 999999) (_hcl : g.calls ≤ 1000000) :
    Calls Try.prog 28 #[.pointer (some ⟨d, 0, none⟩), .agg (o.v a c)] w fun e w' => ∃ v S', e = .returned (.tuple #[.int .i64 ((stepE g o : Nat) : Int), v]) ∧ OwnB w' w.heap.size v (stepB g o) ∧ PDev w' S' d (stepD g o) ∧ Step w S w' S' := by
  obtain ⟨k, two, i, fill, len, l⟩ := o
  obtain ⟨hLo, hLn⟩ := ho
  dsimp only at hk hLo hLn
  unfold OpM.v stepE stepB stepD
  dsimp only
  subst hk
  rw [if_pos rfl, if_pos rfl, if_neg (by decide), if_neg (by decide), if_neg (by decide), if_neg (by decide), if_neg (by decide)]
  have HH := hide h
  obtain ⟨hn1, hn2⟩ := dev_n_le h.ok
  have ew : IntKind.i64.wrap ((g.n : Int) + 1) = (g.n : Int) + 1 := by rw [IntKind.wrap_i64]; omega
  have B0 := alloc_below w (.cells (opC 1 two i fill len a l.keep.length c l.torn l.off) 39)
  have O0 := hide (OB.new w 1 two i fill len a l.keep.length c l.torn l.off)
  have H0 := hide (h.below B0)
  have hbS : ¬ S w.heap.size := fun q => by have := h.lt _ q; omega
  have HLo := hide (hLo.below B0)
  have H0d := hide (h.below B0.drew)
  have HLod := hide (hLo.below B0.drew)
  clear h hLo
  unfold opC at B0 O0 H0 HLo H0d HLod ⊢
  go_enter Try.func28, Try.ntmps28
  have H1 := hide (show PDev w S d g from HH.out)
  go_upto_region 3 with fail
  refine wp_region_held_drew (S := OB w.heap.size 1 two i fill len a l.keep.length c l.torn l.off) (by kernel_rfl) O0.out (fun hS => ?_)
  refine take_at 0 (some 13) (v := ?_) rfl rfl (by kernel_rfl) (by kernel_rfl) (by kernel_rfl) (fun _ _ _ h => h) ⟨by rfl, ?_⟩ hS ?_
  rotate_left
  · intro wq hSw; obtain ⟨x0, x1, x2, x3, x4, x5, x6, x7⟩ := hSw; go_simp; try rfl
  simp only [Act.put, List.setIfInBounds_toArray, List.set_cons_zero, List.set_cons_succ]
  refine take_at 1 (some 14) (v := ?_) rfl rfl (by kernel_rfl) (by kernel_rfl) (by kernel_rfl) (fun _ _ _ h => h) ⟨by rfl, ?_⟩ hS ?_
  rotate_left
  · intro wq hSw; obtain ⟨x0, x1, x2, x3, x4, x5, x6, x7⟩ := hSw; go_simp; try rfl
  simp only [Act.put, List.setIfInBounds_toArray, List.set_cons_zero, List.set_cons_succ]
  refine take_at 2 (some 15) (v := ?_) rfl rfl (by kernel_rfl) (by kernel_rfl) (by kernel_rfl) (fun _ _ _ h => h) ⟨by rfl, ?_⟩ hS ?_
  rotate_left
  · intro wq hSw; obtain ⟨x0, x1, x2, x3, x4, x5, x6, x7⟩ := hSw; go_simp; try rfl
  simp only [Act.put, List.setIfInBounds_toArray, List.set_cons_zero, List.set_cons_succ]
  refine take_at 3 (some 16) (v := ?_) rfl rfl (by kernel_rfl) (by kernel_rfl) (by kernel_rfl) (fun _ _ _ h => h) ⟨by rfl, ?_⟩ hS ?_
  rotate_left
  · intro wq hSw; obtain ⟨x0, x1, x2, x3, x4, x5, x6, x7⟩ := hSw; go_simp; try rfl
  simp only [Act.put, List.setIfInBounds_toArray, List.set_cons_zero, List.set_cons_succ]
  refine wpAnyH_ready (rs := [4]) (by kernel_rfl) (by simp) ?_
  refine AllReadyH.cons rfl (fun K hK => ?_) AllReadyH.nil
  go_simp
  go_wp2_with fail
  have SE := sectors_any (w := (w.alloc (.cells #[.int .i64 1, .bool two, .int .i64 i, .int .u8 (fill : Int), .int .i64 len, .slice a l.keep.length c, .int .i64 l.torn, .int .i64 l.off] 39)).drew) H0d.out
  refine SE.mono ?_
  rintro e w' ⟨rfl, hw⟩
  subst hw
  clear SE
  go_wp2_with fail
  refine hK.out _ _ hS (fun _ => ?_)
  clear hK K
  refine take_at 5 (some 18) (v := ?_) rfl rfl (by kernel_rfl) (by kernel_rfl) (by kernel_rfl) (fun _ _ _ h => h) ⟨by rfl, ?_⟩ hS ?_
  rotate_left
  · intro wq hSw; obtain ⟨x0, x1, x2, x3, x4, x5, x6, x7⟩ := hSw; go_simp; try rfl
  simp only [Act.put, List.setIfInBounds_toArray, List.set_cons_zero, List.set_cons_succ]
  refine wpAnyH_ready (rs := [6]) (by kernel_rfl) (by simp) ?_
  refine AllReadyH.cons rfl (fun K hK => ?_) AllReadyH.nil
  go_simp
  go_wp2_with fail
  have BR := brought_any i (g.n + 1) (w.alloc (.cells #[.int .i64 1, .bool two, .int .i64 i, .int .u8 (fill : Int), .int .i64 len, .slice a l.keep.length c, .int .i64 l.torn, .int .i64 l.off] 39)).drew (by omega) (by omega)
  rw [show ((g.n + 1 : Nat) : Int) = (g.n : Int) + 1 by omega] at BR
  refine BR.mono ?_
  rintro e w' ⟨rfl, hw⟩
  subst hw
  clear BR
  go_wp2_with fail
  refine hK.out _ _ hS (fun _ => ?_)
  clear hK K
  refine wpAnyH_ready (rs := [7]) (by kernel_rfl) (by simp) ?_
  refine AllReadyH.cons rfl (fun K hK => ?_) AllReadyH.nil
  go_simp
  go_wp2_with fail
  have RD := read_any (w := (w.alloc (.cells #[.int .i64 1, .bool two, .int .i64 i, .int .u8 (fill : Int), .int .i64 len, .slice a l.keep.length c, .int .i64 l.torn, .int .i64 l.off] 39)).drew) H0d.out ((bring i (g.n + 1) : Nat) : Int) (by omega)
  refine RD.mono ?_
  rintro e w2 ⟨v, rfl, o2, b2⟩
  have O2 := hide (Owns.base o2 (show w.heap.size ≤ _ by simp))
  have B2 := hide (bnext B0 (below_undrew b2) (Nat.le_refl _))
  clear RD
  go_wp2_with fail
  have hS2 := hS.keep (T := fun _ => False) (Keep.of_below b2) (by simp) id
  refine hK.out _ _ hS2 (fun _ => ?_)
  clear hK K
  clear hS o2
  have hS := hS2
  refine take_at 8 (some 12) (v := ?_) rfl rfl (by kernel_rfl) (by kernel_rfl) (by kernel_rfl) (fun _ _ _ h => h) ⟨by rfl, ?_⟩ hS ?_
  rotate_left
  · intro wq hSw; obtain ⟨x0, x1, x2, x3, x4, x5, x6, x7⟩ := hSw; go_simp; try rfl
  simp only [Act.put, List.setIfInBounds_toArray, List.set_cons_zero, List.set_cons_succ]
  refine take_at 9 (some 21) (v := ?_) rfl rfl (by kernel_rfl) (by kernel_rfl) (by kernel_rfl) (fun _ _ _ h => h) ⟨by rfl, ?_⟩ hS ?_
  rotate_left
  · intro wq hSw; obtain ⟨x0, x1, x2, x3, x4, x5, x6, x7⟩ := hSw; go_simp; try rfl
  simp only [Act.put, List.setIfInBounds_toArray, List.set_cons_zero, List.set_cons_succ]
  refine take_at 10 (some 22) (v := ?_) rfl rfl (by kernel_rfl) (by kernel_rfl) (by kernel_rfl) (fun _ _ _ h => h) ⟨by rfl, ?_⟩ hS ?_
  rotate_left
  · intro wq hSw; obtain ⟨x0, x1, x2, x3, x4, x5, x6, x7⟩ := hSw; go_simp; try rfl
  simp only [Act.put, List.setIfInBounds_toArray, List.set_cons_zero, List.set_cons_succ]
  refine take_at 11 (some 6) (v := ?_) rfl rfl (by kernel_rfl) (by kernel_rfl) (by kernel_rfl) (fun _ _ _ h => h) ⟨by rfl, ?_⟩ hS ?_
  rotate_left
  · intro wq hSw; obtain ⟨x0, x1, x2, x3, x4, x5, x6, x7⟩ := hSw; go_simp; try rfl
  simp only [Act.put, List.setIfInBounds_toArray, List.set_cons_zero, List.set_cons_succ]
  refine take_at 12 (some 7) (v := ?_) rfl rfl (by kernel_rfl) (by kernel_rfl) (by kernel_rfl) (fun _ _ _ h => h) ⟨by rfl, ?_⟩ hS ?_
  rotate_left
  · intro wq hSw; obtain ⟨x0, x1, x2, x3, x4, x5, x6, x7⟩ := hSw; go_simp; try rfl
  simp only [Act.put, List.setIfInBounds_toArray, List.set_cons_zero, List.set_cons_succ]
  refine wpAnyH_done (by kernel_rfl) ?_ _
  go_wp2_with fail
  refine (num_any _ _).mono ?_
  rintro e w' ⟨rfl, hw⟩
  obtain rfl : w2 = w' := hw.symm
  go_wp2_with fail
  go_ret2
  refine ⟨v, S, ?_, O2.out, H1.out.below B2.out, Step.of_below B2.out⟩
  rfl

set_option maxHeartbeats 1000000 in
set_option maxRecDepth 100000 in
theorem step_4 {w : World} {S : Nat → Prop} {d : Nat} {g : Dev} (h : PDev w S d g) (o : OpM) (a : Option Addr) (c : Nat) (ho : OpOk w o a c) (hk : o.k = 4) (hl : o.l.keep ≠ [] → ∀ ad, a = some ad → ¬ S ad.block) (_hpl : g.pend.length ≤ 999999) (_hcl : g.calls ≤ 1000000) :
    Calls Try.prog 28 #[.pointer (some ⟨d, 0, none⟩), .agg (o.v a c)] w fun e w' => ∃ v S', e = .returned (.tuple #[.int .i64 ((stepE g o : Nat) : Int), v]) ∧ OwnB w' w.heap.size v (stepB g o) ∧ PDev w' S' d (stepD g o) ∧ Step w S w' S' := by
  obtain ⟨k, two, i, fill, len, l⟩ := o
  obtain ⟨hLo, hLn⟩ := ho
  dsimp only at hk hLo hLn
  unfold OpM.v stepE stepB stepD
  dsimp only
  subst hk
  rw [if_neg (by decide), if_neg (by decide), if_neg (by decide), if_pos rfl, if_neg (by decide), if_neg (by decide), if_neg (by decide), if_pos rfl]
  obtain ⟨hn1, hn2⟩ := dev_n_le h.ok
  have ew : IntKind.i64.wrap ((g.n : Int) + 1) = (g.n : Int) + 1 := by rw [IntKind.wrap_i64]; omega
  have B0 := alloc_below w (.cells (opC 4 two i fill len a l.keep.length c l.torn l.off) 39)
  have O0 := hide (OB.new w 4 two i fill len a l.keep.length c l.torn l.off)
  have H0 := hide (h.below B0)
  have hbS : ¬ S w.heap.size := fun q => by have := h.lt _ q; omega
  have HLo := hide (hLo.below B0)
  have H0d := hide (h.below B0.drew)
  have HLod := hide (hLo.below B0.drew)
  clear h hLo
  unfold opC at B0 O0 H0 HLo H0d HLod ⊢
  go_enter Try.func28, Try.ntmps28
  have hb9 := bring_lt i 9 (by decide)
  have ew9 : IntKind.i64.wrap ((bring i 9 : Int) - 1) = (bring i 9 : Int) - 1 := by rw [IntKind.wrap_i64]; omega
  go_upto_region 10 with fail
  refine wp_region_held_drew (S := OB w.heap.size 4 two i fill len a l.keep.length c l.torn l.off) (by kernel_rfl) O0.out (fun hS => ?_)
  refine take_at 0 (some 46) (v := ?_) rfl rfl (by kernel_rfl) (by kernel_rfl) (by kernel_rfl) (fun _ _ _ h => h) ⟨by rfl, ?_⟩ hS ?_
  rotate_left
  · intro wq hSw; obtain ⟨x0, x1, x2, x3, x4, x5, x6, x7⟩ := hSw; go_simp; try rfl
  simp only [Act.put, List.setIfInBounds_toArray, List.set_cons_zero, List.set_cons_succ]
  refine take_at 1 (some 47) (v := ?_) rfl rfl (by kernel_rfl) (by kernel_rfl) (by kernel_rfl) (fun _ _ _ h => h) ⟨by rfl, ?_⟩ hS ?_
  rotate_left
  · intro wq hSw; obtain ⟨x0, x1, x2, x3, x4, x5, x6, x7⟩ := hSw; go_simp; try rfl
  simp only [Act.put, List.setIfInBounds_toArray, List.set_cons_zero, List.set_cons_succ]
  refine take_at 2 (some 48) (v := ?_) rfl rfl (by kernel_rfl) (by kernel_rfl) (by kernel_rfl) (fun _ _ _ h => h) ⟨by rfl, ?_⟩ hS ?_
  rotate_left
  · intro wq hSw; obtain ⟨x0, x1, x2, x3, x4, x5, x6, x7⟩ := hSw; go_simp; try rfl
  simp only [Act.put, List.setIfInBounds_toArray, List.set_cons_zero, List.set_cons_succ]
  refine take_at 5 (some 51) (v := ?_) rfl rfl (by kernel_rfl) (by kernel_rfl) (by kernel_rfl) (fun _ _ _ h => h) ⟨by rfl, ?_⟩ hS ?_
  rotate_left
  · intro wq hSw; obtain ⟨x0, x1, x2, x3, x4, x5, x6, x7⟩ := hSw; go_simp; try rfl
  simp only [Act.put, List.setIfInBounds_toArray, List.set_cons_zero, List.set_cons_succ]
  refine take_at 6 (some 52) (v := ?_) rfl rfl (by kernel_rfl) (by kernel_rfl) (by kernel_rfl) (fun _ _ _ h => h) ⟨by rfl, ?_⟩ hS ?_
  rotate_left
  · intro wq hSw; obtain ⟨x0, x1, x2, x3, x4, x5, x6, x7⟩ := hSw; go_simp; try rfl
  simp only [Act.put, List.setIfInBounds_toArray, List.set_cons_zero, List.set_cons_succ]
  refine wpAnyH_ready (rs := [3]) (by kernel_rfl) (by simp) ?_
  refine AllReadyH.cons rfl (fun K hK => ?_) AllReadyH.nil
  go_simp
  go_wp2_with fail
  have BR := brought_any i 9 (w.alloc (.cells #[.int .i64 4, .bool two, .int .i64 i, .int .u8 (fill : Int), .int .i64 len, .slice a l.keep.length c, .int .i64 l.torn, .int .i64 l.off] 39)).drew (by decide) (by decide)
  refine BR.mono ?_
  rintro e w' ⟨rfl, hw⟩
  subst hw
  clear BR
  go_wp2_with fail
  refine hK.out _ _ hS (fun _ => ?_)
  clear hK K
  refine take_at 4 (some 50) (v := ?_) rfl rfl (by kernel_rfl) (by kernel_rfl) (by kernel_rfl) (fun _ _ _ h => h) ⟨by rfl, ?_⟩ hS ?_
  rotate_left
  · intro wq hSw; obtain ⟨x0, x1, x2, x3, x4, x5, x6, x7⟩ := hSw; go_simp; try rfl
  simp only [Act.put, List.setIfInBounds_toArray, List.set_cons_zero, List.set_cons_succ]
  refine wpAnyH_ready (rs := [7]) (by kernel_rfl) (by simp) ?_
  refine AllReadyH.cons rfl (fun K hK => ?_) AllReadyH.nil
  go_simp
  go_wp2_with fail
  have AR := arm_any (w := (w.alloc (.cells #[.int .i64 4, .bool two, .int .i64 i, .int .u8 (fill : Int), .int .i64 len, .slice a l.keep.length c, .int .i64 l.torn, .int .i64 l.off] 39)).drew) H0d.out ((bring i 9 : Int) - 1) (by omega) l a c HLod.out hl hLn
  refine AR.mono ?_
  rintro e w2 ⟨S2, rfl, D2, st2⟩
  have HD2 := hide D2
  have ST2 := hide ((Step.of_below B0).trans (show Step (w.alloc (.cells #[.int .i64 4, .bool two, .int .i64 i, .int .u8 (fill : Int), .int .i64 len, .slice a l.keep.length c, .int .i64 l.torn, .int .i64 l.off] 39)) S w2 S2 from ⟨Keep.undrew st2.1, st2.2⟩))
  clear AR
  go_wp2_with fail
  have hS2 := hS.keep st2.1 (by simp) hbS
  refine hK.out _ _ hS2 (fun _ => ?_)
  clear hK K
  clear hS D2 st2
  have hS := hS2
  refine wpAnyH_ready (rs := [8]) (by kernel_rfl) (by simp) ?_
  refine AllReadyH.cons rfl (fun K hK => ?_) AllReadyH.nil
  go_simp
  go_wp2_with fail
  refine (num_any _ _).mono ?_
  rintro e w' ⟨rfl, hw⟩
  obtain rfl : w2 = w' := hw.symm
  go_wp2_with fail
  refine hK.out _ _ hS (fun _ => ?_)
  clear hK K
  refine take_at 9 (some 4) (v := ?_) rfl rfl (by kernel_rfl) (by kernel_rfl) (by kernel_rfl) (fun _ _ _ h => h) ⟨by rfl, ?_⟩ hS ?_
  rotate_left
  · intro wq hSw; obtain ⟨x0, x1, x2, x3, x4, x5, x6, x7⟩ := hSw; go_simp; try rfl
  simp only [Act.put, List.setIfInBounds_toArray, List.set_cons_zero, List.set_cons_succ]
  refine take_at 10 (some 5) (v := ?_) rfl rfl (by kernel_rfl) (by kernel_rfl) (by kernel_rfl) (fun _ _ _ h => h) ⟨by rfl, ?_⟩ hS ?_
  rotate_left
  · intro wq hSw; obtain ⟨x0, x1, x2, x3, x4, x5, x6, x7⟩ := hSw; go_simp; try rfl
  simp only [Act.put, List.setIfInBounds_toArray, List.set_cons_zero, List.set_cons_succ]
  refine wpAnyH_done (by kernel_rfl) ?_ _
  go_wp2_with fail
  go_ret2
  exact ⟨_, S2, rfl, Owns.nil _ _ _ _, HD2.out, ST2.out⟩

set_option maxHeartbeats 1000000 in
set_option maxRecDepth 100000 in
theorem step_2 {w : World} {S : Nat → Prop} {d : Nat} {g : Dev} (h : PDev w S d g) (o : OpM) (a : Option Addr) (c : Nat) (ho : OpOk w o a c) (hk : o.k = 2) (hl : o.l.keep ≠ [] → ∀ ad, a = some ad → ¬ S ad.block) (hpl : g.pend.length ≤ 999999) (hcl : g.calls ≤ 1000000) :
    Calls Try.prog 28 #[.pointer (some ⟨d, 0, none⟩), .agg (o.v a c)] w fun e w' => ∃ v S', e = .returned (.tuple #[.int .i64 ((stepE g o : Nat) : Int), v]) ∧ OwnB w' w.heap.size v (stepB g o) ∧ PDev w' S' d (stepD g o) ∧ Step w S w' S' := by
  obtain ⟨k, two, i, fill, len, l⟩ := o
  obtain ⟨hLo, hLn⟩ := ho
  dsimp only at hk hLo hLn
  unfold OpM.v stepE stepB stepD
  dsimp only
  subst hk
  rw [if_neg (by decide), if_pos rfl, if_neg (by decide), if_pos rfl]
  obtain ⟨hn1, hn2⟩ := dev_n_le h.ok
  have ew : IntKind.i64.wrap ((g.n : Int) + 1) = (g.n : Int) + 1 := by rw [IntKind.wrap_i64]; omega
  have B0 := alloc_below w (.cells (opC 2 two i fill len a l.keep.length c l.torn l.off) 39)
  have O0 := hide (OB.new w 2 two i fill len a l.keep.length c l.torn l.off)
  have H0 := hide (h.below B0)
  have hbS : ¬ S w.heap.size := fun q => by have := h.lt _ q; omega
  have HLo := hide (hLo.below B0)
  have H0d := hide (h.below B0.drew)
  have HLod := hide (hLo.below B0.drew)
  clear h hLo
  unfold opC at B0 O0 H0 HLo H0d HLod ⊢
  go_enter Try.func28, Try.ntmps28
  go_upto_region 6 with fail
  refine wp_region_held_drew (S := OB w.heap.size 2 two i fill len a l.keep.length c l.torn l.off) (by kernel_rfl) O0.out (fun hS => ?_)
  refine take_at 0 (some 28) (v := ?_) rfl rfl (by kernel_rfl) (by kernel_rfl) (by kernel_rfl) (fun _ _ _ h => h) ⟨by rfl, ?_⟩ hS ?_
  rotate_left
  · intro wq hSw; obtain ⟨x0, x1, x2, x3, x4, x5, x6, x7⟩ := hSw; go_simp; try rfl
  simp only [Act.put, List.setIfInBounds_toArray, List.set_cons_zero, List.set_cons_succ]
  refine take_at 1 (some 29) (v := ?_) rfl rfl (by kernel_rfl) (by kernel_rfl) (by kernel_rfl) (fun _ _ _ h => h) ⟨by rfl, ?_⟩ hS ?_
  rotate_left
  · intro wq hSw; obtain ⟨x0, x1, x2, x3, x4, x5, x6, x7⟩ := hSw; go_simp; try rfl
  simp only [Act.put, List.setIfInBounds_toArray, List.set_cons_zero, List.set_cons_succ]
  refine take_at 2 (some 30) (v := ?_) rfl rfl (by kernel_rfl) (by kernel_rfl) (by kernel_rfl) (fun _ _ _ h => h) ⟨by rfl, ?_⟩ hS ?_
  rotate_left
  · intro wq hSw; obtain ⟨x0, x1, x2, x3, x4, x5, x6, x7⟩ := hSw; go_simp; try rfl
  simp only [Act.put, List.setIfInBounds_toArray, List.set_cons_zero, List.set_cons_succ]
  refine take_at 3 (some 31) (v := ?_) rfl rfl (by kernel_rfl) (by kernel_rfl) (by kernel_rfl) (fun _ _ _ h => h) ⟨by rfl, ?_⟩ hS ?_
  rotate_left
  · intro wq hSw; obtain ⟨x0, x1, x2, x3, x4, x5, x6, x7⟩ := hSw; go_simp; try rfl
  simp only [Act.put, List.setIfInBounds_toArray, List.set_cons_zero, List.set_cons_succ]
  refine take_at 7 (some 35) (v := ?_) rfl rfl (by kernel_rfl) (by kernel_rfl) (by kernel_rfl) (fun _ _ _ h => h) ⟨by rfl, ?_⟩ hS ?_
  rotate_left
  · intro wq hSw; obtain ⟨x0, x1, x2, x3, x4, x5, x6, x7⟩ := hSw; go_simp; try rfl
  simp only [Act.put, List.setIfInBounds_toArray, List.set_cons_zero, List.set_cons_succ]
  refine wpAnyH_ready (rs := [4]) (by kernel_rfl) (by simp) ?_
  refine AllReadyH.cons rfl (fun K hK => ?_) AllReadyH.nil
  go_simp
  go_wp2_with fail
  have SE := sectors_any (w := (w.alloc (.cells #[.int .i64 2, .bool two, .int .i64 i, .int .u8 (fill : Int), .int .i64 len, .slice a l.keep.length c, .int .i64 l.torn, .int .i64 l.off] 39)).drew) H0d.out
  refine SE.mono ?_
  rintro e w' ⟨rfl, hw⟩
  subst hw
  clear SE
  go_wp2_with fail
  refine hK.out _ _ hS (fun _ => ?_)
  clear hK K
  refine take_at 5 (some 33) (v := ?_) rfl rfl (by kernel_rfl) (by kernel_rfl) (by kernel_rfl) (fun _ _ _ h => h) ⟨by rfl, ?_⟩ hS ?_
  rotate_left
  · intro wq hSw; obtain ⟨x0, x1, x2, x3, x4, x5, x6, x7⟩ := hSw; go_simp; try rfl
  simp only [Act.put, List.setIfInBounds_toArray, List.set_cons_zero, List.set_cons_succ]
  refine wpAnyH_ready (rs := [6]) (by kernel_rfl) (by simp) ?_
  refine AllReadyH.cons rfl (fun K hK => ?_) AllReadyH.nil
  go_simp
  go_wp2_with fail
  have BR := brought_any i (g.n + 1) (w.alloc (.cells #[.int .i64 2, .bool two, .int .i64 i, .int .u8 (fill : Int), .int .i64 len, .slice a l.keep.length c, .int .i64 l.torn, .int .i64 l.off] 39)).drew (by omega) (by omega)
  rw [show ((g.n + 1 : Nat) : Int) = (g.n : Int) + 1 by omega] at BR
  refine BR.mono ?_
  rintro e w' ⟨rfl, hw⟩
  subst hw
  clear BR
  go_wp2_with fail
  refine hK.out _ _ hS (fun _ => ?_)
  clear hK K
  refine wpAnyH_ready (rs := [8]) (by kernel_rfl) (by simp) ?_
  refine AllReadyH.cons rfl (fun K hK => ?_) AllReadyH.nil
  go_simp
  go_wp2_with fail
  have FL := filled_any 2 two i fill len a l.keep.length c l.torn l.off (w.alloc (.cells #[.int .i64 2, .bool two, .int .i64 i, .int .u8 (fill : Int), .int .i64 len, .slice a l.keep.length c, .int .i64 l.torn, .int .i64 l.off] 39)).drew
  unfold opC at FL
  refine FL.mono ?_
  rintro e w2 ⟨gb, rfl, o2, b2⟩
  have H2 := hide (DevAt.below H0.out (below_undrew b2))
  have B2 := hide (bnext B0 (below_undrew b2) (Nat.le_refl _))
  have O2 := hide (Owns.seen_at o2)
  clear FL
  go_wp2_with fail
  have hS2 := hS.keep (T := fun _ => False) (Keep.of_below b2) (by simp) id
  refine hK.out _ _ hS2 (fun _ => ?_)
  clear hK K
  have hsz2 : w.heap.size < w2.heap.size := by have := b2.size; simp [World.drew] at this; omega
  clear hS o2 b2
  have hS := hS2
  clear hS2
  refine wpAnyH_ready (rs := [9]) (by kernel_rfl) (by simp) ?_
  refine AllReadyH.cons rfl (fun K hK => ?_) AllReadyH.nil
  go_simp
  go_wp2_with fail
  have WR := write_any H2.out ((bring i (g.n + 1) : Nat) : Int) (some ⟨gb, 0, none⟩) (filledB fill (fillLen len)) (fillLen len) O2.out (by rw [filledB_length]; exact Nat.le_refl _) nofun (filledB_allB _ _) (by rw [filledB_length]; have := fillLen_le len; omega) hpl hcl
  rw [filledB_length] at WR
  refine WR.mono ?_
  rintro e w3 ⟨S3, rfl, D3, st3⟩
  have HD3 := hide D3
  have ST3 := hide ((Step.of_below B2.out).trans st3)
  clear WR
  go_wp2_with fail
  have hS3 := hS.keep st3.1 hsz2 hbS
  refine hK.out _ _ hS3 (fun _ => ?_)
  clear hK K
  clear hS D3 st3
  have hS := hS3
  refine wpAnyH_ready (rs := [10]) (by kernel_rfl) (by simp) ?_
  refine AllReadyH.cons rfl (fun K hK => ?_) AllReadyH.nil
  go_simp
  go_wp2_with fail
  refine (num_any _ _).mono ?_
  rintro e w' ⟨rfl, hw⟩
  obtain rfl : w3 = w' := hw.symm
  go_wp2_with fail
  refine hK.out _ _ hS (fun _ => ?_)
  clear hK K
  refine take_at 11 (some 4) (v := ?_) rfl rfl (by kernel_rfl) (by kernel_rfl) (by kernel_rfl) (fun _ _ _ h => h) ⟨by rfl, ?_⟩ hS ?_
  rotate_left
  · intro wq hSw; obtain ⟨x0, x1, x2, x3, x4, x5, x6, x7⟩ := hSw; go_simp; try rfl
  simp only [Act.put, List.setIfInBounds_toArray, List.set_cons_zero, List.set_cons_succ]
  refine take_at 12 (some 5) (v := ?_) rfl rfl (by kernel_rfl) (by kernel_rfl) (by kernel_rfl) (fun _ _ _ h => h) ⟨by rfl, ?_⟩ hS ?_
  rotate_left
  · intro wq hSw; obtain ⟨x0, x1, x2, x3, x4, x5, x6, x7⟩ := hSw; go_simp; try rfl
  simp only [Act.put, List.setIfInBounds_toArray, List.set_cons_zero, List.set_cons_succ]
  refine wpAnyH_done (by kernel_rfl) ?_ _
  go_wp2_with fail
  go_ret2
  exact ⟨_, S3, rfl, Owns.nil _ _ _ _, HD3.out, ST3.out⟩

set_option maxHeartbeats 1000000 in
set_option maxRecDepth 100000 in
theorem step_3 {w : World} {S : Nat → Prop} {d : Nat} {g : Dev} (h : PDev w S d g) (o : OpM) (a : Option Addr) (c : Nat) (ho : OpOk w o a c) (hk : o.k = 3) (hl : o.l.keep ≠ [] → ∀ ad, a = some ad → ¬ S ad.block) (hpl : g.pend.length ≤ 999999) (hcl : g.calls ≤ 1000000) :
    Calls Try.prog 28 #[.pointer (some ⟨d, 0, none⟩), .agg (o.v a c)] w fun e w' => ∃ v S', e = .returned (.tuple #[.int .i64 ((stepE g o : Nat) : Int), v]) ∧ OwnB w' w.heap.size v (stepB g o) ∧ PDev w' S' d (stepD g o) ∧ Step w S w' S' := by
  obtain ⟨k, two, i, fill, len, l⟩ := o
  obtain ⟨hLo, hLn⟩ := ho
  dsimp only at hk hLo hLn
  unfold OpM.v stepE stepB stepD
  dsimp only
  subst hk
  rw [if_neg (by decide), if_neg (by decide), if_pos rfl, if_neg (by decide), if_neg (by decide), if_pos rfl]
  obtain ⟨hn1, hn2⟩ := dev_n_le h.ok
  have ew : IntKind.i64.wrap ((g.n : Int) + 1) = (g.n : Int) + 1 := by rw [IntKind.wrap_i64]; omega
  have B0 := alloc_below w (.cells (opC 3 two i fill len a l.keep.length c l.torn l.off) 39)
  have O0 := hide (OB.new w 3 two i fill len a l.keep.length c l.torn l.off)
  have H0 := hide (h.below B0)
  have hbS : ¬ S w.heap.size := fun q => by have := h.lt _ q; omega
  have HLo := hide (hLo.below B0)
  have H0d := hide (h.below B0.drew)
  have HLod := hide (hLo.below B0.drew)
  clear h hLo
  unfold opC at B0 O0 H0 HLo H0d HLod ⊢
  go_enter Try.func28, Try.ntmps28
  have O1 := O0.out
  obtain ⟨x0, x1, x2, x3, x4, x5, x6, x7⟩ := O1
  go_wp2_with fail
  refine (sync_any H0.out (by omega) hcl).mono ?_
  rintro e w2 ⟨rfl, D2, k2⟩
  have HD2 := hide D2
  have ST2 := hide ((Step.of_below B0).trans (Step.of_keep k2))
  clear D2 k2 x0 x1 x2 x3 x4 x5 x6 x7
  go_wp2_with fail
  refine (num_any _ _).mono ?_
  rintro e w' ⟨rfl, hw⟩
  obtain rfl : w2 = w' := hw.symm
  go_wp2_with fail
  go_ret2
  exact ⟨_, S, rfl, Owns.nil _ _ _ _, HD2.out, ST2.out⟩

set_option maxHeartbeats 1000000 in
set_option maxRecDepth 100000 in
theorem step_5 {w : World} {S : Nat → Prop} {d : Nat} {g : Dev} (h : PDev w S d g) (o : OpM) (a : Option Addr) (c : Nat) (ho : OpOk w o a c) (hk : o.k = 5) (hl : o.l.keep ≠ [] → ∀ ad, a = some ad → ¬ S ad.block) (hpl : g.pend.length ≤ 999999) (_hcl : g.calls ≤ 1000000) :
    Calls Try.prog 28 #[.pointer (some ⟨d, 0, none⟩), .agg (o.v a c)] w fun e w' => ∃ v S', e = .returned (.tuple #[.int .i64 ((stepE g o : Nat) : Int), v]) ∧ OwnB w' w.heap.size v (stepB g o) ∧ PDev w' S' d (stepD g o) ∧ Step w S w' S' := by
  obtain ⟨k, two, i, fill, len, l⟩ := o
  obtain ⟨hLo, hLn⟩ := ho
  dsimp only at hk hLo hLn
  unfold OpM.v stepE stepB stepD
  dsimp only
  subst hk
  rw [if_neg (by decide), if_neg (by decide), if_neg (by decide), if_neg (by decide), if_pos rfl, if_neg (by decide), if_neg (by decide), if_neg (by decide), if_neg (by decide), if_pos rfl]
  obtain ⟨hn1, hn2⟩ := dev_n_le h.ok
  have ew : IntKind.i64.wrap ((g.n : Int) + 1) = (g.n : Int) + 1 := by rw [IntKind.wrap_i64]; omega
  have B0 := alloc_below w (.cells (opC 5 two i fill len a l.keep.length c l.torn l.off) 39)
  have O0 := hide (OB.new w 5 two i fill len a l.keep.length c l.torn l.off)
  have H0 := hide (h.below B0)
  have hbS : ¬ S w.heap.size := fun q => by have := h.lt _ q; omega
  have HLo := hide (hLo.below B0)
  have H0d := hide (h.below B0.drew)
  have HLod := hide (hLo.below B0.drew)
  clear h hLo
  unfold opC at B0 O0 H0 HLo H0d HLod ⊢
  go_enter Try.func28, Try.ntmps28
  have O1 := O0.out
  obtain ⟨x0, x1, x2, x3, x4, x5, x6, x7⟩ := O1
  go_wp2_with fail
  refine (crash_any H0.out l a c HLo.out hl (by omega)).mono ?_
  rintro e w2 ⟨rfl, D2, k2⟩
  have HD2 := hide D2
  have ST2 := hide ((Step.of_below B0).trans (Step.of_keep k2))
  clear D2 k2 x0 x1 x2 x3 x4 x5 x6 x7
  go_wp2_with fail
  refine (num_any _ _).mono ?_
  rintro e w' ⟨rfl, hw⟩
  obtain rfl : w2 = w' := hw.symm
  go_wp2_with fail
  go_ret2
  exact ⟨_, S, rfl, Owns.nil _ _ _ _, HD2.out, ST2.out⟩

set_option maxHeartbeats 1000000 in
set_option maxRecDepth 100000 in
theorem step_6 {w : World} {S : Nat → Prop} {d : Nat} {g : Dev} (h : PDev w S d g) (o : OpM) (a : Option Addr) (c : Nat) (ho : OpOk w o a c) (hk : o.k = 6) (hl : o.l.keep ≠ [] → ∀ ad, a = some ad → ¬ S ad.block) (_hpl : g.pend.length ≤ 999999) (_hcl : g.calls ≤ 1000000) :
    Calls Try.prog 28 #[.pointer (some ⟨d, 0, none⟩), .agg (o.v a c)] w fun e w' => ∃ v S', e = .returned (.tuple #[.int .i64 ((stepE g o : Nat) : Int), v]) ∧ OwnB w' w.heap.size v (stepB g o) ∧ PDev w' S' d (stepD g o) ∧ Step w S w' S' := by
  obtain ⟨k, two, i, fill, len, l⟩ := o
  obtain ⟨hLo, hLn⟩ := ho
  dsimp only at hk hLo hLn
  unfold OpM.v stepE stepB stepD
  dsimp only
  subst hk
  rw [if_neg (by decide), if_neg (by decide), if_neg (by decide), if_neg (by decide), if_neg (by decide), if_neg (by decide), if_neg (by decide), if_neg (by decide), if_neg (by decide), if_neg (by decide), if_pos rfl]
  obtain ⟨hn1, hn2⟩ := dev_n_le h.ok
  have ew : IntKind.i64.wrap ((g.n : Int) + 1) = (g.n : Int) + 1 := by rw [IntKind.wrap_i64]; omega
  have B0 := alloc_below w (.cells (opC 6 two i fill len a l.keep.length c l.torn l.off) 39)
  have O0 := hide (OB.new w 6 two i fill len a l.keep.length c l.torn l.off)
  have H0 := hide (h.below B0)
  have hbS : ¬ S w.heap.size := fun q => by have := h.lt _ q; omega
  have HLo := hide (hLo.below B0)
  have H0d := hide (h.below B0.drew)
  have HLod := hide (hLo.below B0.drew)
  clear h hLo
  unfold opC at B0 O0 H0 HLo H0d HLod ⊢
  go_enter Try.func28, Try.ntmps28
  have O1 := O0.out
  obtain ⟨x0, x1, x2, x3, x4, x5, x6, x7⟩ := O1
  go_wp2_with fail
  refine (up_any H0.out).mono ?_
  rintro e w2 ⟨rfl, D2, k2⟩
  have HD2 := hide D2
  have ST2 := hide ((Step.of_below B0).trans (Step.of_keep k2))
  clear D2 k2 x0 x1 x2 x3 x4 x5 x6 x7
  go_wp2_with fail
  refine (num_any _ _).mono ?_
  rintro e w' ⟨rfl, hw⟩
  obtain rfl : w2 = w' := hw.symm
  go_wp2_with fail
  go_ret2
  exact ⟨_, S, rfl, Owns.nil _ _ _ _, HD2.out, ST2.out⟩

set_option maxHeartbeats 1000000 in
set_option maxRecDepth 100000 in
theorem step_0 {w : World} {S : Nat → Prop} {d : Nat} {g : Dev} (h : PDev w S d g) (o : OpM) (a : Option Addr) (c : Nat) (ho : OpOk w o a c) (hk : o.k < 1 ∨ 6 < o.k) (hl : o.l.keep ≠ [] → ∀ ad, a = some ad → ¬ S ad.block) (_hpl : g.pend.length ≤ 999999) (_hcl : g.calls ≤ 1000000) :
    Calls Try.prog 28 #[.pointer (some ⟨d, 0, none⟩), .agg (o.v a c)] w fun e w' => ∃ v S', e = .returned (.tuple #[.int .i64 ((stepE g o : Nat) : Int), v]) ∧ OwnB w' w.heap.size v (stepB g o) ∧ PDev w' S' d (stepD g o) ∧ Step w S w' S' := by
  obtain ⟨k, two, i, fill, len, l⟩ := o
  obtain ⟨hLo, hLn⟩ := ho
  dsimp only at hk hLo hLn
  unfold OpM.v stepE stepB stepD
  dsimp only
  rw [if_neg (by omega), if_neg (by omega), if_neg (by omega), if_neg (by omega), if_neg (by omega), if_neg (by omega), if_neg (by omega), if_neg (by omega), if_neg (by omega), if_neg (by omega), if_neg (by omega)]
  obtain ⟨hn1, hn2⟩ := dev_n_le h.ok
  have ew : IntKind.i64.wrap ((g.n : Int) + 1) = (g.n : Int) + 1 := by rw [IntKind.wrap_i64]; omega
  have B0 := alloc_below w (.cells (opC k two i fill len a l.keep.length c l.torn l.off) 39)
  have O0 := hide (OB.new w k two i fill len a l.keep.length c l.torn l.off)
  have H0 := hide (h.below B0)
  have hbS : ¬ S w.heap.size := fun q => by have := h.lt _ q; omega
  have HLo := hide (hLo.below B0)
  have H0d := hide (h.below B0.drew)
  have HLod := hide (hLo.below B0.drew)
  clear h hLo
  unfold opC at B0 O0 H0 HLo H0d HLod ⊢
  go_enter Try.func28, Try.ntmps28
  have g1 : (k == 1) = false := by simp; omega
  have g2 : (k == 2) = false := by simp; omega
  have g3 : (k == 3) = false := by simp; omega
  have g4 : (k == 4) = false := by simp; omega
  have g5 : (k == 5) = false := by simp; omega
  have g6 : (k == 6) = false := by simp; omega
  have O1 := O0.out
  obtain ⟨x0, x1, x2, x3, x4, x5, x6, x7⟩ := O1
  go_wp2_with fail
  go_ret2
  first | exact ⟨_, S, rfl, Owns.nil _ _ _ _, H0.out, Step.of_below B0⟩ | exact ⟨_, rfl, Owns.nil _ _ _ _, S, H0.out, Step.of_below B0⟩

theorem step_any {w : World} {S : Nat → Prop} {d : Nat} {g : Dev} (h : PDev w S d g) (o : OpM) (a : Option Addr) (c : Nat) (ho : OpOk w o a c) (hl : o.l.keep ≠ [] → ∀ ad, a = some ad → ¬ S ad.block) (hpl : g.pend.length ≤ 999999) (hcl : g.calls ≤ 1000000) :
    Calls Try.prog 28 #[.pointer (some ⟨d, 0, none⟩), .agg (o.v a c)] w fun e w' => ∃ v S', e = .returned (.tuple #[.int .i64 ((stepE g o : Nat) : Int), v]) ∧ OwnB w' w.heap.size v (stepB g o) ∧ PDev w' S' d (stepD g o) ∧ Step w S w' S' := by
  by_cases h0 : o.k < 1 ∨ 6 < o.k
  · exact step_0 h o a c ho h0 hl hpl hcl
  · have hk : o.k = 1 ∨ o.k = 2 ∨ o.k = 3 ∨ o.k = 4 ∨ o.k = 5 ∨ o.k = 6 := by omega
    rcases hk with hk | hk | hk | hk | hk | hk
    · exact step_1 h o a c ho hk hl hpl hcl
    · exact step_2 h o a c ho hk hl hpl hcl
    · exact step_3 h o a c ho hk hl hpl hcl
    · exact step_4 h o a c ho hk hl hpl hcl
    · exact step_5 h o a c ho hk hl hpl hcl
    · exact step_6 h o a c ho hk hl hpl hcl
end Go.Proofs.Ytohkmigahbellaa
