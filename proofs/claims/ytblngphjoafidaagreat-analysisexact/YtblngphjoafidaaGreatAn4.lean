import Derived.Test.YtblngphjoafidaaGreatAn3
import Derived.Test.YtblngphjoafidaaGreatTx6
import Derived.Test.YtblngphjoafidaaGreatTx8
import Derived.Test.YtblngphjoafidaaGreatTx9
import Derived.Great.BuildSlice
import Derived.Great.Ranges
namespace Go.Proofs.YtblngphjoafidaaGreat
open Go.RowKit Go.QK Go.Maps Go.QM Go.QT
set_option maxRecDepth 100000
/-! A pass in memory: its block, the table's, the map's. -/
structure PP (w : World) (b tb m : Nat) (p : PassM) : Prop where
  ps : PS w b (ptr tb) p.pg
  pt : PT w tb m p.tb
  n1 : b ≠ tb
  n2 : b ≠ m
theorem PP.below {w w' : World} {b tb m : Nat} {p : PassM} (h : PP w b tb m p) (hk : Below w.heap.size w w') : PP w' b tb m p := ⟨h.ps.below hk, h.pt.below hk, h.n1, h.n2⟩
theorem PP.keep {S : Nat → Prop} {w w' : World} {b tb m : Nat} {p : PassM} (h : PP w b tb m p) (hk : Keep S w w') (h1 : ¬ S b) (h2 : ¬ S tb) (h3 : ¬ S m) : PP w' b tb m p := ⟨h.ps.keep hk h1, h.pt.keep hk h2 h3, h.n1, h.n2⟩
def zeroA (v : Value) : Array Value := (v :: sgC (fun _ => 0)).toArray
theorem built72 (tb : Nat) : Tryz.prog.built 84 [(0, ptr tb)] = some (zeroA (ptr tb)) := by kernel_rfl
section
variable {ops : Array Oper} {rest : List Oper} {a : Act} {w : World} {Q : Exit → Act → World → Prop} {d : Option Tmp} {ty : TypeId} {ps : String} {af : Array Edge} {x : Operand}
theorem wpList_build72 {tb : Nat} (hx : a.eval x = ptr tb) (h : wpList Tryz.prog ops Q rest (a.put d (.agg (zeroA (ptr tb)))) w) :
    wpList Tryz.prog ops Q ({ dst := d, op := .build 84 #[(0, x)], type := ty, pos := ps, after := af, guard := none } :: rest) a w := by
  refine wpList_buildTo rfl 84 #[(0, x)] rfl d rfl (zeroA (ptr tb)) ?_ h
  simp only [List.map_toArray, List.map_cons, List.map_nil, hx]
  exact built72 tb
theorem wpList_box72 {v : Value} (hx : a.eval x = .agg (zeroA v)) (h : wpList Tryz.prog ops Q rest (a.put d (ptr w.heap.size)) (w.alloc (.cells (zeroA v) 84))) :
    wpList Tryz.prog ops Q ({ dst := d, op := .box 84 x, type := ty, pos := ps, after := af, guard := none } :: rest) a w :=
  Go.Great.wpList_boxTo rfl 84 x rfl d rfl w.heap.size rfl (zeroA v) (by rw [hx]; rfl) h
end
theorem PS.made (w : World) (tb : Nat) : PS (w.alloc (.cells (zeroA (ptr tb)) 84)) w.heap.size (ptr tb) (fun _ => 0) := by
  have := Cells.new w (zeroA (ptr tb)) 84
  show Cells _ _ _
  simpa [zeroA] using this
theorem marks_snoc (s : Nat → Int) (a : List DirtyM) (d : DirtyM) : marks s (a ++ [d]) = mark (marks s a) d.page d.since := by
  induction a generalizing s with
  | nil => rfl
  | cons x a ih => exact ih _
theorem take_next' {α : Type} (l : List α) (k : Nat) (h : k < l.length) : l.take (k + 1) = l.take k ++ [l[k]] := by rw [List.take_add_one, List.getElem?_eq_getElem h]; rfl
set_option maxHeartbeats 4000000 in
theorem standing_any (r : RecM) (la da : Option Addr) (lc dc nl nd : Nat) (w : World) (hl : Lies w la (liveCs r.live)) (hd : Lies w da (dirtyCs r.dirty)) (h : PtsOk r) (hnl : nl = r.live.length) (hnd : nd = r.dirty.length) :
    Calls Tryz.prog 29 #[.agg #[.slice la nl lc, .slice da nd dc, .int .i64 r.next]] w fun e w' => ∃ b tb m, e = .returned (.tuple #[ptr b, .int .i64 0]) ∧ PP w' b tb m (standP r) ∧ w.heap.size ≤ b ∧ w.heap.size ≤ tb ∧ w.heap.size ≤ m ∧ Below w.heap.size w w' := by
  obtain ⟨NX, hNX⟩ : ∃ N, N = r.next := ⟨_, rfl⟩
  have KL := hide (fun w' (hq : Below w.heap.size w w') => load_yes la lc (.slice da nd dc) r.next (r.live.map lvOf) w' (by rw [← cells_lv]; exact hl.below hq) (by have := h.few; rw [List.length_map]; omega) h.load)
  have KL := hide (show ∀ w', Below w.heap.size w w' → Calls Tryz.prog 44 #[.agg #[.slice la nl lc, .slice da nd dc, .int .i64 NX]] w' fun e w'' => ∃ b m, e = .returned (.tuple #[ptr b, .int .i64 0]) ∧ PT w'' b m ⟨r.live.map lvOf, r.next⟩ ∧ w'.heap.size ≤ b ∧ w'.heap.size ≤ m ∧ Below w'.heap.size w' w'' by
    have := KL.out
    rw [List.length_map, ← hnl, ← hNX] at this
    rw [← hNX]
    exact this)
  rw [← hNX]
  have HD := hide hd
  have HP := hide h
  have HND := hide hnd
  have hle : nd ≤ 16 := by rw [hnd]; exact h.less
  obtain ⟨T, HT⟩ : ∃ T, Hid (T = r.live.map lvOf) := ⟨_, hide rfl⟩
  rw [← HT.out] at KL
  clear hl hd h hnl hnd hNX
  go_enter Tryz.func29, Tryz.ntmps29
  go_upto_region 1 with fail
  refine named (P := Code.wp _ _ _ _) ?_
  intro w0 hw0
  have B0 := hide (show Below w.heap.size w w0 by rw [hw0]; exact alloc_below _ _)
  obtain ⟨xb, hxb⟩ : ∃ xb, xb = w.heap.size := ⟨_, rfl⟩
  have X0 := hide (show Cells w0 xb [.slice la nl lc, .slice da nd dc, .int .i64 NX] by rw [hw0, hxb]; exact Cells.new _ _ _)
  rw [← hxb]
  obtain ⟨x0, -⟩ := X0.out.get 0 _ rfl
  obtain ⟨x1, -⟩ := X0.out.get 1 _ rfl
  obtain ⟨x2, -⟩ := X0.out.get 2 _ rfl
  have HX := hide hxb
  clear hw0 hxb
  go_upto_region 2 with (go_at_call 44; refine (KL.out _ B0.out).mono ?_; rintro e w1 ⟨tb, m, rfl, hT, ht1, ht2, hb1⟩)
  have T1 := hide hT
  have B1 := hide hb1
  have X1 := hide (X0.out.below hb1)
  have L1 := hide (show w.heap.size ≤ tb ∧ w.heap.size ≤ m by have := B0.out.size; omega)
  clear hT hb1 x0 x1 x2 X0 KL ht1 ht2
  have B2 := hide (B0.out.trans (B1.out.mono B0.out.size))
  clear B0 B1
  go_upto_region 3 with (first | refine wpList_build72 rfl ?_ | refine wpList_box72 rfl ?_)
  refine named (P := Code.wp _ _ _ _) ?_
  intro w2 hw2
  obtain ⟨pb, hpb⟩ : ∃ xb, xb = w1.heap.size := ⟨_, rfl⟩
  have bb := (alloc_below w1 (.cells (zeroA (ptr tb)) 84))
  rw [← hw2] at bb
  have P2 := hide (show PP w2 pb tb m ⟨⟨T, r.next⟩, marks (fun _ => 0) (r.dirty.take 0)⟩ from ⟨by rw [hw2, hpb]; exact PS.made _ _, T1.out.below bb, by have := T1.out.lt.1; omega, by have := T1.out.lt.2; omega⟩)
  have B3 := hide (B2.out.trans (bb.mono B2.out.size))
  have X2 := hide (X1.out.below bb)
  have L2 := hide (show w.heap.size ≤ pb by rw [hpb]; exact B2.out.size)
  rw [← hpb]
  clear hw2 bb hpb T1 X1 B2
  obtain ⟨x1, -⟩ := X2.out.get 1 _ rfl
  go_wp2_with fail
  clear x1
  go_loopw [20] (fun i wr => ∃ (k : Nat), i = .int .i64 (k : Int) ∧ k ≤ nd ∧ PP wr pb tb m ⟨⟨T, r.next⟩, marks (fun _ => 0) (r.dirty.take k)⟩ ∧ Below w.heap.size w wr) (fun i _ => (nd + 1 - (intOf i).toNat))
  case atStart => exact ⟨0, rfl, by omega, P2.out, B3.out⟩
  case round =>
    clear P2 B3 X2
    obtain ⟨k, rfl, hk, hP, hb⟩ := hrel
    have P0 := hide hP
    have B0 := hide hb
    by_cases hlt : k < nd
    · have e1 : decide ((k : Int) < (nd : Int)) = true := by simp; omega
      have hlx : k < r.dirty.length := by rw [← HND.out]; exact hlt
      obtain ⟨sb, so, rfl, slt, c0, c1⟩ := (HD.out.below (hb.mono (Nat.le_refl _))).dirtyAt k hlx
      have HM := hide (marks_snoc (fun _ => 0) (r.dirty.take k) r.dirty[k])
      rw [← take_next' r.dirty k hlx] at HM
      have HO := hide (HP.out.dirty r.dirty[k] (List.getElem_mem hlx))
      obtain ⟨M, hM⟩ : ∃ M, M = marks (fun _ => 0) (r.dirty.take k) := ⟨_, rfl⟩
      rw [← hM] at HM P0
      generalize r.dirty[k] = d at *
      obtain ⟨dp, ds⟩ := d
      simp only at c0 c1 HM HO
      clear hP hb hM
      go_upto_region 6 with fail
      refine named (P := Code.wp _ _ _ _) ?_
      intro w1 hw1
      have bb := alloc_below wr (.cells #[.int .i64 dp, .int .i64 ds] 60)
      rw [← hw1] at bb
      obtain ⟨db, hdb⟩ : ∃ xb, xb = wr.heap.size := ⟨_, rfl⟩
      have D1 := hide (show Cells w1 db [.int .i64 dp, .int .i64 ds] by rw [hw1, hdb]; exact Cells.new _ _ _)
      have P1 := hide (P0.out.below bb)
      have B1 := hide (B0.out.trans (bb.mono B0.out.size))
      have ND := hide (show db ≠ pb by have := P0.out.ps.1; omega)
      rw [← hdb]
      clear hw1 bb hdb P0 B0 c0 c1
      refine wp_region_held_drew (S := fun wq => Keep (fun z => z = pb) w1 wq) (by kernel_rfl) (Keep.refl _ _).drew (fun hS => ?_)
      have KM := hide (mark_any pb (ptr tb) M dp ds w1.drew (P1.out.ps.below (Below.refl w1.heap.size w1).drew) HO.out.1 HO.out.2.1)
      have P1d := hide (P1.out.below (Below.refl w1.heap.size w1).drew)
      have B1d := hide (B1.out.trans ((Below.refl w1.heap.size w1).drew.mono B1.out.size))
      have KD := hide (show Keep (fun z => z = pb) w1 w1.drew from (Keep.refl _ _).drew)
      generalize w1.drew = y0 at *
      refine take_at 0 (some 24) (v := ?_) rfl rfl (by kernel_rfl) (by kernel_rfl) (by kernel_rfl) (fun _ _ _ h => h) ⟨by rfl, ?_⟩ hS ?_
      rotate_left
      · intro wq hSw; go_simp; try rfl
      simp only [Act.put, List.setIfInBounds_toArray, List.set_cons_zero, List.set_cons_succ]
      refine take_at 1 (some 25) (v := ?_) rfl rfl (by kernel_rfl) (by kernel_rfl) (by kernel_rfl) (fun _ _ _ h => h) ⟨by rfl, ?_⟩ hS ?_
      rotate_left
      · intro wq hSw; go_simp; try rfl
      simp only [Act.put, List.setIfInBounds_toArray, List.set_cons_zero, List.set_cons_succ]
      refine take_at 2 (some 26) (v := ?_) rfl rfl (by kernel_rfl) (by kernel_rfl) (by kernel_rfl) (fun _ _ _ h => h) ⟨by rfl, ?_⟩ hS ?_
      rotate_left
      · intro wq hSw; go_simp; try rfl
      simp only [Act.put, List.setIfInBounds_toArray, List.set_cons_zero, List.set_cons_succ]
      refine take_at 3 (some 27) (v := ?_) rfl rfl (by kernel_rfl) (by kernel_rfl) (by kernel_rfl) (fun _ _ _ h => h) ⟨by rfl, ?_⟩ hS ?_
      rotate_left
      · intro wq hSw; go_simp; try rfl
      simp only [Act.put, List.setIfInBounds_toArray, List.set_cons_zero, List.set_cons_succ]
      refine take_at 4 (some 28) (v := ?_) rfl rfl (by kernel_rfl) (by kernel_rfl) (by kernel_rfl) (fun _ _ _ h => h) ⟨by rfl, ?_⟩ hS ?_
      rotate_left
      · intro wq hSw; have q := ((D1.out.keep hSw ND.out).get 0 _ rfl).1; go_simp; try rfl
      simp only [Act.put, List.setIfInBounds_toArray, List.set_cons_zero, List.set_cons_succ]
      refine take_at 5 (some 29) (v := ?_) rfl rfl (by kernel_rfl) (by kernel_rfl) (by kernel_rfl) (fun _ _ _ h => h) ⟨by rfl, ?_⟩ hS ?_
      rotate_left
      · intro wq hSw; go_simp; try rfl
      simp only [Act.put, List.setIfInBounds_toArray, List.set_cons_zero, List.set_cons_succ]
      refine take_at 6 (some 30) (v := ?_) rfl rfl (by kernel_rfl) (by kernel_rfl) (by kernel_rfl) (fun _ _ _ h => h) ⟨by rfl, ?_⟩ hS ?_
      rotate_left
      · intro wq hSw; have q := ((D1.out.keep hSw ND.out).get 1 _ rfl).1; go_simp; try rfl
      simp only [Act.put, List.setIfInBounds_toArray, List.set_cons_zero, List.set_cons_succ]
      refine wpAnyH_ready (rs := [7]) (by kernel_rfl) (by simp) ?_
      refine AllReadyH.cons rfl (fun K hK => ?_) AllReadyH.nil
      go_simp
      go_wp2_with fail
      refine KM.out.mono ?_
      rintro e w3 ⟨rfl, hp3, hk3, hs3⟩
      go_wp2_with fail
      refine hK.out _ _ (KD.out.trans hk3 (fun _ _ q => q)) (fun hS => ?_)
      clear hK K
      (try simp only [Act.put, List.setIfInBounds_toArray, List.set_cons_zero, List.set_cons_succ])
      refine wpAnyH_done (by kernel_rfl) ?_ _
      have P3 := hide (show PP w3 pb tb m ⟨⟨T, r.next⟩, marks (fun _ => 0) (r.dirty.take (k + 1))⟩ from ⟨by rw [HM.out]; exact hp3, P1d.out.pt.keep hk3 (fun q => P1d.out.n1 q.symm) (fun q => P1d.out.n2 q.symm), P1d.out.n1, P1d.out.n2⟩)
      have B3 := hide (B1d.out.trans (hk3.below (by have := B1d.out.size; omega) (fun z hz q => by have := L2.out; omega)))
      clear hp3 hk3 hs3 hS KM P1d B1d KD P1 B1 D1 ND
      go_wp2_with fail
      go_roundw
      case rel => exact ⟨k + 1, by go_num, by omega, P3.out, B3.out⟩
      case measure => simp [intOf]; omega
    · obtain rfl : k = nd := by omega
      have P3 := hide (show PP wr pb tb m (standP r) by
        have := P0.out
        rw [HND.out, List.take_length, HT.out] at this
        exact this)
      clear hP hb P0
      go_wp2_with fail
      go_ret2
      exact ⟨pb, tb, m, rfl, P3.out, L2.out, L1.out.1, L1.out.2, B0.out⟩
end Go.Proofs.YtblngphjoafidaaGreat
