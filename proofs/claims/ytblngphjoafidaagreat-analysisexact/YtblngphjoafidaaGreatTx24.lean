import Derived.Test.YtblngphjoafidaaGreatTx23
namespace Go.Proofs.YtblngphjoafidaaGreat
open Go.RowKit Go.QK Go.Maps Go.QM Go.QT
set_option maxRecDepth 100000
set_option maxHeartbeats 4000000 in
theorem rload_no (la : Option Addr) (lc : Nat) (da : Option Addr) (dn dc : Nat) (next : Int) (L : List Lv) (w : World) (hL : Lies w la (rowsC lvC L)) (hno : loadOk L next = false) :
    Calls Tryz.prog 21 #[.agg #[.slice la L.length lc, .slice da dn dc, .int .i64 next]] w fun e w' => e = .returned (.tuple #[.pointer none, .int .i64 23]) ∧ Below w.heap.size w w' := by
  have b0 := alloc_below w (.cells #[.slice la L.length lc, .slice da dn dc, .int .i64 next] 53)
  unfold loadOk at hno
  cases hn : isNext next with
  | false =>
    unfold isNext at hn
    by_cases q1 : next < 1
    · have d1 : decide (next < 1) = true := by simpa using q1
      clear hn hno b0 hL
      go_enter Tryz.func21, Tryz.ntmps21
      go_wp2_with fail
      go_ret2
      exact ⟨rfl, alloc_below _ _⟩
    · have d1 : decide (next < 1) = false := by simpa using q1
      have d2 : decide (2147483648 < next) = true := by simp at hn ⊢; omega
      clear hn hno b0 hL
      go_enter Tryz.func21, Tryz.ntmps21
      go_wp2_with fail
      go_ret2
      exact ⟨rfl, alloc_below _ _⟩
  | true =>
    rw [hn, Bool.true_and] at hno
    have d1 : decide (next < 1) = false := by unfold isNext at hn; simp at hn ⊢; omega
    have d2 : decide (2147483648 < next) = false := by unfold isNext at hn; simp at hn ⊢; omega
    have K := rl_any la lc next L _ (hL.below b0) hn
    rw [hno] at K
    have B0 := hide b0
    clear b0 hno hn hL
    go_enter Tryz.func21, Tryz.ntmps21
    go_wp2_with fail
    refine K.mono ?_
    rintro e w2 ⟨rfl, hb⟩
    have HB := hide (B0.out.trans (hb.mono B0.out.size))
    clear hb
    go_wp2_with fail
    go_ret2
    exact ⟨rfl, HB.out⟩
theorem run_pushN (x : World) (B : Nat) (la : Option Addr) (L : List Lv) (lc : Nat) (h : Lies x la (rowsC lvC L)) (hn : la = none → lc = 0 ∧ L.length = 0) (hl : L.length ≤ 1000) (hB : B ≤ x.heap.size) :
    ∃ v3 x3, (Builtin.append_ #[31, 31] 31 #[.slice none 0 0, .slice la L.length lc]).run Tryz.prog x = .ok v3 x3 ∧ GRow x3 B 58 4 v3 L.length (rowsC lvC L) ∧ x.grownBy x3 none ∧ (v3.ownBlock = none ∨ v3.ownBlock = some x.heap.size) := by
  cases la with
  | none =>
    obtain ⟨q1, q2⟩ := hn rfl
    subst q1
    have e : L = [] := List.eq_nil_of_length_eq_zero q2
    subst e
    refine ⟨.slice none 0 0, x, ?_, World.ownsRow_nil _ _ _ _, World.grownBy.refl _ _, .inl rfl⟩
    go_simp
  | some ad =>
    obtain ⟨v', x', h1, h2, h3, h4⟩ := run_pushR Tryz.underlying31 info26 rfl (by decide) (by decide) 33 x B (.slice none 0 0) 0 [] (World.ownsRow_nil _ _ _ _) ad L.length lc (rowsC lvC L) (by rw [rowsC_len lvC 4 (fun _ => rfl)]; omega) h (rows_one _) (by omega) hB
    exact ⟨v', x', h1, by simpa using h2, h3, h4⟩
set_option maxHeartbeats 4000000 in
theorem rload_yes (la : Option Addr) (lc : Nat) (da : Option Addr) (dn dc : Nat) (next : Int) (L : List Lv) (w : World) (hL : Lies w la (rowsC lvC L)) (hnl : la = none → lc = 0 ∧ L.length = 0) (hno : loadOk L next = true) :
    Calls Tryz.prog 21 #[.agg #[.slice la L.length lc, .slice da dn dc, .int .i64 next]] w fun e w' => ∃ c v, e = .returned (.tuple #[ptr c, .int .i64 0]) ∧ RT w' w.heap.size c v ⟨L, next⟩ ∧ Below w.heap.size w w' := by
  have hok := TbM.Ok.load hno
  have few : L.length ≤ 32 := hok.few
  have b0 := alloc_below w (.cells #[.slice la L.length lc, .slice da dn dc, .int .i64 next] 53)
  have hn : isNext next = true := by unfold loadOk at hno; simp at hno; simp [hno]
  have hno2 : (decide (L.length ≤ 32) && okFrom 0 next L) = true := by unfold loadOk at hno; rw [hn, Bool.true_and] at hno; exact hno
  have d1 : decide (next < 1) = false := by unfold isNext at hn; simp at hn ⊢; omega
  have d2 : decide (2147483648 < next) = false := by unfold isNext at hn; simp at hn ⊢; omega
  have K := rl_any la lc next L _ (hL.below b0) hn
  rw [hno2] at K
  have B0 := hide b0
  have HLI := hide hL
  have HOK := hide hok
  have HNL := hide hnl
  have HX0 := hide (Cells.new w #[.slice la L.length lc, .slice da dn dc, .int .i64 next] 53)
  have hlen := rowsC_len lvC 4 (fun _ => rfl) L
  clear b0 hno hno2 hn hL hok hnl
  go_enter Tryz.func21, Tryz.ntmps21
  go_wp2_with fail
  refine K.mono ?_
  rintro e w2 ⟨rfl, hb⟩
  have HB := hide (B0.out.trans (hb.mono B0.out.size))
  have HX := hide (HX0.out.below hb)
  have L2 := hide (HLI.out.below HB.out)
  obtain ⟨pb, hpb⟩ : ∃ pb, pb = w.heap.size := ⟨_, rfl⟩
  rw [← hpb] at HX ⊢
  clear hb hpb K HX0 B0
  go_upto_region 3 with fail
  refine wp_region_held_drew (S := fun wq => Below w2.heap.size w2 wq) (by kernel_rfl) (Below.refl _ _).drew (fun hS => ?_)
  refine take_at 0 (some 20) (v := ?_) rfl rfl (by kernel_rfl) (by kernel_rfl) (by kernel_rfl) (fun _ _ _ h => h) ⟨by rfl, ?_⟩ hS ?_
  rotate_left
  · intro wq hSw; go_simp; try rfl
  simp only [Act.put, List.setIfInBounds_toArray, List.set_cons_zero, List.set_cons_succ]
  refine take_at 1 (some 21) (v := ?_) rfl rfl (by kernel_rfl) (by kernel_rfl) (by kernel_rfl) (fun _ _ _ h => h) ⟨by rfl, ?_⟩ hS ?_
  rotate_left
  · intro wq hSw; have q := ((HX.out.below hSw).get 0 _ rfl).1; go_simp; try rfl
  simp only [Act.put, List.setIfInBounds_toArray, List.set_cons_zero, List.set_cons_succ]
  refine take_at 3 (some 23) (v := ?_) rfl rfl (by kernel_rfl) (by kernel_rfl) (by kernel_rfl) (fun _ _ _ h => h) ⟨by rfl, ?_⟩ hS ?_
  rotate_left
  · intro wq hSw; go_simp; try rfl
  simp only [Act.put, List.setIfInBounds_toArray, List.set_cons_zero, List.set_cons_succ]
  refine take_at 4 (some 24) (v := ?_) rfl rfl (by kernel_rfl) (by kernel_rfl) (by kernel_rfl) (fun _ _ _ h => h) ⟨by rfl, ?_⟩ hS ?_
  rotate_left
  · intro wq hSw; have q := ((HX.out.below hSw).get 2 _ rfl).1; go_simp; try rfl
  simp only [Act.put, List.setIfInBounds_toArray, List.set_cons_zero, List.set_cons_succ]
  have D1 := hide hS
  clear hS
  generalize w2.drew = x1 at *
  obtain ⟨v3, x3, r3, o3, g3, n3⟩ : ∃ v3 x3, (Builtin.append_ #[31, 31] 31 #[.slice none 0 0, .slice la L.length lc]).run Tryz.prog x1 = .ok v3 x3 ∧ GRow x3 w.heap.size 58 4 v3 L.length (rowsC lvC L) ∧ x1.grownBy x3 none ∧ (v3.ownBlock = none ∨ v3.ownBlock = some x1.heap.size) := run_pushN x1 w.heap.size la L lc (L2.out.below D1.out) HNL.out (by omega) (Nat.le_trans HB.out.size D1.out.size)
  have b3 : Below w2.heap.size w2 x3 := D1.out.trans ((Below.refl w2.heap.size x1).grown g3 D1.out.size (fun q hq => by cases hq))
  have HR := hide r3
  have O3 := hide o3
  have N3 := hide n3
  have B3 := hide b3
  have S3 := hide (show x1.heap.size ≤ x3.heap.size from g3.size)
  clear r3 o3 g3 n3 b3
  refine wpAnyH_ready (rs := [2]) (by kernel_rfl) (by simp) ?_
  refine AllReadyH.cons rfl (fun K hK => ?_) AllReadyH.nil
  refine wp_run 22 (.const (.slice none 0 0)) (.tmp 21) rfl rfl rfl rfl rfl HR.out ?_
  refine hK.out _ _ B3.out (fun hS => ?_)
  clear hK K
  (try simp only [Act.put, List.setIfInBounds_toArray, List.set_cons_zero, List.set_cons_succ])
  obtain ⟨a9, c9, e9, -, -⟩ := lies_of O3.out
  subst e9
  refine take_at 5 (some 25) (v := ?_) rfl rfl (by kernel_rfl) (by kernel_rfl) (by kernel_rfl) (fun _ _ _ h => h) ⟨by rfl, ?_⟩ hS ?_
  rotate_left
  · intro wq hSw; go_simp; try rfl
  simp only [Act.put, List.setIfInBounds_toArray, List.set_cons_zero, List.set_cons_succ]
  clear hS
  refine wpAnyH_ready (rs := [6]) (by kernel_rfl) (by simp) ?_
  refine AllReadyH.cons rfl (fun K hK => ?_) AllReadyH.nil
  go_simp
  go_wp2_with fail
  refine hK.out _ _ (B3.out.alloc B3.out.size _) (fun hS => ?_)
  clear hK K
  (try simp only [Act.put, List.setIfInBounds_toArray, List.set_cons_zero, List.set_cons_succ])
  refine take_at 7 (some 2) (v := ?_) rfl rfl (by kernel_rfl) (by kernel_rfl) (by kernel_rfl) (fun _ _ _ h => h) ⟨by rfl, ?_⟩ hS ?_
  rotate_left
  · intro wq hSw; go_simp; try rfl
  simp only [Act.put, List.setIfInBounds_toArray, List.set_cons_zero, List.set_cons_succ]
  refine take_at 8 (some 3) (v := ?_) rfl rfl (by kernel_rfl) (by kernel_rfl) (by kernel_rfl) (fun _ _ _ h => h) ⟨by rfl, ?_⟩ hS ?_
  rotate_left
  · intro wq hSw; go_simp; try rfl
  simp only [Act.put, List.setIfInBounds_toArray, List.set_cons_zero, List.set_cons_succ]
  clear hS
  refine wpAnyH_done (by kernel_rfl) ?_ _
  go_wp2_with fail
  go_ret2
  refine ⟨_, _, rfl, ⟨Cells.new _ _ _, GRow.below O3.out (alloc_below _ _), ?_, ?_, HOK.out⟩, ?_⟩
  · intro q hq; rcases N3.out with e | e; (rw [e] at hq; cases hq); (rw [e] at hq; cases hq; have := (World.ownsRow.lt O3.out _ e).2; omega)
  · exact Nat.le_trans HB.out.size B3.out.size
  · have := HB.out.trans (B3.out.mono HB.out.size); exact this.alloc this.size _
end Go.Proofs.YtblngphjoafidaaGreat
