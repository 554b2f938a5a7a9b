import Derived.Test.YtcnlcmdppkdmmaaEc32
namespace Go.Proofs.Ytcnlcmdppkdmmaa
open Go.RowKit Go.QK Quota Go.Maps
set_option maxRecDepth 100000

theorem rowsC_length (L : Nets) : (rowsC netC L).length = 2 * L.length := by
  unfold rowsC
  induction L with
  | nil => rfl
  | cons p r ih => rw [List.flatMap_cons, List.length_append, ih, List.length_cons]; simp [netC]; omega
/-- An escrow of the document's keeps what it is where only blocks are touched that are not its own: a row without nets has none. -/
theorem RE.keep2 {S : Nat → Prop} {w w' : World} {b : Nat} {e : Esc} {a : Option Addr} {c : Nat} (h : RE w b e a c) (hk : Keep S w w') (h1 : ¬ S b) (h2 : e.nets ≠ [] → ∀ ad, a = some ad → ¬ S ad.block) : RE w' b e a c := by
  refine ⟨h.cells.keep hk h1, ?_, h.apart, h.ok⟩
  by_cases q : e.nets = []
  · rw [q]; exact .inl rfl
  · exact h.row.keep hk (h2 q)
theorem RE.row_lt {w : World} {b : Nat} {e : Esc} {a : Option Addr} {c : Nat} (h : RE w b e a c) (hn : e.nets ≠ []) {ad : Addr} (hd : a = some ad) : ad.block < w.heap.size := by
  rcases h.row with q | ⟨b9, o9, q, hlt, _⟩
  · have := congrArg List.length q
    rw [rowsC_length] at this
    exact absurd (List.eq_nil_of_length_eq_zero (by simp at this; omega)) hn
  · rw [hd] at q
    cases q
    exact hlt
theorem run_app_nil {t e : TypeId} {z : Value} {size bytes : Nat} (hu : Try.prog.underlying t = some (.slice e)) (hin : (Try.prog.info? e).map (fun i => (i.zero, i.size, i.bytes)) = some (some z, size, bytes)) (ty : TypeId) (x : World) (c : Nat) :
    (Builtin.append_ #[t, t] ty #[.slice none 0 0, .slice none 0 c]).run Try.prog x = .ok (.slice none 0 0) x := by
  obtain ⟨i0, hi, h0, h2, h3⟩ := info_of hin
  simp [Builtin.append_, run_underlying hu, sizeOf, typeInfo, hi, Builtin.lenOf, Builtin.firstCells]
/-- A row that is put behind nothing. -/
theorem run_copyR (ty : TypeId) (x : World) (a : Option Addr) (c : Nat) (L : Nets) (h : Lies x a (rowsC netC L)) (hl : L.length ≤ 1500) :
    ∃ a' c' x', (Builtin.append_ #[41, 41] ty #[.slice none 0 0, .slice a L.length c]).run Try.prog x = .ok (.slice a' L.length c') x' ∧ GRow x' x.heap.size 44 2 (.slice a' L.length c') L.length (rowsC netC L) ∧ Below x.heap.size x x' := by
  cases a with
  | none =>
    have hn : L = [] := by
      rcases h with q | ⟨_, _, q, _⟩
      · have := congrArg List.length q
        rw [rowsC_length] at this
        exact List.eq_nil_of_length_eq_zero (by simp at this; omega)
      · cases q
    subst hn
    exact ⟨none, 0, x, run_app_nil Try.underlying41 info44 ty x c, World.ownsRow_nil _ _ _ _, Below.refl _ _⟩
  | some ad =>
    obtain ⟨v', x', hr, q2, q3, q4⟩ := run_pushR Try.underlying41 info44 rfl (by decide) (by decide) ty x x.heap.size (.slice none 0 0) 0 [] (World.ownsRow_nil _ _ _ _) ad L.length c (rowsC netC L) (by rw [rowsC_length]; omega) h (by
      intro u hu
      obtain ⟨p, _, hp⟩ := List.mem_flatMap.1 hu
      exact netC_one p u hp) (by omega) (Nat.le_refl _)
    rw [Nat.zero_add] at q2
    obtain ⟨a', c', rfl, -, -, -, -, -⟩ := GRow.lies q2
    exact ⟨a', c', x', hr, by simpa using q2, (Below.refl _ _).grown q3 (Nat.le_refl _) (by intro j hj; cases hj)⟩

set_option maxHeartbeats 4000000 in
theorem rCopy_any (b : Nat) (e : Esc) (a : Option Addr) (c : Nat) (w : World) (h : RE w b e a c) (hl : e.nets.length ≤ 1500) :
    Calls Try.prog 51 #[ptr b] w fun r w' => ∃ b' a' c', r = .returned (ptr b') ∧ RE w' b' e a' c' ∧ w.heap.size ≤ b' ∧ (∀ ad, a' = some ad → w.heap.size ≤ ad.block) ∧ Below w.heap.size w w' := by
  have HR := hide h
  have hlt := h.cells.1
  clear h
  go_enter Try.func51, Try.ntmps51
  go_upto_region 1 with fail
  refine wp_region_held_drew (S := fun wq => wq.cell? ⟨b, 0, none⟩ = some (.int .i64 e.lo) ∧ wq.cell? ⟨b, 1, none⟩ = some (.int .i64 e.hi) ∧ wq.cell? ⟨b, 2, none⟩ = some (.int .i64 e.base)) (by kernel_rfl) ⟨HR.out.c0, HR.out.c1, HR.out.c2⟩ (fun hS => ?_)
  have R1 := hide (HR.out.below (Below.refl _ _).drew)
  have B1 := hide (Below.refl w.heap.size w).drew
  have hlt1 : b < w.drew.heap.size := hlt
  have sz1 := hide (show w.drew.heap.size = w.heap.size from rfl)
  have HNE := hide (fun (hn : e.nets ≠ []) ad (hd : a = some ad) => show ad.block < w.drew.heap.size from R1.out.row_lt hn hd)
  clear HR hlt
  generalize w.drew = w1 at *
  have R2 := hide (R1.out.below (alloc_below w1 (.cells #[.int .i64 e.lo, .int .i64 e.hi, .int .i64 e.base, .slice none 0 0] 86)))
  refine take_at 0 (some 4) (v := ?_) rfl rfl (by kernel_rfl) (by kernel_rfl) (by kernel_rfl) (fun _ _ _ h => h) ⟨by rfl, ?_⟩ hS ?_
  rotate_left
  · intro wq hSw; go_simp; try rfl
  simp only [Act.put, List.setIfInBounds_toArray, List.set_cons_zero, List.set_cons_succ]
  refine take_at 1 (some 5) (v := ?_) rfl rfl (by kernel_rfl) (by kernel_rfl) (by kernel_rfl) (fun _ _ _ h => h) ⟨by rfl, ?_⟩ hS ?_
  rotate_left
  · intro wq hSw; go_simp; try rfl
  simp only [Act.put, List.setIfInBounds_toArray, List.set_cons_zero, List.set_cons_succ]
  refine take_at 2 (some 6) (v := ?_) rfl rfl (by kernel_rfl) (by kernel_rfl) (by kernel_rfl) (fun _ _ _ h => h) ⟨by rfl, ?_⟩ hS ?_
  rotate_left
  · intro wq hSw; go_simp; try rfl
  simp only [Act.put, List.setIfInBounds_toArray, List.set_cons_zero, List.set_cons_succ]
  refine take_at 3 (some 7) (v := ?_) rfl rfl (by kernel_rfl) (by kernel_rfl) (by kernel_rfl) (fun _ _ _ h => h) ⟨by rfl, ?_⟩ hS ?_
  rotate_left
  · intro wq hSw; obtain ⟨r0, r1, r2⟩ := hSw; go_simp; try rfl
  simp only [Act.put, List.setIfInBounds_toArray, List.set_cons_zero, List.set_cons_succ]
  refine take_at 4 (some 8) (v := ?_) rfl rfl (by kernel_rfl) (by kernel_rfl) (by kernel_rfl) (fun _ _ _ h => h) ⟨by rfl, ?_⟩ hS ?_
  rotate_left
  · intro wq hSw; go_simp; try rfl
  simp only [Act.put, List.setIfInBounds_toArray, List.set_cons_zero, List.set_cons_succ]
  refine take_at 5 (some 9) (v := ?_) rfl rfl (by kernel_rfl) (by kernel_rfl) (by kernel_rfl) (fun _ _ _ h => h) ⟨by rfl, ?_⟩ hS ?_
  rotate_left
  · intro wq hSw; go_simp; try rfl
  simp only [Act.put, List.setIfInBounds_toArray, List.set_cons_zero, List.set_cons_succ]
  refine take_at 6 (some 10) (v := ?_) rfl rfl (by kernel_rfl) (by kernel_rfl) (by kernel_rfl) (fun _ _ _ h => h) ⟨by rfl, ?_⟩ hS ?_
  rotate_left
  · intro wq hSw; go_simp; try rfl
  simp only [Act.put, List.setIfInBounds_toArray, List.set_cons_zero, List.set_cons_succ]
  refine take_at 7 (some 11) (v := ?_) rfl rfl (by kernel_rfl) (by kernel_rfl) (by kernel_rfl) (fun _ _ _ h => h) ⟨by rfl, ?_⟩ hS ?_
  rotate_left
  · intro wq hSw; obtain ⟨r0, r1, r2⟩ := hSw; go_simp; try rfl
  simp only [Act.put, List.setIfInBounds_toArray, List.set_cons_zero, List.set_cons_succ]
  refine take_at 8 (some 12) (v := ?_) rfl rfl (by kernel_rfl) (by kernel_rfl) (by kernel_rfl) (fun _ _ _ h => h) ⟨by rfl, ?_⟩ hS ?_
  rotate_left
  · intro wq hSw; go_simp; try rfl
  simp only [Act.put, List.setIfInBounds_toArray, List.set_cons_zero, List.set_cons_succ]
  refine wpAnyH_ready (rs := [9]) (by kernel_rfl) (by simp) ?_
  refine AllReadyH.cons rfl (fun K hK => ?_) AllReadyH.nil
  go_simp
  go_wp2_with fail
  refine hK.out _ _ ⟨R2.out.c0, R2.out.c1, R2.out.c2⟩ (fun hS => ?_)
  clear hK K
  (try simp only [Act.put, List.setIfInBounds_toArray, List.set_cons_zero, List.set_cons_succ])
  refine take_at 10 (some 3) (v := ?_) rfl rfl (by kernel_rfl) (by kernel_rfl) (by kernel_rfl) (fun _ _ _ h => h) ⟨by rfl, ?_⟩ hS ?_
  rotate_left
  · intro wq hSw; go_simp; try rfl
  simp only [Act.put, List.setIfInBounds_toArray, List.set_cons_zero, List.set_cons_succ]
  refine wpAnyH_done (by kernel_rfl) ?_ _
  obtain ⟨w2, hw2⟩ : ∃ w2, w2 = w1.alloc (.cells #[.int .i64 e.lo, .int .i64 e.hi, .int .i64 e.base, .slice none 0 0] 86) := ⟨_, rfl⟩
  have X2 : RX w2 w1.heap.size ⟨e.lo, e.hi, e.base, []⟩ none 0 := ⟨by
    have := Cells.new w1 #[.int .i64 e.lo, .int .i64 e.hi, .int .i64 e.base, .slice none 0 0] 86
    rw [hw2]
    exact this, .inl rfl, nofun⟩
  have B2 := hide (B1.out.alloc (Nat.le_of_eq sz1.out.symm) (.cells #[.int .i64 e.lo, .int .i64 e.hi, .int .i64 e.base, .slice none 0 0] 86))
  have sz2 := hide (show w2.heap.size = w1.heap.size + 1 from by rw [hw2]; simp)
  go_upto_region 2 with fail
  rw [← hw2] at R2 B2 ⊢
  clear hw2 R1 B1 hS
  refine wp_region_held_drew (S := fun wq => wq.cell? ⟨b, 3, none⟩ = some (.slice a e.nets.length c)) (by kernel_rfl) R2.out.c3 (fun hS => ?_)
  have R3 := hide (R2.out.below (Below.refl _ _).drew)
  have B3 := hide B2.out.drew
  have X3 := hide (X2.below (Below.refl _ _).drew)
  have sz3 := hide (show w2.drew.heap.size = w1.heap.size + 1 from sz2.out)
  clear R2 B2 X2 sz2
  generalize w2.drew = w3 at *
  obtain ⟨a', c', w5, hrun, hg, hb5⟩ := run_copyR 41 w3 a c e.nets R3.out.row hl
  have HRUN := hide hrun
  have R5 := hide (R3.out.below hb5)
  have X5 := hide (X3.out.below hb5)
  have G5 := hide hg
  have B5 := hide (B3.out.trans (hb5.mono (by have := sz3.out; have := sz1.out; omega)))
  have k3 := X3.out.c3
  obtain ⟨x3, f3⟩ := X5.out.cells.get 3 _ rfl
  have F6 := hide (RX.set (f := e) X5.out G5.out (by have := sz3.out; omega) rfl rfl rfl R5.out.ok)
  have K6 := hide ((Keep.refl (fun x => x = w1.heap.size) w5).setCell (g := w1.heap.size) (j := 3) (fun _ => rfl) (.slice a' e.nets.length c'))
  have R6 := hide (R5.out.keep2 K6.out (by omega) (fun hn ad hd q9 => by have := R3.out.row_lt hn hd; have := HNE.out hn ad hd; omega))
  have B6 := hide (B5.out.trans (K6.out.below B5.out.size (fun x hx q => by have := sz1.out; omega)))
  clear hrun hb5 hg B3 B5
  refine take_at 0 (some 14) (v := ?_) rfl rfl (by kernel_rfl) (by kernel_rfl) (by kernel_rfl) (fun _ _ _ h => h) ⟨by rfl, ?_⟩ hS ?_
  rotate_left
  · intro wq hSw; go_simp; try rfl
  simp only [Act.put, List.setIfInBounds_toArray, List.set_cons_zero, List.set_cons_succ]
  refine take_at 1 (some 15) (v := ?_) rfl rfl (by kernel_rfl) (by kernel_rfl) (by kernel_rfl) (fun _ _ _ h => h) ⟨by rfl, ?_⟩ hS ?_
  rotate_left
  · intro wq hSw; go_simp; try rfl
  simp only [Act.put, List.setIfInBounds_toArray, List.set_cons_zero, List.set_cons_succ]
  refine take_at 2 (some 16) (v := ?_) rfl rfl (by kernel_rfl) (by kernel_rfl) (by kernel_rfl) (fun _ _ _ h => h) ⟨by rfl, ?_⟩ hS ?_
  rotate_left
  · intro wq hSw; go_simp; try rfl
  simp only [Act.put, List.setIfInBounds_toArray, List.set_cons_zero, List.set_cons_succ]
  refine take_at 3 (some 17) (v := ?_) rfl rfl (by kernel_rfl) (by kernel_rfl) (by kernel_rfl) (fun _ _ _ h => h) ⟨by rfl, ?_⟩ hS ?_
  rotate_left
  · intro wq hSw; go_simp; try rfl
  simp only [Act.put, List.setIfInBounds_toArray, List.set_cons_zero, List.set_cons_succ]
  refine take_at 5 (some 19) (v := ?_) rfl rfl (by kernel_rfl) (by kernel_rfl) (by kernel_rfl) (fun _ _ _ h => h) ⟨by rfl, ?_⟩ hS ?_
  rotate_left
  · intro wq hSw; go_simp; try rfl
  simp only [Act.put, List.setIfInBounds_toArray, List.set_cons_zero, List.set_cons_succ]
  refine take_at 6 (some 20) (v := ?_) rfl rfl (by kernel_rfl) (by kernel_rfl) (by kernel_rfl) (fun _ _ _ h => h) ⟨by rfl, ?_⟩ hS ?_
  rotate_left
  · intro wq hSw; go_simp; try rfl
  simp only [Act.put, List.setIfInBounds_toArray, List.set_cons_zero, List.set_cons_succ]
  refine take_at 7 (some 21) (v := ?_) rfl rfl (by kernel_rfl) (by kernel_rfl) (by kernel_rfl) (fun _ _ _ h => h) ⟨by rfl, ?_⟩ hS ?_
  rotate_left
  · intro wq hSw; go_simp; try rfl
  simp only [Act.put, List.setIfInBounds_toArray, List.set_cons_zero, List.set_cons_succ]
  refine take_at 8 (some 22) (v := ?_) rfl rfl (by kernel_rfl) (by kernel_rfl) (by kernel_rfl) (fun _ _ _ h => h) ⟨by rfl, ?_⟩ hS ?_
  rotate_left
  · intro wq hSw; go_simp; try rfl
  simp only [Act.put, List.setIfInBounds_toArray, List.set_cons_zero, List.set_cons_succ]
  refine wpAnyH_ready (rs := [4]) (by kernel_rfl) (by simp) ?_
  refine AllReadyH.cons rfl (fun K hK => ?_) AllReadyH.nil
  go_simp
  go_wp2_with fail
  refine hK.out _ _ hS (fun hS => ?_)
  clear hK K
  (try simp only [Act.put, List.setIfInBounds_toArray, List.set_cons_zero, List.set_cons_succ])
  refine wpAnyH_ready (rs := [9]) (by kernel_rfl) (by simp) ?_
  refine AllReadyH.cons rfl (fun K hK => ?_) AllReadyH.nil
  refine wp_run 23 (.tmp 18) (.tmp 22) rfl rfl rfl rfl rfl HRUN.out ?_
  refine hK.out _ _ R5.out.c3 (fun hS => ?_)
  clear hK K
  (try simp only [Act.put, List.setIfInBounds_toArray, List.set_cons_zero, List.set_cons_succ])
  refine take_at 10 (some 24) (v := ?_) rfl rfl (by kernel_rfl) (by kernel_rfl) (by kernel_rfl) (fun _ _ _ h => h) ⟨by rfl, ?_⟩ hS ?_
  rotate_left
  · intro wq hSw; go_simp; try rfl
  simp only [Act.put, List.setIfInBounds_toArray, List.set_cons_zero, List.set_cons_succ]
  refine take_at 11 (some 25) (v := ?_) rfl rfl (by kernel_rfl) (by kernel_rfl) (by kernel_rfl) (fun _ _ _ h => h) ⟨by rfl, ?_⟩ hS ?_
  rotate_left
  · intro wq hSw; go_simp; try rfl
  simp only [Act.put, List.setIfInBounds_toArray, List.set_cons_zero, List.set_cons_succ]
  refine wpAnyH_ready (rs := [12]) (by kernel_rfl) (by simp) ?_
  refine AllReadyH.cons rfl (fun K hK => ?_) AllReadyH.nil
  go_simp
  go_wp2_with fail
  refine hK.out _ _ R6.out.c3 (fun hS => ?_)
  clear hK K
  (try simp only [Act.put, List.setIfInBounds_toArray, List.set_cons_zero, List.set_cons_succ])
  refine wpAnyH_done (by kernel_rfl) ?_ _
  go_wp2_with fail
  go_ret
  have F7 : ∀ ad, a' = some ad → w.heap.size ≤ ad.block := by
    intro ad hd
    subst hd
    have := (World.ownsRow.lt G5.out ad.block rfl).1
    have := sz3.out
    have := sz1.out
    omega
  first | exact ⟨w1.heap.size, a', c', rfl, F6.out, Nat.le_of_eq sz1.out.symm, F7, B6.out⟩ | exact ⟨w1.heap.size, rfl, a', ⟨c', F6.out⟩, Nat.le_of_eq sz1.out.symm, F7, B6.out⟩
end Go.Proofs.Ytcnlcmdppkdmmaa
