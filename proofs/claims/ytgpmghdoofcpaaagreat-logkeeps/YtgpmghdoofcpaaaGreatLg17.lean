import Derived.Test.YtgpmghdoofcpaaaGreatG39
namespace Go.Proofs.YtgpmghdoofcpaaaGreat.Lg
open Go.RowKit Go.QK
open Dv (hide bnext alloc_below load_arr store_arr slice_arr wp_load_arr wp_store_arr neq_arr info91)

def LogM.forE (m : LogM) (g : Dev) (n : Int) : Nat := if m.ended = true then 40 else if n < 0 ∨ (m.recs.length : Int) < n then 4 else if n ≤ (m.forced : Int) then 0 else wpE (wrM m n.toNat g)
def LogM.forD (m : LogM) (g : Dev) (n : Int) : Dev := if m.ended = true then g else if n < 0 ∨ (m.recs.length : Int) < n then g else if n ≤ (m.forced : Int) then g else wpD (wrM m n.toNat g)
def LogM.forM (m : LogM) (g : Dev) (n : Int) : LogM := if m.ended = true then m else if n < 0 ∨ (m.recs.length : Int) < n then m else if n ≤ (m.forced : Int) then m else if wpE (wrM m n.toNat g) = 0 then { m with forced := n.toNat } else { m with ended := true }
section
variable {w w' : World} {S S' T U : Nat → Prop} {l d : Nat} {g : Dev} {m : LogM}
def ForPost (w : World) (S T : Nat → Prop) (l d : Nat) (g : Dev) (m : LogM) (n : Int) (e : Ending) (w' : World) : Prop :=
  ∃ S' v, e = .returned v ∧ ((m.forE g n = 0 ∧ v = .nilIface) ∨ (m.forE g n ≠ 0 ∧ ErrNew w' w.heap.size v forceS 0 (m.forE g n))) ∧ LD w' S' T l d (m.forD g n) (m.forM g n) ∧ Keep (fun b => S b ∨ b = l) w w' ∧ (∀ k, S' k → S k ∨ w.heap.size ≤ k)
theorem two_newF (w : World) (l : Nat) : ∃ w2, w2 = (w.alloc (.cells #[.pointer (some ⟨l, 0, none⟩)] 27)).alloc (.cells #[.nilIface] 76) ∧ Below w.heap.size w w2 ∧ w2.heap.size = w.heap.size + 2 ∧ Cells w2 w.heap.size [.pointer (some ⟨l, 0, none⟩)] ∧ Cells w2 (w.heap.size + 1) [.nilIface] := by
  refine ⟨_, rfl, ((Below.refl _ w).alloc (Nat.le_refl _) _).alloc (by simp) _, by simp, (Cells.new w #[.pointer (some ⟨l, 0, none⟩)] 27).below (alloc_below _ _), ?_⟩
  have := Cells.new (w.alloc (.cells #[.pointer (some ⟨l, 0, none⟩)] 27)) #[.nilIface] 76
  rw [World.size_alloc] at this
  exact this
theorem ForPost.same {n : Int} {v : Value} (hE : (m.forE g n = 0 ∧ v = .nilIface) ∨ (m.forE g n ≠ 0 ∧ ErrNew w' w.heap.size v forceS 0 (m.forE g n))) (hD : m.forD g n = g) (hM : m.forM g n = m) (h : LD w' S T l d g m) (hk : Below w.heap.size w w') : ForPost w S T l d g m n (.returned v) w' :=
  ⟨S, v, rfl, hE, by rw [hD, hM]; exact h, Keep.of_below hk, fun _ q => .inl q⟩

theorem ForPost.err {n : Int} {v : Value} {w2 w3 : World} {E : Nat} (h2 : LD w2 S T l d g m) (b2 : Below w.heap.size w w2) (z2 : w2.heap.size = w.heap.size + 2) (hlt : l < w.heap.size ∧ (∀ b, S b → b < w.heap.size) ∧ ∀ b, T b → b < w.heap.size) (b3 : Below w2.heap.size w2 w3) (e3 : ErrNew w3 w2.heap.size v forceS 0 (E : Int)) (hE : m.forE g n = E) (h0 : E ≠ 0) (hD : m.forD g n = g) (hM : m.forM g n = m) :
    ForPost w S T l d g m n (.returned v) (w3.setCell ⟨w.heap.size + 1, 0, none⟩ v) := by
  have k : Keep (fun b => b = w.heap.size + 1) w3 (w3.setCell ⟨w.heap.size + 1, 0, none⟩ v) := (Keep.refl (fun b => b = w.heap.size + 1) w3).setCell (fun _ => rfl) _
  have hz := b3.size
  refine ForPost.same (.inr ⟨by rw [hE]; exact h0, by rw [hE]; exact (e3.keep k (fun b q => by omega)).mono (by omega)⟩) hD hM ((h2.below b3).keep k (fun b q r => by have := hlt.2.1 b r; omega) (fun b q r => by have := hlt.2.2 b r; omega) (by omega)) ?_
  exact (bnext b2 b3 (Nat.le_refl _)).trans (k.below (by omega) (fun j hj q => by omega))
theorem ForPost.fail {n : Int} {v : Value} {w2 w3 w4 : World} {E : Nat} {g' : Dev} {first count forced : Nat} {rv : Value} {rs : List (List Nat)} {vs : List Value} {m' : LogM} (b2 : Below w.heap.size w w2) (z2 : w2.heap.size = w.heap.size + 2) (hlt : l < w.heap.size ∧ (∀ b, S b → b < w.heap.size) ∧ ∀ b, T b → b < w.heap.size)
    (p3 : PDev w3 S' d g') (k3 : Keep (fun b => S b ∨ b = l) w2 w3) (n3 : ∀ k, S' k → S k ∨ w2.heap.size ≤ k) (r2 : Recs w2 T rv rs vs) (hh : Hd w4 l d first count rv forced true) (k4 : Keep (fun b => b = w.heap.size + 1 ∨ b = l) w3 w4) (nT : ¬ T l) (nS : ¬ S l) (ap : ∀ b, S b → ¬ T b)
    (hm' : m' = ⟨first, count, rs, forced, true⟩) (e4 : ErrNew w4 w3.heap.size v forceS ((0 : Nat) : Int) (E : Int)) (hE : m.forE g n = E) (h0 : E ≠ 0) (hD : m.forD g n = g') (hM : m.forM g n = m') :
    ForPost w S T l d g m n (.returned v) w4 := by
  have hz := k3.size
  have nS' : ¬ S' l := fun q => by
    rcases n3 l q with r | r
    · exact nS r
    · omega
  have nS1 : ¬ S' (w.heap.size + 1) := fun q => by
    rcases n3 _ q with r | r
    · have := hlt.2.1 _ r; omega
    · omega
  have r3 := r2.keep k3 (fun b q r => by
    rcases q with q | q
    · exact ap b q r
    · exact nT (q ▸ r))
  refine ⟨S', v, rfl, .inr ⟨by rw [hE]; exact h0, by rw [hE]; exact e4.mono (by omega)⟩, ?_, ?_, fun k q => (n3 k q).imp id (fun r => by omega)⟩
  · rw [hD, hM, hm']
    refine ⟨p3.keep k4 (fun b q r => by rcases q with q | q <;> subst q; exact nS1 r; exact nS' r), ⟨rv, vs, r3.keep k4 (fun b q r => by rcases q with q | q; have := hlt.2.2 b r; omega; exact nT (q ▸ r)), hh⟩, nT, nS', fun b q r => ?_⟩
    rcases n3 b q with x | x
    · exact ap b x r
    · have := hlt.2.2 b r; omega
  · refine ((Keep.of_below (S := fun b => S b ∨ b = l) b2).trans k3 (fun _ _ q => q)).trans k4 (fun j hj q => ?_)
    rcases q with q | q
    · omega
    · exact .inr q
theorem ForPost.good {n : Int} {w2 w3 : World} {g' : Dev} {first count forced : Nat} {ended : Bool} {rv : Value} {rs : List (List Nat)} {vs : List Value} {m' : LogM} (b2 : Below w.heap.size w w2) (z2 : w2.heap.size = w.heap.size + 2) (hlt : l < w.heap.size ∧ (∀ b, S b → b < w.heap.size) ∧ ∀ b, T b → b < w.heap.size)
    (p3 : PDev w3 S' d g') (k3 : Keep (fun b => S b ∨ b = l) w2 w3) (n3 : ∀ k, S' k → S k ∨ w2.heap.size ≤ k) (r2 : Recs w2 T rv rs vs) (hh : Hd w3 l d first count rv forced ended) (nT : ¬ T l) (nS : ¬ S l) (ap : ∀ b, S b → ¬ T b)
    (hm' : m' = ⟨first, count, rs, forced, ended⟩) (hE : m.forE g n = 0) (hD : m.forD g n = g') (hM : m.forM g n = m') :
    ForPost w S T l d g m n (.returned .nilIface) (w3.setCell ⟨w.heap.size + 1, 0, none⟩ .nilIface) := by
  have k4 : Keep (fun b => b = w.heap.size + 1) w3 (w3.setCell ⟨w.heap.size + 1, 0, none⟩ .nilIface) := (Keep.refl (fun b => b = w.heap.size + 1) w3).setCell (fun _ => rfl) _
  have hz := k3.size
  have nS' : ¬ S' l := fun q => by
    rcases n3 l q with r | r
    · exact nS r
    · omega
  have nS1 : ¬ S' (w.heap.size + 1) := fun q => by
    rcases n3 _ q with r | r
    · have := hlt.2.1 _ r; omega
    · omega
  have r3 := r2.keep k3 (fun b q r => by
    rcases q with q | q
    · exact ap b q r
    · exact nT (q ▸ r))
  refine ⟨S', .nilIface, rfl, .inl ⟨hE, rfl⟩, ?_, ?_, fun k q => (n3 k q).imp id (fun r => by omega)⟩
  · rw [hD, hM, hm']
    refine ⟨p3.keep k4 (fun b q r => by subst q; exact nS1 r), ⟨rv, vs, r3.keep k4 (fun b q r => by have := hlt.2.2 b r; omega), hh.keep k4 (by omega)⟩, nT, nS', fun b q r => ?_⟩
    rcases n3 b q with x | x
    · exact ap b x r
    · have := hlt.2.2 b r; omega
  · exact ((Keep.of_below (S := fun b => S b ∨ b = l) b2).trans k3 (fun _ _ q => q)).trans k4 (fun j hj q => by omega)

set_option maxRecDepth 100000 in
set_option maxHeartbeats 4000000 in
theorem force_any (h : LD w S T l d g m) (hm : m.Ok) (n : Int) (hn : -9223372036854775808 ≤ n ∧ n ≤ 9223372036854775807) (hpl : g.pend.length ≤ 800000) (hcl : g.calls ≤ 800000) :
    Calls Tryz.prog 28 #[.pointer (some ⟨l, 0, none⟩), .int .i64 n] w fun e w' => ForPost w S T l d g m n e w' := by
  have hmf : ∀ (fn : Fn) (first cap : Array Value) (w : World), (Instr.makeFunc fn first cap).run Tryz.prog w = .ok (.func fn first cap) w := fun _ _ _ _ => rfl
  obtain ⟨w2, hw2, b2, z2, c2, c4⟩ := two_newF w l
  have hlt := h.lt
  have h2 := h.below b2
  have hlen := hm.len
  have hpl2 := hm.place
  have KL := hide (lastL_any h2)
  have KE := hide (err_any h2)
  obtain ⟨k2, f2⟩ := c2.get 0 _ rfl
  obtain ⟨k4, f4⟩ := c4.get 0 _ rfl
  obtain ⟨rv, vs, r2, hh2⟩ := h2.recs
  obtain ⟨k5, _⟩ := hh2.get 5 _ rfl
  obtain ⟨kf, _⟩ := hh2.get 4 _ rfl
  have HW := hide hw2
  have C2 := hide c2
  have C4 := hide c4
  have H2 := hide h2
  have HLT := hide hlt
  have B2 := hide b2
  have R2 := hide r2
  have HH2 := hide hh2
  clear hw2 c2 c4 h2 r2 hh2 h b2 hlt
  cases he : m.ended
  · rw [he] at k5 KE
    by_cases hp : n < 0 ∨ (m.recs.length : Int) < n
    · have HE := hide (show m.forE g n = 4 by unfold LogM.forE; rw [he, if_neg (by simp), if_pos hp])
      have HD := hide (show m.forD g n = g by unfold LogM.forD; rw [he, if_neg (by simp), if_pos hp])
      have HM := hide (show m.forM g n = m by unfold LogM.forM; rw [he, if_neg (by simp), if_pos hp])
      have KF := hide (fault_new forceS 0 4 w2)
      by_cases q1 : n < 0
      · have d1 : decide (n < 0) = true := by simpa using q1
        clear hp
        go_enter_defers Tryz.func28, Tryz.ntmps28
        go_upto_region 1 with fail
        rw [← HW.out]
        go_wp2_with fail
        refine KF.out.mono ?_
        rintro e w3 ⟨v, rfl, e3, b3⟩
        have FIN := hide (ForPost.err (n := n) (E := 4) H2.out B2.out z2 HLT.out b3 e3 HE.out (by decide) HD.out HM.out)
        have C43 := hide (C4.out.below b3)
        obtain ⟨eb, rfl, -, -⟩ := e3
        obtain ⟨k43, f43⟩ := C43.out.get 0 _ rfl
        clear KF b3
        go_wp2_with fail
        exact force_plain _ _ (w.heap.size + 1) _ rfl (C43.out.stored (j := 0) (by simp) _) FIN.out
      · have d1 : decide (n < 0) = false := by simpa using q1
        have d2 : decide ((m.recs.length : Int) < n) = true := by simp; omega
        have q2 : (m.recs.length : Int) < n := by omega
        clear hp
        go_enter_defers Tryz.func28, Tryz.ntmps28
        go_upto_region 1 with fail
        rw [← HW.out]
        go_wp2_with fail
        refine KL.out.mono ?_
        rintro e w3 ⟨rfl, rfl⟩
        clear KL
        go_wp2_with fail
        refine KF.out.mono ?_
        rintro e w3 ⟨v, rfl, e3, b3⟩
        have FIN := hide (ForPost.err (n := n) (E := 4) H2.out B2.out z2 HLT.out b3 e3 HE.out (by decide) HD.out HM.out)
        have C43 := hide (C4.out.below b3)
        obtain ⟨eb, rfl, -, -⟩ := e3
        obtain ⟨k43, f43⟩ := C43.out.get 0 _ rfl
        clear KF b3
        go_wp2_with fail
        exact force_plain _ _ (w.heap.size + 1) _ rfl (C43.out.stored (j := 0) (by simp) _) FIN.out
    · obtain ⟨k, rfl⟩ : ∃ k : Nat, n = (k : Int) := ⟨n.toNat, by omega⟩
      have d1 : decide ((k : Int) < 0) = false := by simp
      have d2 : decide ((m.recs.length : Int) < (k : Int)) = false := by simp; omega
      have q2 : ¬ ((m.recs.length : Int) < (k : Int)) := by omega
      by_cases hf : k ≤ m.forced
      · have HE := hide (show m.forE g (k : Int) = 0 by unfold LogM.forE; rw [he, if_neg (by simp), if_neg hp, if_pos (by omega)])
        have HD := hide (show m.forD g (k : Int) = g by unfold LogM.forD; rw [he, if_neg (by simp), if_neg hp, if_pos (by omega)])
        have HM := hide (show m.forM g (k : Int) = m by unfold LogM.forM; rw [he, if_neg (by simp), if_neg hp, if_pos (by omega)])
        have d3 : decide ((m.forced : Int) < (k : Int)) = false := by simp; omega
        have q3 : ¬ ((m.forced : Int) < (k : Int)) := by omega
        have FIN := hide (ForPost.good (n := (k : Int)) B2.out z2 HLT.out H2.out.dev (Keep.refl _ _) (fun k q => .inl q) R2.out HH2.out H2.out.nT H2.out.nS H2.out.ap rfl HE.out HD.out HM.out)
        clear hp he
        go_enter_defers Tryz.func28, Tryz.ntmps28
        go_upto_region 1 with fail
        rw [← HW.out]
        go_wp2_with fail
        refine KL.out.mono ?_
        rintro e w3 ⟨rfl, rfl⟩
        clear KL
        go_wp2_with fail
        exact force_done _ _ (w.heap.size + 1) w.heap.size _ rfl (C4.out.stored (j := 0) (by simp) _) FIN.out
      · have hE : m.forE g (k : Int) = wpE (wrM m k g) := by unfold LogM.forE; rw [he, if_neg (by simp), if_neg hp, if_neg (by omega), Int.toNat_natCast]
        have hD : m.forD g (k : Int) = wpD (wrM m k g) := by unfold LogM.forD; rw [he, if_neg (by simp), if_neg hp, if_neg (by omega), Int.toNat_natCast]
        have hM : m.forM g (k : Int) = if wpE (wrM m k g) = 0 then { m with forced := k } else { m with ended := true } := by unfold LogM.forM; rw [he, if_neg (by simp), if_neg hp, if_neg (by omega), Int.toNat_natCast]
        have d3 : decide ((m.forced : Int) < (k : Int)) = true := by simp; omega
        have q3 : (m.forced : Int) < (k : Int) := by omega
        have fo := hm.fo
        have D2 : Below w2.heap.size w2 w2.drew := (Below.refl _ w2).drew
        have KW := lwrite_any (H2.out.dev.below D2) l m.first m.count m.forced (m.forced + 1) k m.ended (R2.out.below D2) (HH2.out.below D2) H2.out.nS H2.out.ap (by omega) (by omega) (by omega) (by omega) (by omega) (by omega)
        rw [show k + 1 - (m.forced + 1) = k - m.forced by omega] at KW
        have ewr : putM m.first m.recs (k - m.forced) (m.forced + 1) g = wrM m k g := rfl
        rw [ewr] at KW
        have hf1 : (((m.forced + 1 : Nat)) : Int) = (m.forced : Int) + 1 := by omega
        rw [hf1] at KW
        have KW := hide KW
        obtain ⟨E, hEE⟩ : ∃ E, wpE (wrM m k g) = E := ⟨_, rfl⟩
        obtain ⟨D, hDD⟩ : ∃ D, wpD (wrM m k g) = D := ⟨_, rfl⟩
        rw [hEE] at hE hM
        rw [hDD] at hD
        have KW := hide (show Calls Tryz.prog 58 #[.pointer (some ⟨l, 0, none⟩), .int .i64 ((m.forced : Int) + 1), .int .i64 (k : Int)] w2.drew fun e w' => ∃ S', e = fin 0 E ∧ PDev w' S' d D ∧ Keep (fun b => S b ∨ b = l) w2.drew w' ∧ (∀ k, S' k → S k ∨ w2.drew.heap.size ≤ k) ∧ Hd w' l d m.first m.count rv (if E = 0 then k else m.forced) m.ended from by rw [← hEE, ← hDD]; exact KW.out)
        have HE := hide hE
        have HD := hide hD
        have HM := hide hM
        have HS0 := hide (show w2.cell? ⟨w.heap.size, 0, none⟩ = some (.pointer (some ⟨l, 0, none⟩)) ∧ w2.cell? ⟨l, 4, none⟩ = some (.int .i64 (m.forced : Int)) from ⟨k2, kf⟩)
        have hlen2 := hm.fo
        have C23 := hide (C2.out.drew)
        have C43 := hide (C4.out.drew)
        have hw64 : IntKind.i64.wrap ((m.forced : Int) + 1) = (m.forced : Int) + 1 := by rw [IntKind.wrap_i64]; omega
        clear hp he hE hD hM hEE hDD ewr D2 KE
        go_enter_defers Tryz.func28, Tryz.ntmps28
        go_upto_region 1 with fail
        rw [← HW.out]
        go_upto_region 7 with (refine KL.out.mono ?_; rintro e w3 ⟨rfl, rfl⟩)
        have kf3 : w3.drew.cell? ⟨l, 4, none⟩ = some (.int .i64 (m.forced : Int)) := HS0.out.2
        refine wp_region_held_drew (S := fun wq => wq.cell? ⟨w.heap.size, 0, none⟩ = some (.pointer (some ⟨l, 0, none⟩))) (by kernel_rfl) HS0.out.1 (fun hS => ?_)
        have z3 : w3.drew.heap.size = w.heap.size + 2 := z2
        have hb3 : Hid (Below w.heap.size w w3.drew) := B2.out.trans ((Below.refl _ w3).drew)
        have hr3 : Hid (Recs w3.drew T rv m.recs vs) := R2.out.below ((Below.refl _ w3).drew)
        have hl3 := H2.out.nT
        have hl4 := H2.out.nS
        have hl5 := hide H2.out.ap
        clear kf k2 f2 k4 f4 k5 H2 C2 C4 HW B2 R2 HH2 HS0 z2
        generalize w3.drew = w5 at *
        refine take_atD 0 (some 27) (v := ?_) rfl rfl (by kernel_rfl) (by kernel_rfl) (by kernel_rfl) (fun _ _ _ h => force_put (d := 27) (by decide) h) ⟨by rfl, ?_⟩ hS ?_
        rotate_left
        · intro wq hSw; go_simp; try rfl
        simp only [Act.put, List.setIfInBounds_toArray, List.set_cons_zero, List.set_cons_succ]
        refine take_atD 1 (some 28) (v := ?_) rfl rfl (by kernel_rfl) (by kernel_rfl) (by kernel_rfl) (fun _ _ _ h => force_put (d := 28) (by decide) h) ⟨by rfl, ?_⟩ hS ?_
        rotate_left
        · intro wq hSw; go_simp; try rfl
        simp only [Act.put, List.setIfInBounds_toArray, List.set_cons_zero, List.set_cons_succ]
        refine take_atD 2 (some 29) (v := ?_) rfl rfl (by kernel_rfl) (by kernel_rfl) (by kernel_rfl) (fun _ _ _ h => force_put (d := 29) (by decide) h) ⟨by rfl, ?_⟩ hS ?_
        rotate_left
        · intro wq hSw; go_simp; try rfl
        simp only [Act.put, List.setIfInBounds_toArray, List.set_cons_zero, List.set_cons_succ]
        refine take_atD 3 (some 30) (v := ?_) rfl rfl (by kernel_rfl) (by kernel_rfl) (by kernel_rfl) (fun _ _ _ h => force_put (d := 30) (by decide) h) ⟨by rfl, ?_⟩ hS ?_
        rotate_left
        · intro wq hSw; go_simp; try rfl
        simp only [Act.put, List.setIfInBounds_toArray, List.set_cons_zero, List.set_cons_succ]
        refine take_atD 6 (some 33) (v := ?_) rfl rfl (by kernel_rfl) (by kernel_rfl) (by kernel_rfl) (fun _ _ _ h => force_put (d := 33) (by decide) h) ⟨by rfl, ?_⟩ hS ?_
        rotate_left
        · intro wq hSw; go_simp; try rfl
        simp only [Act.put, List.setIfInBounds_toArray, List.set_cons_zero, List.set_cons_succ]
        refine wpAnyH_ready (rs := [4]) (by kernel_rfl) (by simp) ?_
        refine AllReadyH.cons rfl (fun K hK => ?_) AllReadyH.nil
        go_simp
        go_wp2_with fail
        refine hK.out _ _ hS (fun hS => ?_)
        clear hK K
        (try simp only [Act.put, List.setIfInBounds_toArray, List.set_cons_zero, List.set_cons_succ])
        refine take_atD 5 (some 32) (v := ?_) rfl rfl (by kernel_rfl) (by kernel_rfl) (by kernel_rfl) (fun _ _ _ h => force_put (d := 32) (by decide) h) ⟨by rfl, ?_⟩ hS ?_
        rotate_left
        · intro wq hSw; go_simp; try rfl
        simp only [Act.put, List.setIfInBounds_toArray, List.set_cons_zero, List.set_cons_succ]
        refine wpAnyH_ready (rs := [7]) (by kernel_rfl) (by simp) ?_
        refine AllReadyH.cons rfl (fun K hK => ?_) AllReadyH.nil
        go_simp
        go_wp2_with fail
        refine KW.out.mono ?_
        rintro e w6 ⟨S6, he6, p6, k6, n6, hh6⟩
        have HLT' := HLT.out
        have hS6 := (k6.cell (p := ⟨w.heap.size, 0, none⟩) (by show w.heap.size < w5.heap.size; omega) (fun q => by rcases q with q | q; have e : w.heap.size < w.heap.size := HLT'.2.1 _ q; omega; have e : w.heap.size = l := q; omega)).trans hS
        have C26 := C23.out.keep k6 (fun q => by rcases q with q | q; have := HLT'.2.1 _ q; omega; omega)
        have C46 := C43.out.keep k6 (fun q => by rcases q with q | q; have := HLT'.2.1 _ q; omega; omega)
        by_cases hE0 : E = 0
        · rw [hE0, fin_zero] at he6
          subst he6
          rw [if_pos hE0] at hh6
          have hM := HM.out
          rw [if_pos hE0] at hM
          have FIN := hide (ForPost.good (n := (k : Int)) hb3.out z3 HLT.out p6 k6 n6 hr3.out hh6 hl3 hl4 hl5.out rfl (by rw [HE.out]; exact hE0) HD.out hM)
          have C46 := hide C46
          obtain ⟨k46, f46⟩ := C46.out.get 0 _ rfl
          clear KW k6 n6 p6 hh6 hE0 hM kf3 C26
          go_wp2_with fail
          refine hK.out _ _ hS6 (fun hS => ?_)
          clear hK K
          (try simp only [Act.put, List.setIfInBounds_toArray, List.set_cons_zero, List.set_cons_succ])
          refine wpAnyH_done (by kernel_rfl) ?_ _
          go_wp2_with fail
          exact force_done _ _ (w.heap.size + 1) w.heap.size _ rfl (C46.out.stored (j := 0) (by simp) _) FIN.out
        · rw [fin_no hE0] at he6
          subst he6
          rw [if_neg hE0] at hh6
          have hM := HM.out
          rw [if_neg hE0] at hM
          refine force_door _ w6 (w.heap.size + 1) w.heap.size l d m.first m.count m.forced 0 E _ rv _ rfl C46 C26 hh6 (by omega) (by omega) ?_
          intro v w7 e7 h7 k7
          exact ForPost.fail hb3.out z3 HLT.out p6 k6 n6 hr3.out h7 k7 hl3 hl4 hl5.out rfl e7 HE.out hE0 HD.out hM
  · have HE := hide (show m.forE g n = 40 by unfold LogM.forE; rw [he, if_pos rfl])
    have HD := hide (show m.forD g n = g by unfold LogM.forD; rw [he, if_pos rfl])
    have HM := hide (show m.forM g n = m by unfold LogM.forM; rw [he, if_pos rfl])
    rw [he] at k5 KE
    clear he
    go_enter_defers Tryz.func28, Tryz.ntmps28
    go_upto_region 1 with fail
    rw [← HW.out]
    go_wp2_with fail
    refine KE.out.mono ?_
    rintro e w3 ⟨v, rfl, e3, b3⟩
    rcases e3 with ⟨q, _⟩ | ⟨_, e3⟩
    · exact absurd q (by simp)
    have FIN := hide (ForPost.err (n := n) (E := 40) H2.out B2.out z2 HLT.out b3 e3 HE.out (by decide) HD.out HM.out)
    have C43 := hide (C4.out.below b3)
    obtain ⟨eb, rfl, -, -⟩ := e3
    obtain ⟨k43, f43⟩ := C43.out.get 0 _ rfl
    clear KE b3
    go_wp2_with fail
    exact force_plain _ _ (w.heap.size + 1) _ rfl (C43.out.stored (j := 0) (by simp) _) FIN.out
end
end Go.Proofs.YtgpmghdoofcpaaaGreat.Lg
