import Derived.Test.YtadppakflbilcaaRm3
namespace Go.Proofs.Ytadppakflbilcaa
open Go.RowKit Go.QK Go.Maps Go.QM Go.QR
set_option maxRecDepth 100000
theorem named {P : World → Prop} {w : World} (h : ∀ w', w' = w → P w') : P w := h w rfl
theorem wp_upd {o : Oper} {a : Act} {x x' : World} {K : Act → World → Prop} {Q : Exit → Act → World → Prop} {cond : Bool} {t : TypeId} {v u y : Value} (s r z : Operand) (hc : cond = true)
    (ho : o.op = .mapUpdate t s r z) (hs : a.eval s = v) (hr : a.eval r = u) (hz : a.eval z = y) (hrun : (Instr.mapUpdate t v u y).run Try.prog x = .ok () x')
    (h : K (a.put o.dst undef) x') : if cond = true then Oper.wp Try.prog o a x K Q else K (a.put o.dst undef) x := by
  rw [if_pos hc]
  unfold Oper.wp
  simp [execOp, ho, hs, hr, hz, hrun, Result.andThen]
  rw [Oper.upon_skip]
  exact h
theorem tx_i64 {t : Tx} (h : t.Ok) : I64 t.n := by have := h.n1; have := h.n2; unfold I64; omega
theorem lt_size {S : Nat → Prop} {w : World} {b m : Nat} {M : Prs Value} {hv : Int → Option Nat} {L : List Tx} (h : PR w S b m M hv L) : M.length < 4000000000 := by rw [h.count]; have := h.ok.few; omega
section
variable {S : Nat → Prop} {w : World} {b m : Nat} {M : Prs Value} {hv : Int → Option Nat} {L : List Tx}
theorem PR.out (h : PR w S b m M hv L) : Room w S b L := ⟨m, M, hv, h⟩
/-- Commit and abort lay the transaction anew. -/
theorem PR.lays (h : PR w S b m M hv L) {t : Tx} (ht : t ∈ L) (s : Int) (hs : (s = 1) ∨ (s = 2 ∧ t.st ≠ 1)) (o : Option Nat) (ho : o = if s = 1 then none else hv t.n) :
    ∃ w1, (Instr.mapUpdate 60 (.map (some m)) (.int .i64 t.n) (.agg #[.int .i64 s, .map o])).run Try.prog w = .ok () w1 ∧ Room w1 S b (upd L t.n (fun u => u.turn s)) ∧ Keep (fun z => z = m) w w1 := by
  obtain ⟨w1, hr, hA, hg⟩ := any_upd lawK Try.underlying60 h.mp h.up (keyI (tx_i64 (h.ok.each t ht))) (lt_size h) (.agg #[.int .i64 s, .map o])
  refine ⟨w1, hr, ?_, keepM hg⟩
  have P := h.turned (hv' := fun n => if n = t.n then o else hv n) ht (fun u => u.turn s) (fun _ => rfl) (fun n hn => if_neg hn) ?_ ?_ ?_ ((h.ok.each t ht).turn (by omega)) (v := .agg #[.int .i64 s, .map o]) (by simp [Tx.turn]) hA hg
  · exact P.out
  · simp only [if_true]
    rcases hs with rfl | ⟨rfl, h1⟩
    · rw [ho]
      exact ⟨fun _ => rfl, fun q => absurd rfl q⟩
    · rw [ho]
      obtain ⟨x, hx, hi⟩ := (h.inn t ht).2 h1
      exact ⟨fun q => by simp [Tx.turn] at q, fun _ => ⟨x, by simpa using hx, hi⟩⟩
  · simp only [if_true]
    rw [ho]
    split
    · nofun
    · exact h.off t ht
  · intro u hu hne x hx
    simp only [if_true]
    rw [ho]
    split
    · nofun
    · intro q
      exact hne (h.inj u hu t ht x hx q)
end
set_option maxHeartbeats 1000000 in
theorem commit_any (S : Nat → Prop) (b m : Nat) (M : Prs Value) (hv : Int → Option Nat) (L : List Tx) (t : Tx) (o : Option Nat) (w : World) (h : PR w S b m M hv L) (ht : t ∈ L) :
    Calls Try.prog 39 #[ptr b, .int .i64 t.n, .agg #[.int .i64 t.st, .map o]] w fun r w' => r = .returned (.int .i64 (if t.st = 0 then 0 else 70)) ∧ Room w' S b (if t.st = 0 then upd L t.n (fun u => u.turn 1) else L) ∧ Keep S w w' := by
  have A1 := alloc_below w (.cells #[.int .i64 t.st, .map o] 68)
  have h' := h.below A1
  obtain ⟨k0, -⟩ := h'.box.get 0 _ rfl
  obtain ⟨w1, hr, hR, hK⟩ := h'.lays ht 1 (.inl rfl) none rfl
  by_cases q : t.st = 0
  · rw [if_pos q, if_pos q]
    have HF := hide (And.intro hR ((Keep.of_below (S := S) A1).trans hK (fun _ _ z => by rw [z]; exact h.sm)))
    rw [q] at k0 hr
    rw [q]
    clear h h' hR hK A1
    go_enter Try.func39, Try.ntmps39
    go_wp2
    go_ret
    exact ⟨rfl, HF.out⟩
  · rw [if_neg q, if_neg q]
    have e : (t.st == 0) = false := by simpa using q
    have HF := hide (And.intro h'.out (Keep.of_below (S := S) A1))
    clear h h' hR hK A1 hr k0
    go_enter Try.func39, Try.ntmps39
    go_wp2
    go_ret
    exact ⟨rfl, HF.out⟩
set_option maxHeartbeats 1000000 in
theorem abort_any (S : Nat → Prop) (b m : Nat) (M : Prs Value) (hv : Int → Option Nat) (L : List Tx) (t : Tx) (w : World) (h : PR w S b m M hv L) (ht : t ∈ L) :
    Calls Try.prog 40 #[ptr b, .int .i64 t.n, .agg #[.int .i64 t.st, .map (hv t.n)]] w fun r w' => r = .returned (.int .i64 (if t.st = 0 then 0 else 70)) ∧ Room w' S b (if t.st = 0 then upd L t.n (fun u => u.turn 2) else L) ∧ Keep S w w' := by
  have A1 := alloc_below w (.cells #[.int .i64 t.st, .map (hv t.n)] 68)
  have h' := h.below A1
  by_cases q : t.st = 0
  · have C1 := Cells.new w #[.int .i64 t.st, .map (hv t.n)] 68
    have hd := h'.below (Below.refl _ _).drew
    obtain ⟨w1, hr, hR, hK⟩ := hd.lays ht 2 (.inr ⟨rfl, by omega⟩) (hv t.n) rfl
    rw [if_pos q, if_pos q]
    have HF := hide (And.intro hR (((Keep.of_below (S := S) A1).trans (Keep.refl S _).drew (fun _ _ z => z)).trans hK (fun _ _ z => by rw [z]; exact h.sm)))
    have HB := hide (And.intro h'.box h'.ne)
    have HC := hide C1
    have HM := hide (show ¬ w.heap.size = m from fun e => by have := h.lt m h.sm; omega)
    have HU := hide hr
    have HK := hide hK
    clear h h' hR A1 hd hr hK C1
    have q2 : (t.st == 0) = true := by simpa using q
    generalize hv t.n = o at *
    clear q ht
    generalize t.st = st at *
    go_enter Try.func40, Try.ntmps40
    go_upto_region 3 with fail
    refine named (P := Code.wp _ _ _ _) ?_
    intro wn hwn
    rw [← hwn] at HB HC HU HK
    obtain ⟨nb, hnb⟩ : ∃ nb, nb = w.heap.size := ⟨_, rfl⟩
    rw [← hnb] at HC HM ⊢
    clear hwn hnb
    refine wp_region_held_drew (S := fun wq => Keep (fun z => z = m) wn wq) (by kernel_rfl) (Keep.refl _ _).drew (fun hS => ?_)
    refine take_at 0 (some 10) (v := ?_) rfl rfl (by kernel_rfl) (by kernel_rfl) (by kernel_rfl) (fun _ _ _ h => h) ⟨by rfl, ?_⟩ hS ?_
    rotate_left
    · intro wq hSw; go_simp; try rfl
    simp only [Act.put, List.setIfInBounds_toArray, List.set_cons_zero, List.set_cons_succ]
    refine take_at 1 (some 11) (v := ?_) rfl rfl (by kernel_rfl) (by kernel_rfl) (by kernel_rfl) (fun _ _ _ h => h) ⟨by rfl, ?_⟩ hS ?_
    rotate_left
    · intro wq hSw; go_simp; try rfl
    simp only [Act.put, List.setIfInBounds_toArray, List.set_cons_zero, List.set_cons_succ]
    refine take_at 2 (some 12) (v := ?_) rfl rfl (by kernel_rfl) (by kernel_rfl) (by kernel_rfl) (fun _ _ _ h => h) ⟨by rfl, ?_⟩ hS ?_
    rotate_left
    · intro wq hSw; go_simp; try rfl
    simp only [Act.put, List.setIfInBounds_toArray, List.set_cons_zero, List.set_cons_succ]
    refine take_at 3 (some 13) (v := ?_) rfl rfl (by kernel_rfl) (by kernel_rfl) (by kernel_rfl) (fun _ _ _ h => h) ⟨by rfl, ?_⟩ hS ?_
    rotate_left
    · intro wq hSw; have q := ((HB.out.1.keep hSw HB.out.2).get 0 _ rfl).1; go_simp; try rfl
    simp only [Act.put, List.setIfInBounds_toArray, List.set_cons_zero, List.set_cons_succ]
    refine take_at 4 (some 14) (v := ?_) rfl rfl (by kernel_rfl) (by kernel_rfl) (by kernel_rfl) (fun _ _ _ h => h) ⟨by rfl, ?_⟩ hS ?_
    rotate_left
    · intro wq hSw; go_simp; try rfl
    simp only [Act.put, List.setIfInBounds_toArray, List.set_cons_zero, List.set_cons_succ]
    refine take_at 5 (some 15) (v := ?_) rfl rfl (by kernel_rfl) (by kernel_rfl) (by kernel_rfl) (fun _ _ _ h => h) ⟨by rfl, ?_⟩ hS ?_
    rotate_left
    · intro wq hSw; go_simp; try rfl
    simp only [Act.put, List.setIfInBounds_toArray, List.set_cons_zero, List.set_cons_succ]
    refine take_at 6 (some 16) (v := ?_) rfl rfl (by kernel_rfl) (by kernel_rfl) (by kernel_rfl) (fun _ _ _ h => h) ⟨by rfl, ?_⟩ hS ?_
    rotate_left
    · intro wq hSw; have q := ((HC.out.keep hSw HM.out).get 1 _ rfl).1; go_simp; try rfl
    simp only [Act.put, List.setIfInBounds_toArray, List.set_cons_zero, List.set_cons_succ]
    refine take_at 7 (some 17) (v := ?_) rfl rfl (by kernel_rfl) (by kernel_rfl) (by kernel_rfl) (fun _ _ _ h => h) ⟨by rfl, ?_⟩ hS ?_
    rotate_left
    · intro wq hSw; go_simp; try rfl
    simp only [Act.put, List.setIfInBounds_toArray, List.set_cons_zero, List.set_cons_succ]
    refine wpAnyH_ready (rs := [8]) (by kernel_rfl) (by simp) ?_
    refine AllReadyH.cons rfl (fun K hK => ?_) AllReadyH.nil
    refine wp_upd (.tmp 13) (.tmp 14) (.tmp 17) rfl rfl rfl rfl rfl HU.out ?_
    refine hK.out _ _ (hS.trans HK.out (fun _ _ q => q)) (fun hS => ?_)
    clear hK K hS
    (try simp only [Act.put])
    refine wpAnyH_done (by kernel_rfl) ?_ _
    go_wp2_with fail
    go_ret
    exact ⟨rfl, HF.out⟩
  · rw [if_neg q, if_neg q]
    have e : (t.st == 0) = false := by simpa using q
    have HF := hide (And.intro h'.out (Keep.of_below (S := S) A1))
    clear h h' A1
    go_enter Try.func40, Try.ntmps40
    go_wp2
    go_ret
    exact ⟨rfl, HF.out⟩
set_option maxHeartbeats 1000000 in
theorem end_any (S : Nat → Prop) (b m : Nat) (M : Prs Value) (hv : Int → Option Nat) (L : List Tx) (t : Tx) (w : World) (h : PR w S b m M hv L) (ht : t ∈ L) :
    Calls Try.prog 42 #[ptr b, .int .i64 t.n, .agg #[.int .i64 t.st, .map (hv t.n)]] w fun r w' => r = .returned (.int .i64 (if t.st = 0 ∨ (t.st = 2 ∧ t.hs ≠ []) then 70 else 0)) ∧ Room w' S b (if t.st = 0 ∨ (t.st = 2 ∧ t.hs ≠ []) then L else del L t.n) ∧ Keep S w w' := by
  have A1 := alloc_below w (.cells #[.int .i64 t.st, .map (hv t.n)] 68)
  have h' := h.below A1
  obtain ⟨k0, -⟩ := h'.box.get 0 _ rfl
  have HL := hide (And.intro h'.out (Keep.of_below (S := S) A1))
  by_cases q : t.st = 0
  · rw [if_pos (.inl q), if_pos (.inl q)]
    have e : (t.st == 0) = true := by simpa using q
    clear h h' A1 k0 q
    go_enter Try.func42, Try.ntmps42
    go_wp2
    go_ret
    exact ⟨rfl, HL.out⟩
  have e : (t.st == 0) = false := by simpa using q
  obtain ⟨n, hn, hl⟩ : ∃ n : Nat, (n = 0 ↔ ¬ (t.st = 2 ∧ t.hs ≠ [])) ∧ n ≤ 64 ∧ ∀ ty, (Builtin.len_ #[66] ty #[.map (hv t.n)]).run Try.prog (w.alloc (.cells #[.int .i64 t.st, .map (hv t.n)] 68)) = .ok (.int .i64 (n : Int)) (w.alloc (.cells #[.int .i64 t.st, .map (hv t.n)] 68)) := by
    by_cases q1 : t.st = 1
    · refine ⟨0, ⟨fun _ z => by omega, fun _ => rfl⟩, by omega, fun ty => ?_⟩
      rw [(h.inn t ht).1 q1]
      exact nil_len ty _
    · obtain ⟨x, hx, hi⟩ := (h'.inn t ht).2 q1
      refine ⟨t.hs.length, ?_, (h.ok.each t ht).few, fun ty => ?_⟩
      · have := (h.ok.each t ht).st
        have e2 : t.st = 2 := by omega
        constructor
        · intro z y
          exact y.2 (List.length_eq_zero_iff.1 z)
        · intro z
          by_cases y : t.hs = []
          · rw [y]; rfl
          · exact absurd ⟨e2, y⟩ z
      · rw [hx] at hi ⊢
        exact hi.len ty
  obtain ⟨hn6, hl⟩ := hl
  by_cases q2 : t.st = 2 ∧ t.hs ≠ []
  · rw [if_pos (.inr q2), if_pos (.inr q2)]
    have hn0 : decide (0 < n) = true := by
      have : ¬ n = 0 := fun z => hn.1 z q2
      simp; omega
    have hn1 : decide ((0 : Int) < (n : Int)) = true := by
      have : ¬ n = 0 := fun z => hn.1 z q2
      simp; omega
    clear h h' A1 k0 hn q2
    go_enter Try.func42, Try.ntmps42
    go_wp2
    go_ret
    exact ⟨rfl, HL.out⟩
  · have qq : ¬ (t.st = 0 ∨ t.st = 2 ∧ t.hs ≠ []) := fun z => z.elim q q2
    rw [if_neg qq, if_neg qq]
    obtain ⟨w1, hr, hA, hg⟩ := any_del lawK Try.underlying60 h'.mp (keyI (tx_i64 (h.ok.each t ht))) 0
    have HF := hide (And.intro (h'.ended t.n hA hg).out ((Keep.of_below (S := S) A1).trans (keepM hg) (fun _ _ z => by rw [z]; exact h.sm)))
    have n0 : n = 0 := hn.2 q2
    subst n0
    clear h h' A1 hn q2 hA hg hn6 qq
    go_enter Try.func42, Try.ntmps42
    go_wp2
    go_ret
    exact ⟨rfl, HF.out⟩
theorem hp_filter (hs : List Int) (c : Int) : delM (hs.map hp) c = (hs.filter (fun x => !(x == c))).map hp := by
  unfold delM
  rw [List.filter_map]
  rfl
set_option maxHeartbeats 1000000 in
theorem undo_any (S : Nat → Prop) (b m : Nat) (M : Prs Value) (hv : Int → Option Nat) (L : List Tx) (t : Tx) (c : Int) (w : World) (h : PR w S b m M hv L) (ht : t ∈ L) (hc : I64 c) :
    Calls Try.prog 41 #[.agg #[.int .i64 t.st, .map (hv t.n)], .int .i64 c] w fun r w' => r = .returned (.int .i64 (if t.st ≠ 2 then 70 else if c ∈ t.hs then 0 else 120)) ∧ Room w' S b (if t.st = 2 ∧ c ∈ t.hs then upd L t.n (fun u => u.less c) else L) ∧ Keep S w w' := by
  have A1 := alloc_below w (.cells #[.int .i64 t.st, .map (hv t.n)] 68)
  have h' := h.below A1
  by_cases q : t.st = 2
  · obtain ⟨x, hx, hi⟩ := (h'.inn t ht).2 (by omega)
    have K31 := holds_any S t.st x t.hs c _ hi hc
    rw [if_neg (by omega)]
    by_cases hm : c ∈ t.hs
    · rw [if_pos hm, if_pos ⟨q, hm⟩]
      have e : decide (c ∈ t.hs) = true := by simpa using hm
      rw [e] at K31
      have HH := hide h'
      have HX := hide hx
      have HA := hide A1
      have HSM := hide h.lt
      have C1 := Cells.new w #[.int .i64 t.st, .map (hv t.n)] 68
      rw [hx] at C1 A1 ⊢
      rw [hx] at K31
      have q2 : (t.st != 2) = false := by simp [q]
      clear h h' hi e
      have Q := hide q
      clear q
      go_enter Try.func41, Try.ntmps41
      go_upto_region 5 with (go_at_call 31; refine K31.mono ?_; rintro e w3 ⟨rfl, b3⟩)
      have h3 := HH.out.below (by rw [HX.out]; exact b3)
      obtain ⟨y, hy, hi3⟩ := (h3.inn t ht).2 (by have := Q.out; omega)
      rw [HX.out] at hy
      cases hy
      obtain ⟨K, hK1, hK2, hK3⟩ := hi3.mp
      obtain ⟨w4, hr, hA4, hg⟩ := any_del lawK Try.underlying66 hK1 (keyI hc) 0
      have HF := hide (And.intro (h3.inner ht HX.out (fun u => u.less c) (fun _ => rfl) rfl (by have := Q.out; omega) ((h3.ok.each t ht).less c) ⟨_, hA4, hK2.del _, by
          refine (delM_perm hK3 c).trans ?_
          rw [hp_filter]
          exact List.Perm.refl _⟩ hg).out ((Keep.of_below (S := S) (A1.trans (b3.mono A1.size))).trans (keepM hg) (fun _ _ z => by rw [z]; exact hi3.s)))
      obtain ⟨k1, -⟩ := (C1.keep (Keep.of_below (S := fun _ => False) b3) id).get 1 _ rfl
      clear h3 hi3 hK1 hK2 hK3 hA4 hg C1 HH HX K31 A1 HA
      go_wp2_with fail
      go_ret
      exact ⟨rfl, HF.out⟩
    · rw [if_neg hm, if_neg (fun z => hm z.2)]
      have e : decide (c ∈ t.hs) = false := by simpa using hm
      rw [e] at K31
      have HH := hide h'
      have HX := hide hx
      have HA := hide A1
      rw [hx] at K31 ⊢
      have q2 : (t.st != 2) = false := by simp [q]
      clear h h' hi e A1 q
      go_enter Try.func41, Try.ntmps41
      go_wp2_with (go_at_call 31; refine K31.mono ?_; rintro e w3 ⟨rfl, b3⟩)
      go_ret
      refine ⟨rfl, ?_⟩
      have A1 := HA.out
      rw [HX.out] at A1
      exact ⟨(HH.out.below (by rw [HX.out]; exact b3)).out, Keep.of_below (A1.trans (b3.mono A1.size))⟩
  · rw [if_pos q, if_neg (fun z => q z.1)]
    have q2 : (t.st != 2) = true := by simpa using q
    have HF := hide (And.intro h'.out (Keep.of_below (S := S) A1))
    clear h h' A1
    go_enter Try.func41, Try.ntmps41
    go_wp2
    go_ret
    exact ⟨rfl, HF.out⟩
end Go.Proofs.Ytadppakflbilcaa
