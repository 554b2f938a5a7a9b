import Derived.Test.YtadppakflbilcaaRm4
namespace Go.Proofs.Ytadppakflbilcaa
open Go.RowKit Go.QK Go.Maps Go.QM Go.QR
set_option maxRecDepth 100000
theorem Out.of {S : Nat → Prop} {w w' : World} {b : Nat} {L : List Tx} (h : Room w' S b L ∧ Keep S w w') : Out w S b L w' := ⟨S, h.1, fun _ _ q => q, h.2⟩
theorem Out.after {S : Nat → Prop} {w w1 w' : World} {b : Nat} {L : List Tx} (h : Below w.heap.size w w1) (o : Out w1 S b L w') : Out w S b L w' := by
  obtain ⟨S', h1, h2, h3⟩ := o
  exact ⟨S', h1, fun k hk q => h2 k (Nat.lt_of_lt_of_le hk h.size) q, (Keep.of_below (S := S) h).trans h3 (fun _ _ q => q)⟩
set_option maxHeartbeats 2000000 in
theorem Begin_any (S : Nat → Prop) (b : Nat) (L : List Tx) (tx : Int) (w : World) (h : Room w S b L) (hx : I64 tx) : Calls Try.prog 25 #[ptr b, .int .i64 tx] w fun r w' => r = .returned (.int .i64 (beginE L tx)) ∧ Out w S b (beginL L tx) w' := by
  have OK1 := hide (h.ok.begin tx)
  have HR := hide h
  obtain ⟨m, M, hv, h⟩ := h
  unfold beginL at *
  by_cases c1 : tx < 1
  · have e1 : decide (tx < 1) = true := by simpa using c1
    have hE : beginE L tx = 4 := by unfold beginE; rw [if_pos (.inl c1)]
    rw [hE, if_neg (by decide)]
    clear hE
    clear h OK1
    go_enter Try.func25, Try.ntmps25
    go_wp2
    go_ret
    exact ⟨rfl, HR.out.stays (Below.refl _ _)⟩
  have e1 : decide (tx < 1) = false := by simpa using c1
  by_cases c2 : 2147483647 < tx
  · have e2 : decide (2147483647 < tx) = true := by simpa using c2
    have hE : beginE L tx = 4 := by unfold beginE; rw [if_pos (.inr c2)]
    rw [hE, if_neg (by decide)]
    clear hE
    clear h OK1
    go_enter Try.func25, Try.ntmps25
    go_wp2
    go_ret
    exact ⟨rfl, HR.out.stays (Below.refl _ _)⟩
  have e2 : decide (2147483647 < tx) = false := by simpa using c2
  have c3 : ¬ (tx < 1 ∨ 2147483647 < tx) := fun z => z.elim c1 c2
  obtain ⟨k0, -⟩ := h.box.get 0 _ rfl
  have hl := h.look hx
  cases hg : get L tx with
  | some t =>
    rw [hg, h.got hg] at hl
    simp only [Option.getD_some, Option.isSome_some] at hl
    have hE : beginE L tx = 121 := by unfold beginE; rw [if_neg c3, hg]; rfl
    rw [hE, if_neg (by decide)]
    clear hE
    clear h OK1 hg c3
    go_enter Try.func25, Try.ntmps25
    go_wp2
    go_ret
    exact ⟨rfl, HR.out.stays (alloc_below _ _)⟩
  | none =>
    rw [hg, h.gone hg] at hl
    simp only [Option.getD_none, Option.isSome_none] at hl
    have A1 := alloc_below w (.cells #[.int .i64 0, .map none] 68)
    have h1 := h.below A1
    have hlen := fun ty => h1.len ty
    obtain ⟨k1, -⟩ := h1.box.get 0 _ rfl
    by_cases c4 : 32 ≤ L.length
    · have e4 : decide (32 ≤ L.length) = true := by simpa using c4
      have e5 : decide ((32 : Int) ≤ (L.length : Int)) = true := by simp; omega
      have hE : beginE L tx = 131 := by unfold beginE; rw [if_neg c3, hg]; simp [c4]
      rw [hE, if_neg (by decide)]
      clear hE
      clear h h1 OK1 hg c3 c4
      generalize L.length = n at *
      go_enter Try.func25, Try.ntmps25
      go_wp2
      go_ret
      exact ⟨rfl, HR.out.stays (alloc_below _ _)⟩
    · have e4 : decide (32 ≤ L.length) = false := by simpa using c4
      have e5 : decide ((32 : Int) ≤ (L.length : Int)) = false := by simp; omega
      have hE : beginE L tx = 0 := by unfold beginE; rw [if_neg c3, hg]; simp [c4]
      rw [hE, if_pos rfl] at OK1 ⊢
      clear hE
      have A2 := alloc_below (w.alloc (.cells #[.int .i64 0, .map none] 68)) (.map #[] 0)
      have h2 := h1.below A2
      have AM := AnyAt.made Try.prog 3 (w.alloc (.cells #[.int .i64 0, .map none] 68))
      have sz : (w.alloc (.cells #[.int .i64 0, .map none] 68)).heap.size = w.heap.size + 1 := by simp
      have sz2 : ((w.alloc (.cells #[.int .i64 0, .map none] 68)).alloc (.map #[] 0)).heap.size = w.heap.size + 2 := by simp
      have h3 := h2.wider (T := fun k => S k ∨ k = w.heap.size + 1) (fun k q => .inl q) (fun k q => by
        rcases q with q | q
        · exact h2.lt k q
        · rw [sz2]; omega)
      obtain ⟨w3, hr, hA, hgr⟩ := any_upd lawK Try.underlying60 h3.mp h3.up (keyI hx) (lt_size h3) (.agg #[.int .i64 0, .map (some (w.heap.size + 1))])
      have R3 := h3.begun (x := w.heap.size + 1) hg ⟨.inr rfl, [], by rw [sz] at AM; exact AM, List.Pairwise.nil, List.Perm.refl _⟩ (fun e => by have := h.lt m h.sm; omega) (fun u hu e => by
        by_cases q : u.st = 1
        · rw [(h.inn u hu).1 q] at e; cases e
        · obtain ⟨y, hy, hi⟩ := (h.inn u hu).2 q
          rw [hy] at e; cases e
          have := h.lt _ hi.s
          omega) OK1.out hA hgr
      have HF := hide (show Out w S b (L ++ [⟨tx, 0, []⟩]) w3 from ⟨_, R3, fun k hk q => q.elim id (fun e => by omega), (((Keep.of_below (S := S) A1).trans (Keep.of_below (S := S) A2) (fun _ _ z => z)).trans (keepM hgr) (fun _ _ z => by rw [z]; exact h.sm))⟩)
      obtain ⟨k2, -⟩ := h2.box.get 0 _ rfl
      have hmm := @run_makeMap Try.prog
      clear h h1 h2 h3 R3 OK1 hg c3 c4 AM hA hgr A1 A2 sz sz2 HR
      generalize L.length = n at *
      go_enter Try.func25, Try.ntmps25
      go_wp2
      go_ret
      exact ⟨rfl, HF.out⟩
set_option maxHeartbeats 2000000 in
theorem Hold_any (S : Nat → Prop) (b : Nat) (L : List Tx) (tx c : Int) (w : World) (h : Room w S b L) (hx : I64 tx) (hc : I64 c) : Calls Try.prog 21 #[ptr b, .int .i64 tx, .int .i64 c] w fun r w' => r = .returned (.int .i64 (holdE L tx c)) ∧ Out w S b (holdL L tx c) w' := by
  have HR := hide h
  obtain ⟨m, M, hv, h⟩ := h
  obtain ⟨k0, -⟩ := h.box.get 0 _ rfl
  have hl := h.look hx
  unfold holdL
  cases hg : get L tx with
  | none =>
    rw [hg, h.gone hg] at hl
    simp only [Option.getD_none, Option.isSome_none] at hl
    have hE : holdE L tx c = 130 := by unfold holdE; rw [hg]
    rw [hE, if_neg (by decide)]
    clear hE
    clear h hg
    go_enter Try.func21, Try.ntmps21
    go_wp2
    go_ret
    exact ⟨rfl, HR.out.stays (alloc_below _ _)⟩
  | some t =>
    rw [hg, h.got hg] at hl
    simp only [Option.getD_some, Option.isSome_some] at hl
    have HE : holdE L tx c = t.holdE c := by unfold holdE; rw [hg]
    rw [HE]
    clear HE
    obtain ⟨ht, rfl⟩ := get_mem hg
    have A1 := alloc_below w (.cells #[.int .i64 t.st, .map (hv t.n)] 68)
    have HA := hide A1
    have h1 := h.below A1
    have tok := h.ok.each t ht
    clear hg
    by_cases c1 : c < 1
    · have e1 : decide (c < 1) = true := by simpa using c1
      have hE : t.holdE c = 4 := by unfold Tx.holdE; rw [if_pos (.inl c1)]
      rw [hE, if_neg (by decide)]
      clear hE
      clear h h1
      go_enter Try.func21, Try.ntmps21
      go_wp2
      go_ret
      exact ⟨rfl, HR.out.stays HA.out⟩
    have e1 : decide (c < 1) = false := by simpa using c1
    by_cases c2 : 1048576 < c
    · have e2 : decide (1048576 < c) = true := by simpa using c2
      have hE : t.holdE c = 4 := by unfold Tx.holdE; rw [if_pos (.inr c2)]
      rw [hE, if_neg (by decide)]
      clear hE
      clear h h1
      go_enter Try.func21, Try.ntmps21
      go_wp2
      go_ret
      exact ⟨rfl, HR.out.stays HA.out⟩
    have e2 : decide (1048576 < c) = false := by simpa using c2
    have cc : ¬ (c < 1 ∨ 1048576 < c) := fun z => z.elim c1 c2
    by_cases c3 : t.st = 0
    · obtain ⟨x, hxx, hi⟩ := (h1.inn t ht).2 (by omega)
      have K31 := holds_any S t.st x t.hs c _ hi hc
      rw [hxx] at K31 hl
      have q2 : (t.st != 0) = false := by simp [c3]
      have HX := hide hxx
      have H1 := hide h1
      have CN := Cells.new w #[.int .i64 t.st, .map (hv t.n)] 68
      rw [hxx] at CN
      have C3 := hide c3
      rw [HX.out] at A1
      by_cases c4 : c ∈ t.hs
      · have e4 : decide (c ∈ t.hs) = true := by simpa using c4
        rw [e4] at K31
        have hE : t.holdE c = 0 := by unfold Tx.holdE; rw [if_neg cc, if_neg (fun z => z c3), if_pos c4]
        rw [hE, if_pos rfl]
        clear hE cc
        have E : upd L t.n (fun u => u.holdT c) = L := by
          unfold upd
          conv => rhs; rw [← List.map_id L]
          apply List.map_congr_left
          intro s hs
          show (if s.n = t.n then s.holdT c else s) = s
          by_cases q : s.n = t.n
          · have e1 := get_of_mem h.ok.nd hs
            have e2 := get_of_mem h.ok.nd ht
            rw [q, e2] at e1
            cases e1
            rw [if_pos rfl]
            unfold Tx.holdT
            rw [if_pos c4]
          · rw [if_neg q]
        rw [E]
        clear h h1 hi c3 E c4 e4 hxx
        go_enter Try.func21, Try.ntmps21
        go_wp2_with (go_at_call 31; refine K31.mono ?_; rintro e w3 ⟨rfl, b3⟩)
        go_ret
        exact ⟨rfl, HR.out.stays (A1.trans (b3.mono A1.size))⟩
      · have e4 : decide (c ∈ t.hs) = false := by simpa using c4
        rw [e4] at K31
        by_cases c5 : 64 ≤ t.hs.length
        · have e5 : decide (64 ≤ t.hs.length) = true := by simpa using c5
          have e6 : decide ((64 : Int) ≤ (t.hs.length : Int)) = true := by simp; omega
          have hE : t.holdE c = 131 := by unfold Tx.holdE; rw [if_neg cc, if_neg (fun z => z c3), if_neg c4, if_pos c5]
          rw [hE, if_neg (by decide)]
          clear hE cc
          clear h h1 c3 c4 e4 hxx c5 hi
          have HT := hide ht
          clear ht tok
          go_enter Try.func21, Try.ntmps21
          go_upto_region 10 with (go_at_call 31; refine K31.mono ?_; rintro e w3 ⟨rfl, b3⟩)
          have h3 := H1.out.below (by rw [HX.out]; exact b3)
          obtain ⟨y, hy, hi3⟩ := (h3.inn t HT.out).2 (by have := C3.out; omega)
          rw [HX.out] at hy
          cases hy
          have hln := fun ty => hi3.len ty
          obtain ⟨k1, -⟩ := (CN.keep (Keep.of_below (S := fun _ => False) b3) id).get 1 _ rfl
          clear h3 hi3 CN HX K31 H1
          generalize t.hs.length = n at *
          go_wp2_with fail
          go_ret
          exact ⟨rfl, HR.out.stays (A1.trans (b3.mono A1.size))⟩
        · have e5 : decide (64 ≤ t.hs.length) = false := by simpa using c5
          have e6 : decide ((64 : Int) ≤ (t.hs.length : Int)) = false := by simp; omega
          have hE : t.holdE c = 0 := by unfold Tx.holdE; rw [if_neg cc, if_neg (fun z => z c3), if_neg c4, if_neg c5]
          rw [hE, if_pos rfl]
          clear hE cc
          have TO := hide (tok.more c4 (by omega) ⟨by omega, by omega⟩)
          have EQ : (t.holdT c) = t.more c := by unfold Tx.holdT; rw [if_neg c4]
          have EQ := hide EQ
          have HT := hide ht
          clear h h1 c3 c4 e4 hxx c5 hi ht tok
          go_enter Try.func21, Try.ntmps21
          go_upto_region 10 with (go_at_call 31; refine K31.mono ?_; rintro e w3 ⟨rfl, b3⟩)
          have h3 := H1.out.below (by rw [HX.out]; exact b3)
          obtain ⟨y, hy, hi3⟩ := (h3.inn t HT.out).2 (by have := C3.out; omega)
          rw [HX.out] at hy
          cases hy
          have hln := fun ty => hi3.len ty
          obtain ⟨k1, -⟩ := (CN.keep (Keep.of_below (S := fun _ => False) b3) id).get 1 _ rfl
          obtain ⟨K, hK1, hK2, hK3⟩ := hi3.mp
          have hKl : K.length < 4000000000 := by rw [hK3.length_eq, List.length_map]; have := (h3.ok.each t HT.out).few; omega
          obtain ⟨w4, hr, hA4, hgr⟩ := any_upd lawK Try.underlying66 hK1 hK2 (keyI hc) hKl unit
          have PM : (putM c unit K).Perm ((t.holdT c).hs.map hp) := by
            rw [EQ.out]
            refine (putM_perm hK2 _ _).trans ?_
            refine (List.Perm.cons _ (delM_perm hK3 c)).trans ?_
            have : delM (t.hs.map hp) c = t.hs.map hp := delM_none (fun q hq => by
              obtain ⟨z, hz, rfl⟩ := List.mem_map.1 hq
              have nd := TO.out.nd
              intro e
              have e : z = c := e
              subst e
              have := (List.nodup_append.1 nd).2.2 z hz z (by simp)
              exact this rfl)
            rw [this]
            refine (List.perm_append_comm (l₁ := [_])).trans ?_
            simp [Tx.more, hp]
          have HF := hide (Out.of (w := w) (And.intro (h3.inner HT.out HX.out (fun u => u.holdT c) (holdT_n c) (by rw [EQ.out]; rfl) (by have := C3.out; omega) (by rw [EQ.out]; exact TO.out) ⟨_, hA4, hK2.put _ _, PM⟩ hgr).out ((Keep.of_below (S := S) (A1.trans (b3.mono A1.size))).trans (keepM hgr) (fun _ _ z => by rw [z]; exact hi3.s))))
          clear h3 hi3 CN HX K31 H1 hK1 hK2 hK3 hA4 hgr A1 hKl PM
          generalize t.hs.length = n at *
          go_wp2_with fail
          go_ret
          exact ⟨rfl, HF.out⟩
    · have hE : t.holdE c = 70 := by unfold Tx.holdE; rw [if_neg cc, if_pos c3]
      rw [hE, if_neg (by decide)]
      clear hE cc
      have q2 : (t.st != 0) = true := by simpa using c3
      clear h h1 c3
      go_enter Try.func21, Try.ntmps21
      go_wp2
      go_ret
      exact ⟨rfl, HR.out.stays HA.out⟩
end Go.Proofs.Ytadppakflbilcaa
