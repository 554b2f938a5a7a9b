import Derived.Test.YtadppakflbilcaaRm23
namespace Go.Proofs.Ytadppakflbilcaa
open Go.RowKit Go.QK Go.Maps Go.QM Go.QR
set_option maxRecDepth 100000
theorem prom_del {L : List Tx} (h : Ok L) {t : Tx} (ht : t ∈ L) : prom (del L t.n) = prom L - t.owes := by
  have := prom_perm (perm_del h.nd ht)
  simp only [prom] at this
  omega
theorem prom_upd {L : List Tx} (h : Ok L) {t : Tx} (ht : t ∈ L) (f : Tx → Tx) (hf : ∀ t, (f t).n = t.n) : prom (upd L t.n f) = prom L - t.owes + (f t).owes := by
  have := prom_perm (perm_upd h.nd f hf ht)
  have := prom_del h ht
  simp only [prom] at *
  omega
/-- What one more record of the transaction n leaves. -/
structure Ended (L L' : List Tx) (n how : Int) : Prop where
  less : prom L' ≤ prom L - 1
  one : how = 1 → prom L' = prom L - 1
  form : L' = del L n ∨ ∃ f : Tx → Tx, (∀ t, (f t).n = t.n) ∧ L' = upd L n f
def endOp (n what ctr : Int) : OpX := ⟨3, false, n, ctr, what, 0, 0⟩
theorem filter_one {l : List Int} (h : l.Nodup) {c : Int} (hc : c ∈ l) : (l.filter (fun x => !(x == c))).length + 1 = l.length := by
  induction l with
  | nil => cases hc
  | cons a r ih =>
    obtain ⟨h1, h2⟩ := List.nodup_cons.1 h
    by_cases q : a = c
    · subst q
      have : r.filter (fun x => !(x == a)) = r := by
        rw [List.filter_eq_self]
        intro x hx
        simp
        exact fun e => h1 (e ▸ hx)
      simp [this]
    · have hr : c ∈ r := by
        rcases List.mem_cons.1 hc with e | e
        · exact absurd e.symm q
        · exact e
      have := ih h2 hr
      simp [q]
      simpa using this
section
variable {L : List Tx} {t : Tx} {how : Int}
theorem ended5 (h : Ok L) (ht : t ∈ L) (hs : t.st = 0) (h1 : how ≠ 1) (c : Int) : askE L (endOp t.n 5 c) = 0 ∧ Ended L (askL L (endOp t.n 5 c)) t.n how := by
  have hg := get_of_mem h.nd ht
  have e : askL L (endOp t.n 5 c) = upd L t.n (fun u => u.turn 1) := by
    show wroteL L t.n 5 c = _
    rw [(wrote5 hg).2, if_pos hs]
  refine ⟨by show wroteE L t.n 5 c = 0; rw [(wrote5 hg).1, if_pos hs], ?_⟩
  rw [e]
  have := prom_upd h ht (fun u => u.turn 1) (fun _ => rfl)
  refine ⟨?_, fun q => absurd q h1, .inr ⟨fun u => u.turn 1, fun _ => rfl, rfl⟩⟩
  rw [this]
  simp [Tx.owes, Tx.turn, hs]
  omega
theorem ended6 (h : Ok L) (ht : t ∈ L) (hs : t.st = 0) (c : Int) : askE L (endOp t.n 6 c) = 0 ∧ Ended L (askL L (endOp t.n 6 c)) t.n how := by
  have hg := get_of_mem h.nd ht
  have e : askL L (endOp t.n 6 c) = upd L t.n (fun u => u.turn 2) := by
    show wroteL L t.n 6 c = _
    rw [(wrote6 hg).2, if_pos hs]
  refine ⟨by show wroteE L t.n 6 c = 0; rw [(wrote6 hg).1, if_pos hs], ?_⟩
  rw [e]
  have := prom_upd h ht (fun u => u.turn 2) (fun _ => rfl)
  have q : prom (upd L t.n (fun u => u.turn 2)) = prom L - 1 := by
    rw [this]
    simp [Tx.owes, Tx.turn, hs]
    omega
  exact ⟨by omega, fun _ => q, .inr ⟨fun u => u.turn 2, fun _ => rfl, rfl⟩⟩
theorem ended4 (h : Ok L) (ht : t ∈ L) (hs : t.st = 2) {c : Int} (hc : c ∈ t.hs) : askE L (endOp t.n 4 c) = 0 ∧ Ended L (askL L (endOp t.n 4 c)) t.n how := by
  have hg := get_of_mem h.nd ht
  have e : askL L (endOp t.n 4 c) = upd L t.n (fun u => u.less c) := by
    show wroteL L t.n 4 c = _
    rw [(wrote4 hg).2, if_pos ⟨hs, hc⟩]
  refine ⟨by show wroteE L t.n 4 c = 0; rw [(wrote4 hg).1, if_neg (fun z => z hs), if_pos hc], ?_⟩
  rw [e]
  have := prom_upd h ht (fun u => u.less c) (fun _ => rfl)
  have f1 := filter_one (h.each t ht).nd hc
  have q : prom (upd L t.n (fun u => u.less c)) = prom L - 1 := by
    rw [this]
    simp only [Tx.owes, Tx.less, hs]
    simp
    omega
  exact ⟨by omega, fun _ => q, .inr ⟨fun u => u.less c, fun _ => rfl, rfl⟩⟩
theorem ended7 (h : Ok L) (ht : t ∈ L) (hs : t.st = 1 ∨ (t.st = 2 ∧ t.hs = [])) (c : Int) : askE L (endOp t.n 7 c) = 0 ∧ Ended L (askL L (endOp t.n 7 c)) t.n how := by
  have hg := get_of_mem h.nd ht
  have hq : ¬ (t.st = 0 ∨ t.st = 2 ∧ t.hs ≠ []) := by
    rintro (q | q)
    · omega
    · rcases hs with z | z
      · omega
      · exact q.2 z.2
  have e : askL L (endOp t.n 7 c) = del L t.n := by
    show wroteL L t.n 7 c = _
    rw [(wrote7 hg).2, if_neg hq]
  refine ⟨by show wroteE L t.n 7 c = 0; rw [(wrote7 hg).1, if_neg hq], ?_⟩
  rw [e]
  have := prom_del h ht
  have ow : t.owes = 1 := by
    rcases hs with z | z
    · simp [Tx.owes, z]
    · simp [Tx.owes, z.1, z.2]
  exact ⟨by omega, fun _ => by omega, .inl rfl⟩
end
/-- Behind an end of one more record. -/
def EndPost (w : World) (U : Nat → Prop) (p b : Nat) (L : List Tx) (n how : Int) (w' : World) : Prop := ∃ U' L', DuoB w' U' p b L' L' ∧ Step U w w' U' ∧ Ended L L' n how
theorem i64_0 : I64 0 := ⟨by decide, by decide⟩
theorem op_ok {n c what : Int} (h1 : I64 n) (h2 : I64 c) : (endOp n what c).Ok := ⟨h1, h2, i64_0, i64_0⟩
set_option maxHeartbeats 4000000 in
theorem endA (U : Nat → Prop) (p b : Nat) (L : List Tx) (i : Nat) (t : Tx) (how : Int) (w : World) (hD : DuoB w U p b L L) (ht : L[i]? = some t) (hh : I64 how) (hs : t.st = 0) : Calls Try.prog 20 #[ptr b, ptr p, .int .i64 (i : Int), .int .i64 how] w fun e w' => e = .returned (.bool true) ∧ EndPost w U p b L t.n how w' := by
  have hok := hD.ok
  have tok := hok.each t (List.mem_of_getElem? ht)
  have hn := tx_i64 tok
  obtain ⟨S2, R2, -⟩ := hD.ref
  obtain ⟨v, P, h, e⟩ := R2
  have hlen := map_len e
  have hip : i < P.length := by rw [hlen]; exact (List.getElem?_eq_some_iff.1 ht).1
  have hpn : P.length ≤ 32 := by have := hok.few; omega
  obtain ⟨vk, hpk⟩ := map_at e ht
  obtain ⟨g, cap, rfl, hgl, p0, p1, p2, p3, fz⟩ := h.bookAt hpk
  obtain ⟨k0, -⟩ := h.box.get 0 _ rfl
  obtain ⟨va, vc, rfl, hseen⟩ := h.blist hpk
  have hb2 := tok.few
  clear hlen
  have s1 : (t.st == 1) = false := by simp [hs]
  have s2 : (t.st == 2) = false := by simp [hs]
  rw [s1] at p2
  rw [s2] at p3
  have hm := List.mem_of_getElem? ht
  have H5 := hide (fun (q : how ≠ 1) => ended5 (how := how) hok hm hs q 0)
  have H6 := hide (ended6 (how := how) hok hm hs 0)
  have HI := hide (show I64 t.n ∧ I64 0 from ⟨hn, ⟨by decide, by decide⟩⟩)
  have HDD := hide hD
  have K19 := fun wq => brought_any how 2 wq hh (by omega) (by omega)
  clear hD h e hpk ht hok tok hseen hs s1 s2 hm
  go_enter Try.func20, Try.ntmps20
  go_upto_region 3 with fail
  go_wp2_with fail
  refine (K19 _).mono ?_
  rintro e wy ⟨j, rfl, hj, hj1, rfl⟩
  by_cases j0 : j = 0
  · subst j0
    have HEE := hide (H5.out (fun q => by have := hj1 q trivial; omega))
    clear H5 H6 K19 hj1
    go_upto_region 10 with fail
    refine named (P := Code.wp _ _ _ _) ?_
    intro wz hwz
    have hbz : Below w.heap.size w wz := by rw [hwz]; exact (alloc_below _ _).alloc (by simp) _
    have HDZ := hide (HDD.out.below hbz)
    have HBZ := hide (Step.below (U := U) hbz)
    have HOZ := hide (show Cells wz (w.heap.size + 1) [.int .i64 3, .bool false, .int .i64 t.n, .int .i64 0, .int .i64 5, .int .i64 0, .int .i64 0] from by
      rw [hwz]
      have := Cells.new (w.alloc (.cells #[.int .i64 t.n, .slice va t.hs.length vc, .bool false, .bool false] 39)) #[.int .i64 3, .bool false, .int .i64 t.n, .int .i64 0, .int .i64 5, .int .i64 0, .int .i64 0] 26
      simpa using this)
    have HNU := hide (show ¬ U (w.heap.size + 1) from fun q => by have := HDD.out.lt _ q; omega)
    obtain ⟨no, hno⟩ : ∃ no, no = w.heap.size + 1 := ⟨_, rfl⟩
    rw [← hno] at HOZ HNU ⊢
    clear hwz hbz hno
    obtain ⟨S1, R1, st1⟩ := HDZ.out.prog
    have KA := asked_any S1 p L (endOp t.n 5 0) wz R1 (op_ok HI.out.1 HI.out.2)
    rw [HEE.out.1] at KA
    simp only [OpX.cs, endOp] at KA
    obtain ⟨o0, -⟩ := HOZ.out.get 0 _ rfl
    obtain ⟨o1, -⟩ := HOZ.out.get 1 _ rfl
    obtain ⟨o2, -⟩ := HOZ.out.get 2 _ rfl
    obtain ⟨o3, -⟩ := HOZ.out.get 3 _ rfl
    obtain ⟨o4, -⟩ := HOZ.out.get 4 _ rfl
    obtain ⟨o5, -⟩ := HOZ.out.get 5 _ rfl
    obtain ⟨o6, -⟩ := HOZ.out.get 6 _ rfl
    have ST1 := hide st1
    clear st1 R1
    obtain ⟨LL, hLL⟩ : ∃ LL, LL = askL L (endOp t.n 5 0) := ⟨_, rfl⟩
    have HLL := hide hLL
    change Calls Try.prog 11 _ wz (fun r w' => r = _ ∧ Out wz S1 p (askL L (endOp t.n 5 0)) w') at KA
    rw [← hLL] at KA
    clear hLL
    go_upto_region 11 with (go_at_call 11; refine KA.mono ?_; rintro e w3 ⟨rfl, o⟩)
    obtain ⟨U3, D3, s3⟩ := ST1.out _ _ o
    have HO3 := hide (HOZ.out.keep s3.keep HNU.out)
    obtain ⟨S4, R4, st4⟩ := D3.ref
    have KN := notes_any S4 b L (endOp t.n 5 0) w3 R4 HDZ.out.ok HEE.out.1
    rw [← HLL.out] at KN
    simp only [OpX.cs, endOp] at KN
    have ST4 := hide st4
    have HS3 := hide s3
    clear st4 R4 o0 o1 o2 o3 o4 o5 o6 o KA D3 s3 HOZ
    obtain ⟨o0, -⟩ := HO3.out.get 0 _ rfl
    obtain ⟨o1, -⟩ := HO3.out.get 1 _ rfl
    obtain ⟨o2, -⟩ := HO3.out.get 2 _ rfl
    obtain ⟨o3, -⟩ := HO3.out.get 3 _ rfl
    obtain ⟨o4, -⟩ := HO3.out.get 4 _ rfl
    obtain ⟨o5, -⟩ := HO3.out.get 5 _ rfl
    obtain ⟨o6, -⟩ := HO3.out.get 6 _ rfl
    go_wp2_with (go_at_call 12; refine KN.mono ?_; rintro e w4 ⟨rfl, o⟩)
    go_ret
    obtain ⟨U4, D4, s4⟩ := ST4.out _ _ o
    exact ⟨rfl, U4, LL, D4, (HBZ.out.trans HS3.out).trans s4, by rw [HLL.out]; exact HEE.out.2⟩
  · have jb : (((j : Nat) : Int) == 0) = false := by simp; omega
    have HEE := H6
    clear H5 H6 K19 hj1
    go_upto_region 10 with fail
    refine named (P := Code.wp _ _ _ _) ?_
    intro wz hwz
    have hbz : Below w.heap.size w wz := by rw [hwz]; exact (alloc_below _ _).alloc (by simp) _
    have HDZ := hide (HDD.out.below hbz)
    have HBZ := hide (Step.below (U := U) hbz)
    have HOZ := hide (show Cells wz (w.heap.size + 1) [.int .i64 3, .bool false, .int .i64 t.n, .int .i64 0, .int .i64 6, .int .i64 0, .int .i64 0] from by
      rw [hwz]
      have := Cells.new (w.alloc (.cells #[.int .i64 t.n, .slice va t.hs.length vc, .bool false, .bool false] 39)) #[.int .i64 3, .bool false, .int .i64 t.n, .int .i64 0, .int .i64 6, .int .i64 0, .int .i64 0] 26
      simpa using this)
    have HNU := hide (show ¬ U (w.heap.size + 1) from fun q => by have := HDD.out.lt _ q; omega)
    obtain ⟨no, hno⟩ : ∃ no, no = w.heap.size + 1 := ⟨_, rfl⟩
    rw [← hno] at HOZ HNU ⊢
    clear hwz hbz hno
    obtain ⟨S1, R1, st1⟩ := HDZ.out.prog
    have KA := asked_any S1 p L (endOp t.n 6 0) wz R1 (op_ok HI.out.1 HI.out.2)
    rw [HEE.out.1] at KA
    simp only [OpX.cs, endOp] at KA
    obtain ⟨o0, -⟩ := HOZ.out.get 0 _ rfl
    obtain ⟨o1, -⟩ := HOZ.out.get 1 _ rfl
    obtain ⟨o2, -⟩ := HOZ.out.get 2 _ rfl
    obtain ⟨o3, -⟩ := HOZ.out.get 3 _ rfl
    obtain ⟨o4, -⟩ := HOZ.out.get 4 _ rfl
    obtain ⟨o5, -⟩ := HOZ.out.get 5 _ rfl
    obtain ⟨o6, -⟩ := HOZ.out.get 6 _ rfl
    have ST1 := hide st1
    clear st1 R1
    obtain ⟨LL, hLL⟩ : ∃ LL, LL = askL L (endOp t.n 6 0) := ⟨_, rfl⟩
    have HLL := hide hLL
    change Calls Try.prog 11 _ wz (fun r w' => r = _ ∧ Out wz S1 p (askL L (endOp t.n 6 0)) w') at KA
    rw [← hLL] at KA
    clear hLL
    go_upto_region 11 with (go_at_call 11; refine KA.mono ?_; rintro e w3 ⟨rfl, o⟩)
    obtain ⟨U3, D3, s3⟩ := ST1.out _ _ o
    have HO3 := hide (HOZ.out.keep s3.keep HNU.out)
    obtain ⟨S4, R4, st4⟩ := D3.ref
    have KN := notes_any S4 b L (endOp t.n 6 0) w3 R4 HDZ.out.ok HEE.out.1
    rw [← HLL.out] at KN
    simp only [OpX.cs, endOp] at KN
    have ST4 := hide st4
    have HS3 := hide s3
    clear st4 R4 o0 o1 o2 o3 o4 o5 o6 o KA D3 s3 HOZ
    obtain ⟨o0, -⟩ := HO3.out.get 0 _ rfl
    obtain ⟨o1, -⟩ := HO3.out.get 1 _ rfl
    obtain ⟨o2, -⟩ := HO3.out.get 2 _ rfl
    obtain ⟨o3, -⟩ := HO3.out.get 3 _ rfl
    obtain ⟨o4, -⟩ := HO3.out.get 4 _ rfl
    obtain ⟨o5, -⟩ := HO3.out.get 5 _ rfl
    obtain ⟨o6, -⟩ := HO3.out.get 6 _ rfl
    go_wp2_with (go_at_call 12; refine KN.mono ?_; rintro e w4 ⟨rfl, o⟩)
    go_ret
    obtain ⟨U4, D4, s4⟩ := ST4.out _ _ o
    exact ⟨rfl, U4, LL, D4, (HBZ.out.trans HS3.out).trans s4, by rw [HLL.out]; exact HEE.out.2⟩
set_option maxHeartbeats 4000000 in
theorem endB (U : Nat → Prop) (p b : Nat) (L : List Tx) (i : Nat) (t : Tx) (how : Int) (w : World) (hD : DuoB w U p b L L) (ht : L[i]? = some t) (hs : t.st = 1) : Calls Try.prog 20 #[ptr b, ptr p, .int .i64 (i : Int), .int .i64 how] w fun e w' => e = .returned (.bool true) ∧ EndPost w U p b L t.n how w' := by
  have hok := hD.ok
  have tok := hok.each t (List.mem_of_getElem? ht)
  have hn := tx_i64 tok
  obtain ⟨S2, R2, -⟩ := hD.ref
  obtain ⟨v, P, h, e⟩ := R2
  have hlen := map_len e
  have hip : i < P.length := by rw [hlen]; exact (List.getElem?_eq_some_iff.1 ht).1
  have hpn : P.length ≤ 32 := by have := hok.few; omega
  obtain ⟨vk, hpk⟩ := map_at e ht
  obtain ⟨g, cap, rfl, hgl, p0, p1, p2, p3, fz⟩ := h.bookAt hpk
  obtain ⟨k0, -⟩ := h.box.get 0 _ rfl
  obtain ⟨va, vc, rfl, hseen⟩ := h.blist hpk
  have hb2 := tok.few
  clear hlen
  have s1 : (t.st == 1) = true := by simp [hs]
  have s2 : (t.st == 2) = false := by simp [hs]
  rw [s1] at p2
  rw [s2] at p3
  have HEE := hide (ended7 (how := how) hok (List.mem_of_getElem? ht) (.inl hs) 0)
  have HI := hide (show I64 t.n ∧ I64 0 from ⟨hn, ⟨by decide, by decide⟩⟩)
  have HDD := hide hD
  clear hD h e hpk ht hok tok hseen hs s1 s2
  go_enter Try.func20, Try.ntmps20
  go_upto_region 10 with fail
  refine named (P := Code.wp _ _ _ _) ?_
  intro wz hwz
  have hbz : Below w.heap.size w wz := by rw [hwz]; exact (alloc_below _ _).alloc (by simp) _
  have HDZ := hide (HDD.out.below hbz)
  have HBZ := hide (Step.below (U := U) hbz)
  have HOZ := hide (show Cells wz (w.heap.size + 1) [.int .i64 3, .bool false, .int .i64 t.n, .int .i64 0, .int .i64 7, .int .i64 0, .int .i64 0] from by
    rw [hwz]
    have := Cells.new (w.alloc (.cells #[.int .i64 t.n, .slice va t.hs.length vc, .bool true, .bool false] 39)) #[.int .i64 3, .bool false, .int .i64 t.n, .int .i64 0, .int .i64 7, .int .i64 0, .int .i64 0] 26
    simpa using this)
  have HNU := hide (show ¬ U (w.heap.size + 1) from fun q => by have := HDD.out.lt _ q; omega)
  obtain ⟨no, hno⟩ : ∃ no, no = w.heap.size + 1 := ⟨_, rfl⟩
  rw [← hno] at HOZ HNU ⊢
  clear hwz hbz hno
  obtain ⟨S1, R1, st1⟩ := HDZ.out.prog
  have KA := asked_any S1 p L (endOp t.n 7 0) wz R1 (op_ok HI.out.1 HI.out.2)
  rw [HEE.out.1] at KA
  simp only [OpX.cs, endOp] at KA
  obtain ⟨o0, -⟩ := HOZ.out.get 0 _ rfl
  obtain ⟨o1, -⟩ := HOZ.out.get 1 _ rfl
  obtain ⟨o2, -⟩ := HOZ.out.get 2 _ rfl
  obtain ⟨o3, -⟩ := HOZ.out.get 3 _ rfl
  obtain ⟨o4, -⟩ := HOZ.out.get 4 _ rfl
  obtain ⟨o5, -⟩ := HOZ.out.get 5 _ rfl
  obtain ⟨o6, -⟩ := HOZ.out.get 6 _ rfl
  have ST1 := hide st1
  clear st1 R1
  obtain ⟨LL, hLL⟩ : ∃ LL, LL = askL L (endOp t.n 7 0) := ⟨_, rfl⟩
  have HLL := hide hLL
  change Calls Try.prog 11 _ wz (fun r w' => r = _ ∧ Out wz S1 p (askL L (endOp t.n 7 0)) w') at KA
  rw [← hLL] at KA
  clear hLL
  go_upto_region 11 with (go_at_call 11; refine KA.mono ?_; rintro e w3 ⟨rfl, o⟩)
  obtain ⟨U3, D3, s3⟩ := ST1.out _ _ o
  have HO3 := hide (HOZ.out.keep s3.keep HNU.out)
  obtain ⟨S4, R4, st4⟩ := D3.ref
  have KN := notes_any S4 b L (endOp t.n 7 0) w3 R4 HDZ.out.ok HEE.out.1
  rw [← HLL.out] at KN
  simp only [OpX.cs, endOp] at KN
  have ST4 := hide st4
  have HS3 := hide s3
  clear st4 R4 o0 o1 o2 o3 o4 o5 o6 o KA D3 s3 HOZ
  obtain ⟨o0, -⟩ := HO3.out.get 0 _ rfl
  obtain ⟨o1, -⟩ := HO3.out.get 1 _ rfl
  obtain ⟨o2, -⟩ := HO3.out.get 2 _ rfl
  obtain ⟨o3, -⟩ := HO3.out.get 3 _ rfl
  obtain ⟨o4, -⟩ := HO3.out.get 4 _ rfl
  obtain ⟨o5, -⟩ := HO3.out.get 5 _ rfl
  obtain ⟨o6, -⟩ := HO3.out.get 6 _ rfl
  go_wp2_with (go_at_call 12; refine KN.mono ?_; rintro e w4 ⟨rfl, o⟩)
  go_ret
  obtain ⟨U4, D4, s4⟩ := ST4.out _ _ o
  exact ⟨rfl, U4, LL, D4, (HBZ.out.trans HS3.out).trans s4, by rw [HLL.out]; exact HEE.out.2⟩
set_option maxHeartbeats 4000000 in
theorem endC (U : Nat → Prop) (p b : Nat) (L : List Tx) (i : Nat) (t : Tx) (how : Int) (w : World) (hD : DuoB w U p b L L) (ht : L[i]? = some t) (hs : t.st = 2) (hs2 : t.hs = []) : Calls Try.prog 20 #[ptr b, ptr p, .int .i64 (i : Int), .int .i64 how] w fun e w' => e = .returned (.bool true) ∧ EndPost w U p b L t.n how w' := by
  have hok := hD.ok
  have tok := hok.each t (List.mem_of_getElem? ht)
  have hn := tx_i64 tok
  obtain ⟨S2, R2, -⟩ := hD.ref
  obtain ⟨v, P, h, e⟩ := R2
  have hlen := map_len e
  have hip : i < P.length := by rw [hlen]; exact (List.getElem?_eq_some_iff.1 ht).1
  have hpn : P.length ≤ 32 := by have := hok.few; omega
  obtain ⟨vk, hpk⟩ := map_at e ht
  obtain ⟨g, cap, rfl, hgl, p0, p1, p2, p3, fz⟩ := h.bookAt hpk
  obtain ⟨k0, -⟩ := h.box.get 0 _ rfl
  obtain ⟨va, vc, rfl, hseen⟩ := h.blist hpk
  have hb2 := tok.few
  clear hlen
  have s1 : (t.st == 1) = false := by simp [hs]
  have s2 : (t.st == 2) = true := by simp [hs]
  rw [s1] at p2
  rw [s2] at p3
  have l1 : decide ((0 : Int) < (t.hs.length : Int)) = false := by rw [hs2]; rfl
  have l2 : decide (0 < t.hs.length) = false := by rw [hs2]; rfl
  have HEE := hide (ended7 (how := how) hok (List.mem_of_getElem? ht) (.inr ⟨hs, hs2⟩) 0)
  have HI := hide (show I64 t.n ∧ I64 0 from ⟨hn, ⟨by decide, by decide⟩⟩)
  have HDD := hide hD
  clear hD h e hpk ht hok tok hseen hs s1 s2 hs2
  go_enter Try.func20, Try.ntmps20
  go_upto_region 10 with fail
  refine named (P := Code.wp _ _ _ _) ?_
  intro wz hwz
  have hbz : Below w.heap.size w wz := by rw [hwz]; exact (alloc_below _ _).alloc (by simp) _
  have HDZ := hide (HDD.out.below hbz)
  have HBZ := hide (Step.below (U := U) hbz)
  have HOZ := hide (show Cells wz (w.heap.size + 1) [.int .i64 3, .bool false, .int .i64 t.n, .int .i64 0, .int .i64 7, .int .i64 0, .int .i64 0] from by
    rw [hwz]
    have := Cells.new (w.alloc (.cells #[.int .i64 t.n, .slice va t.hs.length vc, .bool false, .bool true] 39)) #[.int .i64 3, .bool false, .int .i64 t.n, .int .i64 0, .int .i64 7, .int .i64 0, .int .i64 0] 26
    simpa using this)
  have HNU := hide (show ¬ U (w.heap.size + 1) from fun q => by have := HDD.out.lt _ q; omega)
  obtain ⟨no, hno⟩ : ∃ no, no = w.heap.size + 1 := ⟨_, rfl⟩
  rw [← hno] at HOZ HNU ⊢
  clear hwz hbz hno
  obtain ⟨S1, R1, st1⟩ := HDZ.out.prog
  have KA := asked_any S1 p L (endOp t.n 7 0) wz R1 (op_ok HI.out.1 HI.out.2)
  rw [HEE.out.1] at KA
  simp only [OpX.cs, endOp] at KA
  obtain ⟨o0, -⟩ := HOZ.out.get 0 _ rfl
  obtain ⟨o1, -⟩ := HOZ.out.get 1 _ rfl
  obtain ⟨o2, -⟩ := HOZ.out.get 2 _ rfl
  obtain ⟨o3, -⟩ := HOZ.out.get 3 _ rfl
  obtain ⟨o4, -⟩ := HOZ.out.get 4 _ rfl
  obtain ⟨o5, -⟩ := HOZ.out.get 5 _ rfl
  obtain ⟨o6, -⟩ := HOZ.out.get 6 _ rfl
  have ST1 := hide st1
  clear st1 R1
  obtain ⟨LL, hLL⟩ : ∃ LL, LL = askL L (endOp t.n 7 0) := ⟨_, rfl⟩
  have HLL := hide hLL
  change Calls Try.prog 11 _ wz (fun r w' => r = _ ∧ Out wz S1 p (askL L (endOp t.n 7 0)) w') at KA
  rw [← hLL] at KA
  clear hLL
  go_upto_region 11 with (go_at_call 11; refine KA.mono ?_; rintro e w3 ⟨rfl, o⟩)
  obtain ⟨U3, D3, s3⟩ := ST1.out _ _ o
  have HO3 := hide (HOZ.out.keep s3.keep HNU.out)
  obtain ⟨S4, R4, st4⟩ := D3.ref
  have KN := notes_any S4 b L (endOp t.n 7 0) w3 R4 HDZ.out.ok HEE.out.1
  rw [← HLL.out] at KN
  simp only [OpX.cs, endOp] at KN
  have ST4 := hide st4
  have HS3 := hide s3
  clear st4 R4 o0 o1 o2 o3 o4 o5 o6 o KA D3 s3 HOZ
  obtain ⟨o0, -⟩ := HO3.out.get 0 _ rfl
  obtain ⟨o1, -⟩ := HO3.out.get 1 _ rfl
  obtain ⟨o2, -⟩ := HO3.out.get 2 _ rfl
  obtain ⟨o3, -⟩ := HO3.out.get 3 _ rfl
  obtain ⟨o4, -⟩ := HO3.out.get 4 _ rfl
  obtain ⟨o5, -⟩ := HO3.out.get 5 _ rfl
  obtain ⟨o6, -⟩ := HO3.out.get 6 _ rfl
  go_wp2_with (go_at_call 12; refine KN.mono ?_; rintro e w4 ⟨rfl, o⟩)
  go_ret
  obtain ⟨U4, D4, s4⟩ := ST4.out _ _ o
  exact ⟨rfl, U4, LL, D4, (HBZ.out.trans HS3.out).trans s4, by rw [HLL.out]; exact HEE.out.2⟩
set_option maxHeartbeats 4000000 in
theorem endD (U : Nat → Prop) (p b : Nat) (L : List Tx) (i : Nat) (t : Tx) (how : Int) (w : World) (hD : DuoB w U p b L L) (ht : L[i]? = some t) (hh : I64 how) (hs : t.st = 2) (hs2 : t.hs ≠ []) : Calls Try.prog 20 #[ptr b, ptr p, .int .i64 (i : Int), .int .i64 how] w fun e w' => e = .returned (.bool true) ∧ EndPost w U p b L t.n how w' := by
  have hok := hD.ok
  have tok := hok.each t (List.mem_of_getElem? ht)
  have hn := tx_i64 tok
  obtain ⟨S2, R2, -⟩ := hD.ref
  obtain ⟨v, P, h, e⟩ := R2
  have hlen := map_len e
  have hip : i < P.length := by rw [hlen]; exact (List.getElem?_eq_some_iff.1 ht).1
  have hpn : P.length ≤ 32 := by have := hok.few; omega
  obtain ⟨vk, hpk⟩ := map_at e ht
  obtain ⟨g, cap, rfl, hgl, p0, p1, p2, p3, fz⟩ := h.bookAt hpk
  obtain ⟨k0, -⟩ := h.box.get 0 _ rfl
  obtain ⟨va, vc, rfl, hseen⟩ := h.blist hpk
  have hb2 := tok.few
  clear hlen
  have s1 : (t.st == 1) = false := by simp [hs]
  have s2 : (t.st == 2) = true := by simp [hs]
  rw [s1] at p2
  rw [s2] at p3
  have hl : 0 < t.hs.length := by
    have : t.hs.length ≠ 0 := fun z => hs2 (List.length_eq_zero_iff.1 z)
    omega
  have l1 : decide ((0 : Int) < (t.hs.length : Int)) = true := by simp; omega
  have l2 : decide (0 < t.hs.length) = true := by simpa using hl
  have hm := List.mem_of_getElem? ht
  have HE4 := hide (fun (c : Int) (hc : c ∈ t.hs) => ended4 (how := how) hok hm hs hc)
  have HEI := hide (fun (c : Int) (hc : c ∈ t.hs) => show I64 t.n ∧ I64 c from ⟨hn, by have := tok.each c hc; unfold I64; omega⟩)
  have HDD := hide hD
  have HSE := hide (show ∀ x, Below w.heap.size w x → Seen .i64 x va t.hs from fun x hx => hseen.below hx)
  have HAG := hide (show ∀ ad, va = some ad → ad.block < w.heap.size from fun ad q => by
    rcases hseen with z | ⟨b', off, z, hlt, _⟩
    · rw [z] at hl; simp at hl
    · rw [z] at q; cases q; exact hlt)
  clear hD h e hpk ht hok tok hseen hs s1 s2 hm hs2
  go_enter Try.func20, Try.ntmps20
  go_upto_region 9 with fail
  refine named (P := Code.wp _ _ _ _) ?_
  intro wz hwz
  have hbz : Below w.heap.size w wz := by rw [hwz]; exact (alloc_below _ _).alloc (by simp) _
  have HTZ := hide (show Cells wz w.heap.size [.int .i64 t.n, .slice va t.hs.length vc, .bool false, .bool true] from by
    rw [hwz]
    exact (Cells.new w #[.int .i64 t.n, .slice va t.hs.length vc, .bool false, .bool true] 39).keep (Keep.of_below (S := fun _ => False) (alloc_below _ _)) id)
  have HOZ := hide (show Cells wz (w.heap.size + 1) [.int .i64 3, .bool false, .int .i64 t.n, .int .i64 0, .int .i64 4, .int .i64 0, .int .i64 0] from by
    rw [hwz]
    have := Cells.new (w.alloc (.cells #[.int .i64 t.n, .slice va t.hs.length vc, .bool false, .bool true] 39)) #[.int .i64 3, .bool false, .int .i64 t.n, .int .i64 0, .int .i64 4, .int .i64 0, .int .i64 0] 26
    simpa using this)
  have HBB := hide hbz
  have HNU0 := hide (show ¬ U (w.heap.size + 1) from fun q => by have := HDD.out.lt _ q; omega)
  have HAN := hide (show ∀ ad, va = some ad → ¬ ad.block = w.heap.size + 1 from fun ad q z => by have := HAG.out ad q; omega)
  have HTN := hide (show ¬ w.heap.size = w.heap.size + 1 by omega)
  have HLW := hide (show w.heap.size ≤ w.heap.size + 1 by omega)
  obtain ⟨no, hno⟩ : ∃ no, no = w.heap.size + 1 := ⟨_, rfl⟩
  rw [← hno] at HOZ HNU0 HAN HTN HLW ⊢
  have HNO := hide hno
  obtain ⟨nt, hnt⟩ : ∃ nt, nt = w.heap.size := ⟨_, rfl⟩
  rw [← hnt] at HTZ HTN ⊢
  clear hwz hbz hno hnt
  refine wp_region_held_drew (S := fun wq => Keep (fun z => z = no) wz wq) (by kernel_rfl) (Keep.refl _ _).drew (fun hS => ?_)
  refine take_at 0 (some 57) (v := ?_) rfl rfl (by kernel_rfl) (by kernel_rfl) (by kernel_rfl) (fun _ _ _ h => h) ⟨by rfl, ?_⟩ hS ?_
  rotate_left
  · intro wq hSw; go_simp; try rfl
  simp only [Act.put, List.setIfInBounds_toArray, List.set_cons_zero, List.set_cons_succ]
  refine take_at 1 (some 58) (v := ?_) rfl rfl (by kernel_rfl) (by kernel_rfl) (by kernel_rfl) (fun _ _ _ h => h) ⟨by rfl, ?_⟩ hS ?_
  rotate_left
  · intro wq hSw; have q := ((HTZ.out.keep hSw HTN.out).get 1 _ rfl).1; go_simp; try rfl
  simp only [Act.put, List.setIfInBounds_toArray, List.set_cons_zero, List.set_cons_succ]
  refine take_at 2 (some 59) (v := ?_) rfl rfl (by kernel_rfl) (by kernel_rfl) (by kernel_rfl) (fun _ _ _ h => h) ⟨by rfl, ?_⟩ hS ?_
  rotate_left
  · intro wq hSw; go_simp; try rfl
  simp only [Act.put, List.setIfInBounds_toArray, List.set_cons_zero, List.set_cons_succ]
  refine take_at 3 (some 60) (v := ?_) rfl rfl (by kernel_rfl) (by kernel_rfl) (by kernel_rfl) (fun _ _ _ h => h) ⟨by rfl, ?_⟩ hS ?_
  rotate_left
  · intro wq hSw; go_simp; try rfl
  simp only [Act.put, List.setIfInBounds_toArray, List.set_cons_zero, List.set_cons_succ]
  refine take_at 4 (some 61) (v := ?_) rfl rfl (by kernel_rfl) (by kernel_rfl) (by kernel_rfl) (fun _ _ _ h => h) ⟨by rfl, ?_⟩ hS ?_
  rotate_left
  · intro wq hSw; have q := ((HTZ.out.keep hSw HTN.out).get 1 _ rfl).1; go_simp; try rfl
  simp only [Act.put, List.setIfInBounds_toArray, List.set_cons_zero, List.set_cons_succ]
  refine take_at 5 (some 62) (v := ?_) rfl rfl (by kernel_rfl) (by kernel_rfl) (by kernel_rfl) (fun _ _ _ h => h) ⟨by rfl, ?_⟩ hS ?_
  rotate_left
  · intro wq hSw; go_simp; try rfl
  simp only [Act.put, List.setIfInBounds_toArray, List.set_cons_zero, List.set_cons_succ]
  have D1 := hide hS
  have K19 := brought_any how t.hs.length wz.drew hh hl (by omega)
  clear hS
  refine wpAnyH_ready (rs := [6]) (by kernel_rfl) (by simp) ?_
  refine AllReadyH.cons rfl (fun K hK => ?_) AllReadyH.nil
  go_simp
  go_wp2_with fail
  refine K19.mono ?_
  rintro e wy ⟨j, rfl, hj, -, hwy⟩
  subst hwy
  go_wp2_with fail
  refine hK.out _ _ D1.out (fun hS => ?_)
  clear hK K K19
  (try simp only [Act.put, List.setIfInBounds_toArray, List.set_cons_zero, List.set_cons_succ])
  obtain ⟨c, hc⟩ : ∃ c, c = t.hs[j] := ⟨_, rfl⟩
  have hcm : c ∈ t.hs := by rw [hc]; exact List.getElem_mem hj
  obtain ⟨ga, off, rfl, -, hcell⟩ : ∃ b off, va = some ⟨b, off, none⟩ ∧ b < wz.heap.size ∧ ∀ i (h : i < t.hs.length), wz.cell? ⟨b, off + i, none⟩ = some (.int .i64 t.hs[i]) := (HSE.out wz HBB.out).resolve_left (fun z => by rw [z] at hl; simp at hl)
  have HCE := hide (show ∀ wq, Keep (fun z => z = no) wz wq → wq.cell? ⟨ga, off + j, none⟩ = some (.int .i64 c) from fun wq hk => by
    rw [hc, ← hcell j hj]
    exact hk.cell (p := ⟨ga, off + j, none⟩) (Nat.lt_of_lt_of_le (HAG.out ⟨ga, off, none⟩ rfl) HBB.out.size) (HAN.out ⟨ga, off, none⟩ rfl))
  have HEE := hide (HE4.out c hcm)
  have HI := hide (HEI.out c hcm)
  clear hc hcm hcell HE4 HEI HSE
  refine take_at 7 (some 64) (v := ?_) rfl rfl (by kernel_rfl) (by kernel_rfl) (by kernel_rfl) (fun _ _ _ h => h) ⟨by rfl, ?_⟩ hS ?_
  rotate_left
  · intro wq hSw; go_simp; try rfl
  simp only [Act.put, List.setIfInBounds_toArray, List.set_cons_zero, List.set_cons_succ]
  refine take_at 8 (some 65) (v := ?_) rfl rfl (by kernel_rfl) (by kernel_rfl) (by kernel_rfl) (fun _ _ _ h => h) ⟨by rfl, ?_⟩ hS ?_
  rotate_left
  · intro wq hSw; have q9 := HCE.out wq hSw; go_simp; try rfl
  simp only [Act.put, List.setIfInBounds_toArray, List.set_cons_zero, List.set_cons_succ]
  refine take_at 9 (some 66) (v := ?_) rfl rfl (by kernel_rfl) (by kernel_rfl) (by kernel_rfl) (fun _ _ _ h => h) ⟨by rfl, ?_⟩ hS ?_
  rotate_left
  · intro wq hSw; go_simp; try rfl
  simp only [Act.put, List.setIfInBounds_toArray, List.set_cons_zero, List.set_cons_succ]
  have HOX := hide (show Cells wz.drew no _ from HOZ.out.keep (Keep.of_below (S := fun _ => False) (Below.refl wz.heap.size wz).drew) id)
  obtain ⟨m3, f3⟩ := HOX.out.get 3 _ rfl
  refine wpAnyH_ready (rs := [10]) (by kernel_rfl) (by simp) ?_
  refine AllReadyH.cons rfl (fun K hK => ?_) AllReadyH.nil
  go_simp
  go_wp2_with fail
  refine hK.out _ _ (hS.setCell (fun _ => rfl) _) (fun hS => ?_)
  clear hK K hS
  (try simp only [Act.put])
  refine wpAnyH_done (by kernel_rfl) ?_ _
  clear D1 m3 f3 HTZ HCE HOX
  go_upto_region 10 with fail
  refine named (P := Code.wp _ _ _ _) ?_
  intro wk hwk
  have kk : Keep (fun z => z = no) wz wk := by rw [hwk]; exact ((Keep.refl (fun z => z = no) wz).setCell (fun _ => rfl) _).drew
  have HOY := hide (show Cells wk no [.int .i64 3, .bool false, .int .i64 t.n, .int .i64 c, .int .i64 4, .int .i64 0, .int .i64 0] from by
    rw [hwk]
    exact (HOZ.out.stored (j := 3) (by simp) (.int .i64 c)).keep (Keep.of_below (S := fun _ => False) (Below.refl _ _).drew) id)
  have HDY := hide ((HDD.out.below HBB.out).keep kk (fun k q z => HNU0.out (by rw [← z]; exact q)))
  have HBY := hide (show Step U w wk U from ⟨fun _ _ q => q, (Keep.of_below (S := U) HBB.out).trans kk (fun j hj z => by have := HNO.out; omega)⟩)
  have HNU := HNU0
  clear hwk kk HDD HOZ HBB HAG HAN HNO HLW
  clear hS
  clear wz
  obtain ⟨wz, hwz⟩ : ∃ wz, wz = wk := ⟨_, rfl⟩
  rw [← hwz] at HOY HDY HBY ⊢
  clear hwz
  have HOZ := HOY
  have HDZ := HDY
  have HBZ := HBY
  clear HOY HDY HBY
  obtain ⟨S1, R1, st1⟩ := HDZ.out.prog
  have KA := asked_any S1 p L (endOp t.n 4 c) wz R1 (op_ok HI.out.1 HI.out.2)
  rw [HEE.out.1] at KA
  simp only [OpX.cs, endOp] at KA
  obtain ⟨o0, -⟩ := HOZ.out.get 0 _ rfl
  obtain ⟨o1, -⟩ := HOZ.out.get 1 _ rfl
  obtain ⟨o2, -⟩ := HOZ.out.get 2 _ rfl
  obtain ⟨o3, -⟩ := HOZ.out.get 3 _ rfl
  obtain ⟨o4, -⟩ := HOZ.out.get 4 _ rfl
  obtain ⟨o5, -⟩ := HOZ.out.get 5 _ rfl
  obtain ⟨o6, -⟩ := HOZ.out.get 6 _ rfl
  have ST1 := hide st1
  clear st1 R1
  obtain ⟨LL, hLL⟩ : ∃ LL, LL = askL L (endOp t.n 4 c) := ⟨_, rfl⟩
  have HLL := hide hLL
  change Calls Try.prog 11 _ wz (fun r w' => r = _ ∧ Out wz S1 p (askL L (endOp t.n 4 c)) w') at KA
  rw [← hLL] at KA
  clear hLL
  go_upto_region 11 with (go_at_call 11; refine KA.mono ?_; rintro e w3 ⟨rfl, o⟩)
  obtain ⟨U3, D3, s3⟩ := ST1.out _ _ o
  have HO3 := hide (HOZ.out.keep s3.keep HNU.out)
  obtain ⟨S4, R4, st4⟩ := D3.ref
  have KN := notes_any S4 b L (endOp t.n 4 c) w3 R4 HDZ.out.ok HEE.out.1
  rw [← HLL.out] at KN
  simp only [OpX.cs, endOp] at KN
  have ST4 := hide st4
  have HS3 := hide s3
  clear st4 R4 o0 o1 o2 o3 o4 o5 o6 o KA D3 s3 HOZ
  obtain ⟨o0, -⟩ := HO3.out.get 0 _ rfl
  obtain ⟨o1, -⟩ := HO3.out.get 1 _ rfl
  obtain ⟨o2, -⟩ := HO3.out.get 2 _ rfl
  obtain ⟨o3, -⟩ := HO3.out.get 3 _ rfl
  obtain ⟨o4, -⟩ := HO3.out.get 4 _ rfl
  obtain ⟨o5, -⟩ := HO3.out.get 5 _ rfl
  obtain ⟨o6, -⟩ := HO3.out.get 6 _ rfl
  go_wp2_with (go_at_call 12; refine KN.mono ?_; rintro e w4 ⟨rfl, o⟩)
  go_ret
  obtain ⟨U4, D4, s4⟩ := ST4.out _ _ o
  exact ⟨rfl, U4, LL, D4, (HBZ.out.trans HS3.out).trans s4, by rw [HLL.out]; exact HEE.out.2⟩
theorem ends_any (U : Nat → Prop) (p b : Nat) (L : List Tx) (i : Nat) (t : Tx) (how : Int) (w : World) (hD : DuoB w U p b L L) (ht : L[i]? = some t) (hh : I64 how) : Calls Try.prog 20 #[ptr b, ptr p, .int .i64 (i : Int), .int .i64 how] w fun e w' => e = .returned (.bool true) ∧ EndPost w U p b L t.n how w' := by
  rcases (hD.ok.each t (List.mem_of_getElem? ht)).st with q | q | q
  · exact endA U p b L i t how w hD ht hh q
  · exact endB U p b L i t how w hD ht q
  · by_cases z : t.hs = []
    · exact endC U p b L i t how w hD ht q z
    · exact endD U p b L i t how w hD ht hh q z
end Go.Proofs.Ytadppakflbilcaa
