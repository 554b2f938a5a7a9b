import Derived.Test.YtlibldioliicfaaDec8
import Derived.Test.YtlibldioliicfaaMk
import Derived.Laws.AppendOwnNone
namespace Go.Proofs.Ytlibldioliicfaa
open Go.RowKit Go.QK
set_option maxRecDepth 100000
/-- 'append(v, x..)' of rows of whatever cells. -/
theorem wpList_appR {t e : TypeId} {z : Value} {size bytes : Nat} (hu : Try.prog.underlying t = some (.slice e)) (hin : (Try.prog.info? e).map (fun i => (i.zero, i.size, i.bytes)) = some (some z, size, bytes)) (hz : z.cells.size = size) (hs0 : 0 < size) (hby : bytes ≤ 100)
    {w : World} {ops : Array Oper} {rest : List Oper} {o : Oper} {a : Act} {Q : Exit → Act → World → Prop} (hgd : o.guard = none) (s x : Operand) (ho : o.op = .call { callee := .builtin .append, args := #[s, x], argTypes := #[t, t] })
    (B : Nat) (v : Value) (n : Nat) (xs : List Value) (hs : a.eval s = v) (hown : GRow w B e size v n xs) (ax : Option Addr) (m c : Nat) (news : List Value) (hx : a.eval x = .slice ax m c) (hl : news.length = m * size) (hnews : Lies w ax news) (h1 : ∀ u ∈ news, u.oneCell' = true) (hnil : ax = none → c = 0 ∧ m = 0) (h63 : n + m ≤ 2000000) (hB : B ≤ w.heap.size)
    (h : ∀ v' w', GRow w' B e size v' (n + m) (xs ++ news) → w.grownBy w' v.ownBlock → (v'.ownBlock = v.ownBlock ∨ v'.ownBlock = some w.heap.size) → wpList Try.prog ops Q rest (a.put o.dst v') w') : wpList Try.prog ops Q (o :: rest) a w := by
  cases ax with
  | none =>
    obtain ⟨rfl, rfl⟩ := hnil rfl
    obtain ⟨i0, hi, h0, h2, h3⟩ := info_of hin
    have e0 : news = [] := List.eq_nil_of_length_eq_zero (by omega)
    subst e0
    refine wpList_append_own_none hgd s x t ho B e i0 size hu hi v n _ hs hown hx ?_
    exact h v w (by simpa using hown) (World.grownBy.refl _ _) (.inl rfl)
  | some ad =>
    obtain ⟨v', x', hr, q2, q3, q4⟩ := run_pushR hu hin hz hs0 hby o.type w B v n xs hown ad m c news hl hnews h1 h63 hB
    exact wpList_run hgd s x ho hs hx hr (h v' x' q2 q3 q4)
theorem liveCs_one (ls : List LiveM) : ∀ u ∈ liveCs ls, u.oneCell' = true := by
  intro u hu
  obtain ⟨l, _, hl⟩ := List.mem_flatMap.1 hu
  exact liveC_one l u hl
theorem dirtyCs_one (ls : List DirtyM) : ∀ u ∈ dirtyCs ls, u.oneCell' = true := by
  intro u hu
  obtain ⟨l, _, hl⟩ := List.mem_flatMap.1 hu
  exact dirtyC_one l u hl
set_option maxHeartbeats 4000000 in
theorem Own_any (r : RecM) (la da : Option Addr) (lc dc : Nat) (w : World) (hl : Lies w la (liveCs r.live)) (hd : Lies w da (dirtyCs r.dirty)) (hla : la = none → lc = 0 ∧ r.live.length = 0) (hda : da = none → dc = 0 ∧ r.dirty.length = 0) (hn : r.live.length ≤ 1000000) (hm : r.dirty.length ≤ 1000000) :
    Calls Try.prog 17 #[.agg (recC r la lc da dc)] w fun e w' => ∃ v, e = .returned v ∧ RecOut w.heap.size w' v r ∧ Below w.heap.size w w' := by
  obtain ⟨lsn, kind, tx, prev, wp, wi, sp, si, delta, id, grp, lo, hi, val, live, dirty, next⟩ := r
  simp only [recC] at *
  have sz : (w.alloc (.cells #[.int .i64 lsn, .int .i64 kind, .int .i64 tx, .int .i64 prev, .int .i64 wp, .int .i64 wi, .int .i64 sp, .int .i64 si, .int .i64 delta, .int .i64 id, .int .i64 grp, .int .i64 lo, .int .i64 hi, .int .i64 val, .slice la live.length lc, .slice da dirty.length dc, .int .i64 next] 36)).heap.size = w.heap.size + 1 := by simp
  have R0 := (RBox.new w #[.int .i64 lsn, .int .i64 kind, .int .i64 tx, .int .i64 prev, .int .i64 wp, .int .i64 wi, .int .i64 sp, .int .i64 si, .int .i64 delta, .int .i64 id, .int .i64 grp, .int .i64 lo, .int .i64 hi, .int .i64 val, .slice la live.length lc, .slice da dirty.length dc, .int .i64 next] 36).below (alloc_below (w.alloc (.cells #[.int .i64 lsn, .int .i64 kind, .int .i64 tx, .int .i64 prev, .int .i64 wp, .int .i64 wi, .int .i64 sp, .int .i64 si, .int .i64 delta, .int .i64 id, .int .i64 grp, .int .i64 lo, .int .i64 hi, .int .i64 val, .slice la live.length lc, .slice da dirty.length dc, .int .i64 next] 36)) (.cells #[.int .i64 0, .int .i64 0, .int .i64 0, .int .i64 0, .int .i64 0, .int .i64 0, .int .i64 0, .int .i64 0, .int .i64 0, .int .i64 0, .int .i64 0, .int .i64 0, .int .i64 0, .int .i64 0, .slice none 0 0, .slice none 0 0, .int .i64 0] 36))
  have Z0 := RBox.new (w.alloc (.cells #[.int .i64 lsn, .int .i64 kind, .int .i64 tx, .int .i64 prev, .int .i64 wp, .int .i64 wi, .int .i64 sp, .int .i64 si, .int .i64 delta, .int .i64 id, .int .i64 grp, .int .i64 lo, .int .i64 hi, .int .i64 val, .slice la live.length lc, .slice da dirty.length dc, .int .i64 next] 36)) #[.int .i64 0, .int .i64 0, .int .i64 0, .int .i64 0, .int .i64 0, .int .i64 0, .int .i64 0, .int .i64 0, .int .i64 0, .int .i64 0, .int .i64 0, .int .i64 0, .int .i64 0, .int .i64 0, .slice none 0 0, .slice none 0 0, .int .i64 0] 36
  rw [sz] at Z0
  have B0 := bnext (alloc_below w (.cells #[.int .i64 lsn, .int .i64 kind, .int .i64 tx, .int .i64 prev, .int .i64 wp, .int .i64 wi, .int .i64 sp, .int .i64 si, .int .i64 delta, .int .i64 id, .int .i64 grp, .int .i64 lo, .int .i64 hi, .int .i64 val, .slice la live.length lc, .slice da dirty.length dc, .int .i64 next] 36)) (alloc_below (w.alloc (.cells #[.int .i64 lsn, .int .i64 kind, .int .i64 tx, .int .i64 prev, .int .i64 wp, .int .i64 wi, .int .i64 sp, .int .i64 si, .int .i64 delta, .int .i64 id, .int .i64 grp, .int .i64 lo, .int .i64 hi, .int .i64 val, .slice la live.length lc, .slice da dirty.length dc, .int .i64 next] 36)) (.cells #[.int .i64 0, .int .i64 0, .int .i64 0, .int .i64 0, .int .i64 0, .int .i64 0, .int .i64 0, .int .i64 0, .int .i64 0, .int .i64 0, .int .i64 0, .int .i64 0, .int .i64 0, .int .i64 0, .slice none 0 0, .slice none 0 0, .int .i64 0] 36)) (Nat.le_refl _)
  generalize hw0 : (w.alloc (.cells #[.int .i64 lsn, .int .i64 kind, .int .i64 tx, .int .i64 prev, .int .i64 wp, .int .i64 wi, .int .i64 sp, .int .i64 si, .int .i64 delta, .int .i64 id, .int .i64 grp, .int .i64 lo, .int .i64 hi, .int .i64 val, .slice la live.length lc, .slice da dirty.length dc, .int .i64 next] 36)).alloc (.cells #[.int .i64 0, .int .i64 0, .int .i64 0, .int .i64 0, .int .i64 0, .int .i64 0, .int .i64 0, .int .i64 0, .int .i64 0, .int .i64 0, .int .i64 0, .int .i64 0, .int .i64 0, .int .i64 0, .slice none 0 0, .slice none 0 0, .int .i64 0] 36) = w0 at *
  have HW0 := hide hw0
  have L0 := hide (hl.below B0)
  have HD := hide hd
  have R0 := hide R0
  have Z0 := hide Z0
  have B0 := hide B0
  clear hw0 sz hl hd
  go_enter Try.func17, Try.ntmps17
  go_upto_region 1 with fail
  rw [HW0.out]
  clear HW0
  generalize Value.agg #[.int .i64 lsn, .int .i64 kind, .int .i64 tx, .int .i64 prev, .int .i64 wp, .int .i64 wi, .int .i64 sp, .int .i64 si, .int .i64 delta, .int .i64 id, .int .i64 grp, .int .i64 lo, .int .i64 hi, .int .i64 val, .slice la live.length lc, .slice da dirty.length dc, .int .i64 next] = va
  have k14 := (R0.out.cells.get 14 _ rfl).1
  have z14 := (R0.out.cells.get 14 _ rfl).2
  have hb0 := Z0.out.lt
  have N1 := World.ownsRow_nil w0 w0.heap.size 63 4
  go_wp2_with (at_builtin; refine wpList_appR Try.underlying31 info63 rfl (by decide) (by decide) rfl (.const (.slice none 0 0)) (.tmp 5) rfl w0.heap.size (.slice none 0 0) 0 [] rfl N1 la live.length lc (liveCs live) rfl (by rw [liveCs_length]; omega) L0.out (liveCs_one live) hla (by omega) (Nat.le_refl _) ?_)
  intro v1 w1 r1 hg1 hv1
  have b1 : Below w0.heap.size w0 w1 := (Below.refl _ _).grown hg1 (Nat.le_refl _) nofun
  (try rw [Nat.zero_add] at r1)
  (try rw [List.nil_append] at r1)
  have lt1 := fun g q => (World.ownsRow.lt r1 g q).1
  obtain ⟨a1, k1, e1, _⟩ := GRow.lies r1
  rw [e1] at r1 lt1 hv1 ⊢
  have R1 := R0.out.below b1
  have Z1 := Z0.out.below b1
  have B1 := bnext B0.out b1 (Nat.le_refl _)
  have q14 := (R1.cells.get 14 _ rfl).1
  have f14 := (R1.cells.get 14 _ rfl).2
  have kk1 : Keep (fun k => k = w.heap.size) w1 (w1.setCell ⟨w.heap.size, 14, none⟩ (.slice a1 live.length k1)) := (Keep.refl (fun k => k = w.heap.size) w1).setCell (fun _ => rfl) _
  have R2 := R1.setCell 14 (.slice a1 live.length k1)
  simp only [List.setIfInBounds_toArray, List.set_cons_zero, List.set_cons_succ] at R2
  have rr1 := GRow.keep r1 kk1 (fun g q e => by have := lt1 g q; omega)
  have Z2 := Z1.keep kk1 (by omega)
  have B2 := B1.trans (kk1.below B1.size (fun k hk q => by omega))
  have R2 := hide R2
  have Z2 := hide Z2
  have B2 := hide B2
  have D2 := hide (HD.out.below B2.out)
  have RR1 := hide rr1
  have LT1 := hide lt1
  have hsz : w0.heap.size ≤ w1.heap.size := b1.size
  clear k14 z14 hg1 hv1 b1 r1 R1 Z1 B1 kk1 rr1 lt1 R0 Z0 B0 L0 N1
  go_upto_region 2 with fail
  generalize hw2 : w1.setCell ⟨w.heap.size, 14, none⟩ (.slice a1 live.length k1) = w2 at *
  have hsz2 : w2.heap.size = w1.heap.size := by rw [← hw2]; simp
  clear hw2 q14 f14 e1
  have k15 := (R2.out.cells.get 15 _ rfl).1
  have z15 := (R2.out.cells.get 15 _ rfl).2
  have N2 := World.ownsRow_nil w2 w2.heap.size 65 2
  go_wp2_with (at_builtin; refine wpList_appR Try.underlying32 info65 rfl (by decide) (by decide) rfl (.const (.slice none 0 0)) (.tmp 11) rfl w2.heap.size (.slice none 0 0) 0 [] rfl N2 da dirty.length dc (dirtyCs dirty) rfl (by rw [dirtyCs_length]; omega) D2.out (dirtyCs_one dirty) hda (by omega) (Nat.le_refl _) ?_)
  intro v3 w3 r3 hg3 hv3
  have b3 : Below w2.heap.size w2 w3 := (Below.refl _ _).grown hg3 (Nat.le_refl _) nofun
  (try rw [Nat.zero_add] at r3)
  (try rw [List.nil_append] at r3)
  have lt3 := fun g q => (World.ownsRow.lt r3 g q).1
  obtain ⟨a2, k2, e3, _⟩ := GRow.lies r3
  rw [e3] at r3 lt3 hv3 ⊢
  have R3 := R2.out.below b3
  have Z3 := Z2.out.below b3
  have B3 := bnext B2.out b3 (Nat.le_refl _)
  have RR3 := GRow.below RR1.out b3
  have RLT := fun g q => (World.ownsRow.lt RR1.out g q).2
  have q15 := (R3.cells.get 15 _ rfl).1
  have f15 := (R3.cells.get 15 _ rfl).2
  have kk3 : Keep (fun k => k = w.heap.size) w3 (w3.setCell ⟨w.heap.size, 15, none⟩ (.slice a2 dirty.length k2)) := (Keep.refl (fun k => k = w.heap.size) w3).setCell (fun _ => rfl) _
  have R4 := R3.setCell 15 (.slice a2 dirty.length k2)
  simp only [List.setIfInBounds_toArray, List.set_cons_zero, List.set_cons_succ] at R4
  have rl4 := hide (GRow.keep RR3 kk3 (fun g q e => by have := LT1.out g q; omega))
  have rd4 := hide (GRow.keep r3 kk3 (fun g q e => by have := lt3 g q; omega))
  have Z4 := hide (Z3.keep kk3 (by omega))
  have B4 := hide (B3.trans (kk3.below B3.size (fun k hk q => by omega)))
  have R4 := hide R4
  have LD := hide (show ∀ g, (Value.slice a1 live.length k1).ownBlock = some g → (Value.slice a2 dirty.length k2).ownBlock ≠ some g from fun g q e => by have := RLT g q; have := lt3 g e; omega)
  have G1 := hide (show ∀ g, (Value.slice a1 live.length k1).ownBlock = some g → ¬ g = w.heap.size + 1 from fun g q e => by have := LT1.out g q; omega)
  have G2 := hide (show ∀ g, (Value.slice a2 dirty.length k2).ownBlock = some g → ¬ g = w.heap.size + 1 from fun g q e => by have := lt3 g q; omega)
  have BASE := hide (show w.heap.size ≤ w0.heap.size ∧ w.heap.size ≤ w2.heap.size by omega)
  clear k15 z15 hg3 hv3 b3 r3 R3 Z3 B3 kk3 RR3 lt3 R2 Z2 B2 D2 RR1 LT1 RLT N2
  go_upto_region 3 with fail
  generalize w3.setCell ⟨w.heap.size, 15, none⟩ (.slice a2 dirty.length k2) = w4 at *
  clear q15 f15 e3
  go_wp2_with (first | refine wpList_load36 R4.out rfl rfl ?_ | (refine wpList_store36 Z4.out rfl rfl rfl rfl rfl ?_; intro wf hbf hkf))
  exact bodyPost_ret (results_box rfl _ _ rfl hbf rfl) rfl ⟨_, rfl, ⟨a1, a2, k1, k2, rfl, GRow.mono (GRow.keep rl4.out hkf G1.out) (by have := BASE.out; omega), GRow.mono (GRow.keep rd4.out hkf G2.out) (by have := BASE.out; omega), LD.out⟩, B4.out.trans (hkf.below B4.out.size (fun k hk q => by omega))⟩
end Go.Proofs.Ytlibldioliicfaa
