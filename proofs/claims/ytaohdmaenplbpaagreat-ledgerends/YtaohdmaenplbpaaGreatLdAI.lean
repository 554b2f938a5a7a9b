import Derived.Test.YtaohdmaenplbpaaGreatLdAH
set_option linter.all false
namespace Go.Proofs.YtaohdmaenplbpaaGreat
open Go.RowKit Go.QK Quota Go.Maps Go.QM
set_option maxRecDepth 100000
/-! begun (9): the counters are made, as far as they are taken. -/
structure Rm where
  grp : Int
  lo : Int
  hi : Int
  v : Int
def rmC (x : Rm) : List Value := [.int .i64 x.grp, .int .i64 x.lo, .int .i64 x.hi, .int .i64 x.v]
theorem rmC_len (x : Rm) : (rmC x).length = 4 := rfl
structure Rm.In (x : Rm) : Prop where
  lo : I64 x.lo
  hi : I64 x.hi
  v : I64 x.v
theorem room_new (lo hi v : Int) : newE (roomLo lo hi) (roomHi lo hi) (roomV lo hi v) = 0 := by
  unfold newE roomV
  have h1 : roomLo lo hi ≤ roomHi lo hi := by unfold roomLo roomHi; split <;> omega
  rw [if_neg (by omega)]
  split
  · rw [if_pos ⟨Int.le_refl _, h1⟩]
  · rw [if_pos (by omega)]
theorem room_in {x : Rm} (h : x.In) : I64 (roomLo x.lo x.hi) ∧ I64 (roomHi x.lo x.hi) ∧ I64 (roomV x.lo x.hi x.v) := by
  have h1 := h.lo
  have h2 := h.hi
  have h3 := h.v
  have a : I64 (roomLo x.lo x.hi) := by unfold roomLo; split <;> assumption
  have b : I64 (roomHi x.lo x.hi) := by unfold roomHi; split <;> assumption
  refine ⟨a, b, ?_⟩
  unfold roomV
  split
  · exact a
  · exact h3
theorem putM_last {α : Type} {L : Prs α} {k : Int} {v : α} (h : ∀ p ∈ L, p.1 < k) : putM k v L = L ++ [(k, v)] := by
  induction L with
  | nil => rfl
  | cons p r ih =>
    have h1 := h p List.mem_cons_self
    unfold putM
    rw [if_neg (by omega), if_neg (by omega), ih (fun q hq => h q (List.mem_cons_of_mem _ hq))]
    rfl
theorem make_cases {es : List SE} {id g lo hi v : Int} (hid : ∀ x ∈ es, x.id < id) (h1 : 1 ≤ id) (h2 : id ≤ 8) (h3 : 1 ≤ g) (h4 : g ≤ 3) (hE : newE lo hi v = 0) : (newL (ctrsOf es) id g lo hi v = 0 ∧ makeL (ctrsOf es) id g lo hi v = ctrsOf es ++ [(id, ⟨g, ⟨lo, hi, v, []⟩⟩)]) ∨ (newL (ctrsOf es) id g lo hi v = 10 ∧ makeL (ctrsOf es) id g lo hi v = ctrsOf es) := by
  have hp : ∀ p ∈ ctrsOf es, p.1 < id := fun p hp => by
    obtain ⟨x, hx, rfl⟩ := List.mem_map.1 hp
    exact hid x hx
  have hn : hasM (ctrsOf es) id = false := by
    rw [hasM_get, getM_none (fun q hq => by have := hp q hq; omega)]
    rfl
  have e : newL (ctrsOf es) id g lo hi v = 0 ∨ newL (ctrsOf es) id g lo hi v = 10 := by
    unfold newL
    rw [if_neg (by omega), hn, hE]
    simp only [Bool.false_eq_true, if_false, if_true]
    split
    · exact .inl rfl
    · exact .inr rfl
  rcases e with e | e
  · refine .inl ⟨e, ?_⟩
    unfold makeL
    rw [if_pos e, putM_last hp]
  · refine .inr ⟨e, ?_⟩
    unfold makeL
    rw [if_neg (by omega)]
theorem info44 : (Tryz.prog.info? 44).map (fun i => (i.zero, i.size, i.bytes)) = some (some (.pointer none), 1, 8) := by kernel_rfl
theorem seC_one (x : SE) : ∀ u ∈ seC x, u.oneCell' = true := by
  intro u hu
  simp [seC] at hu
  rcases hu with rfl | rfl | rfl | rfl | rfl <;> rfl
/-- 'append(v, x)' of a row of one's own: the literal is made, then the row is longer. -/
theorem push_lit {t e : TypeId} {z : Value} {size bytes : Nat} (hu : Tryz.prog.underlying t = some (.slice e)) (hin : (Tryz.prog.info? e).map (fun i => (i.zero, i.size, i.bytes)) = some (some z, size, bytes)) (hz : z.cells.size = size) (hs : 0 < size) (hby : bytes ≤ 100) (ty : TypeId) (x0 : World) (v : Value) (n : Nat) (xs : List Value) (row : GRow x0 0 e size v n xs) (cs : Array Value) (te : TypeId) (hl : cs.toList.length = size) (h1 : ∀ u ∈ cs.toList, u.oneCell' = true) (hn : n ≤ 1000000) :
    ∃ vn x4, (Builtin.append_ #[t, t] ty #[v, .slice (some ⟨x0.heap.size, 0, none⟩) 1 1]).run Tryz.prog (x0.alloc (.cells cs te)) = .ok vn x4 ∧ GRow x4 0 e size vn (n + 1) (xs ++ cs.toList) ∧ Keep (fun k => v.ownBlock = some k) x0 x4 ∧ (vn.ownBlock = v.ownBlock ∨ ∃ g, vn.ownBlock = some g ∧ x0.heap.size ≤ g) := by
  have al := alloc_below x0 (.cells cs te)
  obtain ⟨vn, x4, hrun, q1, q2, q3⟩ := run_pushR hu hin hz hs hby ty (x0.alloc (.cells cs te)) 0 v n xs (GRow.below row al) ⟨x0.heap.size, 0, none⟩ 1 1 cs.toList (by rw [hl, Nat.one_mul]) (lies_lit x0 cs te) h1 (by omega) (Nat.zero_le _)
  refine ⟨vn, x4, hrun, q1, (Keep.of_below al).trans (grown_keep q2) (fun j _ q => q), ?_⟩
  rcases q3 with q | q
  · exact .inl q
  · exact .inr ⟨_, q, by simp⟩
/-- The store with no counter yet. -/
theorem St.first {S : Nat → Prop} {w : World} {lb sb : Nat} (hl : LG S w lb [] []) (hb : Cells w sb [ptr lb, .slice none 0 0, .slice none 0 0]) (hs : ∀ z, S z → z ≠ sb) : ∃ lab, St lab (fun z => S z ∨ z = sb) w sb lb (.slice none 0 0) (.slice none 0 0) [] [] [] := by
  refine ⟨fun z => if z = sb then 1 else 2, ⟨fun z hz => ?_, hb, ⟨S, hl, fun z hz => ⟨.inl hz, if_neg (hs z hz)⟩⟩, ⟨rfl, .inl ⟨rfl, rfl⟩⟩, ⟨rfl, .inl ⟨rfl, rfl⟩⟩, fun i hi => absurd hi (Nat.not_lt_zero _), fun i hi => absurd hi (Nat.not_lt_zero _), ⟨.inr rfl, if_pos rfl⟩, (fun g hg => by cases hg), (fun g hg => by cases hg)⟩⟩
  rcases hz with h | h
  · exact hl.lt z h
  · rw [h]; exact hb.1
/-- One more counter with its escrow. -/
theorem St.more {lab : Nat → Nat} {T : Nat → Prop} {w w' : World} {sb lb : Nat} {vc ve vc' ve' : Value} {es : List SE} {C : Ctrs} {H : Helds} (h : St lab T w sb lb vc ve es C H) (x : SE)
    (k : Keep (fun z => z = sb ∨ vc.ownBlock = some z ∨ ve.ownBlock = some z) w w') (box : Cells w' sb [ptr lb, vc', ve'])
    (rc : GRow w' 0 43 5 vc' (es.length + 1) (rowsC seC es ++ seC x)) (re : GRow w' 0 44 1 ve' (es.length + 1) ((es.map fun x => ptr x.eb) ++ [ptr x.eb])) (pe : PE w' x.eb x.mb x.e) (f1 : w.heap.size ≤ x.eb) (f2 : w.heap.size ≤ x.mb)
    (g3 : vc'.ownBlock = vc.ownBlock ∨ ∃ g, vc'.ownBlock = some g ∧ w.heap.size ≤ g ∧ g ≠ x.eb ∧ g ≠ x.mb)
    (g4 : ve'.ownBlock = ve.ownBlock ∨ ∃ g, ve'.ownBlock = some g ∧ w.heap.size ≤ g ∧ g ≠ x.eb ∧ g ≠ x.mb ∧ vc'.ownBlock ≠ some g) : ∃ lab' T', St lab' T' w' sb lb vc' ve' (es ++ [x]) C H ∧ Gone T w T' w' := by
  have hs := k.size
  have el := pe.lt
  obtain ⟨S, hl, hS⟩ := h.led
  obtain ⟨t1, l1⟩ := h.l1
  have lsb := h.lt sb t1
  have off : ∀ z, T z → lab z ≠ 1 → lab z ≠ 3 → lab z ≠ 4 → ¬ (z = sb ∨ vc.ownBlock = some z ∨ ve.ownBlock = some z) := fun z _ n1 n3 n4 q => by
    rcases q with rfl | q | q
    · exact n1 l1
    · exact n3 (h.l3 z q).2
    · exact n4 (h.l4 z q).2
  have e : ∀ z, T z → (fun z => if z < w.heap.size then lab z else if z = x.eb ∨ z = x.mb then 10 + es.length else if vc'.ownBlock = some z then 3 else 4) z = lab z := fun z hz => if_pos (h.lt z hz)
  have len : (es ++ [x]).length = es.length + 1 := by simp
  refine ⟨fun z => if z < w.heap.size then lab z else if z = x.eb ∨ z = x.mb then 10 + es.length else if vc'.ownBlock = some z then 3 else 4, fun z => T z ∨ (w.heap.size ≤ z ∧ z < w'.heap.size), ⟨fun z hz => ?_, box, ⟨S, hl.keep k (fun z hz => off z (hS z hz).1 (by rw [(hS z hz).2]; decide) (by rw [(hS z hz).2]; decide) (by rw [(hS z hz).2]; decide)), fun z hz => ⟨.inl (hS z hz).1, (e z (hS z hz).1).trans (hS z hz).2⟩⟩, ?_, ?_, fun i hi => ?_, fun i hi => ?_, ⟨.inl t1, (e _ t1).trans l1⟩, fun g hg => ?_, fun g hg => ?_⟩, ⟨k.mono (fun z hz q => ?_), fun z hz => ?_⟩⟩
  · rcases hz with q | q
    · exact Nat.lt_of_lt_of_le (h.lt z q) hs
    · exact q.2
  · rw [len]; simpa [rowsC] using rc
  · rw [len]; simpa using re
  · by_cases q : i < es.length
    · rw [List.getElem_append_left q]
      obtain ⟨a, b, c, d⟩ := h.le i q
      exact (h.esc i q).keep k (off _ a (by omega) (by omega) (by omega)) (off _ b (by omega) (by omega) (by omega))
    · have : i = es.length := by rw [len] at hi; omega
      subst this
      simpa using pe
  · by_cases q : i < es.length
    · rw [List.getElem_append_left q]
      obtain ⟨a, b, c, d⟩ := h.le i q
      exact ⟨.inl a, .inl b, (e _ a).trans c, (e _ b).trans d⟩
    · have : i = es.length := by rw [len] at hi; omega
      subst this
      have q1 : (es ++ [x])[es.length]'hi = x := by simp
      rw [q1]
      exact ⟨.inr ⟨f1, el.1⟩, .inr ⟨f2, el.2⟩, (if_neg (show ¬ x.eb < w.heap.size by omega)).trans (if_pos (.inl rfl)), (if_neg (show ¬ x.mb < w.heap.size by omega)).trans (if_pos (.inr rfl))⟩
  · rcases g3 with q | ⟨g', q, q1, q2, q3⟩
    · rw [q] at hg
      exact ⟨.inl (h.l3 g hg).1, (e g (h.l3 g hg).1).trans (h.l3 g hg).2⟩
    · rw [q] at hg
      cases hg
      have lt := (World.ownsRow.lt rc g q).2
      exact ⟨.inr ⟨q1, lt⟩, (if_neg (show ¬ g < w.heap.size by omega)).trans ((if_neg (show ¬ (g = x.eb ∨ g = x.mb) by omega)).trans (if_pos q))⟩
  · rcases g4 with q | ⟨g', q, q1, q2, q3, q4⟩
    · rw [q] at hg
      exact ⟨.inl (h.l4 g hg).1, (e g (h.l4 g hg).1).trans (h.l4 g hg).2⟩
    · rw [q] at hg
      cases hg
      have lt := (World.ownsRow.lt re g q).2
      exact ⟨.inr ⟨q1, lt⟩, (if_neg (show ¬ g < w.heap.size by omega)).trans ((if_neg (show ¬ (g = x.eb ∨ g = x.mb) by omega)).trans (if_neg q4))⟩
  · rcases q with rfl | q | q
    · exact t1
    · exact (h.l3 z q).1
    · exact (h.l4 z q).1
  · rcases hz with q | q
    · exact .inl q
    · exact .inr q.1
set_option maxHeartbeats 8000000 in
theorem begun_any (rs : List Rm) (ra : Option Addr) (nR rc : Nat) (w : World) (hr : Lies w ra (rowsC rmC rs)) (hn : nR = rs.length) (hin : ∀ x ∈ rs, x.In) (hmax : nR ≤ 9223372036854775807) : Calls Tryz.prog 9 #[.slice ra nR rc] w fun r w' => ∃ sb T es, r = .returned (.tuple #[ptr sb, .bool true]) ∧ Sto T w' sb es [] ∧ (∀ z, T z → w.heap.size ≤ z) ∧ Below w.heap.size w w' := by
  have KN := hide (lg_new w)
  have HN := hide hn
  have HR := hide hr
  have HI := hide hin
  clear hn hr hin
  go_enter Tryz.func9, Tryz.ntmps9
  go_upto_region 2 with (go_at_call 46; refine KN.out.mono ?_; rintro r w1 ⟨lb, S, rfl, hl, hg, hb⟩)
  clear KN
  refine named (P := Code.wp _ _ _ _) ?_
  intro w2 hw2
  obtain ⟨sb, hsb⟩ : ∃ b, b = w1.heap.size := ⟨_, rfl⟩
  have b12 : Below w1.heap.size w1 w2 := by rw [hw2]; exact alloc_below _ _
  obtain ⟨lab, hst⟩ := St.first (sb := sb) (hl.below b12) (by rw [hw2, hsb]; exact Cells.new _ _ _) (fun z hz => by have := hl.lt z hz; omega)
  have B2 := hide (hb.trans (b12.mono hb.size))
  have TG := hide (show ∀ z, (S z ∨ z = sb) → w.heap.size ≤ z from fun z hz => by
    rcases hz with q | q
    · exact hg z q
    · have := hb.size; omega)
  have HS := hide hst
  have bx0 := (hst.box.get 0 _ rfl).1
  rw [← hsb]
  clear hw2 hsb b12 hl hg hb hst
  go_wp2_with fail
  clear bx0
  go_loopw [5] (fun v wr => ∃ (i : Nat) (es : List SE) (lab : Nat → Nat) (T : Nat → Prop) (vc ve : Value), v = .int .i64 (i : Int) ∧ i ≤ nR ∧ i ≤ 8 ∧ es.length ≤ i ∧ SOk es [] ∧ (∀ x ∈ es, x.id ≤ (i : Int)) ∧ St lab T wr sb lb vc ve es (ctrsOf es) [] ∧ (∀ z, T z → w.heap.size ≤ z) ∧ Below w.heap.size w wr) (fun v _ => nR + 1 - (intOf v).toNat)
  case atStart => exact ⟨0, [], lab, _, _, _, rfl, Nat.zero_le _, Nat.zero_le _, Nat.le_refl _, ⟨Nat.zero_le _, nofun, nofun, nofun⟩, nofun, HS.out, TG.out, B2.out⟩
  case round =>
    clear HS TG B2 lab S
    obtain ⟨i, es, lab, T, vc, ve, rfl, hi, hi8, hei, hok, hids, hst, htg, hbw⟩ := hrel
    have HS := hide hst
    have TG := hide htg
    have BW := hide hbw
    have OK := hide hok
    have ID := hide hids
    have EI := hide hei
    clear htg hok hids hei
    by_cases hlt : i < nR
    · by_cases h8 : i < 8
      · have hir : i < rs.length := by rw [← HN.out]; exact hlt
        obtain ⟨rb, ro, rfl, rlt, sel⟩ := HR.out.rowAt rmC 4 rmC_len i hir (by decide)
        have RI := hide (HI.out _ (List.getElem_mem hir))
        have f0 := (hbw.cell (p := ⟨rb, ro + i * 4 + 0, none⟩) rlt).trans (sel 0 _ rfl)
        have f1 := (hbw.cell (p := ⟨rb, ro + i * 4 + 1, none⟩) rlt).trans (sel 1 _ rfl)
        have f2 := (hbw.cell (p := ⟨rb, ro + i * 4 + 2, none⟩) rlt).trans (sel 2 _ rfl)
        have f3 := (hbw.cell (p := ⟨rb, ro + i * 4 + 3, none⟩) rlt).trans (sel 3 _ rfl)
        simp only [Nat.add_zero] at f0
        clear sel hbw
        generalize rs[i] = x at *
        obtain ⟨g, lo, hh, v⟩ := x
        simp only at f0 f1 f2 f3
        obtain ⟨I1, I2, I3⟩ := room_in RI.out
        simp only at I1 I2 I3
        have RN := hide (room_new lo hh v)
        have KC := hide (counterOf_any g lo hh v (i : Int) wr (by omega) (by omega))
        clear RI hst
        generalize roomLo lo hh = L at *
        generalize roomHi lo hh = U at *
        generalize roomV lo hh v = V at *
        obtain ⟨gg, hgg⟩ : ∃ gg, gg = 1 + g % 3 := ⟨_, rfl⟩
        have GG := hide (show 1 ≤ gg ∧ gg ≤ 3 by omega)
        rw [← hgg] at KC
        clear hgg
        obtain ⟨id, hid⟩ : ∃ id, id = (i : Int) + 1 := ⟨_, rfl⟩
        rw [← hid] at KC
        have IDN := hide hid
        clear hid
        go_upto_region 8 with (go_at_call 19; refine KC.out.mono ?_; rintro r w3 ⟨rfl, hb3⟩)
        clear f0 f1 f2 f3 KC
        refine named (P := Code.wp _ _ _ _) ?_
        intro w4 hw4
        obtain ⟨cb, hcb⟩ : ∃ b, b = w3.heap.size := ⟨_, rfl⟩
        have b34 : Below w3.heap.size w3 w4 := by rw [hw4]; exact alloc_below _ _
        have CB := hide (show Cells w4 cb [.int .i64 id, .int .i64 gg, .int .i64 L, .int .i64 U, .int .i64 V] by rw [hw4, hcb]; exact Cells.new _ _ _)
        have S4 := hide ((HS.out.below hb3).below b34)
        have OFF := hide (show ∀ z, T z → z ≠ cb from fun z hz => by have := (HS.out.below hb3).lt z hz; omega)
        have B4 := hide ((BW.out.trans (hb3.mono BW.out.size)).trans (b34.mono (BW.out.trans (hb3.mono BW.out.size)).size))
        rw [← hcb]
        clear hw4 hcb b34 hb3 HS BW
        obtain ⟨SL, hlg, hnx⟩ := (S4.out.below (show Below w4.heap.size w4 w4.drew from (Below.refl _ _).drew)).ledger
        have KR := hide (lg_create (id := id) (grp := gg) hlg I1 I2 I3)
        have NX := hide hnx
        have NC := hide (make_cases (es := es) (id := id) (g := gg) (lo := L) (hi := U) (v := V) (fun x hx => by have := ID.out x hx; have := IDN.out; omega) (by have := IDN.out; omega) (by have := IDN.out; omega) GG.out.1 GG.out.2 RN.out)
        obtain ⟨F, hF⟩ : ∃ F, F = newL (ctrsOf es) id gg L U V := ⟨_, rfl⟩
        obtain ⟨C', hC⟩ : ∃ C', C' = makeL (ctrsOf es) id gg L U V := ⟨_, rfl⟩
        rw [← hF, ← hC] at KR NC
        clear hF hC hlg hnx
        have c4 := CB.out.below (show Below w4.heap.size w4 w4.drew from (Below.refl _ _).drew)
        have x4 := S4.out.box.below (show Below w4.heap.size w4 w4.drew from (Below.refl _ _).drew)
        refine wp_region_held_drew (S := fun wq => wq.cell? ⟨sb, 0, none⟩ = some (ptr lb) ∧ wq.cell? ⟨cb, 0, none⟩ = some (.int .i64 id) ∧ wq.cell? ⟨cb, 1, none⟩ = some (.int .i64 gg) ∧ wq.cell? ⟨cb, 2, none⟩ = some (.int .i64 L) ∧ wq.cell? ⟨cb, 3, none⟩ = some (.int .i64 U) ∧ wq.cell? ⟨cb, 4, none⟩ = some (.int .i64 V)) (by kernel_rfl) ⟨(x4.get 0 _ rfl).1, (c4.get 0 _ rfl).1, (c4.get 1 _ rfl).1, (c4.get 2 _ rfl).1, (c4.get 3 _ rfl).1, (c4.get 4 _ rfl).1⟩ (fun hS => ?_)
        refine take_at 0 (some 35) (v := ?_) rfl rfl (by kernel_rfl) (by kernel_rfl) (by kernel_rfl) (fun _ _ _ h => h) ⟨by rfl, ?_⟩ hS ?_
        rotate_left
        · intro wq hSw; obtain ⟨s0, s1, s2, s3, s4, s5⟩ := hSw; go_simp; try rfl
        simp only [Act.put, List.setIfInBounds_toArray, List.set_cons_zero, List.set_cons_succ]
        refine take_at 1 (some 36) (v := ?_) rfl rfl (by kernel_rfl) (by kernel_rfl) (by kernel_rfl) (fun _ _ _ h => h) ⟨by rfl, ?_⟩ hS ?_
        rotate_left
        · intro wq hSw; obtain ⟨s0, s1, s2, s3, s4, s5⟩ := hSw; go_simp; try rfl
        simp only [Act.put, List.setIfInBounds_toArray, List.set_cons_zero, List.set_cons_succ]
        refine take_at 2 (some 37) (v := ?_) rfl rfl (by kernel_rfl) (by kernel_rfl) (by kernel_rfl) (fun _ _ _ h => h) ⟨by rfl, ?_⟩ hS ?_
        rotate_left
        · intro wq hSw; obtain ⟨s0, s1, s2, s3, s4, s5⟩ := hSw; go_simp; try rfl
        simp only [Act.put, List.setIfInBounds_toArray, List.set_cons_zero, List.set_cons_succ]
        refine take_at 3 (some 38) (v := ?_) rfl rfl (by kernel_rfl) (by kernel_rfl) (by kernel_rfl) (fun _ _ _ h => h) ⟨by rfl, ?_⟩ hS ?_
        rotate_left
        · intro wq hSw; obtain ⟨s0, s1, s2, s3, s4, s5⟩ := hSw; go_simp; try rfl
        simp only [Act.put, List.setIfInBounds_toArray, List.set_cons_zero, List.set_cons_succ]
        refine take_at 4 (some 39) (v := ?_) rfl rfl (by kernel_rfl) (by kernel_rfl) (by kernel_rfl) (fun _ _ _ h => h) ⟨by rfl, ?_⟩ hS ?_
        rotate_left
        · intro wq hSw; obtain ⟨s0, s1, s2, s3, s4, s5⟩ := hSw; go_simp; try rfl
        simp only [Act.put, List.setIfInBounds_toArray, List.set_cons_zero, List.set_cons_succ]
        refine wpAnyH_ready (rs := [5]) (by kernel_rfl) (by simp) ?_
        refine AllReadyH.cons rfl (fun K hK => ?_) AllReadyH.nil
        go_simp
        go_wp2_with fail
        refine KR.out.mono ?_
        rintro r w5 ⟨rfl, hL⟩
        obtain ⟨lab5, T5, hs5, hg5⟩ := NX.out _ _ _ hL
        have c5 := c4.keep hg5.k (fun q => OFF.out _ q rfl)
        have S5 := hide hs5
        have GB := (Gone.of_below (T := T) (show Below w4.heap.size w4 w4.drew from (Below.refl _ _).drew)).trans hg5
        have B5 := hide (B4.out.trans (GB.below B4.out.size TG.out).1)
        have T5G := hide (GB.below B4.out.size TG.out).2
        have OFF5 := hide (show ∀ z, T5 z → z ≠ cb from fun z hz => by rcases GB.n z hz with q | q; exact OFF.out z q; have := CB.out.1; omega)
        clear hL hg5 GB
        go_wp2_with fail
        refine hK.out _ _ ⟨(hs5.box.get 0 _ rfl).1, (c5.get 0 _ rfl).1, (c5.get 1 _ rfl).1, (c5.get 2 _ rfl).1, (c5.get 3 _ rfl).1, (c5.get 4 _ rfl).1⟩ (fun hS => ?_)
        clear hK K
        (try simp only [Act.put, List.setIfInBounds_toArray, List.set_cons_zero, List.set_cons_succ])
        refine take_at 6 (some 7) (v := ?_) rfl rfl (by kernel_rfl) (by kernel_rfl) (by kernel_rfl) (fun _ _ _ h => h) ⟨by rfl, ?_⟩ hS ?_
        rotate_left
        · intro wq hSw; go_simp; try rfl
        simp only [Act.put, List.setIfInBounds_toArray, List.set_cons_zero, List.set_cons_succ]
        refine wpAnyH_done (by kernel_rfl) ?_ _
        clear hS hs5 c4 x4 KR NX S4 B4 TG OFF CB
        rcases NC.out with ⟨e0, eC⟩ | ⟨e0, eC⟩
        · subst e0
          subst eC
          have C5 := hide c5
          obtain ⟨j2, -⟩ := c5.get 2 _ rfl
          obtain ⟨j3, -⟩ := c5.get 3 _ rfl
          obtain ⟨j4, -⟩ := c5.get 4 _ rfl
          have KE := hide (new_yes L U V w5 RN.out I1 I2)
          clear c5 NC
          go_upto_region 15 with (go_at_call 47; refine KE.out.mono ?_; rintro r w6 ⟨eb, mb, rfl, hb6, hpe, hbe, hbm⟩; have C6 := hide (C5.out.below hb6); have PE6 := hide hpe; have B6 := hide hb6; have LE := hide (show w5.heap.size ≤ eb ∧ w5.heap.size ≤ mb from ⟨hbe, hbm⟩); clear hpe hb6 hbe hbm j2 j3 j4 C5)
          clear KE
          obtain ⟨a1, c1, a2, c2, rfl, rfl⟩ := S5.out.form
          obtain ⟨n, hn⟩ : ∃ n, n = es.length := ⟨_, rfl⟩
          have NE := hide hn
          have S6 := hide (S5.out.below B6.out)
          rw [← hn] at S6
          have hn8 : n ≤ 8 := by rw [hn]; exact OK.out.few
          clear hn
          have SSB := hide (OFF5.out sb S6.out.l1.1)
          go_cut [] from 19 to 84 (fun w' => ∃ vn, GRow w' 0 43 5 vn (n + 1) (rowsC seC es ++ [.int .i64 id, .int .i64 gg, .int .i64 L, .int .i64 U, .int .i64 V]) ∧ Cells w' sb [ptr lb, vn, .slice a2 n c2] ∧ Keep (fun z => z = sb ∨ (Value.slice a1 n c1).ownBlock = some z) w6 w' ∧ (vn.ownBlock = (Value.slice a1 n c1).ownBlock ∨ ∃ g, vn.ownBlock = some g ∧ w6.heap.size ≤ g))
          case first =>
            have DR := show Below w6.heap.size w6 w6.drew from (Below.refl _ _).drew
            have S7 := hide (S6.out.below DR)
            have C7 := C6.out.below DR
            obtain ⟨vn, x4, hrun, q1, q2, q3⟩ := push_lit Tryz.underlying31 info43 rfl (by decide) (by decide) 31 w6.drew _ n (rowsC seC es) (by have := S7.out.rc; rw [← NE.out] at this; exact this) #[.int .i64 id, .int .i64 gg, .int .i64 L, .int .i64 U, .int .i64 V] 43 rfl (by intro u hu; simp at hu; rcases hu with rfl | rfl | rfl | rfl | rfl <;> rfl) (by omega)
            have HRR := hide hrun
            obtain ⟨an, cn, rfl, -⟩ := GRow.lies q1
            have rb : ∀ z, (Value.slice a1 n c1).ownBlock = some z → z ≠ sb ∧ z ≠ cb := fun z hz => ⟨fun e => by have u1 := (S7.out.l3 z hz).2; have u2 := S7.out.l1.2; rw [e] at u1; omega, OFF5.out z (S7.out.l3 z hz).1⟩
            have c8 := C7.keep q2 (fun q => (rb _ q).2 rfl)
            have x8 := S7.out.box.keep q2 (fun q => (rb _ q).1 rfl)
            have c9 := c8.other (g := sb) (j := 1) (y := .slice an (n + 1) cn) SSB.out
            have x9 := hide (x8.stored (j := 1) (by simp) (.slice an (n + 1) cn))
            have k9 := hide (show Keep (fun z => z = sb ∨ (Value.slice a1 n c1).ownBlock = some z) w6 (x4.setCell ⟨sb, 1, none⟩ (.slice an (n + 1) cn)) from (((Keep.of_below (S := fun z => z = sb ∨ (Value.slice a1 n c1).ownBlock = some z) DR).trans q2 (fun j _ q => .inr q)).setCell (fun _ => .inl rfl) _))
            have g9 := hide (GRow.keep q1 ((Keep.refl (fun z => z = sb) x4).setCell (g := sb) (j := 1) (fun _ => rfl) (.slice an (n + 1) cn)) (fun g hg e => by
              rcases q3 with q | ⟨g', q, hq⟩
              · rw [q] at hg; exact (rb g hg).1 e
              · rw [q] at hg
                cases hg
                have u := S6.out.lt sb S6.out.l1.1
                have u2 : w6.drew.heap.size = w6.heap.size := rfl
                omega))
            have Q3 := hide (show (Value.slice an (n + 1) cn).ownBlock = (Value.slice a1 n c1).ownBlock ∨ ∃ g, (Value.slice an (n + 1) cn).ownBlock = some g ∧ w6.heap.size ≤ g from q3)
            obtain ⟨x81, x82⟩ := x8.get 1 _ rfl
            have bx1 := (S7.out.box.get 1 _ rfl).1
            have al := alloc_below w6.drew (.cells #[.int .i64 id, .int .i64 gg, .int .i64 L, .int .i64 U, .int .i64 V] 43)
            have c7a := C7.below al
            have bx1a := ((S7.out.box.below al).get 1 _ rfl).1
            clear q1 q2 q3 hrun rb al
            refine wp_region_held_drew (S := fun wq => wq.cell? ⟨cb, 0, none⟩ = some (.int .i64 id) ∧ wq.cell? ⟨cb, 1, none⟩ = some (.int .i64 gg) ∧ wq.cell? ⟨cb, 2, none⟩ = some (.int .i64 L) ∧ wq.cell? ⟨cb, 3, none⟩ = some (.int .i64 U) ∧ wq.cell? ⟨cb, 4, none⟩ = some (.int .i64 V)) (by kernel_rfl) ⟨(C7.get 0 _ rfl).1, (C7.get 1 _ rfl).1, (C7.get 2 _ rfl).1, (C7.get 3 _ rfl).1, (C7.get 4 _ rfl).1⟩ (fun hS => ?_)
            generalize w6.drew = y6 at *
            refine take_at 0 (some 65) (v := ?_) rfl rfl (by kernel_rfl) (by kernel_rfl) (by kernel_rfl) (fun _ _ _ h => h) ⟨by rfl, ?_⟩ hS ?_
            rotate_left
            · intro wq hSw; go_simp; try rfl
            simp only [Act.put, List.setIfInBounds_toArray, List.set_cons_zero, List.set_cons_succ]
            refine take_at 1 (some 66) (v := ?_) rfl rfl (by kernel_rfl) (by kernel_rfl) (by kernel_rfl) (fun _ _ _ h => h) ⟨by rfl, ?_⟩ hS ?_
            rotate_left
            · intro wq hSw; go_simp; try rfl
            simp only [Act.put, List.setIfInBounds_toArray, List.set_cons_zero, List.set_cons_succ]
            refine take_at 2 (some 67) (v := ?_) rfl rfl (by kernel_rfl) (by kernel_rfl) (by kernel_rfl) (fun _ _ _ h => h) ⟨by rfl, ?_⟩ hS ?_
            rotate_left
            · intro wq hSw; go_simp; try rfl
            simp only [Act.put, List.setIfInBounds_toArray, List.set_cons_zero, List.set_cons_succ]
            refine take_at 3 (some 68) (v := ?_) rfl rfl (by kernel_rfl) (by kernel_rfl) (by kernel_rfl) (fun _ _ _ h => h) ⟨by rfl, ?_⟩ hS ?_
            rotate_left
            · intro wq hSw; go_simp; try rfl
            simp only [Act.put, List.setIfInBounds_toArray, List.set_cons_zero, List.set_cons_succ]
            refine take_at 5 (some 70) (v := ?_) rfl rfl (by kernel_rfl) (by kernel_rfl) (by kernel_rfl) (fun _ _ _ h => h) ⟨by rfl, ?_⟩ hS ?_
            rotate_left
            · intro wq hSw; obtain ⟨s1, s2, s3, s4, s5⟩ := hSw; go_simp; try rfl
            simp only [Act.put, List.setIfInBounds_toArray, List.set_cons_zero, List.set_cons_succ]
            refine wpAnyH_ready (rs := [4, 6]) (by kernel_rfl) (by simp) ?_
            refine AllReadyH.cons rfl (fun K hK => ?_) (AllReadyH.cons rfl (fun K hK => ?_) AllReadyH.nil)
            · go_simp
              go_wp2_with fail
              refine hK.out _ _ ⟨(C7.get 0 _ rfl).1, (C7.get 1 _ rfl).1, (C7.get 2 _ rfl).1, (C7.get 3 _ rfl).1, (C7.get 4 _ rfl).1⟩ (fun hS => ?_)
              clear hK K
              (try simp only [Act.put, List.setIfInBounds_toArray, List.set_cons_zero, List.set_cons_succ])
              refine wpAnyH_ready (rs := [6]) (by kernel_rfl) (by simp) ?_
              refine AllReadyH.cons rfl (fun K hK => ?_) AllReadyH.nil
              go_simp
              go_wp2_with fail
              refine hK.out _ _ ⟨(c7a.get 0 _ rfl).1, (c7a.get 1 _ rfl).1, (c7a.get 2 _ rfl).1, (c7a.get 3 _ rfl).1, (c7a.get 4 _ rfl).1⟩ (fun hS => ?_)
              clear hK K
              (try simp only [Act.put, List.setIfInBounds_toArray, List.set_cons_zero, List.set_cons_succ])
              refine wpAnyH_ready (rs := [7]) (by kernel_rfl) (by simp) ?_
              refine AllReadyH.cons rfl (fun K hK => ?_) AllReadyH.nil
              refine wp_run 72 (.tmp 69) (.tmp 71) rfl rfl rfl rfl rfl HRR.out ?_
              refine hK.out _ _ ⟨(c8.get 0 _ rfl).1, (c8.get 1 _ rfl).1, (c8.get 2 _ rfl).1, (c8.get 3 _ rfl).1, (c8.get 4 _ rfl).1⟩ (fun hS => ?_)
              clear hK K
              (try simp only [Act.put, List.setIfInBounds_toArray, List.set_cons_zero, List.set_cons_succ])
              refine take_at 8 (some 73) (v := ?_) rfl rfl (by kernel_rfl) (by kernel_rfl) (by kernel_rfl) (fun _ _ _ h => h) ⟨by rfl, ?_⟩ hS ?_
              rotate_left
              · intro wq hSw; go_simp; try rfl
              simp only [Act.put, List.setIfInBounds_toArray, List.set_cons_zero, List.set_cons_succ]
              refine take_at 9 (some 74) (v := ?_) rfl rfl (by kernel_rfl) (by kernel_rfl) (by kernel_rfl) (fun _ _ _ h => h) ⟨by rfl, ?_⟩ hS ?_
              rotate_left
              · intro wq hSw; go_simp; try rfl
              simp only [Act.put, List.setIfInBounds_toArray, List.set_cons_zero, List.set_cons_succ]
              refine wpAnyH_ready (rs := [10]) (by kernel_rfl) (by simp) ?_
              refine AllReadyH.cons rfl (fun K hK => ?_) AllReadyH.nil
              go_simp
              go_wp2_with fail
              refine hK.out _ _ ⟨(c9.get 0 _ rfl).1, (c9.get 1 _ rfl).1, (c9.get 2 _ rfl).1, (c9.get 3 _ rfl).1, (c9.get 4 _ rfl).1⟩ (fun hS => ?_)
              clear hK K hS
              (try simp only [Act.put, List.setIfInBounds_toArray, List.set_cons_zero, List.set_cons_succ])
              refine wpAnyH_done (by kernel_rfl) ?_ _
              go_wp2_with fail
              go_meet
              exact ⟨_, g9.out, x9.out, k9.out, Q3.out⟩
            · go_simp
              go_wp2_with fail
              refine hK.out _ _ ⟨(c7a.get 0 _ rfl).1, (c7a.get 1 _ rfl).1, (c7a.get 2 _ rfl).1, (c7a.get 3 _ rfl).1, (c7a.get 4 _ rfl).1⟩ (fun hS => ?_)
              clear hK K
              (try simp only [Act.put, List.setIfInBounds_toArray, List.set_cons_zero, List.set_cons_succ])
              refine wpAnyH_ready (rs := [4]) (by kernel_rfl) (by simp) ?_
              refine AllReadyH.cons rfl (fun K hK => ?_) AllReadyH.nil
              go_simp
              go_wp2_with fail
              refine hK.out _ _ ⟨(c7a.get 0 _ rfl).1, (c7a.get 1 _ rfl).1, (c7a.get 2 _ rfl).1, (c7a.get 3 _ rfl).1, (c7a.get 4 _ rfl).1⟩ (fun hS => ?_)
              clear hK K
              (try simp only [Act.put, List.setIfInBounds_toArray, List.set_cons_zero, List.set_cons_succ])
              refine wpAnyH_ready (rs := [7]) (by kernel_rfl) (by simp) ?_
              refine AllReadyH.cons rfl (fun K hK => ?_) AllReadyH.nil
              refine wp_run 72 (.tmp 69) (.tmp 71) rfl rfl rfl rfl rfl HRR.out ?_
              refine hK.out _ _ ⟨(c8.get 0 _ rfl).1, (c8.get 1 _ rfl).1, (c8.get 2 _ rfl).1, (c8.get 3 _ rfl).1, (c8.get 4 _ rfl).1⟩ (fun hS => ?_)
              clear hK K
              (try simp only [Act.put, List.setIfInBounds_toArray, List.set_cons_zero, List.set_cons_succ])
              refine take_at 8 (some 73) (v := ?_) rfl rfl (by kernel_rfl) (by kernel_rfl) (by kernel_rfl) (fun _ _ _ h => h) ⟨by rfl, ?_⟩ hS ?_
              rotate_left
              · intro wq hSw; go_simp; try rfl
              simp only [Act.put, List.setIfInBounds_toArray, List.set_cons_zero, List.set_cons_succ]
              refine take_at 9 (some 74) (v := ?_) rfl rfl (by kernel_rfl) (by kernel_rfl) (by kernel_rfl) (fun _ _ _ h => h) ⟨by rfl, ?_⟩ hS ?_
              rotate_left
              · intro wq hSw; go_simp; try rfl
              simp only [Act.put, List.setIfInBounds_toArray, List.set_cons_zero, List.set_cons_succ]
              refine wpAnyH_ready (rs := [10]) (by kernel_rfl) (by simp) ?_
              refine AllReadyH.cons rfl (fun K hK => ?_) AllReadyH.nil
              go_simp
              go_wp2_with fail
              refine hK.out _ _ ⟨(c9.get 0 _ rfl).1, (c9.get 1 _ rfl).1, (c9.get 2 _ rfl).1, (c9.get 3 _ rfl).1, (c9.get 4 _ rfl).1⟩ (fun hS => ?_)
              clear hK K hS
              (try simp only [Act.put, List.setIfInBounds_toArray, List.set_cons_zero, List.set_cons_succ])
              refine wpAnyH_done (by kernel_rfl) ?_ _
              go_wp2_with fail
              go_meet
              exact ⟨_, g9.out, x9.out, k9.out, Q3.out⟩
          case rest =>
            obtain ⟨vn, r1, r2, r3, r4⟩ := hcut
            obtain ⟨an, cn, rfl, -⟩ := GRow.lies r1
            have eb4 : ∀ z, (Value.slice a2 n c2).ownBlock = some z → z ≠ sb ∧ (Value.slice a1 n c1).ownBlock ≠ some z ∧ z < w6.heap.size := fun z hz => by
              have u1 := S6.out.l4 z hz
              refine ⟨fun e => ?_, fun e => ?_, S6.out.lt z u1.1⟩
              · have u2 := S6.out.l1.2
                rw [e] at u1
                omega
              · have u2 := (S6.out.l3 z e).2
                omega
            have rE := GRow.keep S6.out.re r3 (fun g hg q => by
              obtain ⟨u1, u2, -⟩ := eb4 g hg
              rcases q with q | q
              · exact u1 q
              · exact u2 q)
            rw [← NE.out] at rE
            obtain ⟨vm, x5, hrun, q1, q2, q3⟩ := push_lit Tryz.underlying33 info44 rfl (by decide) (by decide) 33 wc _ n (es.map fun x => ptr x.eb) rE #[ptr eb] 44 rfl (by intro u hu; simp at hu; subst hu; rfl) (by omega)
            obtain ⟨am, cm, rfl, -⟩ := GRow.lies q1
            have HRR := hide hrun
            have R1 := hide r1
            have R3 := hide r3
            have R4 := hide r4
            have Q1 := hide q1
            have Q2 := hide q2
            have Q3 := hide q3
            have EB4 := hide eb4
            have x8 := r2.keep q2 (fun q => (eb4 _ q).1 rfl)
            have X9 := hide (x8.stored (j := 2) (by simp) (.slice am (n + 1) cm))
            have r22 := (r2.get 2 _ rfl).1
            have al := r2.below (alloc_below wc (.cells #[ptr eb] 44))
            have r22a := (al.get 2 _ rfl).1
            obtain ⟨x82, x83⟩ := x8.get 2 _ rfl
            clear r1 r3 r4 q1 q2 q3 hrun eb4 rE r2 al x8
            go_wp2_with (at_builtin; refine wpList_run rfl (.tmp 79) (.tmp 81) rfl rfl rfl HRR.out ?_)
            go_roundw
            case rel =>
              have sz5 := S5.out.lt
              have szc := R3.out.size
              have sz6 := B6.out.size
              have k1 := (Keep.of_below (S := fun z => z = sb ∨ (Value.slice a1 n c1).ownBlock = some z ∨ (Value.slice a2 n c2).ownBlock = some z) B6.out).trans R3.out (fun j _ q => by rcases q with q | q; exact .inl q; exact .inr (.inl q))
              have k2 := (k1.trans Q2.out (fun j _ q => .inr (.inr q))).setCell (g := sb) (j := 2) (fun _ => .inl rfl) (.slice am (n + 1) cm)
              have nn : ∀ z, w5.heap.size ≤ z → ¬ (z = sb ∨ (Value.slice a1 n c1).ownBlock = some z ∨ (Value.slice a2 n c2).ownBlock = some z) := fun z hz q => by
                rcases q with q | q | q
                · have := sz5 sb S5.out.l1.1; omega
                · have := sz5 z (S5.out.l3 z (by rw [← NE.out]; exact q)).1; omega
                · have := sz5 z (S5.out.l4 z (by rw [← NE.out]; exact q)).1; omega
              have k6 := (((Keep.refl (fun z => z = sb ∨ (Value.slice a1 n c1).ownBlock = some z ∨ (Value.slice a2 n c2).ownBlock = some z) w6).trans R3.out (fun j _ q => by rcases q with q | q; exact .inl q; exact .inr (.inl q))).trans Q2.out (fun j _ q => .inr (.inr q))).setCell (g := sb) (j := 2) (fun _ => .inl rfl) (.slice am (n + 1) cm)
              have S5' := S5.out
              rw [← NE.out] at S5'
              obtain ⟨lab7, T7, hs7, hg7⟩ := S5'.more ⟨id, gg, V, eb, mb, ⟨L, U, V, []⟩⟩ k2 X9.out
                (by rw [← NE.out]; exact GRow.keep (GRow.keep R1.out Q2.out (fun g hg q => by
                    obtain ⟨u1, u2, u3⟩ := EB4.out g q
                    rcases R4.out with z | ⟨g', z, hz⟩
                    · rw [z] at hg; exact u2 hg
                    · rw [z] at hg; cases hg; omega)) ((Keep.refl (fun z => z = sb) x5).setCell (g := sb) (j := 2) (fun _ => rfl) (.slice am (n + 1) cm)) (fun g hg e => by
                    have u := S6.out.lt sb S6.out.l1.1
                    rcases R4.out with z | ⟨g', z, hz⟩
                    · rw [z] at hg
                      have u1 := (S6.out.l3 g hg).2
                      have u2 := S6.out.l1.2
                      rw [e] at u1
                      omega
                    · rw [z] at hg; cases hg; omega))
                (by rw [← NE.out]; exact GRow.keep Q1.out ((Keep.refl (fun z => z = sb) x5).setCell (g := sb) (j := 2) (fun _ => rfl) (.slice am (n + 1) cm)) (fun g hg e => by
                    have u := S6.out.lt sb S6.out.l1.1
                    rcases Q3.out with z | ⟨g', z, hz⟩
                    · rw [z] at hg; exact (EB4.out g hg).1 e
                    · rw [z] at hg; cases hg; omega))
                (PE6.out.keep k6 (nn _ LE.out.1) (nn _ LE.out.2)) LE.out.1 LE.out.2
                (by
                  have u := PE6.out.lt
                  rcases R4.out with z | ⟨g', z, hz⟩
                  · exact .inl z
                  · exact .inr ⟨g', z, by omega, by simp only; omega, by simp only; omega⟩)
                (by
                  have u := PE6.out.lt
                  rcases Q3.out with z | ⟨g', z, hz⟩
                  · exact .inl z
                  · refine .inr ⟨g', z, by omega, by simp only; omega, by simp only; omega, fun q => ?_⟩
                    have := (World.ownsRow.lt R1.out g' q).2
                    omega)
              refine ⟨i + 1, es ++ [⟨id, gg, V, eb, mb, ⟨L, U, V, []⟩⟩], lab7, T7, .slice an (n + 1) cn, .slice am (n + 1) cm, by go_num, by omega, by omega, by have := EI.out; simp; omega, ⟨by have := EI.out; simp; omega, fun x hx => ?_, fun x hx p hp => ?_, nofun⟩, fun x hx => ?_, ?_, (hg7.below B5.out.size T5G.out).2, B5.out.trans (hg7.below B5.out.size T5G.out).1⟩
              · rcases List.mem_append.1 hx with q | q
                · exact OK.out.ids x q
                · have q := List.mem_singleton.1 q
                  subst q
                  have := IDN.out
                  have := GG.out
                  simp only
                  omega
              · rcases List.mem_append.1 hx with q | q
                · exact OK.out.nets x q p hp
                · have q := List.mem_singleton.1 q
                  subst q
                  cases hp
              · rcases List.mem_append.1 hx with q | q
                · have := ID.out x q; omega
                · have q := List.mem_singleton.1 q
                  subst q
                  have := IDN.out
                  simp only
                  omega
              · rw [show ctrsOf (es ++ [⟨id, gg, V, eb, mb, ⟨L, U, V, []⟩⟩]) = ctrsOf es ++ [(id, ⟨gg, ⟨L, U, V, []⟩⟩)] by simp [ctrsOf, SE.ctr]]
                exact hs7
            case measure => simp [intOf]; omega
        · subst e0
          rw [eC] at S5
          go_wp2_with fail
          go_roundw
          case rel => exact ⟨i + 1, es, lab5, T5, vc, ve, by go_num, by omega, by omega, by have := EI.out; omega, OK.out, fun x hx => by have := ID.out x hx; omega, S5.out, T5G.out, B5.out⟩
          case measure => simp [intOf]; omega
      · have hi8' : ¬ ((i : Int) < 8) := by omega
        go_wp2_with fail
        refine bodyPost_ret (v := .tuple #[ptr sb, .bool true]) (by simp [results, Tryz.results9, go_sem]) rfl ?_
        first | exact ⟨sb, T, es, rfl, ⟨OK.out, lab, lb, vc, ve, HS.out⟩, TG.out, BW.out⟩ | exact ⟨sb, rfl, T, ⟨es, OK.out, lab, lb, vc, ve, HS.out⟩, TG.out, BW.out⟩
    · go_wp2_with fail
      refine bodyPost_ret (v := .tuple #[ptr sb, .bool true]) (by simp [results, Tryz.results9, go_sem]) rfl ?_
      first | exact ⟨sb, T, es, rfl, ⟨OK.out, lab, lb, vc, ve, HS.out⟩, TG.out, BW.out⟩ | exact ⟨sb, rfl, T, ⟨es, OK.out, lab, lb, vc, ve, HS.out⟩, TG.out, BW.out⟩
end Go.Proofs.YtaohdmaenplbpaaGreat
