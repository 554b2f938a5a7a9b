import Derived.Test.YtgpmghdoofcpaaaGreatG32
import Derived.WalkMore
namespace Go.Proofs.YtgpmghdoofcpaaaGreat.Lg
open Go.RowKit Go.QK
open Dv (hide bnext alloc_below load_arr store_arr slice_arr wp_load_arr wp_store_arr neq_arr info91)

theorem _root_.Go.QK.Arr.sub {w : World} {t : TypeId} {g : Nat} {L : List Nat} (h : Arr w t g L) (off n : Nat) (hn : off + n ≤ L.length) : Bytes w (some ⟨g, off, none⟩) ((L.drop off).take n) := by
  refine .inr ⟨g, off, rfl, h.lt, fun i hi => ?_⟩
  have hi' : i < n := by simp [ints] at hi; omega
  rw [h.cell (off + i) (by omega)]
  simp [ints, show off + i < L.length by omega]
theorem isRec_size {s : Nat} {x : List Nat} (h : ¬ (1 ≤ szB x ∧ szB x ≤ 502)) : isRec s x = false := by
  unfold isRec
  simp only [Bool.and_eq_false_iff, decide_eq_false_iff_not]
  by_cases q : 1 ≤ szB x
  · exact .inl (.inr (fun r => h ⟨q, r⟩))
  · exact .inl (.inl q)
theorem isRec_byte {s i : Nat} {x : List Nat} (hi : i < 512) (h1 : itsB (szB x) i = false) (h2 : x.getD i 0 ≠ (frameB s (szB x)).getD i 0) : isRec s x = false := by
  unfold isRec
  rw [Bool.and_eq_false_iff]
  refine .inr ?_
  rw [List.all_eq_false]
  exact ⟨i, by simpa using hi, by rw [h1]; simpa using h2⟩
theorem isRec_all {s : Nat} {x : List Nat} (h1 : 1 ≤ szB x) (h2 : szB x ≤ 502) (h : ∀ i, i < 512 → itsB (szB x) i = true ∨ x.getD i 0 = (frameB s (szB x)).getD i 0) : isRec s x = true := by
  unfold isRec
  simp only [Bool.and_eq_true, decide_eq_true_eq, List.all_eq_true, Bool.or_eq_true, List.mem_range, beq_iff_eq]
  exact ⟨⟨h1, h2⟩, h⟩
theorem findM_no {f : Nat → List Nat} {k s : Nat} (h : isRec s (f s) = false) : findM f (k + 1) s = ([], 0) := by rw [findM, if_neg (by rw [h]; simp)]
theorem findM_bad {f : Nat → List Nat} {k s : Nat} (h : isRec s (f s) = true) (he : apE s (bytesAt (f s)) ≠ 0) : findM f (k + 1) s = ([], s) := by rw [findM, if_pos h, if_neg he]
theorem findM_go {f : Nat → List Nat} {k s : Nat} (h : isRec s (f s) = true) (he : apE s (bytesAt (f s)) = 0) : findM f (k + 1) s = (bytesAt (f s) :: (findM f k (s + 1)).1, (findM f k (s + 1)).2) := by rw [findM, if_pos h, if_pos he]

/-- How find's loop stands. -/
structure FSt (w : World) (l d first count : Nat) (g : Dev) (R : List (List Nat) × Nat) (wr : World) (s : Nat) (T : Nat → Prop) (rv : Value) (rs : List (List Nat)) (vs : List Value) : Prop where
  lo : 1 ≤ s
  hi : s ≤ count + 1
  len : rs.length + 1 = s
  recs : Recs wr T rv rs vs
  hd : Hd wr l d first count rv 0 false
  new : ∀ k, T k → w.heap.size ≤ k
  keep : Keep (fun b => b = l) w wr
  eq : R = (rs ++ (findM (fun s => g.content (first + s - 1)) (count + 1 - s) s).1, (findM (fun s => g.content (first + s - 1)) (count + 1 - s) s).2)

theorem FSt.stop {w : World} {l d first count : Nat} {g : Dev} {R : List (List Nat) × Nat} {wr : World} {s : Nat} {T : Nat → Prop} {rv : Value} {rs : List (List Nat)} {vs : List Value} (h : FSt w l d first count g R wr s T rv rs vs) {w' : World} (hb : Below wr.heap.size wr w') (hR : R = (rs, 0)) :
    Ending.returned (.tuple #[]) = fin R.2 (if R.2 = 0 then 0 else 60) ∧ Keep (fun b => b = l) w w' ∧ (R.2 = 0 → ∃ T rv vs, Recs w' T rv R.1 vs ∧ Hd w' l d first count rv 0 false ∧ ∀ k, T k → w.heap.size ≤ k) := by
  subst hR
  exact ⟨rfl, h.keep.then_below hb, fun _ => ⟨T, rv, vs, h.recs.below hb, h.hd.below hb, h.new⟩⟩
/-- Where a record that was found is kept: the log as it stands, the sector's bytes. -/
structure FindSt (w : World) (l d first count : Nat) (wr : World) (T : Nat → Prop) (rv : Value) (rs : List (List Nat)) (vs : List Value) (gb : Nat) (x : List Nat) (sz : Nat) (wd : World) : Prop where
  bel : Below wr.heap.size wr wd
  recs : Recs wd T rv rs vs
  hd : Hd wd l d first count rv 0 false
  arr : Arr wd 150 gb x
  xl : x.length = 512
  bl : (bytesAt x).length = sz
  ba : AllB (bytesAt x)
  sz5 : sz ≤ 502
  szE : bytesAt x = (x.drop 7).take sz
  nT : ¬ T l
  len : rs.length ≤ 10000
theorem FindSt.mk' {w : World} {l d first count : Nat} {g : Dev} {R : List (List Nat) × Nat} {wr : World} {s : Nat} {T : Nat → Prop} {rv : Value} {rs : List (List Nat)} {vs : List Value} (h : FSt w l d first count g R wr s T rv rs vs) {wd : World} (hb : Below wr.heap.size wr wd) {gb : Nat} {x : List Nat} (ha : Arr wd 150 gb x) (hx : x.length = 512) {sz : Nat} (hbl : (bytesAt x).length = sz) (hba : AllB (bytesAt x)) (hs : s ≤ 10000 ∧ sz ≤ 502 ∧ l < w.heap.size) : FindSt w l d first count wr T rv rs vs gb x sz wd :=
  ⟨hb, h.recs.below hb, h.hd.below hb, ha, hx, hbl, hba, hs.2.1, by
    have e : bytesAt x = (x.drop 7).take (szB x) := rfl
    by_cases q : szB x ≤ 505
    · have : sz = szB x := by rw [← hbl, e]; simp; omega
      rw [this]; rfl
    · have := hs.2.1
      rw [← hbl, e] at this
      simp at this
      omega, fun q => by have := h.new l q; omega, by have := h.len; omega⟩
theorem FindSt.below {w : World} {l d first count : Nat} {wr : World} {T : Nat → Prop} {rv : Value} {rs : List (List Nat)} {vs : List Value} {gb : Nat} {x : List Nat} {sz : Nat} {wd wd' : World} (h : FindSt w l d first count wr T rv rs vs gb x sz wd) (hb : Below wd.heap.size wd wd') : FindSt w l d first count wr T rv rs vs gb x sz wd' :=
  ⟨bnext h.bel hb (Nat.le_refl _), h.recs.below hb, h.hd.below hb, h.arr.below hb, h.xl, h.bl, h.ba, h.sz5, h.szE, h.nT, h.len⟩
theorem FindSt.c3 {w : World} {l d first count : Nat} {wr : World} {T : Nat → Prop} {rv : Value} {rs : List (List Nat)} {vs : List Value} {gb : Nat} {x : List Nat} {sz : Nat} {wd : World} (h : FindSt w l d first count wr T rv rs vs gb x sz wd) : wd.cell? ⟨l, 3, none⟩ = some rv := (h.hd.get 3 _ rfl).1
theorem FindSt.clone {w : World} {l d first count : Nat} {wr : World} {T : Nat → Prop} {rv : Value} {rs : List (List Nat)} {vs : List Value} {gb : Nat} {x : List Nat} {sz : Nat} {wd : World} (h : FindSt w l d first count wr T rv rs vs gb x sz wd) :
    Calls Tryz.prog 59 #[.slice (some ⟨gb, 7, none⟩) sz 505] wd fun e w' => ∃ v, e = .returned v ∧ OwnB w' wd.heap.size v (bytesAt x) ∧ Below wd.heap.size wd w' := by
  have hz := h.sz5
  have hs := h.arr.sub 7 sz (by rw [h.xl]; omega)
  rw [← h.szE] at hs
  have K := clone_any (some ⟨gb, 7, none⟩) (bytesAt x) 505 wd hs (by rw [h.bl]; omega) nofun (by rw [h.bl]; omega)
  rw [h.bl] at K
  exact K
/-- The record's bytes are cloned. -/
structure Find1 (w : World) (l d first count : Nat) (wr : World) (T : Nat → Prop) (rv : Value) (rs : List (List Nat)) (vs : List Value) (b : List Nat) (B : Nat) (v : Value) (wd : World) : Prop where
  bel : Below wr.heap.size wr wd
  recs : Recs wd T rv rs vs
  hd : Hd wd l d first count rv 0 false
  own : OwnB wd B v b
  ge : wr.heap.size ≤ B
  lt : ∀ k, T k → k < wr.heap.size
  ba : AllB b ∧ b.length ≤ 502
  nT : ¬ T l
  len : rs.length ≤ 10000
  ll : l < wr.heap.size
theorem FindSt.step {w : World} {l d first count : Nat} {wr : World} {T : Nat → Prop} {rv : Value} {rs : List (List Nat)} {vs : List Value} {gb : Nat} {x : List Nat} {sz : Nat} {wd w' : World} {v : Value} (h : FindSt w l d first count wr T rv rs vs gb x sz wd) (hb : Below wd.heap.size wd w') (ho : OwnB w' wd.heap.size v (bytesAt x)) (ht : ∀ k, T k → k < wr.heap.size) (hl : l < wr.heap.size) : Find1 w l d first count wr T rv rs vs (bytesAt x) wd.heap.size v w' :=
  ⟨bnext h.bel hb (Nat.le_refl _), h.recs.below hb, h.hd.below hb, ho, h.bel.size, ht, ⟨h.ba, by rw [h.bl]; exact h.sz5⟩, h.nT, h.len, hl⟩
theorem Find1.c3 {w : World} {l d first count : Nat} {wr : World} {T : Nat → Prop} {rv : Value} {rs : List (List Nat)} {vs : List Value} {b : List Nat} {B : Nat} {v : Value} {wd : World} (h : Find1 w l d first count wr T rv rs vs b B v wd) : wd.cell? ⟨l, 3, none⟩ = some rv := (h.hd.get 3 _ rfl).1
theorem Find1.c312 {w : World} {l d first count : Nat} {wr : World} {T : Nat → Prop} {rv : Value} {rs : List (List Nat)} {vs : List Value} {b : List Nat} {B : Nat} {v : Value} {wd : World} (h : Find1 w l d first count wr T rv rs vs b B v wd) : (wd.alloc (.cells #[v] 80)).cell? ⟨l, 3, none⟩ = some rv :=
  ((h.hd.below (alloc_below wd (.cells #[v] 80))).get 3 _ rfl).1
/-- .. and the record is the last. -/
structure Find2 (w : World) (l d first count : Nat) (wr : World) (T : Nat → Prop) (rs : List (List Nat)) (vs : List Value) (b : List Nat) (rv0 : Value) (v : Value) (T' : Nat → Prop) (v' : Value) (wd : World) : Prop where
  recs : Recs wd T' v' (rs ++ [b]) (vs ++ [v])
  hd : Hd wd l d first count rv0 0 false
  new : ∀ k, T' k → T k ∨ wr.heap.size ≤ k
  keep : Keep T wr wd
  nT : ¬ T' l
theorem Find1.push {w : World} {l d first count : Nat} {wr : World} {T : Nat → Prop} {rv : Value} {rs : List (List Nat)} {vs : List Value} {b : List Nat} {B : Nat} {v : Value} {wd : World} (h : Find1 w l d first count wr T rv rs vs b B v wd) (ty : TypeId) :
    ∃ v' w' T', (Builtin.append_ #[107, 107] ty #[rv, .slice (some ⟨wd.heap.size, 0, none⟩) 1 1]).run Tryz.prog (wd.alloc (.cells #[v] 80)) = .ok v' w' ∧ Find2 w l d first count wr T rs vs b rv v T' v' w' := by
  have ba := alloc_below wd (.cells #[v] 80)
  have hcell : (wd.alloc (.cells #[v] 80)).cell? ⟨wd.heap.size, 0, none⟩ = some v := ((Cells.new wd #[v] 80).get 0 _ rfl).1
  have hown : OwnB (wd.alloc (.cells #[v] 80)) B v b := Owns.below h.own ba
  obtain ⟨v', w', T', hr, h1, h2, h3⟩ := (h.recs.below ba).push ty ⟨wd.heap.size, 0, none⟩ v b B hcell hown (fun k hk q => by
    have := (World.ownsRow.lt h.own k hk).1
    have := h.lt k q
    have := h.ge
    omega) (by have := h.len; omega) h.ba
  have hsz := ba.size
  have hbs := h.bel.size
  have hge := h.ge
  have hll := h.ll
  refine ⟨v', w', T', hr, h1, (h.hd.below ba).keep h2 h.nT, fun k hk => ?_, ?_, fun q => ?_⟩
  · rcases h3 k hk with q | q | q
    · exact .inl q
    · have := (World.ownsRow.lt h.own k q).1
      exact .inr (by omega)
    · exact .inr (by omega)
  · exact (Keep.of_below (S := T) (bnext h.bel ba (Nat.le_refl _))).trans h2 (fun _ _ q => q)
  · rcases h3 l q with r | r | r
    · exact h.nT r
    · have := (World.ownsRow.lt h.own l r).1
      omega
    · omega
theorem Find2.cf {w : World} {l d first count : Nat} {wr : World} {T : Nat → Prop} {rs : List (List Nat)} {vs : List Value} {b : List Nat} {rv0 v : Value} {T' : Nat → Prop} {v' : Value} {wd : World} (h : Find2 w l d first count wr T rs vs b rv0 v T' v' wd) : wd.cell? ⟨l, 3, none⟩ = some rv0 ∧ wd.frozen? ⟨l, 3, none⟩ = false := h.hd.get 3 _ rfl
theorem Find2.fin {w : World} {l d first count : Nat} {g : Dev} {R : List (List Nat) × Nat} {wr : World} {s : Nat} {T : Nat → Prop} {rv : Value} {rs : List (List Nat)} {vs : List Value} {x : List Nat} {rv0 v : Value} {T' : Nat → Prop} {v' : Value} {wd : World}
    (h : Find2 w l d first count wr T rs vs (bytesAt x) rv0 v T' v' wd) (hf : FSt w l d first count g R wr s T rv rs vs) (hlt : s ≤ count) (hR : R = (rs ++ bytesAt x :: (findM (fun s => g.content (first + s - 1)) (count - s) (s + 1)).1, (findM (fun s => g.content (first + s - 1)) (count - s) (s + 1)).2)) :
    FSt w l d first count g R (wd.setCell ⟨l, 3, none⟩ v') (s + 1) T' v' (rs ++ [bytesAt x]) (vs ++ [v]) := by
  have hlo := hf.lo
  have hlen := hf.len
  have k1 : Keep (fun b => b = l) wd (wd.setCell ⟨l, 3, none⟩ v') := (Keep.refl (fun b => b = l) wd).setCell (fun _ => rfl) _
  refine ⟨by omega, by omega, by simp; omega, h.recs.keep k1 (fun b q r => h.nT (q ▸ r)), ?_, fun k hk => ?_, ?_, ?_⟩
  · exact h.hd.stored (j := 3) (by simp [hdC]) v'
  · rcases h.new k hk with q | q
    · exact hf.new k q
    · exact Nat.le_trans hf.keep.size q
  · refine (hf.keep.trans (T := fun b => T b ∨ b = l) (S := fun b => b = l) ((h.keep.mono (fun _ _ q => .inl q)).setCell (fun _ => .inr rfl) _) (fun j hj q => ?_))
    rcases q with q | q
    · have := hf.new j q
      omega
    · exact q
  · rw [hR, show count + 1 - (s + 1) = count - s by omega]
    simp
theorem slice7 (g n : Nat) (w : World) (h : n ≤ 505) : (Instr.sliceAt 150 (.pointer (some ⟨g, 0, none⟩)) (some (.int .i64 7)) (some (.int .i64 (7 + (n : Int)))) none).run Tryz.prog w = .ok (.slice (some ⟨g, 7, none⟩) n 505) w := by
  obtain ⟨i0, hi, hz0, hz1, hz2⟩ := info_parts info5
  unfold Instr.sliceAt
  rw [Sem.run_bind, run_underlying Tryz.underlying150 w]
  simp only [Result.andThen_ok]
  simp [Instr.sureAddr, Instr.sliceBounds, Instr.sliceBound, Go.sizeOf, typeInfo, hi, hz1]
  have e1 : (Sem.run Tryz.prog (asIntOf (Value.int IntKind.i64 (7 + (n : Int)))) w) = .ok (IntKind.i64, 7 + (n : Int)) w := rfl
  have e2 : (Sem.run Tryz.prog (asIntOf (Value.int IntKind.i64 7)) w) = .ok (IntKind.i64, 7) w := rfl
  rw [e1]
  simp only [Result.andThen_ok]
  rw [if_pos (by omega), e2]
  simp only [Result.andThen_ok]
  rw [if_pos (by omega)]
  have e3 : (7 + (n : Int)).toNat - (7 : Int).toNat = n := by omega
  rw [e3]
  rfl
theorem itsB_of {n i : Nat} : itsB n i = (decide (7 ≤ i) && decide (i < 7 + n)) := rfl

set_option maxRecDepth 100000 in
set_option maxHeartbeats 4000000 in
theorem lfind_any {w : World} {S : Nat → Prop} {d : Nat} {g : Dev} (h : PDev w S d g) (l first count : Nat) (hh : Hd w l d first count (.slice none 0 0) 0 false) (hlS : ¬ S l) (hf : first + count ≤ g.n) (hd : g.down = false) (hpl : g.pend.length ≤ 900000) :
    Calls Tryz.prog 64 #[.pointer (some ⟨l, 0, none⟩)] w fun e w' => e = fin (fnd g first count).2 (if (fnd g first count).2 = 0 then 0 else 60) ∧ Keep (fun b => b = l) w w' ∧
      ((fnd g first count).2 = 0 → ∃ T rv vs, Recs w' T rv (fnd g first count).1 vs ∧ Hd w' l d first count rv 0 false ∧ ∀ k, T k → w.heap.size ≤ k) := by
  obtain ⟨nn, n1, n2, hn3⟩ := h.ok.size
  have hgn : g.n ≤ 8192 := by unfold Dev.n; omega
  have Z := Dv.zero_run
  have HI : FSt w l d first count g (fnd g first count) w 1 (fun _ => False) (.slice none 0 0) [] [] := ⟨Nat.le_refl _, by omega, rfl, Recs.nil w, hh, nofun, Keep.refl _ _, by unfold fnd; rfl⟩
  generalize fnd g first count = R at *
  have hl := hh.1
  have HP := hide h
  clear h hh n1 n2 hn3
  go_enter Tryz.func64, Tryz.ntmps64
  go_wp2_with fail
  go_step3
  go_wp2_with fail
  go_step3
  go_wp2_with fail
  go_loopw [2] (fun i wr => ∃ (s : Nat) (T : Nat → Prop) (rv : Value) (rs : List (List Nat)) (vs : List Value), i = .int .i64 (s : Int) ∧ FSt w l d first count g R wr s T rv rs vs) (fun i _ => (count + 1 - (intOf i).toNat))
  case atStart => exact ⟨1, fun _ => False, .slice none 0 0, [], [], rfl, HI⟩
  case round =>
    obtain ⟨s, T, rv, rs, vs, rfl, hst⟩ := hrel
    have HST := hide hst
    have hlo := HST.out.lo
    have hhi := HST.out.hi
    obtain ⟨c0, _⟩ := HST.out.hd.get 0 _ rfl
    obtain ⟨c1, _⟩ := HST.out.hd.get 1 _ rfl
    obtain ⟨c2, _⟩ := HST.out.hd.get 2 _ rfl
    have hlr : l < wr.heap.size := HST.out.hd.1
    clear hst HI
    by_cases hlt : s ≤ count
    · have hdd : decide ((s : Int) ≤ (count : Int)) = true := by simp; omega
      have P1 := HP.out.keep HST.out.keep (fun b q r => hlS (q ▸ r))
      have KR := hide (lread_any P1 l first s hlr c0 c1 (by omega) (by omega) hd (by omega) (by omega))
      have hxl : (g.content (first + s - 1)).length = 512 := Dv.content_len HP.out.ok _ (by
        have h1 : first + s - 1 < g.n := by omega
        unfold Dev.n at h1
        omega)
      have hxa : AllB (g.content (first + s - 1)) := Dv.content_allB HP.out.ok _
      have eqn := HST.out.eq
      rw [show count + 1 - s = (count - s) + 1 by omega] at eqn
      obtain ⟨x, hx⟩ : ∃ x, x = g.content (first + s - 1) := ⟨_, rfl⟩
      rw [← hx] at KR hxl hxa
      have fno := fun (q : isRec s x = false) => eqn.trans (by rw [findM_no (f := fun s => g.content (first + s - 1)) (by rw [← hx]; exact q)])
      have fbad := fun (q : isRec s x = true) (he : apE s (bytesAt x) ≠ 0) => eqn.trans (by rw [findM_bad (f := fun s => g.content (first + s - 1)) (by rw [← hx]; exact q) (by rw [← hx]; exact he)])
      have fgo := fun (q : isRec s x = true) (he : apE s (bytesAt x) = 0) => eqn.trans (by rw [findM_go (f := fun s => g.content (first + s - 1)) (by rw [← hx]; exact q) (by rw [← hx]; exact he), ← hx])
      simp only [List.append_nil] at fno fbad
      have FNO := hide fno
      have FBAD := hide fbad
      have FGO := hide fgo
      clear P1 eqn hx fno fbad fgo
      go_wp2_with fail
      refine KR.out.mono ?_
      rintro e w2 ⟨rfl, b2⟩
      have B2 := bnext b2 (alloc_below w2 (.cells (bytesV zerosB) 150)) (Nat.le_refl _)
      have d2 := hide (Arr.new w2 150 zerosB)
      have z2 := b2.size
      have sz2 : (w2.alloc (.cells (bytesV zerosB) 150)).heap.size = w2.heap.size + 1 := by simp
      clear KR
      go_wp2_with (refine wpList_store_arr rfl (.tmp 3) (.tmp 21) rfl w2.heap.size rfl zerosB x rfl d2.out zerosB_length hxl ?_)
      intro w3 a3 k3
      have B3 := B2.trans (k3.below B2.size (fun k hk q => by omega))
      have KS := hide (size_any w2.heap.size x w3 a3 hxl hxa)
      have z3 := k3.size
      rw [sz2] at z3
      clear d2 B2 k3 b2 sz2
      go_wp2_with fail
      refine KS.out.mono ?_
      rintro e w4 ⟨rfl, b4⟩
      have a4 := a3.below b4
      have B4 := bnext B3 b4 (Nat.le_refl _)
      have z4 := Nat.le_trans z3 b4.size
      clear KS b4 a3 B3 z3
      obtain ⟨sz, hsz⟩ : ∃ sz, sz = szB x := ⟨_, rfl⟩
      rw [← hsz]
      have HSZ := hide hsz
      clear hsz
      by_cases hs1 : sz < 1
      · have hq : decide ((sz : Int) < 1) = true := by simp; omega
        have hR := hide (FNO.out (isRec_size (by rw [← HSZ.out]; omega)))
        have B4' := hide B4
        clear B4
        go_wp2_with fail
        rw [Exit.noGoto_normal]
        go_end0
        exact HST.out.stop B4'.out hR.out
      · by_cases hs2 : 502 < sz
        · have hq : decide ((sz : Int) < 1) = false := by simp; omega
          have hq2 : decide ((502 : Int) < (sz : Int)) = true := by simp; omega
          have hR := hide (FNO.out (isRec_size (by rw [← HSZ.out]; omega)))
          have B4' := hide B4
          clear B4
          go_wp2_with fail
          rw [Exit.noGoto_normal]
          go_end0
          exact HST.out.stop B4'.out hR.out
        · have hq : decide ((sz : Int) < 1) = false := by simp; omega
          have hq2 : decide ((502 : Int) < (sz : Int)) = false := by simp; omega
          have KF := hide (frame_any s sz w4 (by omega) (by omega))
          have lF := frameB_length s sz
          have hF : frameB s sz = frameB s (szB x) := by rw [HSZ.out]
          have HFF := hide hF
          clear hF
          generalize frameB s sz = F at *
          go_wp2_with fail
          refine KF.out.mono ?_
          rintro e w5 ⟨rfl, b5⟩
          have a5 := a4.below b5
          have B5 := bnext B4 b5 (Nat.le_refl _)
          have z5 := b5.size
          have a6 := a5.below (alloc_below w5 (.cells (bytesV zerosB) 150))
          have B6 := bnext B5 (alloc_below w5 (.cells (bytesV zerosB) 150)) (Nat.le_refl _)
          have d6 := hide (Arr.new w5 150 zerosB)
          have sz6 : (w5.alloc (.cells (bytesV zerosB) 150)).heap.size = w5.heap.size + 1 := by simp
          clear KF b5 a5 B5
          go_wp2_with (refine wpList_store_arr rfl (.tmp 5) (.tmp 31) rfl w5.heap.size rfl zerosB F rfl d6.out zerosB_length lF ?_)
          intro w7 a7 k7
          have A7 := hide (a6.keep k7 (by omega))
          have F7 := hide a7
          have B7 := hide (B6.trans (k7.below B6.size (fun k hk q => by omega)))
          have z7 := k7.size
          rw [sz6] at z7
          clear a6 B6 d6 sz6 k7 a7 a4 B4
          generalize hgb : w2.heap.size = gb at *
          generalize hgf : w5.heap.size = gf at *
          go_wp2_with fail
          go_loopw [34] (fun i wi => ∃ (j : Nat), i = .int .i64 (j : Int) ∧ j ≤ 512 ∧ (∀ k, k < j → itsB sz k = true ∨ x.getD k 0 = F.getD k 0) ∧ Below w7.heap.size w7 wi) (fun i _ => (513 - (intOf i).toNat))
          case atStart => exact ⟨0, rfl, by omega, fun k hk => absurd hk (by omega), Below.refl _ _⟩
          case round =>
            obtain ⟨j, rfl, hj, hall, hbi⟩ := hrel
            have HAL := hide hall
            have HBI := hide hbi
            clear hall hbi
            by_cases hj2 : j < 512
            · have hdj : decide ((j : Int) < 512) = true := by simp; omega
              have hcx := (A7.out.below HBI.out).cell j (by omega)
              have hcf := (F7.out.below HBI.out).cell j (by omega)
              by_cases hit : itsB sz j = true
              · have hit2 : 7 ≤ j ∧ j < 7 + sz := by unfold itsB at hit; simpa using hit
                have g1 : decide ((7 : Int) ≤ (j : Int)) = true := by simp; omega
                have g2 : decide ((j : Int) < 7 + (sz : Int)) = true := by simp; omega
                have HIT := hide hit
                clear hit hit2
                go_upto_region 11 with fail
                go_quiet (fail)
                go_wp2_with fail
                go_roundw
                case rel => exact ⟨j + 1, by go_num, by omega, fun k hk => by
                  by_cases q : k < j
                  · exact HAL.out k q
                  · obtain rfl : k = j := by omega
                    exact .inl HIT.out, below_drewN HBI.out _⟩
                case measure => simp [intOf]; omega
              · have hit1 : itsB sz j = false := by simpa using hit
                have HIT := hide hit1
                have hg : decide ((7 : Int) ≤ (j : Int)) = false ∨ (decide ((7 : Int) ≤ (j : Int)) = true ∧ decide ((j : Int) < 7 + (sz : Int)) = false) := by
                  have e2 := HIT.out
                  unfold itsB at e2
                  by_cases q : 7 ≤ j
                  · refine .inr ⟨by simp; omega, ?_⟩
                    have : ¬ j < 7 + sz := by simpa [q] using e2
                    simp
                    omega
                  · exact .inl (by simp; omega)
                clear hit hit1
                by_cases hxe : x.getD j 0 = F.getD j 0
                · rw [hxe] at hcx
                  have HXE := hide hxe
                  clear hxe
                  obtain ⟨yv, hyv⟩ : ∃ yv, F.getD j 0 = yv := ⟨_, rfl⟩
                  rw [hyv] at hcx hcf
                  clear hyv
                  rcases hg with g1 | ⟨g1, g2⟩
                  · go_upto_region 11 with fail
                    go_quiet (fail)
                    go_wp2_with fail
                    go_roundw
                    case rel => exact ⟨j + 1, by go_num, by omega, fun k hk => by
                      by_cases q : k < j
                      · exact HAL.out k q
                      · obtain rfl : k = j := by omega
                        exact .inr HXE.out, below_drewN HBI.out _⟩
                    case measure => simp [intOf]; omega
                  · go_upto_region 11 with fail
                    go_quiet (fail)
                    go_wp2_with fail
                    go_roundw
                    case rel => exact ⟨j + 1, by go_num, by omega, fun k hk => by
                      by_cases q : k < j
                      · exact HAL.out k q
                      · obtain rfl : k = j := by omega
                        exact .inr HXE.out, below_drewN HBI.out _⟩
                    case measure => simp [intOf]; omega
                · have hR := hide (FNO.out (isRec_byte hj2 (by rw [← HSZ.out]; exact HIT.out) (by rw [← HFF.out]; exact hxe)))
                  have hne : (((x.getD j 0 : Nat) : Int) != ((F.getD j 0 : Nat) : Int)) = true := by
                    rw [bne_iff_ne]
                    omega
                  have BF := hide (bnext B7.out HBI.out (by have := B7.out.size; omega))
                  clear hxe
                  generalize F.getD j 0 = yv at *
                  generalize x.getD j 0 = xv at *
                  rcases hg with g1 | ⟨g1, g2⟩
                  · go_upto_region 11 with fail
                    go_quiet (fail)
                    go_wp2_with fail
                    rw [Exit.noGoto_normal]
                    go_end0
                    exact HST.out.stop (below_drewN BF.out _) hR.out
                  · go_upto_region 11 with fail
                    go_quiet (fail)
                    go_wp2_with fail
                    rw [Exit.noGoto_normal]
                    go_end0
                    exact HST.out.stop (below_drewN BF.out _) hR.out
            · have hdj : decide ((j : Int) < 512) = false := by simp; omega
              obtain rfl : j = 512 := by omega
              have hrec := isRec_all (s := s) (x := x) (by rw [← HSZ.out]; omega) (by rw [← HSZ.out]; omega) (by rw [← HFF.out, ← HSZ.out]; exact HAL.out)
              have A8 := A7.out.below HBI.out
              have hby := A8.sub 7 sz (by omega)
              have ebx : (x.drop 7).take sz = bytesAt x := by unfold bytesAt; rw [HSZ.out]
              rw [ebx] at hby
              have hbl : (bytesAt x).length = sz := by rw [← ebx]; simp; omega
              have hba : AllB (bytesAt x) := by rw [← ebx]; exact (hxa.drop _).take _
              have B8 := bnext B7.out HBI.out (by have := B7.out.size; omega)
              have hsl : (Instr.sliceAt 150 (.pointer (some ⟨gb, 0, none⟩)) (some (.int .i64 7)) (some (.int .i64 (7 + (sz : Int)))) none).run Tryz.prog wr = .ok (.slice (some ⟨gb, 7, none⟩) sz 505) wr := slice7 gb sz wr (by omega)
              have KA := apart_any s (some ⟨gb, 7, none⟩) (bytesAt x) 505 wr hby (by omega) nofun (by omega) hba
              rw [hbl] at KA
              have KA := hide KA
              have A8' := hide A8
              have B8' := hide B8
              have HREC := hide hrec
              have HBL := hide hbl
              have HBA := hide hba
              clear HAL A7 B7 HBI hrec A8 B8 hby ebx hbl hba
              go_wp2_with fail
              refine KA.out.mono ?_
              rintro e w9 ⟨v9, rfl, o9, b9⟩
              obtain ⟨la, da, lc, dc, rfl, -, -, -⟩ := o9
              have B9 := hide (bnext B8'.out b9 (Nat.le_refl _))
              have A9 := hide (A8'.out.below b9)
              have hz9 : Hid (wr.heap.size ≤ w9.heap.size) := b9.size
              generalize apR s (bytesAt x) = ar at *
              obtain ⟨q0, q1, q2, q3, q4, q5, q6, q7, q8, q9, q10, q11, q12, q13, q14, q15, q16⟩ := ar
              simp only [recC] at *
              clear KA A8' B8' b9 hsl
              go_upto_region 14 with (refine wpList_store36 (RBox.new _ _ _) rfl rfl rfl rfl rfl ?_; intro w10 R10 hk10)
              have B10 := hide (bnext B9.out (newBox hk10) (Nat.le_refl _))
              have A10 := hide (A9.out.below (newBox hk10))
              clear R10 hk10 B9 A9
              obtain ⟨ae, hae⟩ : ∃ ae, ae = apE s (bytesAt x) := ⟨_, rfl⟩
              rw [← hae]
              have HAE := hide hae
              clear hae
              by_cases he : ae = 0
              · subst he
                have X9 := FindSt.mk' HST.out B10.out A10.out hxl HBL.out HBA.out ⟨by omega, by omega, hl⟩
                have X10 := hide (X9.below (Below.refl _ _).drew)
                have KC := hide (X10.out.clone)
                obtain ⟨ra, rc, erv⟩ := HST.out.recs.form
                subst erv
                clear X9
                go_upto_region 16 with fail
                refine wp_region_held_drew (S := fun _ => True) (by kernel_rfl) trivial (fun _ => ?_)
                generalize w10.drew = wdd at *
                refine take_at 0 (some 67) (v := ?_) rfl rfl (by kernel_rfl) (by kernel_rfl) (by kernel_rfl) (fun _ _ _ h => h) ⟨by rfl, ?_⟩ trivial ?_
                rotate_left
                · intro wq _; go_simp; try rfl
                simp only [Act.put, List.setIfInBounds_toArray, List.set_cons_zero, List.set_cons_succ]
                refine take_at 1 (some 68) (v := ?_) rfl rfl (by kernel_rfl) (by kernel_rfl) (by kernel_rfl) (fun _ _ _ h => h) ⟨by rfl, ?_⟩ trivial ?_
                rotate_left
                · intro wq _; go_simp; try rfl
                simp only [Act.put, List.setIfInBounds_toArray, List.set_cons_zero, List.set_cons_succ]
                refine take_at 2 (some 69) (v := ?_) rfl rfl (by kernel_rfl) (by kernel_rfl) (by kernel_rfl) (fun _ _ _ h => h) ⟨by rfl, ?_⟩ trivial ?_
                rotate_left
                · intro wq _; go_simp; try rfl
                simp only [Act.put, List.setIfInBounds_toArray, List.set_cons_zero, List.set_cons_succ]
                refine take_at 3 (some 70) (v := ?_) rfl rfl (by kernel_rfl) (by kernel_rfl) (by kernel_rfl) (fun _ _ _ h => h) ⟨by rfl, ?_⟩ trivial ?_
                rotate_left
                · intro wq _; go_simp; try rfl
                simp only [Act.put, List.setIfInBounds_toArray, List.set_cons_zero, List.set_cons_succ]
                refine take_at 5 (some 72) (v := ?_) rfl rfl (by kernel_rfl) (by kernel_rfl) (by kernel_rfl) (fun _ _ _ h => h) ⟨by rfl, ?_⟩ trivial ?_
                rotate_left
                · intro wq _; go_simp; try rfl
                simp only [Act.put, List.setIfInBounds_toArray, List.set_cons_zero, List.set_cons_succ]
                refine take_at 6 (some 73) (v := ?_) rfl rfl (by kernel_rfl) (by kernel_rfl) (by kernel_rfl) (fun _ _ _ h => h) ⟨by rfl, ?_⟩ trivial ?_
                rotate_left
                · intro wq _; have hsl := slice7 gb sz wq (by omega); go_simp; try rfl
                simp only [Act.put, List.setIfInBounds_toArray, List.set_cons_zero, List.set_cons_succ]
                refine wpAnyH_ready (rs := [4, 7]) (by kernel_rfl) (by simp) ?_
                refine AllReadyH.cons rfl (fun K hK => ?_) (AllReadyH.cons rfl (fun K hK => ?_) AllReadyH.nil)
                · have cl := X10.out.c3
                  go_simp
                  go_wp2_with fail
                  refine hK.out _ _ trivial (fun _ => ?_)
                  clear hK K
                  (try simp only [Act.put, List.setIfInBounds_toArray, List.set_cons_zero, List.set_cons_succ])
                  clear cl
                  refine wpAnyH_ready (rs := [7]) (by kernel_rfl) (by simp) ?_
                  refine AllReadyH.cons rfl (fun K hK => ?_) AllReadyH.nil
                  go_simp
                  go_wp2_with fail
                  refine KC.out.mono ?_
                  rintro e w11 ⟨v11, rfl, o11, b11⟩
                  obtain ⟨av, cv, ev, -⟩ := ownB_form o11
                  subst ev
                  have X11 := hide (X10.out.step b11 o11 HST.out.recs.lt HST.out.hd.1)
                  clear KC X10 o11 b11
                  go_wp2_with fail
                  refine hK.out _ _ trivial (fun _ => ?_)
                  clear hK K
                  (try simp only [Act.put, List.setIfInBounds_toArray, List.set_cons_zero, List.set_cons_succ])
                  refine wpAnyH_ready (rs := [8]) (by kernel_rfl) (by simp) ?_
                  refine AllReadyH.cons rfl (fun K hK => ?_) AllReadyH.nil
                  obtain ⟨v13, w13, T13, hrun, X13⟩ := X11.out.push 107
                  obtain ⟨a13, c13, e13⟩ : ∃ a c, v13 = .slice a (rs.length + 1) c := by obtain ⟨a, c, e⟩ := X13.recs.form; exact ⟨a, c, by rw [e]; simp⟩
                  subst e13
                  have C312 := hide X11.out.c312
                  have HRUN := hide hrun
                  have X13 := hide X13
                  clear hrun
                  go_simp
                  (try go_wp2_with fail)
                  refine hK.out _ _ trivial (fun _ => ?_)
                  clear hK K
                  (try simp only [Act.put, List.setIfInBounds_toArray, List.set_cons_zero, List.set_cons_succ])
                  refine wpAnyH_ready (rs := [9]) (by kernel_rfl) (by simp) ?_
                  refine AllReadyH.cons rfl (fun K hK => ?_) AllReadyH.nil
                  refine wp_run 76 (.tmp 71) (.tmp 75) rfl rfl rfl rfl rfl HRUN.out ?_
                  refine hK.out _ _ trivial (fun _ => ?_)
                  clear hK K
                  (try simp only [Act.put, List.setIfInBounds_toArray, List.set_cons_zero, List.set_cons_succ])
                  refine take_at 10 (some 77) (v := ?_) rfl rfl (by kernel_rfl) (by kernel_rfl) (by kernel_rfl) (fun _ _ _ h => h) ⟨by rfl, ?_⟩ trivial ?_
                  rotate_left
                  · intro wq _; go_simp; try rfl
                  simp only [Act.put, List.setIfInBounds_toArray, List.set_cons_zero, List.set_cons_succ]
                  refine take_at 11 (some 78) (v := ?_) rfl rfl (by kernel_rfl) (by kernel_rfl) (by kernel_rfl) (fun _ _ _ h => h) ⟨by rfl, ?_⟩ trivial ?_
                  rotate_left
                  · intro wq _; go_simp; try rfl
                  simp only [Act.put, List.setIfInBounds_toArray, List.set_cons_zero, List.set_cons_succ]
                  obtain ⟨cz, fz⟩ := X13.out.cf
                  refine wpAnyH_ready (rs := [12]) (by kernel_rfl) (by simp) ?_
                  refine AllReadyH.cons rfl (fun K hK => ?_) AllReadyH.nil
                  go_simp
                  go_wp2_with fail
                  refine hK.out _ _ trivial (fun _ => ?_)
                  clear hK K
                  (try simp only [Act.put, List.setIfInBounds_toArray, List.set_cons_zero, List.set_cons_succ])
                  refine wpAnyH_done (by kernel_rfl) ?_ _
                  clear cz fz
                  go_wp2_with fail
                  go_roundw
                  case rel => exact ⟨s + 1, T13, _, rs ++ [bytesAt x], _, by go_num, X13.out.fin HST.out hlt (FGO.out HREC.out HAE.out.symm)⟩
                  case measure => simp [intOf]; omega
                · go_simp
                  go_wp2_with fail
                  refine KC.out.mono ?_
                  rintro e w11 ⟨v11, rfl, o11, b11⟩
                  obtain ⟨av, cv, ev, -⟩ := ownB_form o11
                  subst ev
                  have X11 := hide (X10.out.step b11 o11 HST.out.recs.lt HST.out.hd.1)
                  clear KC X10 o11 b11
                  go_wp2_with fail
                  refine hK.out _ _ trivial (fun _ => ?_)
                  clear hK K
                  (try simp only [Act.put, List.setIfInBounds_toArray, List.set_cons_zero, List.set_cons_succ])
                  refine wpAnyH_ready (rs := [4, 8]) (by kernel_rfl) (by simp) ?_
                  refine AllReadyH.cons rfl (fun K hK => ?_) (AllReadyH.cons rfl (fun K hK => ?_) AllReadyH.nil)
                  · have cl := X11.out.c3
                    go_simp
                    go_wp2_with fail
                    refine hK.out _ _ trivial (fun _ => ?_)
                    clear hK K
                    (try simp only [Act.put, List.setIfInBounds_toArray, List.set_cons_zero, List.set_cons_succ])
                    clear cl
                    refine wpAnyH_ready (rs := [8]) (by kernel_rfl) (by simp) ?_
                    refine AllReadyH.cons rfl (fun K hK => ?_) AllReadyH.nil
                    obtain ⟨v13, w13, T13, hrun, X13⟩ := X11.out.push 107
                    obtain ⟨a13, c13, e13⟩ : ∃ a c, v13 = .slice a (rs.length + 1) c := by obtain ⟨a, c, e⟩ := X13.recs.form; exact ⟨a, c, by rw [e]; simp⟩
                    subst e13
                    have C312 := hide X11.out.c312
                    have HRUN := hide hrun
                    have X13 := hide X13
                    clear hrun
                    go_simp
                    (try go_wp2_with fail)
                    refine hK.out _ _ trivial (fun _ => ?_)
                    clear hK K
                    (try simp only [Act.put, List.setIfInBounds_toArray, List.set_cons_zero, List.set_cons_succ])
                    refine wpAnyH_ready (rs := [9]) (by kernel_rfl) (by simp) ?_
                    refine AllReadyH.cons rfl (fun K hK => ?_) AllReadyH.nil
                    refine wp_run 76 (.tmp 71) (.tmp 75) rfl rfl rfl rfl rfl HRUN.out ?_
                    refine hK.out _ _ trivial (fun _ => ?_)
                    clear hK K
                    (try simp only [Act.put, List.setIfInBounds_toArray, List.set_cons_zero, List.set_cons_succ])
                    refine take_at 10 (some 77) (v := ?_) rfl rfl (by kernel_rfl) (by kernel_rfl) (by kernel_rfl) (fun _ _ _ h => h) ⟨by rfl, ?_⟩ trivial ?_
                    rotate_left
                    · intro wq _; go_simp; try rfl
                    simp only [Act.put, List.setIfInBounds_toArray, List.set_cons_zero, List.set_cons_succ]
                    refine take_at 11 (some 78) (v := ?_) rfl rfl (by kernel_rfl) (by kernel_rfl) (by kernel_rfl) (fun _ _ _ h => h) ⟨by rfl, ?_⟩ trivial ?_
                    rotate_left
                    · intro wq _; go_simp; try rfl
                    simp only [Act.put, List.setIfInBounds_toArray, List.set_cons_zero, List.set_cons_succ]
                    obtain ⟨cz, fz⟩ := X13.out.cf
                    refine wpAnyH_ready (rs := [12]) (by kernel_rfl) (by simp) ?_
                    refine AllReadyH.cons rfl (fun K hK => ?_) AllReadyH.nil
                    go_simp
                    go_wp2_with fail
                    refine hK.out _ _ trivial (fun _ => ?_)
                    clear hK K
                    (try simp only [Act.put, List.setIfInBounds_toArray, List.set_cons_zero, List.set_cons_succ])
                    refine wpAnyH_done (by kernel_rfl) ?_ _
                    clear cz fz
                    go_wp2_with fail
                    go_roundw
                    case rel => exact ⟨s + 1, T13, _, rs ++ [bytesAt x], _, by go_num, X13.out.fin HST.out hlt (FGO.out HREC.out HAE.out.symm)⟩
                    case measure => simp [intOf]; omega
                  · obtain ⟨v13, w13, T13, hrun, X13⟩ := X11.out.push 107
                    obtain ⟨a13, c13, e13⟩ : ∃ a c, v13 = .slice a (rs.length + 1) c := by obtain ⟨a, c, e⟩ := X13.recs.form; exact ⟨a, c, by rw [e]; simp⟩
                    subst e13
                    have C312 := hide X11.out.c312
                    have HRUN := hide hrun
                    have X13 := hide X13
                    clear hrun
                    go_simp
                    (try go_wp2_with fail)
                    refine hK.out _ _ trivial (fun _ => ?_)
                    clear hK K
                    (try simp only [Act.put, List.setIfInBounds_toArray, List.set_cons_zero, List.set_cons_succ])
                    refine wpAnyH_ready (rs := [4]) (by kernel_rfl) (by simp) ?_
                    refine AllReadyH.cons rfl (fun K hK => ?_) AllReadyH.nil
                    have cl := C312.out
                    go_simp
                    go_wp2_with fail
                    refine hK.out _ _ trivial (fun _ => ?_)
                    clear hK K
                    (try simp only [Act.put, List.setIfInBounds_toArray, List.set_cons_zero, List.set_cons_succ])
                    clear cl
                    refine wpAnyH_ready (rs := [9]) (by kernel_rfl) (by simp) ?_
                    refine AllReadyH.cons rfl (fun K hK => ?_) AllReadyH.nil
                    refine wp_run 76 (.tmp 71) (.tmp 75) rfl rfl rfl rfl rfl HRUN.out ?_
                    refine hK.out _ _ trivial (fun _ => ?_)
                    clear hK K
                    (try simp only [Act.put, List.setIfInBounds_toArray, List.set_cons_zero, List.set_cons_succ])
                    refine take_at 10 (some 77) (v := ?_) rfl rfl (by kernel_rfl) (by kernel_rfl) (by kernel_rfl) (fun _ _ _ h => h) ⟨by rfl, ?_⟩ trivial ?_
                    rotate_left
                    · intro wq _; go_simp; try rfl
                    simp only [Act.put, List.setIfInBounds_toArray, List.set_cons_zero, List.set_cons_succ]
                    refine take_at 11 (some 78) (v := ?_) rfl rfl (by kernel_rfl) (by kernel_rfl) (by kernel_rfl) (fun _ _ _ h => h) ⟨by rfl, ?_⟩ trivial ?_
                    rotate_left
                    · intro wq _; go_simp; try rfl
                    simp only [Act.put, List.setIfInBounds_toArray, List.set_cons_zero, List.set_cons_succ]
                    obtain ⟨cz, fz⟩ := X13.out.cf
                    refine wpAnyH_ready (rs := [12]) (by kernel_rfl) (by simp) ?_
                    refine AllReadyH.cons rfl (fun K hK => ?_) AllReadyH.nil
                    go_simp
                    go_wp2_with fail
                    refine hK.out _ _ trivial (fun _ => ?_)
                    clear hK K
                    (try simp only [Act.put, List.setIfInBounds_toArray, List.set_cons_zero, List.set_cons_succ])
                    refine wpAnyH_done (by kernel_rfl) ?_ _
                    clear cz fz
                    go_wp2_with fail
                    go_roundw
                    case rel => exact ⟨s + 1, T13, _, rs ++ [bytesAt x], _, by go_num, X13.out.fin HST.out hlt (FGO.out HREC.out HAE.out.symm)⟩
                    case measure => simp [intOf]; omega
              · have he' : ¬ ((ae : Int) = 0) := by omega
                have hR := FBAD.out HREC.out (by rw [← HAE.out]; exact he)
                have HR := hide hR
                have hs0 : s ≠ 0 := by omega
                clear hR he
                go_wp2_with fail
                refine (giveUp_any s 60 _).mono ?_
                rintro e w11 ⟨rfl, rfl⟩
                refine ⟨rfl, ?_, HST.out.keep.then_below B10.out, fun q => ?_⟩
                · rw [HR.out]
                  show _ = fin s (if s = 0 then 0 else 60)
                  rw [if_neg hs0]
                  rfl
                · rw [HR.out] at q
                  exact absurd q hs0
    · have hdd : decide ((s : Int) ≤ (count : Int)) = false := by simp; omega
      have hR : R = (rs, 0) := by rw [HST.out.eq, show count + 1 - s = 0 by omega]; simp [findM]
      have HR := hide hR
      clear hR
      go_wp2_with fail
      (try rw [Exit.noGoto_normal])
      go_end0
      exact HST.out.stop (Below.refl _ _) HR.out
end Go.Proofs.YtgpmghdoofcpaaaGreat.Lg
