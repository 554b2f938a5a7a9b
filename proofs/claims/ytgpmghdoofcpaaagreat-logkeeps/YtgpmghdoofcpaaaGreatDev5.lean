import Derived.Test.YtgpmghdoofcpaaaGreatG12
namespace Go.Proofs.YtgpmghdoofcpaaaGreat.Dv
open Go.RowKit Go.QK

/-- The two boxes of a round: the loss, and the write. -/
def LB (b3 b5 : Nat) (l : Loss) (a : Option Addr) (c s k pc : Nat) (x : World) : Prop :=
  x.cell? ⟨b3, 0, none⟩ = some (.slice a l.keep.length c) ∧ x.cell? ⟨b3, 1, none⟩ = some (.int .i64 l.torn) ∧ x.cell? ⟨b3, 2, none⟩ = some (.int .i64 l.off) ∧
  x.cell? ⟨b5, 0, none⟩ = some (.int .i64 (s : Int)) ∧ x.cell? ⟨b5, 1, none⟩ = some (.slice (some ⟨k, 0, none⟩) 512 pc)
theorem LB.keep {b3 b5 : Nat} {l : Loss} {a : Option Addr} {c s k pc : Nat} {x y : World} {T : Nat → Prop} (h : LB b3 b5 l a c s k pc x) (hk : Keep T x y) (h3 : b3 < x.heap.size) (h5 : b5 < x.heap.size) (n3 : ¬ T b3) (n5 : ¬ T b5) : LB b3 b5 l a c s k pc y :=
  ⟨(hk.cell (p := ⟨b3, 0, none⟩) h3 n3).trans h.1, (hk.cell (p := ⟨b3, 1, none⟩) h3 n3).trans h.2.1, (hk.cell (p := ⟨b3, 2, none⟩) h3 n3).trans h.2.2.1, (hk.cell (p := ⟨b5, 0, none⟩) h5 n5).trans h.2.2.2.1, (hk.cell (p := ⟨b5, 1, none⟩) h5 n5).trans h.2.2.2.2⟩

set_option maxHeartbeats 1000000 in
set_option maxRecDepth 100000 in
theorem giveUp_at {w : World} {S : Nat → Prop} {d : Nat} {img : List Nat} {loss : Option Loss} {ib ic : Nat} {pv : Value} {ps : List PE} {kv : Value} {tn off : Int} {a2 a3 a4 a5 a6 a7 : Value}
    (hc : Cells w d [.slice (some ⟨ib, 0, none⟩) img.length ic, pv, a2, a3, a4, a5, a6, a7]) (hb : Body w S d img loss ib ic pv ps kv tn off) (hf : ∀ p ∈ ps, Fits img.length p.out) (hab : AllB img) (him : img.length ≤ 4194304) (hpl : ps.length ≤ 1000000)
    (l : Loss) (a : Option Addr) (c : Nat) (hs : Seen .u64 w a (ints l.keep)) (ha : l.keep ≠ [] → ∀ ad, a = some ad → ad.block ≠ d ∧ ad.block ≠ ib) (ok : l.Ok) :
    Calls Tryz.prog 53 #[.pointer (some ⟨d, 0, none⟩), .agg #[.slice a l.keep.length c, .int .i64 l.torn, .int .i64 l.off]] w fun e w' => (∃ v, e = .returned v) ∧
      Cells w' d [.slice (some ⟨ib, 0, none⟩) img.length ic, .slice none 0 0, a2, .bool true, .int .i64 0, .slice none 0 0, .int .i64 0, .int .i64 0] ∧
      Body w' S d (fallFrom l 0 (ps.map PE.out) img) none ib ic (.slice none 0 0) [] (.slice none 0 0) 0 0 ∧ Keep (fun b => b = d ∨ b = ib) w w' := by
  obtain ⟨pa, pc, hpv, hpn, hple, hpm, hrow⟩ := hb.row.form
  subst hpv
  obtain ⟨c0, _⟩ := hc.get 0 _ rfl
  obtain ⟨c1, f1⟩ := hc.get 1 _ rfl
  have hdl := hc.1
  have hibl : ib < w.heap.size := hb.lt _ hb.iS.1
  have B0 := alloc_below w (.cells #[.slice a l.keep.length c, .int .i64 l.torn, .int .i64 l.off] 64)
  have HC := hide hc
  have HB := hide hb
  have HF := hide hf
  have HROW := hide hrow
  have HAB := hide hab
  clear hc hb hf hrow hab
  go_enter Tryz.func53, Tryz.ntmps53
  go_wp2_with fail
  go_loopw [11] (fun i wr => ∃ k : Nat, k ≤ ps.length ∧ i = .int .i64 (k : Int) ∧ OwnB wr 0 (.slice (some ⟨ib, 0, none⟩) img.length ic) (fallFrom l 0 ((ps.map PE.out).take k) img) ∧ Keep (fun j => j = ib) (w.alloc (.cells #[.slice a l.keep.length c, .int .i64 l.torn, .int .i64 l.off] 64)) wr) (fun i _ => ps.length - (intOf i).toNat)
  case atStart => exact ⟨0, Nat.zero_le _, rfl, Owns.below HB.out.img B0, Keep.refl _ _⟩
  case round =>
    obtain ⟨k, hk, rfl, hown, hkeep⟩ := hrel
    have gsz := hkeep.size
    rw [World.size_alloc] at gsz
    by_cases hlt : k < ps.length
    · obtain ⟨pb, rfl, hpb, p0, p1⟩ := HROW.out k hlt
      have hpr := HB.out.rS pb rfl
      have q0 := (hkeep.cell (p := ⟨pb, k * 2, none⟩) (by simp; omega) hpr.2.2).trans ((B0.cell (p := ⟨pb, k * 2, none⟩) hpb).trans p0)
      have q1 := (hkeep.cell (p := ⟨pb, k * 2 + 1, none⟩) (by simp; omega) hpr.2.2).trans ((B0.cell (p := ⟨pb, k * 2 + 1, none⟩) hpb).trans p1)
      obtain ⟨e1, e2, e2', e3, e4, e5, e6⟩ := HB.out.en ps[k] (List.getElem_mem hlt)
      obtain ⟨f1, f2, f3⟩ := HF.out ps[k] (List.getElem_mem hlt)
      have hbl : ps[k].b.length = 512 := f2
      unfold PE.v at q1
      rw [hbl] at q1
      have hlk : (k : Int) < (ps.length : Int) := by omega
      have hH := hide hown
      have hKP := hide hkeep
      clear hown hkeep p0 p1
      go_upto_region 4 with fail
      obtain ⟨w3, hw3⟩ : ∃ w3, w3 = wr.alloc (.cells #[.int .i64 (ps[k].s : Int), .slice (some ⟨ps[k].k, 0, none⟩) 512 ps[k].c] 124) := ⟨_, rfl⟩
      rw [← hw3]
      have B3 : Below wr.heap.size wr w3 := by rw [hw3]; exact alloc_below _ _
      have z3 : w3.heap.size = wr.heap.size + 1 := by rw [hw3]; simp
      have r0 : w3.cell? ⟨wr.heap.size, 0, none⟩ = some (.int .i64 (ps[k].s : Int)) := by rw [hw3, World.cell?_alloc_new]; rfl
      have r1 : w3.cell? ⟨wr.heap.size, 1, none⟩ = some (.slice (some ⟨ps[k].k, 0, none⟩) 512 ps[k].c) := by rw [hw3, World.cell?_alloc_new]; rfl
      have HW3 := hide hw3
      clear hw3
      have n3 : ¬ w.heap.size = ib := by omega
      have n5 : ¬ wr.heap.size = ib := by omega
      have hb3 : w.heap.size < w3.drew.heap.size := by show _ < w3.heap.size; omega
      have hb5 : wr.heap.size < w3.drew.heap.size := by show _ < w3.heap.size; omega
      have hd3 : d < w3.drew.heap.size := by show _ < w3.heap.size; omega
      have KK : Keep (fun j => j = ib) w w3 := ((Keep.of_below B0).trans hKP.out (fun _ _ q => q)).then_below B3
      have new : ∀ j v, w.cell? ⟨d, j, none⟩ = some v → w3.cell? ⟨d, j, none⟩ = some v := fun j v hv => (KK.cell (p := ⟨d, j, none⟩) hdl (fun q => HB.out.iS.2 q.symm)).trans hv
      have c03 := new 0 _ c0
      have hLB : LB w.heap.size wr.heap.size l a c ps[k].s ps[k].k ps[k].c w3.drew := by
        have t : ∀ j v, (w.alloc (.cells #[.slice a l.keep.length c, .int .i64 l.torn, .int .i64 l.off] 64)).cell? ⟨w.heap.size, j, none⟩ = some v → w3.cell? ⟨w.heap.size, j, none⟩ = some v := fun j v hv =>
          ((hKP.out.then_below B3).cell (p := ⟨w.heap.size, j, none⟩) (by simp) n3).trans hv
        exact ⟨t 0 _ (by rw [World.cell?_alloc_new]; rfl), t 1 _ (by rw [World.cell?_alloc_new]; rfl), t 2 _ (by rw [World.cell?_alloc_new]; rfl), r0, r1⟩
      have HS3 := hide ((Seen.keep' hs KK.drew (fun hx ad had => (ha (ints_ne hx) ad had).2) : Seen .u64 w3.drew a (ints l.keep)))
      have P3 := hide (Seen.keep e1 KK (fun ad had => by cases had; exact e5))
      have I3 := hide (Owns.below hH.out B3)
      have LEN := hide (fallFrom_ok l ((ps.map PE.out).take k) 0 img (fun p hp => by
        obtain ⟨q, hq, rfl⟩ := List.mem_map.1 (List.mem_of_mem_take hp)
        exact HF.out q hq) rfl HAB.out).1
      have hfs : 512 * ps[k].s + 512 ≤ img.length := f1
      have STEP := hide (fallFrom_take l (ps.map PE.out) img k (by simpa using hlt))
      clear r0 r1 B3 q0 q1 hs new
      refine wp_region_held_drew (S := LB w.heap.size wr.heap.size l a c ps[k].s ps[k].k ps[k].c) (by kernel_rfl) hLB (fun hS => ?_)
      refine take_at 0 (some 16) (v := ?_) rfl rfl (by kernel_rfl) (by kernel_rfl) (by kernel_rfl) (fun _ _ _ h => h) ⟨by rfl, ?_⟩ hS ?_
      rotate_left
      · intro wq hSw; obtain ⟨x0, x1, x2, x3, x4⟩ := hSw; go_simp; try rfl
      simp only [Act.put, List.setIfInBounds_toArray, List.set_cons_zero, List.set_cons_succ]
      refine take_at 1 (some 17) (v := ?_) rfl rfl (by kernel_rfl) (by kernel_rfl) (by kernel_rfl) (fun _ _ _ h => h) ⟨by rfl, ?_⟩ hS ?_
      rotate_left
      · intro wq hSw; obtain ⟨x0, x1, x2, x3, x4⟩ := hSw; go_simp; try rfl
      simp only [Act.put, List.setIfInBounds_toArray, List.set_cons_zero, List.set_cons_succ]
      refine take_at 2 (some 18) (v := ?_) rfl rfl (by kernel_rfl) (by kernel_rfl) (by kernel_rfl) (fun _ _ _ h => h) ⟨by rfl, ?_⟩ hS ?_
      rotate_left
      · intro wq hSw; obtain ⟨x0, x1, x2, x3, x4⟩ := hSw; go_simp; try rfl
      simp only [Act.put, List.setIfInBounds_toArray, List.set_cons_zero, List.set_cons_succ]
      refine take_at 3 (some 19) (v := ?_) rfl rfl (by kernel_rfl) (by kernel_rfl) (by kernel_rfl) (fun _ _ _ h => h) ⟨by rfl, ?_⟩ hS ?_
      rotate_left
      · intro wq hSw; obtain ⟨x0, x1, x2, x3, x4⟩ := hSw; go_simp; try rfl
      simp only [Act.put, List.setIfInBounds_toArray, List.set_cons_zero, List.set_cons_succ]
      refine wpAnyH_ready (rs := [4]) (by kernel_rfl) (by simp) ?_
      refine AllReadyH.cons rfl (fun K hK => ?_) AllReadyH.nil
      go_simp
      go_wp2_with fail
      refine (leaves_any l a c k _ (by exact HS3.out) (by omega) ok).mono ?_
      rintro e w4 ⟨rfl, b4⟩
      go_wp2_with fail
      refine hK.out _ _ (LB.keep hS (Keep.of_below (S := fun _ => False) b4) hb3 hb5 id id) (fun hT => ?_)
      have hS4 := hide hT
      have hs4 : w3.drew.heap.size ≤ w4.heap.size := b4.size
      have I4 := hide (Owns.below I3.out (below_undrew b4))
      have c04 := (b4.cell (p := ⟨d, 0, none⟩) hd3).trans c03
      have P4 := hide (Seen.below P3.out (below_undrew b4))
      clear hK K
      refine wpAnyH_ready (rs := [5]) (by kernel_rfl) (by simp) ?_
      refine AllReadyH.cons rfl (fun K hK => ?_) AllReadyH.nil
      go_simp
      go_wp2_with fail
      refine (land_at (img := fallFrom l 0 ((ps.map PE.out).take k) img) (by exact (show w4.cell? ⟨d, 0, none⟩ = _ by rw [LEN.out]; exact c04)) (Nat.lt_of_lt_of_le hd3 hs4) (by rw [LEN.out]; exact I4.out) P4.out hbl (by omega) (by rw [LEN.out]; exact hfs) (by rw [LEN.out]; exact him) (leavesN_le l k)).mono ?_
      rintro e w5 ⟨⟨v5, rfl⟩, o5, k5⟩
      go_wp2_with fail
      refine hK.out _ _ (LB.keep hS4.out k5 (Nat.lt_of_lt_of_le hb3 hs4) (Nat.lt_of_lt_of_le hb5 hs4) n3 n5) (fun _ => ?_)
      clear hK K
      refine wpAnyH_done (by kernel_rfl) ?_ _
      have o6 : OwnB w5 0 (.slice (some ⟨ib, 0, none⟩) img.length ic) (fallFrom l 0 ((ps.map PE.out).take (k + 1)) img) := by
        rw [STEP.out]
        have e := o5
        rw [LEN.out] at e
        simpa [PE.out] using e
      have k6 : Keep (fun j => j = ib) (w.alloc (.cells #[.slice a l.keep.length c, .int .i64 l.torn, .int .i64 l.off] 64)) w5 := by
        refine ((hKP.out.then_below ?_).trans (Keep.undrew (Keep.of_below b4)) (fun _ _ q => q)).trans k5 (fun _ _ q => q)
        rw [HW3.out]; exact alloc_below _ _
      have O6 := hide o6
      have K6 := hide k6
      clear o6 k6 o5 k5 hS4 I4 P4 c04 b4
      go_wp2_with fail
      go_roundw
      case rel => exact ⟨k + 1, by omega, by go_num, O6.out, K6.out⟩
      case measure => simp [intOf]; omega
    · obtain rfl : k = ps.length := by omega
      rw [List.take_of_length_le (by simp)] at hown
      have KK : Keep (fun j => j = ib) w wr := (Keep.of_below B0).trans hkeep (fun _ _ q => q)
      have LEN := (fallFrom_ok l (ps.map PE.out) 0 img (fun p hp => by
        obtain ⟨q, hq, rfl⟩ := List.mem_map.1 hp
        exact HF.out q hq) rfl HAB.out).1
      have BB := hide (HB.out.image (img' := fallFrom l 0 (ps.map PE.out) img) KK (by rw [LEN]; exact hown))
      have CC := hide (HC.out.keep KK (fun q => HB.out.iS.2 q.symm))
      obtain ⟨u1, g1⟩ := CC.out.get 1 _ rfl
      obtain ⟨u3, g3⟩ := CC.out.get 3 _ rfl
      have HKK := hide KK
      clear KK LEN hown hkeep c0 c1 f1 hs
      go_wp2_with fail
      refine (disarm_at ((CC.out.stored (j := 1) (by simp) _).stored (j := 3) (by simp) _)).mono ?_
      rintro e w6 ⟨⟨v6, rfl⟩, c6, k6⟩
      have C6 := hide c6
      have K6 := hide k6
      clear c6 k6
      go_wp2_with fail
      go_end0
      have KD : Keep (fun j => j = d) wr w6 := (((Keep.refl (fun j => j = d) wr).setCell (fun _ => rfl) _).setCell (fun _ => rfl) _).trans K6.out (fun _ _ q => q)
      refine ⟨⟨_, rfl⟩, C6.out, ?_, ?_⟩
      · exact ((BB.out.keep KD (fun _ q _ => q)).drop).forget _ _ _
      · exact (HKK.out.mono (fun _ _ q => .inr q)).trans KD (fun _ _ q => .inl q)
end Go.Proofs.YtgpmghdoofcpaaaGreat.Dv
