import Derived.Test.YtgpmghdoofcpaaaGreatG28
namespace Go.Proofs.YtgpmghdoofcpaaaGreat
open Go.RowKit Go.QK

def liveNs (l : LiveM) : List Nat := [l.tx.toNat, l.last.toNat, stateN l]
def dirtyNs (d : DirtyM) : List Nat := [d.page.toNat, d.since.toNat]
def pointsNs (ls : List LiveM) (ds : List DirtyM) (nx : Nat) : List Nat := ([nx, ls.length] ++ ls.flatMap liveNs) ++ ([ds.length] ++ ds.flatMap dirtyNs)
theorem ns_len {α : Type} (f : α → List Nat) (m : Nat) (h : ∀ x, (f x).length = m) (xs : List α) : (xs.flatMap f).length = m * xs.length := by
  induction xs with
  | nil => rfl
  | cons x xs ih => rw [List.flatMap_cons, List.length_append, h, ih, List.length_cons]; rw [Nat.mul_succ]; omega
def liveIn (l : LiveM) : Prop := 0 ≤ l.tx ∧ l.tx < 9223372036854775808 ∧ 0 ≤ l.last ∧ l.last < 9223372036854775808
def dirtyIn (d : DirtyM) : Prop := 0 ≤ d.page ∧ d.page < 9223372036854775808 ∧ 0 ≤ d.since ∧ d.since < 9223372036854775808
theorem stateN_le (l : LiveM) : stateN l ≤ 2 := by unfold stateN; split <;> (try split) <;> omega
theorem liveNs_lt {ls : List LiveM} (h : ∀ l ∈ ls, liveIn l) : ∀ n ∈ ls.flatMap liveNs, n < 9223372036854775808 := by
  intro n hn
  obtain ⟨l, hl, hn⟩ := List.mem_flatMap.1 hn
  have := h l hl
  have := stateN_le l
  unfold liveIn at *
  simp [liveNs] at hn
  omega
theorem dirtyNs_lt {ds : List DirtyM} (h : ∀ l ∈ ds, dirtyIn l) : ∀ n ∈ ds.flatMap dirtyNs, n < 9223372036854775808 := by
  intro n hn
  obtain ⟨l, hl, hn⟩ := List.mem_flatMap.1 hn
  have := h l hl
  unfold dirtyIn at *
  simp [dirtyNs] at hn
  omega
theorem take_more {α : Type} (f : α → List Nat) (xs : List α) (k : Nat) (hk : k < xs.length) : ((xs.take (k + 1)).flatMap f) = ((xs.take k).flatMap f) ++ f xs[k] := by
  rw [← List.take_append_getElem hk, List.flatMap_append, List.flatMap_cons, List.flatMap_nil, List.append_nil]
theorem Wr.drew {w : World} {B p : Nat} {v : Value} {l : List Nat} (h : Wr w B p v l) : Wr w.drew B p v l := h.below (Below.refl _ _).drew

set_option maxRecDepth 100000
set_option maxHeartbeats 4000000 in
theorem writePoints_any (ls : List LiveM) (ds : List DirtyM) (nx : Nat) (la da : Option Addr) (lc dc : Nat) (B p : Nat) (v : Value) (l : List Nat) (w : World) (hl : ∀ w', Keep (wS p v) w w' → Lies w' la (liveCs ls)) (hd : ∀ w', Keep (wS p v) w w' → Lies w' da (dirtyCs ds)) (h : Wr w B p v l)
    (hnx : nx < 9223372036854775808) (hli : ∀ x ∈ ls, liveIn x) (hdi : ∀ x ∈ ds, dirtyIn x) (hls : ls.length ≤ 1000) (hds : ds.length ≤ 1000) (hll : l.length ≤ 100000) :
    Calls Tryz.prog 92 #[.pointer (some ⟨p, 0, none⟩), .agg #[.slice la ls.length lc, .slice da ds.length dc, .int .i64 nx]] w fun e w' => ∃ v', e = .returned (.tuple #[]) ∧ WSt w B p v w' v' (l ++ (pointsNs ls ds nx).flatMap form) := by
  have HL := hide hl
  have HD := hide hd
  have hbx := Bx.new h #[.slice la ls.length lc, .slice da ds.length dc, .int .i64 nx] 42
  have hst := (WSt.start h).below (alloc_below w (.cells #[.slice la ls.length lc, .slice da ds.length dc, .int .i64 nx] 42))
  generalize hw0 : w.alloc (.cells #[.slice la ls.length lc, .slice da ds.length dc, .int .i64 nx] 42) = w0 at hbx hst
  obtain ⟨k0, _⟩ := hbx.1.get 0 _ rfl
  obtain ⟨k2, _⟩ := hbx.1.get 2 _ rfl
  have F0 := hide (put_lit (m := 2) [nx, ls.length] B p v l w0 (by simp; omega) hst.wr (by simp; omega) rfl)
  obtain ⟨l1, hl1⟩ : ∃ l1, l1 = l ++ [nx, ls.length].flatMap form := ⟨_, rfl⟩
  rw [← hl1] at F0
  have hl1l : l1.length ≤ 100020 := by
    have := flatForm_len [nx, ls.length] (by simp; omega)
    rw [hl1, List.length_append]
    simp only [List.length_cons, List.length_nil] at this
    omega
  have hlv : ∀ k, (l1 ++ ((ls.take k).flatMap liveNs).flatMap form).length + 30 ≤ 1000000 := by
    intro k
    have e1 := flatForm_len ((ls.take k).flatMap liveNs) (fun n hn => by have := liveNs_lt (ls := ls.take k) (fun x hx => hli x (List.mem_of_mem_take hx)) n hn; omega)
    have e2 := ns_len liveNs 3 (fun _ => rfl) (ls.take k)
    rw [List.length_take] at e2
    rw [List.length_append]
    omega
  obtain ⟨l2, hl2⟩ : ∃ l2, l2 = l1 ++ (ls.flatMap liveNs).flatMap form := ⟨_, rfl⟩
  obtain ⟨l3, hl3⟩ : ∃ l3, l3 = l2 ++ [ds.length].flatMap form := ⟨_, rfl⟩
  have hl2l : l2.length + 10 ≤ 140000 := by
    have e1 := flatForm_len (ls.flatMap liveNs) (fun n hn => by have := liveNs_lt hli n hn; omega)
    have e2 := ns_len liveNs 3 (fun _ => rfl) ls
    rw [hl2, List.length_append]
    omega
  have hl3l : l3.length ≤ 140000 := by
    have := flatForm_len [ds.length] (by simp; omega)
    rw [hl3, List.length_append]
    simp only [List.length_cons, List.length_nil] at this
    omega
  have hdv : ∀ k, (l3 ++ ((ds.take k).flatMap dirtyNs).flatMap form).length + 20 ≤ 1000000 := by
    intro k
    have e1 := flatForm_len ((ds.take k).flatMap dirtyNs) (fun n hn => by have := dirtyNs_lt (ds := ds.take k) (fun x hx => hdi x (List.mem_of_mem_take hx)) n hn; omega)
    have e2 := ns_len dirtyNs 2 (fun _ => rfl) (ds.take k)
    rw [List.length_take] at e2
    rw [List.length_append]
    omega
  obtain ⟨l4, hl4⟩ : ∃ l4, l4 = l ++ (pointsNs ls ds nx).flatMap form := ⟨_, rfl⟩
  have E4 := hide (show l3 ++ (ds.flatMap dirtyNs).flatMap form = l4 by rw [hl4, hl3, hl2, hl1]; simp only [pointsNs, List.flatMap_append, List.append_assoc])
  rw [← hl4]
  have HLV := hide hlv
  have HDV := hide hdv
  have HB := hide hbx
  have HS := hide hst
  have HLI := hide hli
  have HDI := hide hdi
  have E2 := hide hl2
  have E3 := hide hl3
  clear hl hd hbx hst hlv hdv hli hdi hl1 hl2 hl3 hl4 h
  go_enter Tryz.func92, Tryz.ntmps92
  go_wp2_with fail
  clear hw0
  refine F0.out.mono ?_
  rintro e w1 ⟨v1, rfl, a1, b1, c1⟩
  have HS1 := hide (HS.out.next a1 b1 c1)
  have HB1 := hide (HB.out.next b1 c1)
  obtain ⟨j0, _⟩ := HB1.out.1.get 0 _ rfl
  clear a1 b1 c1 k0 k2 HS HB F0
  go_wp2_with fail
  go_loopw [19] (fun i wr => ∃ (k : Nat) (u : Value), i = .int .i64 (k : Int) ∧ k ≤ ls.length ∧ WSt w B p v wr u (l1 ++ ((ls.take k).flatMap liveNs).flatMap form) ∧ Bx p wr u w.heap.size [.slice la ls.length lc, .slice da ds.length dc, .int .i64 nx]) (fun i _ => (ls.length + 1 - (intOf i).toNat))
  case atStart => exact ⟨0, v1, rfl, Nat.zero_le _, by simpa using HS1.out, HB1.out⟩
  case round =>
    obtain ⟨k, u, rfl, hk, hst, hbx⟩ := hrel
    have HS := hide hst
    have HB := hide hbx
    clear hst hbx HS1 HB1 j0
    by_cases hlt : k < ls.length
    · have hg1 : decide ((k : Int) < (ls.length : Int)) = true := by simp; omega
      obtain ⟨b, off, rfl, hbl, k0, k1, k2, k3⟩ := (HL.out wr HS.out.keep).liveAt k hlt
      have hin := HLI.out _ (List.getElem_mem hlt)
      have hmore := take_more liveNs ls k hlt
      have HLEN := hide (HLV.out k)
      generalize ls[k] = x at *
      obtain ⟨x0, x1, x2, x3⟩ := x
      unfold liveIn at hin
      obtain ⟨i1, i2, i3, i4⟩ := hin
      simp only at i1 i2 i3 i4
      obtain ⟨tn, rfl⟩ := Int.eq_ofNat_of_zero_le i1
      obtain ⟨ln, rfl⟩ := Int.eq_ofNat_of_zero_le i3
      obtain ⟨L, hL⟩ : ∃ L, L = l1 ++ ((ls.take k).flatMap liveNs).flatMap form := ⟨_, rfl⟩
      have EL := hide (show l1 ++ ((ls.take (k + 1)).flatMap liveNs).flatMap form = L ++ [tn, ln, stateN ⟨tn, ln, x2, x3⟩].flatMap form by rw [hmore, List.flatMap_append, ← List.append_assoc, ← hL]; rfl)
      rw [← hL] at HS HLEN
      have hsn := stateN_le ⟨tn, ln, x2, x3⟩
      have f1 := fun w => stateOf_any tn ln x2 x3 w
      generalize stateN ⟨tn, ln, x2, x3⟩ = sn at *
      have HX := Bx.new HS.out.wr #[.int .i64 tn, .int .i64 ln, .bool x2, .bool x3] 55
      have HS1 := HS.out.below (alloc_below wr (.cells #[.int .i64 tn, .int .i64 ln, .bool x2, .bool x3] 55))
      have HB1 := HB.out.below (alloc_below wr (.cells #[.int .i64 tn, .int .i64 ln, .bool x2, .bool x3] 55))
      generalize hw2 : wr.alloc (.cells #[.int .i64 tn, .int .i64 ln, .bool x2, .bool x3] 55) = w2 at HX HS1 HB1
      have FX := hide (show w2.cell? ⟨wr.heap.size, 0, none⟩ = some (.int .i64 tn) ∧ w2.cell? ⟨wr.heap.size, 1, none⟩ = some (.int .i64 ln) ∧ w2.cell? ⟨wr.heap.size, 2, none⟩ = some (.bool x2) ∧ w2.cell? ⟨wr.heap.size, 3, none⟩ = some (.bool x3) from ⟨(HX.1.get 0 _ rfl).1, (HX.1.get 1 _ rfl).1, (HX.1.get 2 _ rfl).1, (HX.1.get 3 _ rfl).1⟩)
      have HX := hide (HX.below (Below.refl _ _).drew)
      have HS1 := hide (HS1.below (Below.refl _ _).drew)
      have HB1 := hide (HB1.below (Below.refl _ _).drew)
      clear HS HB hmore hL
      go_upto_region 5 with fail
      clear hw2 k0 k1 k2 k3
      generalize wr.heap.size = bx at *
      refine wp_region_held_drew (S := fun wq => wq.cell? ⟨bx, 0, none⟩ = some (.int .i64 tn) ∧ wq.cell? ⟨bx, 1, none⟩ = some (.int .i64 ln) ∧ wq.cell? ⟨bx, 2, none⟩ = some (.bool x2) ∧ wq.cell? ⟨bx, 3, none⟩ = some (.bool x3)) (by kernel_rfl) FX.out (fun hS => ?_)
      generalize w2.drew = w3 at *
      clear FX
      refine take_at 0 (some 23) (v := ?_) rfl rfl (by kernel_rfl) (by kernel_rfl) (by kernel_rfl) (fun _ _ _ h => h) ⟨by rfl, ?_⟩ hS ?_
      rotate_left
      · intro wq hSw; go_simp; try rfl
      simp only [Act.put, List.setIfInBounds_toArray, List.set_cons_zero, List.set_cons_succ]
      refine take_at 1 (some 24) (v := ?_) rfl rfl (by kernel_rfl) (by kernel_rfl) (by kernel_rfl) (fun _ _ _ h => h) ⟨by rfl, ?_⟩ hS ?_
      rotate_left
      · intro wq hSw; go_simp; try rfl
      simp only [Act.put, List.setIfInBounds_toArray, List.set_cons_zero, List.set_cons_succ]
      refine take_at 2 (some 25) (v := ?_) rfl rfl (by kernel_rfl) (by kernel_rfl) (by kernel_rfl) (fun _ _ _ h => h) ⟨by rfl, ?_⟩ hS ?_
      rotate_left
      · intro wq hSw; obtain ⟨y0, y1, y2, y3⟩ := hSw; go_simp; try rfl
      simp only [Act.put, List.setIfInBounds_toArray, List.set_cons_zero, List.set_cons_succ]
      refine take_at 3 (some 26) (v := ?_) rfl rfl (by kernel_rfl) (by kernel_rfl) (by kernel_rfl) (fun _ _ _ h => h) ⟨by rfl, ?_⟩ hS ?_
      rotate_left
      · intro wq hSw; go_simp; try rfl
      simp only [Act.put, List.setIfInBounds_toArray, List.set_cons_zero, List.set_cons_succ]
      refine take_at 4 (some 27) (v := ?_) rfl rfl (by kernel_rfl) (by kernel_rfl) (by kernel_rfl) (fun _ _ _ h => h) ⟨by rfl, ?_⟩ hS ?_
      rotate_left
      · intro wq hSw; obtain ⟨y0, y1, y2, y3⟩ := hSw; go_simp; try rfl
      simp only [Act.put, List.setIfInBounds_toArray, List.set_cons_zero, List.set_cons_succ]
      refine take_at 5 (some 28) (v := ?_) rfl rfl (by kernel_rfl) (by kernel_rfl) (by kernel_rfl) (fun _ _ _ h => h) ⟨by rfl, ?_⟩ hS ?_
      rotate_left
      · intro wq hSw; obtain ⟨y0, y1, y2, y3⟩ := hSw; go_simp; try rfl
      simp only [Act.put, List.setIfInBounds_toArray, List.set_cons_zero, List.set_cons_succ]
      refine wpAnyH_ready (rs := [6]) (by kernel_rfl) (by simp) ?_
      refine AllReadyH.cons rfl (fun K hK => ?_) AllReadyH.nil
      go_simp
      go_wp2_with fail
      refine (f1 _).mono ?_
      rintro e w4 ⟨rfl, b4⟩
      have HX4 := hide (HX.out.below b4)
      have HS4 := hide (HS1.out.below b4)
      have HB4 := hide (HB1.out.below b4)
      have F4 := hide (put_lit (m := 3) [tn, ln, sn] B p u L w4 (by simp; omega) HS4.out.wr (by have := HLEN.out; simp; omega) rfl)
      clear b4 HX HS1 HB1 f1
      go_wp2_with fail
      refine hK.out _ _ ⟨(HX4.out.1.get 0 _ rfl).1, (HX4.out.1.get 1 _ rfl).1, (HX4.out.1.get 2 _ rfl).1, (HX4.out.1.get 3 _ rfl).1⟩ (fun hS => ?_)
      clear hK K
      (try simp only [Act.put, List.setIfInBounds_toArray, List.set_cons_zero, List.set_cons_succ])
      refine wpAnyH_ready (rs := [7]) (by kernel_rfl) (by simp) ?_
      refine AllReadyH.cons rfl (fun K hK => ?_) AllReadyH.nil
      go_simp
      (try go_wp2_with fail)
      refine hK.out _ _ ⟨((hide (HX4.out.below (alloc_below _ _))).out.1.get 0 _ rfl).1, ((hide (HX4.out.below (alloc_below _ _))).out.1.get 1 _ rfl).1, ((hide (HX4.out.below (alloc_below _ _))).out.1.get 2 _ rfl).1, ((hide (HX4.out.below (alloc_below _ _))).out.1.get 3 _ rfl).1⟩ (fun hS => ?_)
      clear hK K
      (try simp only [Act.put, List.setIfInBounds_toArray, List.set_cons_zero, List.set_cons_succ])
      refine wpAnyH_ready (rs := [8]) (by kernel_rfl) (by simp) ?_
      refine AllReadyH.cons rfl (fun K hK => ?_) AllReadyH.nil
      go_simp
      go_wp2_with fail
      refine F4.out.mono ?_
      rintro e w5 ⟨u5, rfl, a1, b1, c1⟩
      have HS5 := hide (HS4.out.next a1 b1 c1)
      have HB5 := hide (HB4.out.next b1 c1)
      have HX5 := hide (HX4.out.next b1 c1)
      rw [← EL.out] at HS5
      clear a1 b1 c1 F4 HS4 HB4 HX4
      go_wp2_with fail
      refine hK.out _ _ ⟨(HX5.out.1.get 0 _ rfl).1, (HX5.out.1.get 1 _ rfl).1, (HX5.out.1.get 2 _ rfl).1, (HX5.out.1.get 3 _ rfl).1⟩ (fun hS => ?_)
      clear hK K
      (try simp only [Act.put, List.setIfInBounds_toArray, List.set_cons_zero, List.set_cons_succ])
      refine wpAnyH_done (by kernel_rfl) ?_ _
      go_wp2_with fail
      go_roundw
      case rel => exact ⟨k + 1, u5, by go_num, hlt, HS5.out, HB5.out⟩
      case measure => simp [intOf]; omega
    · have hg1 : decide ((k : Int) < (ls.length : Int)) = false := by simp; omega
      have hkk : k = ls.length := by omega
      rw [hkk, List.take_length, ← E2.out] at HS
      obtain ⟨j1, _⟩ := HB.out.1.get 1 _ rfl
      have F0 := hide (put_lit (m := 1) [ds.length] B p u l2 wr (by simp; omega) HS.out.wr (by simp; omega) rfl)
      rw [← E3.out] at F0
      clear hkk
      go_wp2_with fail
      refine F0.out.mono ?_
      rintro e w2 ⟨u2, rfl, a1, b1, c1⟩
      have HS2 := hide (HS.out.next a1 b1 c1)
      have HB2 := hide (HB.out.next b1 c1)
      obtain ⟨m1, _⟩ := HB2.out.1.get 1 _ rfl
      clear a1 b1 c1 HS HB F0 j1
      go_wp2_with fail
      go_loopw [42] (fun i wr => ∃ (k : Nat) (u : Value), i = .int .i64 (k : Int) ∧ k ≤ ds.length ∧ WSt w B p v wr u (l3 ++ ((ds.take k).flatMap dirtyNs).flatMap form)) (fun i _ => (ds.length + 1 - (intOf i).toNat))
      case atStart => exact ⟨0, u2, rfl, Nat.zero_le _, by simpa using HS2.out⟩
      case round =>
        obtain ⟨k, u, rfl, hk, hst⟩ := hrel
        have HS := hide hst
        clear hst HS2 HB2 m1
        by_cases hlt : k < ds.length
        · have hg1 : decide ((k : Int) < (ds.length : Int)) = true := by simp; omega
          obtain ⟨b, off, rfl, hbl, k0, k1⟩ := (HD.out _ HS.out.keep).dirtyAt k hlt
          have hin := HDI.out _ (List.getElem_mem hlt)
          have hmore := take_more dirtyNs ds k hlt
          have HLEN := hide (HDV.out k)
          generalize ds[k] = x at *
          obtain ⟨x0, x1⟩ := x
          unfold dirtyIn at hin
          obtain ⟨i1, i2, i3, i4⟩ := hin
          simp only at i1 i2 i3 i4
          obtain ⟨tn, rfl⟩ := Int.eq_ofNat_of_zero_le i1
          obtain ⟨ln, rfl⟩ := Int.eq_ofNat_of_zero_le i3
          obtain ⟨L, hL⟩ : ∃ L, L = l3 ++ ((ds.take k).flatMap dirtyNs).flatMap form := ⟨_, rfl⟩
          have EL := hide (show l3 ++ ((ds.take (k + 1)).flatMap dirtyNs).flatMap form = L ++ [tn, ln].flatMap form by rw [hmore, List.flatMap_append, ← List.append_assoc, ← hL]; rfl)
          rw [← hL] at HS HLEN
          have HS1 := HS.out.below (alloc_below wr (.cells #[.int .i64 tn, .int .i64 ln] 57))
          have HX := Cells.new wr #[.int .i64 tn, .int .i64 ln] 57
          generalize hw2 : wr.alloc (.cells #[.int .i64 tn, .int .i64 ln] 57) = w2 at HS1 HX
          have F4 := hide (put_lit (m := 2) [tn, ln] B p u L w2 (by simp; omega) HS1.wr (by have := HLEN.out; simp; omega) rfl)
          have x0 := (HX.get 0 _ rfl).1
          have x1 := (HX.get 1 _ rfl).1
          have HS1 := hide HS1
          clear HS hmore hL HX
          go_wp2_with fail
          refine F4.out.mono ?_
          rintro e w5 ⟨u5, rfl, a1, b1, c1⟩
          have HS5 := hide (HS1.out.next a1 b1 c1)
          rw [← EL.out] at HS5
          clear a1 b1 c1 F4 HS1 k0 k1 x0 x1 hw2
          go_wp2_with fail
          go_roundw
          case rel => exact ⟨k + 1, u5, by go_num, hlt, HS5.out⟩
          case measure => simp [intOf]; omega
        · have hg1 : decide ((k : Int) < (ds.length : Int)) = false := by simp; omega
          have hkk : k = ds.length := by omega
          rw [hkk, List.take_length, E4.out] at HS
          clear hkk
          go_wp2_with fail
          go_end0
          exact ⟨_, rfl, HS.out⟩
end Go.Proofs.YtgpmghdoofcpaaaGreat
