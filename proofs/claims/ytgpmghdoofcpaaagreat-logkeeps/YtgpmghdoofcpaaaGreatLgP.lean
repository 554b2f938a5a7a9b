import Derived.Test.YtgpmghdoofcpaaaGreatG42
namespace Go.Proofs.YtgpmghdoofcpaaaGreat.Lg
open Go.RowKit Go.QK
open Dv (hide bnext alloc_below)
set_option maxRecDepth 100000

/-! Lists that may be a checkpoint's, from their front on. -/
def leastL : Int → List LiveM → Int
  | m, [] => m
  | _, l :: ls => leastL (l.tx + 1) ls
def leastD : Int → List DirtyM → Int
  | m, [] => m
  | _, l :: ls => leastD (l.page + 1) ls
theorem liveB_snoc (next lsn : Int) (x : LiveM) : (ls : List LiveM) → (m : Int) → liveB next lsn m (ls ++ [x]) = (liveB next lsn m ls && (fromB (leastL m ls) x.tx (next - 1) && recB x.last lsn && !(x.com && x.und)))
  | [], m => by simp [liveB, leastL]
  | l :: ls, m => by simp only [List.cons_append, liveB, liveB_snoc next lsn x ls, leastL, Bool.and_assoc]
theorem dirtyB_snoc (lsn : Int) (x : DirtyM) : (ls : List DirtyM) → (m : Int) → dirtyB lsn m (ls ++ [x]) = (dirtyB lsn m ls && (fromB (leastD m ls) x.page 63 && recB x.since lsn))
  | [], m => by simp [dirtyB, leastD]
  | l :: ls, m => by simp only [List.cons_append, dirtyB, dirtyB_snoc lsn x ls, leastD, Bool.and_assoc]
theorem leastL_snoc (x : LiveM) : (ls : List LiveM) → (m : Int) → leastL m (ls ++ [x]) = x.tx + 1
  | [], _ => rfl
  | l :: ls, m => by simp only [List.cons_append, leastL, leastL_snoc x ls]
theorem leastD_snoc (x : DirtyM) : (ls : List DirtyM) → (m : Int) → leastD m (ls ++ [x]) = x.page + 1
  | [], _ => rfl
  | l :: ls, m => by simp only [List.cons_append, leastD, leastD_snoc x ls]
theorem recB_of {n lsn : Int} (h1 : 1 ≤ n) (h2 : n ≤ lsn - 1) (h3 : lsn ≤ 2147483647) : recB n lsn = true := by
  unfold recB fromB aheadB
  simp
  omega

/-- What points holds: its argument, the result's block, its own block, the two rows. -/
structure QB (w : World) (pv : List Value) (wi : World) (nx : Int) (vL : Value) (ls : List LiveM) (vD : Value) (ds : List DirtyM) : Prop where
  bel : Below w.heap.size w wi
  c2 : Cells wi w.heap.size pv
  c4 : Cells wi (w.heap.size + 1) [.slice none 0 0, .slice none 0 0, .int .i64 0]
  c5 : Cells wi (w.heap.size + 1 + 1) [vL, vD, .int .i64 nx]
  rl : LRow wi w.heap.size vL ls
  rd : DRow wi w.heap.size vD ds
  lne : ∀ g, vL.ownBlock = some g → w.heap.size + 1 + 1 < g
  dne : ∀ g, vD.ownBlock = some g → w.heap.size + 1 + 1 < g
  ld : ∀ g, vL.ownBlock = some g → vD.ownBlock ≠ some g
section
variable {w wi w' : World} {pv : List Value} {nx : Int} {vL vD : Value} {ls : List LiveM} {ds : List DirtyM}
theorem QB.below (h : QB w pv wi nx vL ls vD ds) (b : Below wi.heap.size wi w') : QB w pv w' nx vL ls vD ds :=
  { h with bel := bnext h.bel b (Nat.le_refl _), c2 := h.c2.below b, c4 := h.c4.below b, c5 := h.c5.below b, rl := GRow.below h.rl b, rd := GRow.below h.rd b }
theorem QB.putL (h : QB w pv wi nx vL ls vD ds) {v' : Value} {ls' : List LiveM} (hr : LRow w' w.heap.size v' ls') (hg : wi.grownBy w' vL.ownBlock) (hv : v'.ownBlock = vL.ownBlock ∨ v'.ownBlock = some wi.heap.size) :
    QB w pv (w'.setCell ⟨w.heap.size + 1 + 1, 0, none⟩ v') nx v' ls' vD ds := by
  have hk := (Keep.refl (fun k => vL.ownBlock = some k) wi).grown hg (fun _ q _ => q)
  have hlt := h.c5.1
  have hne : ∀ g, v'.ownBlock = some g → w.heap.size + 1 + 1 < g := by
    intro g q
    rcases hv with e | e
    · exact h.lne g (e ▸ q)
    · rw [e] at q; cases q; omega
  have k3 : Keep (fun k => k = w.heap.size + 1 + 1) w' (w'.setCell ⟨w.heap.size + 1 + 1, 0, none⟩ v') := (Keep.refl (fun k => k = w.heap.size + 1 + 1) w').setCell (fun _ => rfl) v'
  refine ⟨?_, ?_, ?_, ?_, ?_, ?_, hne, h.dne, ?_⟩
  · exact (h.bel.trans (hk.below h.bel.size (fun k hk q => by have := h.lne k q; omega))).trans (k3.below (by have := h.bel.size; have := hk.size; omega) (fun k hk q => by omega))
  · exact (h.c2.keep hk (fun q => by have := h.lne _ q; omega)).keep k3 (by omega)
  · exact (h.c4.keep hk (fun q => by have := h.lne _ q; omega)).keep k3 (by omega)
  · exact (h.c5.keep hk (fun q => by have := h.lne _ q; omega)).stored (j := 0) (by simp) v'
  · exact GRow.keep hr k3 (fun g q e => by have := hne g q; omega)
  · exact GRow.keep (GRow.keep h.rd hk (fun g q e => h.ld g e q)) k3 (fun g q e => by have := h.dne g q; omega)
  · intro g q e
    rcases hv with v | v
    · exact h.ld g (v ▸ q) e
    · rw [v] at q
      cases q
      have := (World.ownsRow.lt h.rd _ e).2
      omega
theorem QB.putD (h : QB w pv wi nx vL ls vD ds) {v' : Value} {ds' : List DirtyM} (hr : DRow w' w.heap.size v' ds') (hg : wi.grownBy w' vD.ownBlock) (hv : v'.ownBlock = vD.ownBlock ∨ v'.ownBlock = some wi.heap.size) :
    QB w pv (w'.setCell ⟨w.heap.size + 1 + 1, 1, none⟩ v') nx vL ls v' ds' := by
  have hk := (Keep.refl (fun k => vD.ownBlock = some k) wi).grown hg (fun _ q _ => q)
  have hlt := h.c5.1
  have hne : ∀ g, v'.ownBlock = some g → w.heap.size + 1 + 1 < g := by
    intro g q
    rcases hv with e | e
    · exact h.dne g (e ▸ q)
    · rw [e] at q; cases q; omega
  have k3 : Keep (fun k => k = w.heap.size + 1 + 1) w' (w'.setCell ⟨w.heap.size + 1 + 1, 1, none⟩ v') := (Keep.refl (fun k => k = w.heap.size + 1 + 1) w').setCell (fun _ => rfl) v'
  refine ⟨?_, ?_, ?_, ?_, ?_, ?_, h.lne, hne, ?_⟩
  · exact (h.bel.trans (hk.below h.bel.size (fun k hk q => by have := h.dne k q; omega))).trans (k3.below (by have := h.bel.size; have := hk.size; omega) (fun k hk q => by omega))
  · exact (h.c2.keep hk (fun q => by have := h.dne _ q; omega)).keep k3 (by omega)
  · exact (h.c4.keep hk (fun q => by have := h.dne _ q; omega)).keep k3 (by omega)
  · exact (h.c5.keep hk (fun q => by have := h.dne _ q; omega)).stored (j := 1) (by simp) v'
  · exact GRow.keep (GRow.keep h.rl hk (fun g q e => h.ld g q e)) k3 (fun g q e => by have := h.lne g q; omega)
  · exact GRow.keep hr k3 (fun g q e => by have := hne g q; omega)
  · intro g q e
    rcases hv with v | v
    · exact h.ld g q (v ▸ e)
    · rw [v] at e
      cases e
      have := (World.ownsRow.lt h.rl _ q).2
      omega
theorem QB.next (h : QB w pv wi nx vL ls vD ds) (n : Int) : QB w pv (wi.setCell ⟨w.heap.size + 1 + 1, 2, none⟩ (.int .i64 n)) n vL ls vD ds := by
  have k3 : Keep (fun k => k = w.heap.size + 1 + 1) wi (wi.setCell ⟨w.heap.size + 1 + 1, 2, none⟩ (.int .i64 n)) := (Keep.refl (fun k => k = w.heap.size + 1 + 1) wi).setCell (fun _ => rfl) _
  refine ⟨h.bel.trans (k3.below h.bel.size (fun k hk q => by omega)), h.c2.keep k3 (by omega), h.c4.keep k3 (by omega), h.c5.stored (j := 2) (by simp) _, GRow.keep h.rl k3 (fun g q e => by have := h.lne g q; omega), GRow.keep h.rd k3 (fun g q e => by have := h.dne g q; omega), h.lne, h.dne, h.ld⟩
end

set_option maxHeartbeats 8000000 in
theorem points_any (ls0 : List LiveM) (ds0 : List DirtyM) (next : Int) (lsn : Nat) (la da : Option Addr) (lc dc : Nat) (w : World) (hl : Lies w la (liveCs ls0)) (hd : Lies w da (dirtyCs ds0)) (h1 : 1 ≤ lsn) (h2 : lsn ≤ 100000) :
    Calls Tryz.prog 47 #[.agg #[.slice la ls0.length lc, .slice da ds0.length dc, .int .i64 next], .int .i64 (lsn : Int)] w fun e w' => ∃ vL vD nx ls ds, e = .returned (.agg #[vL, vD, .int .i64 nx]) ∧ LRow w' w.heap.size vL ls ∧ DRow w' w.heap.size vD ds ∧ (∀ g, vL.ownBlock = some g → vD.ownBlock ≠ some g) ∧ pointsB true ls ds nx lsn = true ∧ Below w.heap.size w w' := by
  have KN := fun w => brought_lit next 1048576 1048576 rfl w (by decide) (by decide)
  have HL := hide hl
  have HD := hide hd
  have B0 : Below w.heap.size w ((w.alloc (.cells #[.slice la ls0.length lc, .slice da ds0.length dc, .int .i64 next] 42)).alloc (.cells #[.slice none 0 0, .slice none 0 0, .int .i64 0] 42)) := ((Below.refl _ w).alloc (Nat.le_refl _) _).alloc (by simp) _
  clear hl hd
  go_enter Tryz.func47, Tryz.ntmps47
  go_wp2_with fail
  refine (KN _).mono ?_
  rintro e w' ⟨n0, rfl, hn0, hw⟩
  subst hw
  obtain ⟨nx, hnx⟩ : ∃ nx : Int, 1 + (n0 : Int) = nx := ⟨_, rfl⟩
  have Q0 : QB w [.slice la ls0.length lc, .slice da ds0.length dc, .int .i64 next] (((w.alloc (.cells #[.slice la ls0.length lc, .slice da ds0.length dc, .int .i64 next] 42)).alloc (.cells #[.slice none 0 0, .slice none 0 0, .int .i64 0] 42)).alloc (.cells #[.slice none 0 0, .slice none 0 0, .int .i64 nx] 42)) nx (.slice none 0 0) [] (.slice none 0 0) [] := by
    refine ⟨bnext B0 (alloc_below _ _) (Nat.le_refl _), ?_, ?_, ?_, World.ownsRow_nil _ _ _ _, World.ownsRow_nil _ _ _ _, nofun, nofun, nofun⟩
    · exact ((Cells.new w #[.slice la ls0.length lc, .slice da ds0.length dc, .int .i64 next] 42).below (alloc_below _ _)).below (alloc_below _ _)
    · have := (Cells.new (w.alloc (.cells #[.slice la ls0.length lc, .slice da ds0.length dc, .int .i64 next] 42)) #[.slice none 0 0, .slice none 0 0, .int .i64 0] 42).below (alloc_below _ (.cells #[.slice none 0 0, .slice none 0 0, .int .i64 nx] 42))
      rw [World.size_alloc] at this
      exact this
    · have := Cells.new ((w.alloc (.cells #[.slice la ls0.length lc, .slice da ds0.length dc, .int .i64 next] 42)).alloc (.cells #[.slice none 0 0, .slice none 0 0, .int .i64 0] 42)) #[.slice none 0 0, .slice none 0 0, .int .i64 nx] 42
      rw [World.size_alloc, World.size_alloc] at this
      exact this
  have hnx2 : 1 ≤ nx ∧ nx ≤ 1048576 := by omega
  have HQ0 := hide Q0
  go_wp2_with fail
  clear Q0 hnx B0 hn0
  generalize ((w.alloc (.cells #[.slice la ls0.length lc, .slice da ds0.length dc, .int .i64 next] 42)).alloc (.cells #[.slice none 0 0, .slice none 0 0, .int .i64 0] 42)).alloc (.cells #[.slice none 0 0, .slice none 0 0, .int .i64 nx] 42) = w1 at *
  go_loopw [6, 7] (fun s i wr => ∃ (k : Nat) (tx : Int) (vL : Value) (ls : List LiveM), s = .int .i64 tx ∧ i = .int .i64 (k : Int) ∧ ls.length ≤ k ∧ k ≤ 32 ∧ k ≤ ls0.length ∧ (0 ≤ tx ∧ tx ≤ 5 * (k : Int)) ∧ leastL 1 ls ≤ tx + 1 ∧ liveB nx lsn 1 ls = true ∧ QB w [.slice la ls0.length lc, .slice da ds0.length dc, .int .i64 next] wr nx vL ls (.slice none 0 0) []) (fun _ i _ => 33 - (intOf i).toNat)
  case atStart => exact ⟨0, 0, .slice none 0 0, [], rfl, rfl, by simp, by omega, Nat.zero_le _, by omega, by simp [leastL], rfl, HQ0.out⟩
  case round =>
    obtain ⟨k, tx, vL, ls, rfl, rfl, hlen, hk32, hk0, htx, hleast, hok, hq⟩ := hrel
    have HOK := hide hok
    have HLE := hide hleast
    have HQ := hide hq
    obtain ⟨aL, cL, eL, _⟩ := GRow.lies hq.rl
    subst eL
    have p0 := (HQ.out.c2.get 0 _ rfl).1
    clear hok hleast hq HQ0
    clear p0
    go_upto_region 4 with fail
    go_cut [28] from 16 to 67 (fun s w' => (∃ q : Bool, s = .bool q ∧ (q = true → k < ls0.length ∧ k < 32 ∧ 1 < lsn)) ∧ w' = wr)
    case first =>
      have p0 := (HQ.out.c2.get 0 _ rfl).1
      by_cases h1' : k < ls0.length
      · have d1 : decide ((k : Int) < (ls0.length : Int)) = true := by simp; omega
        by_cases h2' : k < 32
        · have d2 : decide ((k : Int) < 32) = true := by simp; omega
          go_wp2_with fail
          go_meet
          exact ⟨⟨_, rfl, fun q => ⟨h1', h2', by simp at q; omega⟩⟩, rfl⟩
        · have d2 : decide ((k : Int) < 32) = false := by simp; omega
          go_wp2_with fail
          go_meet
          exact ⟨⟨_, rfl, fun q => by cases q⟩, rfl⟩
      · have d1 : decide ((k : Int) < (ls0.length : Int)) = false := by simp; omega
        go_wp2_with fail
        go_meet
        exact ⟨⟨_, rfl, fun q => by cases q⟩, rfl⟩
    case rest =>
      obtain ⟨⟨q, hs28, hqq⟩, hwc⟩ := hcut
      have hwc := hwc.symm
      subst hwc
      rw [hs28]
      clear hs28
      cases q with
      | true =>
        obtain ⟨hlt1, hlt2, hlt3⟩ := hqq rfl
        · have p0 := (HQ.out.c2.get 0 _ rfl).1
          obtain ⟨b, off, ea, hbl, yy0, yy1, yy2, yy3⟩ := HL.out.liveAt k hlt1
          subst ea
          have v0 := (HQ.out.bel.cell (p := ⟨b, off + k * 4, none⟩) hbl).trans yy0
          have v1 := (HQ.out.bel.cell (p := ⟨b, off + k * 4 + 1, none⟩) hbl).trans yy1
          have v2 := (HQ.out.bel.cell (p := ⟨b, off + k * 4 + 2, none⟩) hbl).trans yy2
          have v3 := (HQ.out.bel.cell (p := ⟨b, off + k * 4 + 3, none⟩) hbl).trans yy3
          clear yy0 yy1 yy2 yy3
          generalize ls0[k].tx = t0 at *
          generalize ls0[k].last = t1 at *
          generalize ls0[k].com = t2 at *
          generalize ls0[k].und = t3 at *
          have XB0 := Cells.new wr #[.int .i64 t0, .int .i64 t1, .bool t2, .bool t3] 55
          have Q1 := hide (HQ.out.below (alloc_below wr (.cells #[.int .i64 t0, .int .i64 t1, .bool t2, .bool t3] 55)))
          have hbz := HQ.out.bel.size
          have hc5 := HQ.out.c5.1
          have NXC := hide (show w.heap.size + 1 + 1 < wr.heap.size from hc5)
          have NXB := hide (show ¬ (Value.slice aL ls.length cL).ownBlock = some wr.heap.size from fun q => by have := (World.ownsRow.lt HQ.out.rl _ q).2; omega)
          have XB := hide XB0
          obtain ⟨x0, -⟩ := XB0.get 0 _ rfl
          go_wp2_with fail
          refine (brought_lit t0 5 5 rfl _ (by decide) (by decide)).mono ?_
          rintro e w' ⟨y5, rfl, hy5, hw⟩
          subst hw
          obtain ⟨tx', htx'⟩ : ∃ tx', tx + 1 + (y5 : Int) = tx' := ⟨_, rfl⟩
          have htx2 : tx + 1 ≤ tx' ∧ tx' ≤ tx + 5 := by omega
          have x5 := (Q1.out.c5.get 2 _ rfl).1
          clear v0 v1 v2 v3 p0 x0 XB0 HQ
          generalize wr.alloc (.cells #[.int .i64 t0, .int .i64 t1, .bool t2, .bool t3] 55) = w3 at *
          generalize wr.heap.size = bx at *
          by_cases hnx3 : tx' < nx
          · have hg4 : decide (tx' < nx) = true := by simpa using hnx3
            have FX := hide (show w3.cell? ⟨bx, 0, none⟩ = some (.int .i64 t0) ∧ w3.cell? ⟨bx, 1, none⟩ = some (.int .i64 t1) ∧ w3.cell? ⟨bx, 2, none⟩ = some (.bool t2) ∧ w3.cell? ⟨bx, 3, none⟩ = some (.bool t3) from ⟨(XB.out.get 0 _ rfl).1, (XB.out.get 1 _ rfl).1, (XB.out.get 2 _ rfl).1, (XB.out.get 3 _ rfl).1⟩)
            have QQ := hide (Q1.out.below (Below.refl _ _).drew)
            have XB := hide (XB.out.drew)
            go_upto_region 9 with fail
            clear htx' x5 Q1
            refine wp_region_held_drew (S := fun wq => wq.cell? ⟨bx, 0, none⟩ = some (.int .i64 t0) ∧ wq.cell? ⟨bx, 1, none⟩ = some (.int .i64 t1) ∧ wq.cell? ⟨bx, 2, none⟩ = some (.bool t2) ∧ wq.cell? ⟨bx, 3, none⟩ = some (.bool t3)) (by kernel_rfl) FX.out (fun hS => ?_)
            generalize w3.drew = w4 at *
            clear FX
            obtain ⟨m1, hm1⟩ : ∃ m1 : Nat, lsn = m1 + 1 := ⟨lsn - 1, by omega⟩
            have e52 : IntKind.i64.wrap ((lsn : Int) - 1) = (m1 : Int) := by rw [IntKind.wrap_i64]; omega
            have hm12 : 1 ≤ m1 ∧ m1 ≤ 100000 := by omega
            have HM1 := hide hm1
            clear hm1
            cases t3
            · refine take_at 0 (some 46) (v := ?_) rfl rfl (by kernel_rfl) (by kernel_rfl) (by kernel_rfl) (fun _ _ _ h => h) ⟨by rfl, ?_⟩ hS ?_
              rotate_left
              · intro wq hSw; go_simp; try rfl
              simp only [Act.put, List.setIfInBounds_toArray, List.set_cons_zero, List.set_cons_succ]
              refine take_at 2 (some 48) (v := ?_) rfl rfl (by kernel_rfl) (by kernel_rfl) (by kernel_rfl) (fun _ _ _ h => h) ⟨by rfl, ?_⟩ hS ?_
              rotate_left
              · intro wq hSw; go_simp; try rfl
              simp only [Act.put, List.setIfInBounds_toArray, List.set_cons_zero, List.set_cons_succ]
              refine take_at 3 (some 49) (v := ?_) rfl rfl (by kernel_rfl) (by kernel_rfl) (by kernel_rfl) (fun _ _ _ h => h) ⟨by rfl, ?_⟩ hS ?_
              rotate_left
              · intro wq hSw; go_simp; try rfl
              simp only [Act.put, List.setIfInBounds_toArray, List.set_cons_zero, List.set_cons_succ]
              refine take_at 4 (some 50) (v := ?_) rfl rfl (by kernel_rfl) (by kernel_rfl) (by kernel_rfl) (fun _ _ _ h => h) ⟨by rfl, ?_⟩ hS ?_
              rotate_left
              · intro wq hSw; obtain ⟨y0, y1, y2, y3⟩ := hSw; go_simp; try rfl
              simp only [Act.put, List.setIfInBounds_toArray, List.set_cons_zero, List.set_cons_succ]
              refine take_at 5 (some 51) (v := ?_) rfl rfl (by kernel_rfl) (by kernel_rfl) (by kernel_rfl) (fun _ _ _ h => h) ⟨by rfl, ?_⟩ hS ?_
              rotate_left
              · intro wq hSw; go_simp; try rfl
              simp only [Act.put, List.setIfInBounds_toArray, List.set_cons_zero, List.set_cons_succ]
              refine take_at 6 (some 52) (v := ?_) rfl rfl (by kernel_rfl) (by kernel_rfl) (by kernel_rfl) (fun _ _ _ h => h) ⟨by rfl, ?_⟩ hS ?_
              rotate_left
              · intro wq hSw; go_simp; try rfl
              simp only [Act.put, List.setIfInBounds_toArray, List.set_cons_zero, List.set_cons_succ]
              refine take_at 9 (some 55) (v := ?_) rfl rfl (by kernel_rfl) (by kernel_rfl) (by kernel_rfl) (fun _ _ _ h => h) ⟨by rfl, ?_⟩ hS ?_
              rotate_left
              · intro wq hSw; go_simp; try rfl
              simp only [Act.put, List.setIfInBounds_toArray, List.set_cons_zero, List.set_cons_succ]
              refine take_at 10 (some 56) (v := ?_) rfl rfl (by kernel_rfl) (by kernel_rfl) (by kernel_rfl) (fun _ _ _ h => h) ⟨by rfl, ?_⟩ hS ?_
              rotate_left
              · intro wq hSw; obtain ⟨y0, y1, y2, y3⟩ := hSw; go_simp; try rfl
              simp only [Act.put, List.setIfInBounds_toArray, List.set_cons_zero, List.set_cons_succ]
              refine take_at 11 (some 57) (v := ?_) rfl rfl (by kernel_rfl) (by kernel_rfl) (by kernel_rfl) (fun _ _ _ h => h) ⟨by rfl, ?_⟩ hS ?_
              rotate_left
              · intro wq hSw; go_simp; try rfl
              simp only [Act.put, List.setIfInBounds_toArray, List.set_cons_zero, List.set_cons_succ]
              refine take_at 12 (some 58) (v := ?_) rfl rfl (by kernel_rfl) (by kernel_rfl) (by kernel_rfl) (fun _ _ _ h => h) ⟨by rfl, ?_⟩ hS ?_
              rotate_left
              · intro wq hSw; obtain ⟨y0, y1, y2, y3⟩ := hSw; go_simp; try rfl
              simp only [Act.put, List.setIfInBounds_toArray, List.set_cons_zero, List.set_cons_succ]
              refine wpAnyH_ready (rs := [1, 7]) (by kernel_rfl) (by simp) ?_
              refine AllReadyH.cons rfl (fun K hK => ?_) (AllReadyH.cons rfl (fun K hK => ?_) AllReadyH.nil)
              · have cl := (QQ.out.c5.get 0 _ rfl).1
                go_simp
                go_wp2_with fail
                refine hK.out _ _ hS (fun hS => ?_)
                clear hK K
                (try simp only [Act.put, List.setIfInBounds_toArray, List.set_cons_zero, List.set_cons_succ])
                clear cl
                refine wpAnyH_ready (rs := [7]) (by kernel_rfl) (by simp) ?_
                refine AllReadyH.cons rfl (fun K hK => ?_) AllReadyH.nil
                go_simp
                go_wp2_with fail
                refine (brought_lit t1 m1 (m1 : Int) rfl _ (by omega) (by omega)).mono ?_
                rintro e w' ⟨y, rfl, hy, hw⟩
                obtain rfl : w4 = w' := hw.symm
                have e8 : IntKind.i64.wrap (1 + (y : Int)) = 1 + (y : Int) := by rw [IntKind.wrap_i64]; omega
                go_wp2_with fail
                refine hK.out _ _ hS (fun hS => ?_)
                clear hK K
                (try simp only [Act.put, List.setIfInBounds_toArray, List.set_cons_zero, List.set_cons_succ])
                refine take_at 8 (some 54) (v := ?_) rfl rfl (by kernel_rfl) (by kernel_rfl) (by kernel_rfl) (fun _ _ _ h => h) ⟨by rfl, ?_⟩ hS ?_
                rotate_left
                · intro wq hSw; go_simp; try rfl
                simp only [Act.put, List.setIfInBounds_toArray, List.set_cons_zero, List.set_cons_succ]
                refine take_at 13 (some 59) (v := ?_) rfl rfl (by kernel_rfl) (by kernel_rfl) (by kernel_rfl) (fun _ _ _ h => h) ⟨by rfl, ?_⟩ hS ?_
                rotate_left
                · intro wq hSw; go_simp; try rfl
                simp only [Act.put, List.setIfInBounds_toArray, List.set_cons_zero, List.set_cons_succ]
                refine pass_at 14 (some 60) rfl rfl (by kernel_rfl) (by kernel_rfl) (by kernel_rfl) (fun _ _ _ h => h) (by rfl) hS ?_
                simp only [Act.put, List.setIfInBounds_toArray, List.set_cons_zero, List.set_cons_succ]
                refine pass_at 15 (some 61) rfl rfl (by kernel_rfl) (by kernel_rfl) (by kernel_rfl) (fun _ _ _ h => h) (by rfl) hS ?_
                simp only [Act.put, List.setIfInBounds_toArray, List.set_cons_zero, List.set_cons_succ]
                refine pass_at 16 (some 62) rfl rfl (by kernel_rfl) (by kernel_rfl) (by kernel_rfl) (fun _ _ _ h => h) (by rfl) hS ?_
                simp only [Act.put, List.setIfInBounds_toArray, List.set_cons_zero, List.set_cons_succ]
                refine take_at 17 (some 63) (v := ?_) rfl rfl (by kernel_rfl) (by kernel_rfl) (by kernel_rfl) (fun _ _ _ h => h) ⟨by rfl, ?_⟩ hS ?_
                rotate_left
                · intro wq hSw; go_simp; try rfl
                simp only [Act.put, List.setIfInBounds_toArray, List.set_cons_zero, List.set_cons_succ]
                refine take_at 18 (some 64) (v := ?_) rfl rfl (by kernel_rfl) (by kernel_rfl) (by kernel_rfl) (fun _ _ _ h => h) ⟨by rfl, ?_⟩ hS ?_
                rotate_left
                · intro wq hSw; go_simp; try rfl
                simp only [Act.put, List.setIfInBounds_toArray, List.set_cons_zero, List.set_cons_succ]
                refine wpAnyH_ready (rs := [19]) (by kernel_rfl) (by simp) ?_
                refine AllReadyH.cons rfl (fun K hK => ?_) AllReadyH.nil
                have LI := hide (lies_lit w4 #[.int .i64 tx', .int .i64 (1 + (y : Int)), .bool t2, .bool false] 55)
                have Q5 := hide (QQ.out.below (alloc_below w4 (.cells #[.int .i64 tx', .int .i64 (1 + (y : Int)), .bool t2, .bool false] 55)))
                have XB5 := hide (XB.out.below (alloc_below w4 (.cells #[.int .i64 tx', .int .i64 (1 + (y : Int)), .bool t2, .bool false] 55)))
                go_simp
                (try go_wp2_with fail)
                generalize w4.alloc (.cells #[.int .i64 tx', .int .i64 (1 + (y : Int)), .bool t2, .bool false] 55) = w5 at *
                refine hK.out _ _ ⟨(XB5.out.get 0 _ rfl).1, (XB5.out.get 1 _ rfl).1, (XB5.out.get 2 _ rfl).1, (XB5.out.get 3 _ rfl).1⟩ (fun hS => ?_)
                clear hK K
                (try simp only [Act.put, List.setIfInBounds_toArray, List.set_cons_zero, List.set_cons_succ])
                obtain ⟨v8, w8, hrun, hr8, hg8, hv8⟩ := run_pushL 39 w5 w.heap.size _ ls Q5.out.rl ⟨w4.heap.size, 0, none⟩ ⟨tx', 1 + (y : Int), t2, false⟩ LI.out (by omega) Q5.out.bel.size
                have Q6 := Q5.out.putL hr8 hg8 hv8
                obtain ⟨a8, c8, ev8, _⟩ := GRow.lies hr8
                have hle : (ls ++ [(⟨tx', 1 + (y : Int), t2, false⟩ : LiveM)]).length = ls.length + 1 := by simp
                rw [hle] at ev8
                subst ev8
                have kg := (Keep.refl (fun k => _ = some k) _).grown hg8 (fun _ q _ => q)
                have hc8 := ((Q5.out.c5.keep kg (fun q => by have := Q5.out.lne _ q; omega)).get 0 _ rfl)
                obtain ⟨c80, f80⟩ := hc8
                have XB8 := hide (XB5.out.keep kg (fun q => NXB.out q))
                have HRUN := hide hrun
                have Q6 := hide Q6
                have LE8 := hide (leastL_snoc ⟨tx', 1 + (y : Int), t2, false⟩ ls 1)
                have OK8 := hide (show liveB nx lsn 1 (ls ++ [⟨tx', 1 + (y : Int), t2, false⟩]) = true by rw [liveB_snoc, HOK.out, recB_of (n := 1 + (y : Int)) (lsn := (lsn : Int)) (by omega) (by have := HM1.out; omega) (by omega)]; unfold fromB; have := HLE.out; cases t2 <;> simp <;> omega)
                clear hrun hr8 hg8 hv8 Q5 LI kg
                refine wpAnyH_ready (rs := [20]) (by kernel_rfl) (by simp) ?_
                refine AllReadyH.cons rfl (fun K hK => ?_) AllReadyH.nil
                refine wp_run 66 (.tmp 47) (.tmp 65) rfl rfl rfl rfl rfl HRUN.out ?_
                refine hK.out _ _ ⟨(XB8.out.get 0 _ rfl).1, (XB8.out.get 1 _ rfl).1, (XB8.out.get 2 _ rfl).1, (XB8.out.get 3 _ rfl).1⟩ (fun hS => ?_)
                clear hK K
                (try simp only [Act.put, List.setIfInBounds_toArray, List.set_cons_zero, List.set_cons_succ])
                clear HRUN
                refine take_at 21 (some 67) (v := ?_) rfl rfl (by kernel_rfl) (by kernel_rfl) (by kernel_rfl) (fun _ _ _ h => h) ⟨by rfl, ?_⟩ hS ?_
                rotate_left
                · intro wq hSw; go_simp; try rfl
                simp only [Act.put, List.setIfInBounds_toArray, List.set_cons_zero, List.set_cons_succ]
                refine wpAnyH_ready (rs := [22]) (by kernel_rfl) (by simp) ?_
                refine AllReadyH.cons rfl (fun K hK => ?_) AllReadyH.nil
                go_simp
                go_wp2_with fail
                have XB9 := hide (XB8.out.other (g := w.heap.size + 1 + 1) (j := 0) (y := .slice a8 (ls.length + 1) c8) (by have := NXC.out; omega))
                refine hK.out _ _ ⟨(XB9.out.get 0 _ rfl).1, (XB9.out.get 1 _ rfl).1, (XB9.out.get 2 _ rfl).1, (XB9.out.get 3 _ rfl).1⟩ (fun hS => ?_)
                clear hK K
                (try simp only [Act.put, List.setIfInBounds_toArray, List.set_cons_zero, List.set_cons_succ])
                refine wpAnyH_done (by kernel_rfl) ?_ _
                clear c80 f80
                go_wp2_with fail
                go_roundw
                case rel => exact ⟨k + 1, tx', _, ls ++ [⟨tx', 1 + (y : Int), t2, false⟩], by go_num, by go_num, by simp; omega, by omega, by omega, by omega, by rw [LE8.out]; exact Int.le_refl _, OK8.out, Q6.out⟩
                case measure => simp [intOf]; omega
              · go_simp
                go_wp2_with fail
                refine (brought_lit t1 m1 (m1 : Int) rfl _ (by omega) (by omega)).mono ?_
                rintro e w' ⟨y, rfl, hy, hw⟩
                obtain rfl : w4 = w' := hw.symm
                have e8 : IntKind.i64.wrap (1 + (y : Int)) = 1 + (y : Int) := by rw [IntKind.wrap_i64]; omega
                go_wp2_with fail
                refine hK.out _ _ hS (fun hS => ?_)
                clear hK K
                (try simp only [Act.put, List.setIfInBounds_toArray, List.set_cons_zero, List.set_cons_succ])
                refine take_at 8 (some 54) (v := ?_) rfl rfl (by kernel_rfl) (by kernel_rfl) (by kernel_rfl) (fun _ _ _ h => h) ⟨by rfl, ?_⟩ hS ?_
                rotate_left
                · intro wq hSw; go_simp; try rfl
                simp only [Act.put, List.setIfInBounds_toArray, List.set_cons_zero, List.set_cons_succ]
                refine take_at 13 (some 59) (v := ?_) rfl rfl (by kernel_rfl) (by kernel_rfl) (by kernel_rfl) (fun _ _ _ h => h) ⟨by rfl, ?_⟩ hS ?_
                rotate_left
                · intro wq hSw; go_simp; try rfl
                simp only [Act.put, List.setIfInBounds_toArray, List.set_cons_zero, List.set_cons_succ]
                refine pass_at 14 (some 60) rfl rfl (by kernel_rfl) (by kernel_rfl) (by kernel_rfl) (fun _ _ _ h => h) (by rfl) hS ?_
                simp only [Act.put, List.setIfInBounds_toArray, List.set_cons_zero, List.set_cons_succ]
                refine pass_at 15 (some 61) rfl rfl (by kernel_rfl) (by kernel_rfl) (by kernel_rfl) (fun _ _ _ h => h) (by rfl) hS ?_
                simp only [Act.put, List.setIfInBounds_toArray, List.set_cons_zero, List.set_cons_succ]
                refine pass_at 16 (some 62) rfl rfl (by kernel_rfl) (by kernel_rfl) (by kernel_rfl) (fun _ _ _ h => h) (by rfl) hS ?_
                simp only [Act.put, List.setIfInBounds_toArray, List.set_cons_zero, List.set_cons_succ]
                refine take_at 17 (some 63) (v := ?_) rfl rfl (by kernel_rfl) (by kernel_rfl) (by kernel_rfl) (fun _ _ _ h => h) ⟨by rfl, ?_⟩ hS ?_
                rotate_left
                · intro wq hSw; go_simp; try rfl
                simp only [Act.put, List.setIfInBounds_toArray, List.set_cons_zero, List.set_cons_succ]
                refine take_at 18 (some 64) (v := ?_) rfl rfl (by kernel_rfl) (by kernel_rfl) (by kernel_rfl) (fun _ _ _ h => h) ⟨by rfl, ?_⟩ hS ?_
                rotate_left
                · intro wq hSw; go_simp; try rfl
                simp only [Act.put, List.setIfInBounds_toArray, List.set_cons_zero, List.set_cons_succ]
                refine wpAnyH_ready (rs := [1, 19]) (by kernel_rfl) (by simp) ?_
                refine AllReadyH.cons rfl (fun K hK => ?_) (AllReadyH.cons rfl (fun K hK => ?_) AllReadyH.nil)
                · have cl := (QQ.out.c5.get 0 _ rfl).1
                  go_simp
                  go_wp2_with fail
                  refine hK.out _ _ hS (fun hS => ?_)
                  clear hK K
                  (try simp only [Act.put, List.setIfInBounds_toArray, List.set_cons_zero, List.set_cons_succ])
                  clear cl
                  refine wpAnyH_ready (rs := [19]) (by kernel_rfl) (by simp) ?_
                  refine AllReadyH.cons rfl (fun K hK => ?_) AllReadyH.nil
                  have LI := hide (lies_lit w4 #[.int .i64 tx', .int .i64 (1 + (y : Int)), .bool t2, .bool false] 55)
                  have Q5 := hide (QQ.out.below (alloc_below w4 (.cells #[.int .i64 tx', .int .i64 (1 + (y : Int)), .bool t2, .bool false] 55)))
                  have XB5 := hide (XB.out.below (alloc_below w4 (.cells #[.int .i64 tx', .int .i64 (1 + (y : Int)), .bool t2, .bool false] 55)))
                  go_simp
                  (try go_wp2_with fail)
                  generalize w4.alloc (.cells #[.int .i64 tx', .int .i64 (1 + (y : Int)), .bool t2, .bool false] 55) = w5 at *
                  refine hK.out _ _ ⟨(XB5.out.get 0 _ rfl).1, (XB5.out.get 1 _ rfl).1, (XB5.out.get 2 _ rfl).1, (XB5.out.get 3 _ rfl).1⟩ (fun hS => ?_)
                  clear hK K
                  (try simp only [Act.put, List.setIfInBounds_toArray, List.set_cons_zero, List.set_cons_succ])
                  obtain ⟨v8, w8, hrun, hr8, hg8, hv8⟩ := run_pushL 39 w5 w.heap.size _ ls Q5.out.rl ⟨w4.heap.size, 0, none⟩ ⟨tx', 1 + (y : Int), t2, false⟩ LI.out (by omega) Q5.out.bel.size
                  have Q6 := Q5.out.putL hr8 hg8 hv8
                  obtain ⟨a8, c8, ev8, _⟩ := GRow.lies hr8
                  have hle : (ls ++ [(⟨tx', 1 + (y : Int), t2, false⟩ : LiveM)]).length = ls.length + 1 := by simp
                  rw [hle] at ev8
                  subst ev8
                  have kg := (Keep.refl (fun k => _ = some k) _).grown hg8 (fun _ q _ => q)
                  have hc8 := ((Q5.out.c5.keep kg (fun q => by have := Q5.out.lne _ q; omega)).get 0 _ rfl)
                  obtain ⟨c80, f80⟩ := hc8
                  have XB8 := hide (XB5.out.keep kg (fun q => NXB.out q))
                  have HRUN := hide hrun
                  have Q6 := hide Q6
                  have LE8 := hide (leastL_snoc ⟨tx', 1 + (y : Int), t2, false⟩ ls 1)
                  have OK8 := hide (show liveB nx lsn 1 (ls ++ [⟨tx', 1 + (y : Int), t2, false⟩]) = true by rw [liveB_snoc, HOK.out, recB_of (n := 1 + (y : Int)) (lsn := (lsn : Int)) (by omega) (by have := HM1.out; omega) (by omega)]; unfold fromB; have := HLE.out; cases t2 <;> simp <;> omega)
                  clear hrun hr8 hg8 hv8 Q5 LI kg
                  refine wpAnyH_ready (rs := [20]) (by kernel_rfl) (by simp) ?_
                  refine AllReadyH.cons rfl (fun K hK => ?_) AllReadyH.nil
                  refine wp_run 66 (.tmp 47) (.tmp 65) rfl rfl rfl rfl rfl HRUN.out ?_
                  refine hK.out _ _ ⟨(XB8.out.get 0 _ rfl).1, (XB8.out.get 1 _ rfl).1, (XB8.out.get 2 _ rfl).1, (XB8.out.get 3 _ rfl).1⟩ (fun hS => ?_)
                  clear hK K
                  (try simp only [Act.put, List.setIfInBounds_toArray, List.set_cons_zero, List.set_cons_succ])
                  clear HRUN
                  refine take_at 21 (some 67) (v := ?_) rfl rfl (by kernel_rfl) (by kernel_rfl) (by kernel_rfl) (fun _ _ _ h => h) ⟨by rfl, ?_⟩ hS ?_
                  rotate_left
                  · intro wq hSw; go_simp; try rfl
                  simp only [Act.put, List.setIfInBounds_toArray, List.set_cons_zero, List.set_cons_succ]
                  refine wpAnyH_ready (rs := [22]) (by kernel_rfl) (by simp) ?_
                  refine AllReadyH.cons rfl (fun K hK => ?_) AllReadyH.nil
                  go_simp
                  go_wp2_with fail
                  have XB9 := hide (XB8.out.other (g := w.heap.size + 1 + 1) (j := 0) (y := .slice a8 (ls.length + 1) c8) (by have := NXC.out; omega))
                  refine hK.out _ _ ⟨(XB9.out.get 0 _ rfl).1, (XB9.out.get 1 _ rfl).1, (XB9.out.get 2 _ rfl).1, (XB9.out.get 3 _ rfl).1⟩ (fun hS => ?_)
                  clear hK K
                  (try simp only [Act.put, List.setIfInBounds_toArray, List.set_cons_zero, List.set_cons_succ])
                  refine wpAnyH_done (by kernel_rfl) ?_ _
                  clear c80 f80
                  go_wp2_with fail
                  go_roundw
                  case rel => exact ⟨k + 1, tx', _, ls ++ [⟨tx', 1 + (y : Int), t2, false⟩], by go_num, by go_num, by simp; omega, by omega, by omega, by omega, by rw [LE8.out]; exact Int.le_refl _, OK8.out, Q6.out⟩
                  case measure => simp [intOf]; omega
                · have LI := hide (lies_lit w4 #[.int .i64 tx', .int .i64 (1 + (y : Int)), .bool t2, .bool false] 55)
                  have Q5 := hide (QQ.out.below (alloc_below w4 (.cells #[.int .i64 tx', .int .i64 (1 + (y : Int)), .bool t2, .bool false] 55)))
                  have XB5 := hide (XB.out.below (alloc_below w4 (.cells #[.int .i64 tx', .int .i64 (1 + (y : Int)), .bool t2, .bool false] 55)))
                  go_simp
                  (try go_wp2_with fail)
                  generalize w4.alloc (.cells #[.int .i64 tx', .int .i64 (1 + (y : Int)), .bool t2, .bool false] 55) = w5 at *
                  refine hK.out _ _ ⟨(XB5.out.get 0 _ rfl).1, (XB5.out.get 1 _ rfl).1, (XB5.out.get 2 _ rfl).1, (XB5.out.get 3 _ rfl).1⟩ (fun hS => ?_)
                  clear hK K
                  (try simp only [Act.put, List.setIfInBounds_toArray, List.set_cons_zero, List.set_cons_succ])
                  refine wpAnyH_ready (rs := [1]) (by kernel_rfl) (by simp) ?_
                  refine AllReadyH.cons rfl (fun K hK => ?_) AllReadyH.nil
                  have cl := (Q5.out.c5.get 0 _ rfl).1
                  go_simp
                  go_wp2_with fail
                  refine hK.out _ _ hS (fun hS => ?_)
                  clear hK K
                  (try simp only [Act.put, List.setIfInBounds_toArray, List.set_cons_zero, List.set_cons_succ])
                  clear cl
                  obtain ⟨v8, w8, hrun, hr8, hg8, hv8⟩ := run_pushL 39 w5 w.heap.size _ ls Q5.out.rl ⟨w4.heap.size, 0, none⟩ ⟨tx', 1 + (y : Int), t2, false⟩ LI.out (by omega) Q5.out.bel.size
                  have Q6 := Q5.out.putL hr8 hg8 hv8
                  obtain ⟨a8, c8, ev8, _⟩ := GRow.lies hr8
                  have hle : (ls ++ [(⟨tx', 1 + (y : Int), t2, false⟩ : LiveM)]).length = ls.length + 1 := by simp
                  rw [hle] at ev8
                  subst ev8
                  have kg := (Keep.refl (fun k => _ = some k) _).grown hg8 (fun _ q _ => q)
                  have hc8 := ((Q5.out.c5.keep kg (fun q => by have := Q5.out.lne _ q; omega)).get 0 _ rfl)
                  obtain ⟨c80, f80⟩ := hc8
                  have XB8 := hide (XB5.out.keep kg (fun q => NXB.out q))
                  have HRUN := hide hrun
                  have Q6 := hide Q6
                  have LE8 := hide (leastL_snoc ⟨tx', 1 + (y : Int), t2, false⟩ ls 1)
                  have OK8 := hide (show liveB nx lsn 1 (ls ++ [⟨tx', 1 + (y : Int), t2, false⟩]) = true by rw [liveB_snoc, HOK.out, recB_of (n := 1 + (y : Int)) (lsn := (lsn : Int)) (by omega) (by have := HM1.out; omega) (by omega)]; unfold fromB; have := HLE.out; cases t2 <;> simp <;> omega)
                  clear hrun hr8 hg8 hv8 Q5 LI kg
                  refine wpAnyH_ready (rs := [20]) (by kernel_rfl) (by simp) ?_
                  refine AllReadyH.cons rfl (fun K hK => ?_) AllReadyH.nil
                  refine wp_run 66 (.tmp 47) (.tmp 65) rfl rfl rfl rfl rfl HRUN.out ?_
                  refine hK.out _ _ ⟨(XB8.out.get 0 _ rfl).1, (XB8.out.get 1 _ rfl).1, (XB8.out.get 2 _ rfl).1, (XB8.out.get 3 _ rfl).1⟩ (fun hS => ?_)
                  clear hK K
                  (try simp only [Act.put, List.setIfInBounds_toArray, List.set_cons_zero, List.set_cons_succ])
                  clear HRUN
                  refine take_at 21 (some 67) (v := ?_) rfl rfl (by kernel_rfl) (by kernel_rfl) (by kernel_rfl) (fun _ _ _ h => h) ⟨by rfl, ?_⟩ hS ?_
                  rotate_left
                  · intro wq hSw; go_simp; try rfl
                  simp only [Act.put, List.setIfInBounds_toArray, List.set_cons_zero, List.set_cons_succ]
                  refine wpAnyH_ready (rs := [22]) (by kernel_rfl) (by simp) ?_
                  refine AllReadyH.cons rfl (fun K hK => ?_) AllReadyH.nil
                  go_simp
                  go_wp2_with fail
                  have XB9 := hide (XB8.out.other (g := w.heap.size + 1 + 1) (j := 0) (y := .slice a8 (ls.length + 1) c8) (by have := NXC.out; omega))
                  refine hK.out _ _ ⟨(XB9.out.get 0 _ rfl).1, (XB9.out.get 1 _ rfl).1, (XB9.out.get 2 _ rfl).1, (XB9.out.get 3 _ rfl).1⟩ (fun hS => ?_)
                  clear hK K
                  (try simp only [Act.put, List.setIfInBounds_toArray, List.set_cons_zero, List.set_cons_succ])
                  refine wpAnyH_done (by kernel_rfl) ?_ _
                  clear c80 f80
                  go_wp2_with fail
                  go_roundw
                  case rel => exact ⟨k + 1, tx', _, ls ++ [⟨tx', 1 + (y : Int), t2, false⟩], by go_num, by go_num, by simp; omega, by omega, by omega, by omega, by rw [LE8.out]; exact Int.le_refl _, OK8.out, Q6.out⟩
                  case measure => simp [intOf]; omega
            · refine take_at 0 (some 46) (v := ?_) rfl rfl (by kernel_rfl) (by kernel_rfl) (by kernel_rfl) (fun _ _ _ h => h) ⟨by rfl, ?_⟩ hS ?_
              rotate_left
              · intro wq hSw; go_simp; try rfl
              simp only [Act.put, List.setIfInBounds_toArray, List.set_cons_zero, List.set_cons_succ]
              refine take_at 2 (some 48) (v := ?_) rfl rfl (by kernel_rfl) (by kernel_rfl) (by kernel_rfl) (fun _ _ _ h => h) ⟨by rfl, ?_⟩ hS ?_
              rotate_left
              · intro wq hSw; go_simp; try rfl
              simp only [Act.put, List.setIfInBounds_toArray, List.set_cons_zero, List.set_cons_succ]
              refine take_at 3 (some 49) (v := ?_) rfl rfl (by kernel_rfl) (by kernel_rfl) (by kernel_rfl) (fun _ _ _ h => h) ⟨by rfl, ?_⟩ hS ?_
              rotate_left
              · intro wq hSw; go_simp; try rfl
              simp only [Act.put, List.setIfInBounds_toArray, List.set_cons_zero, List.set_cons_succ]
              refine take_at 4 (some 50) (v := ?_) rfl rfl (by kernel_rfl) (by kernel_rfl) (by kernel_rfl) (fun _ _ _ h => h) ⟨by rfl, ?_⟩ hS ?_
              rotate_left
              · intro wq hSw; obtain ⟨y0, y1, y2, y3⟩ := hSw; go_simp; try rfl
              simp only [Act.put, List.setIfInBounds_toArray, List.set_cons_zero, List.set_cons_succ]
              refine take_at 5 (some 51) (v := ?_) rfl rfl (by kernel_rfl) (by kernel_rfl) (by kernel_rfl) (fun _ _ _ h => h) ⟨by rfl, ?_⟩ hS ?_
              rotate_left
              · intro wq hSw; go_simp; try rfl
              simp only [Act.put, List.setIfInBounds_toArray, List.set_cons_zero, List.set_cons_succ]
              refine take_at 6 (some 52) (v := ?_) rfl rfl (by kernel_rfl) (by kernel_rfl) (by kernel_rfl) (fun _ _ _ h => h) ⟨by rfl, ?_⟩ hS ?_
              rotate_left
              · intro wq hSw; go_simp; try rfl
              simp only [Act.put, List.setIfInBounds_toArray, List.set_cons_zero, List.set_cons_succ]
              refine take_at 9 (some 55) (v := ?_) rfl rfl (by kernel_rfl) (by kernel_rfl) (by kernel_rfl) (fun _ _ _ h => h) ⟨by rfl, ?_⟩ hS ?_
              rotate_left
              · intro wq hSw; go_simp; try rfl
              simp only [Act.put, List.setIfInBounds_toArray, List.set_cons_zero, List.set_cons_succ]
              refine take_at 10 (some 56) (v := ?_) rfl rfl (by kernel_rfl) (by kernel_rfl) (by kernel_rfl) (fun _ _ _ h => h) ⟨by rfl, ?_⟩ hS ?_
              rotate_left
              · intro wq hSw; obtain ⟨y0, y1, y2, y3⟩ := hSw; go_simp; try rfl
              simp only [Act.put, List.setIfInBounds_toArray, List.set_cons_zero, List.set_cons_succ]
              refine take_at 11 (some 57) (v := ?_) rfl rfl (by kernel_rfl) (by kernel_rfl) (by kernel_rfl) (fun _ _ _ h => h) ⟨by rfl, ?_⟩ hS ?_
              rotate_left
              · intro wq hSw; go_simp; try rfl
              simp only [Act.put, List.setIfInBounds_toArray, List.set_cons_zero, List.set_cons_succ]
              refine take_at 12 (some 58) (v := ?_) rfl rfl (by kernel_rfl) (by kernel_rfl) (by kernel_rfl) (fun _ _ _ h => h) ⟨by rfl, ?_⟩ hS ?_
              rotate_left
              · intro wq hSw; obtain ⟨y0, y1, y2, y3⟩ := hSw; go_simp; try rfl
              simp only [Act.put, List.setIfInBounds_toArray, List.set_cons_zero, List.set_cons_succ]
              refine wpAnyH_ready (rs := [1, 7]) (by kernel_rfl) (by simp) ?_
              refine AllReadyH.cons rfl (fun K hK => ?_) (AllReadyH.cons rfl (fun K hK => ?_) AllReadyH.nil)
              · have cl := (QQ.out.c5.get 0 _ rfl).1
                go_simp
                go_wp2_with fail
                refine hK.out _ _ hS (fun hS => ?_)
                clear hK K
                (try simp only [Act.put, List.setIfInBounds_toArray, List.set_cons_zero, List.set_cons_succ])
                clear cl
                refine wpAnyH_ready (rs := [7]) (by kernel_rfl) (by simp) ?_
                refine AllReadyH.cons rfl (fun K hK => ?_) AllReadyH.nil
                go_simp
                go_wp2_with fail
                refine (brought_lit t1 m1 (m1 : Int) rfl _ (by omega) (by omega)).mono ?_
                rintro e w' ⟨y, rfl, hy, hw⟩
                obtain rfl : w4 = w' := hw.symm
                have e8 : IntKind.i64.wrap (1 + (y : Int)) = 1 + (y : Int) := by rw [IntKind.wrap_i64]; omega
                go_wp2_with fail
                refine hK.out _ _ hS (fun hS => ?_)
                clear hK K
                (try simp only [Act.put, List.setIfInBounds_toArray, List.set_cons_zero, List.set_cons_succ])
                refine take_at 8 (some 54) (v := ?_) rfl rfl (by kernel_rfl) (by kernel_rfl) (by kernel_rfl) (fun _ _ _ h => h) ⟨by rfl, ?_⟩ hS ?_
                rotate_left
                · intro wq hSw; go_simp; try rfl
                simp only [Act.put, List.setIfInBounds_toArray, List.set_cons_zero, List.set_cons_succ]
                refine take_at 13 (some 59) (v := ?_) rfl rfl (by kernel_rfl) (by kernel_rfl) (by kernel_rfl) (fun _ _ _ h => h) ⟨by rfl, ?_⟩ hS ?_
                rotate_left
                · intro wq hSw; go_simp; try rfl
                simp only [Act.put, List.setIfInBounds_toArray, List.set_cons_zero, List.set_cons_succ]
                refine take_at 14 (some 60) (v := ?_) rfl rfl (by kernel_rfl) (by kernel_rfl) (by kernel_rfl) (fun _ _ _ h => h) ⟨by rfl, ?_⟩ hS ?_
                rotate_left
                · intro wq hSw; go_simp; try rfl
                simp only [Act.put, List.setIfInBounds_toArray, List.set_cons_zero, List.set_cons_succ]
                refine take_at 15 (some 61) (v := ?_) rfl rfl (by kernel_rfl) (by kernel_rfl) (by kernel_rfl) (fun _ _ _ h => h) ⟨by rfl, ?_⟩ hS ?_
                rotate_left
                · intro wq hSw; obtain ⟨y0, y1, y2, y3⟩ := hSw; go_simp; try rfl
                simp only [Act.put, List.setIfInBounds_toArray, List.set_cons_zero, List.set_cons_succ]
                refine take_at 16 (some 62) (v := ?_) rfl rfl (by kernel_rfl) (by kernel_rfl) (by kernel_rfl) (fun _ _ _ h => h) ⟨by rfl, ?_⟩ hS ?_
                rotate_left
                · intro wq hSw; go_simp; try rfl
                simp only [Act.put, List.setIfInBounds_toArray, List.set_cons_zero, List.set_cons_succ]
                refine take_at 17 (some 63) (v := ?_) rfl rfl (by kernel_rfl) (by kernel_rfl) (by kernel_rfl) (fun _ _ _ h => h) ⟨by rfl, ?_⟩ hS ?_
                rotate_left
                · intro wq hSw; go_simp; try rfl
                simp only [Act.put, List.setIfInBounds_toArray, List.set_cons_zero, List.set_cons_succ]
                refine take_at 18 (some 64) (v := ?_) rfl rfl (by kernel_rfl) (by kernel_rfl) (by kernel_rfl) (fun _ _ _ h => h) ⟨by rfl, ?_⟩ hS ?_
                rotate_left
                · intro wq hSw; go_simp; try rfl
                simp only [Act.put, List.setIfInBounds_toArray, List.set_cons_zero, List.set_cons_succ]
                refine wpAnyH_ready (rs := [19]) (by kernel_rfl) (by simp) ?_
                refine AllReadyH.cons rfl (fun K hK => ?_) AllReadyH.nil
                have LI := hide (lies_lit w4 #[.int .i64 tx', .int .i64 (1 + (y : Int)), .bool t2, .bool (!t2)] 55)
                have Q5 := hide (QQ.out.below (alloc_below w4 (.cells #[.int .i64 tx', .int .i64 (1 + (y : Int)), .bool t2, .bool (!t2)] 55)))
                have XB5 := hide (XB.out.below (alloc_below w4 (.cells #[.int .i64 tx', .int .i64 (1 + (y : Int)), .bool t2, .bool (!t2)] 55)))
                go_simp
                (try go_wp2_with fail)
                generalize w4.alloc (.cells #[.int .i64 tx', .int .i64 (1 + (y : Int)), .bool t2, .bool (!t2)] 55) = w5 at *
                refine hK.out _ _ ⟨(XB5.out.get 0 _ rfl).1, (XB5.out.get 1 _ rfl).1, (XB5.out.get 2 _ rfl).1, (XB5.out.get 3 _ rfl).1⟩ (fun hS => ?_)
                clear hK K
                (try simp only [Act.put, List.setIfInBounds_toArray, List.set_cons_zero, List.set_cons_succ])
                obtain ⟨v8, w8, hrun, hr8, hg8, hv8⟩ := run_pushL 39 w5 w.heap.size _ ls Q5.out.rl ⟨w4.heap.size, 0, none⟩ ⟨tx', 1 + (y : Int), t2, (!t2)⟩ LI.out (by omega) Q5.out.bel.size
                have Q6 := Q5.out.putL hr8 hg8 hv8
                obtain ⟨a8, c8, ev8, _⟩ := GRow.lies hr8
                have hle : (ls ++ [(⟨tx', 1 + (y : Int), t2, (!t2)⟩ : LiveM)]).length = ls.length + 1 := by simp
                rw [hle] at ev8
                subst ev8
                have kg := (Keep.refl (fun k => _ = some k) _).grown hg8 (fun _ q _ => q)
                have hc8 := ((Q5.out.c5.keep kg (fun q => by have := Q5.out.lne _ q; omega)).get 0 _ rfl)
                obtain ⟨c80, f80⟩ := hc8
                have XB8 := hide (XB5.out.keep kg (fun q => NXB.out q))
                have HRUN := hide hrun
                have Q6 := hide Q6
                have LE8 := hide (leastL_snoc ⟨tx', 1 + (y : Int), t2, (!t2)⟩ ls 1)
                have OK8 := hide (show liveB nx lsn 1 (ls ++ [⟨tx', 1 + (y : Int), t2, (!t2)⟩]) = true by rw [liveB_snoc, HOK.out, recB_of (n := 1 + (y : Int)) (lsn := (lsn : Int)) (by omega) (by have := HM1.out; omega) (by omega)]; unfold fromB; have := HLE.out; cases t2 <;> simp <;> omega)
                clear hrun hr8 hg8 hv8 Q5 LI kg
                refine wpAnyH_ready (rs := [20]) (by kernel_rfl) (by simp) ?_
                refine AllReadyH.cons rfl (fun K hK => ?_) AllReadyH.nil
                refine wp_run 66 (.tmp 47) (.tmp 65) rfl rfl rfl rfl rfl HRUN.out ?_
                refine hK.out _ _ ⟨(XB8.out.get 0 _ rfl).1, (XB8.out.get 1 _ rfl).1, (XB8.out.get 2 _ rfl).1, (XB8.out.get 3 _ rfl).1⟩ (fun hS => ?_)
                clear hK K
                (try simp only [Act.put, List.setIfInBounds_toArray, List.set_cons_zero, List.set_cons_succ])
                clear HRUN
                refine take_at 21 (some 67) (v := ?_) rfl rfl (by kernel_rfl) (by kernel_rfl) (by kernel_rfl) (fun _ _ _ h => h) ⟨by rfl, ?_⟩ hS ?_
                rotate_left
                · intro wq hSw; go_simp; try rfl
                simp only [Act.put, List.setIfInBounds_toArray, List.set_cons_zero, List.set_cons_succ]
                refine wpAnyH_ready (rs := [22]) (by kernel_rfl) (by simp) ?_
                refine AllReadyH.cons rfl (fun K hK => ?_) AllReadyH.nil
                go_simp
                go_wp2_with fail
                have XB9 := hide (XB8.out.other (g := w.heap.size + 1 + 1) (j := 0) (y := .slice a8 (ls.length + 1) c8) (by have := NXC.out; omega))
                refine hK.out _ _ ⟨(XB9.out.get 0 _ rfl).1, (XB9.out.get 1 _ rfl).1, (XB9.out.get 2 _ rfl).1, (XB9.out.get 3 _ rfl).1⟩ (fun hS => ?_)
                clear hK K
                (try simp only [Act.put, List.setIfInBounds_toArray, List.set_cons_zero, List.set_cons_succ])
                refine wpAnyH_done (by kernel_rfl) ?_ _
                clear c80 f80
                go_wp2_with fail
                go_roundw
                case rel => exact ⟨k + 1, tx', _, ls ++ [⟨tx', 1 + (y : Int), t2, (!t2)⟩], by go_num, by go_num, by simp; omega, by omega, by omega, by omega, by rw [LE8.out]; exact Int.le_refl _, OK8.out, Q6.out⟩
                case measure => simp [intOf]; omega
              · go_simp
                go_wp2_with fail
                refine (brought_lit t1 m1 (m1 : Int) rfl _ (by omega) (by omega)).mono ?_
                rintro e w' ⟨y, rfl, hy, hw⟩
                obtain rfl : w4 = w' := hw.symm
                have e8 : IntKind.i64.wrap (1 + (y : Int)) = 1 + (y : Int) := by rw [IntKind.wrap_i64]; omega
                go_wp2_with fail
                refine hK.out _ _ hS (fun hS => ?_)
                clear hK K
                (try simp only [Act.put, List.setIfInBounds_toArray, List.set_cons_zero, List.set_cons_succ])
                refine take_at 8 (some 54) (v := ?_) rfl rfl (by kernel_rfl) (by kernel_rfl) (by kernel_rfl) (fun _ _ _ h => h) ⟨by rfl, ?_⟩ hS ?_
                rotate_left
                · intro wq hSw; go_simp; try rfl
                simp only [Act.put, List.setIfInBounds_toArray, List.set_cons_zero, List.set_cons_succ]
                refine take_at 13 (some 59) (v := ?_) rfl rfl (by kernel_rfl) (by kernel_rfl) (by kernel_rfl) (fun _ _ _ h => h) ⟨by rfl, ?_⟩ hS ?_
                rotate_left
                · intro wq hSw; go_simp; try rfl
                simp only [Act.put, List.setIfInBounds_toArray, List.set_cons_zero, List.set_cons_succ]
                refine take_at 14 (some 60) (v := ?_) rfl rfl (by kernel_rfl) (by kernel_rfl) (by kernel_rfl) (fun _ _ _ h => h) ⟨by rfl, ?_⟩ hS ?_
                rotate_left
                · intro wq hSw; go_simp; try rfl
                simp only [Act.put, List.setIfInBounds_toArray, List.set_cons_zero, List.set_cons_succ]
                refine take_at 15 (some 61) (v := ?_) rfl rfl (by kernel_rfl) (by kernel_rfl) (by kernel_rfl) (fun _ _ _ h => h) ⟨by rfl, ?_⟩ hS ?_
                rotate_left
                · intro wq hSw; obtain ⟨y0, y1, y2, y3⟩ := hSw; go_simp; try rfl
                simp only [Act.put, List.setIfInBounds_toArray, List.set_cons_zero, List.set_cons_succ]
                refine take_at 16 (some 62) (v := ?_) rfl rfl (by kernel_rfl) (by kernel_rfl) (by kernel_rfl) (fun _ _ _ h => h) ⟨by rfl, ?_⟩ hS ?_
                rotate_left
                · intro wq hSw; go_simp; try rfl
                simp only [Act.put, List.setIfInBounds_toArray, List.set_cons_zero, List.set_cons_succ]
                refine take_at 17 (some 63) (v := ?_) rfl rfl (by kernel_rfl) (by kernel_rfl) (by kernel_rfl) (fun _ _ _ h => h) ⟨by rfl, ?_⟩ hS ?_
                rotate_left
                · intro wq hSw; go_simp; try rfl
                simp only [Act.put, List.setIfInBounds_toArray, List.set_cons_zero, List.set_cons_succ]
                refine take_at 18 (some 64) (v := ?_) rfl rfl (by kernel_rfl) (by kernel_rfl) (by kernel_rfl) (fun _ _ _ h => h) ⟨by rfl, ?_⟩ hS ?_
                rotate_left
                · intro wq hSw; go_simp; try rfl
                simp only [Act.put, List.setIfInBounds_toArray, List.set_cons_zero, List.set_cons_succ]
                refine wpAnyH_ready (rs := [1, 19]) (by kernel_rfl) (by simp) ?_
                refine AllReadyH.cons rfl (fun K hK => ?_) (AllReadyH.cons rfl (fun K hK => ?_) AllReadyH.nil)
                · have cl := (QQ.out.c5.get 0 _ rfl).1
                  go_simp
                  go_wp2_with fail
                  refine hK.out _ _ hS (fun hS => ?_)
                  clear hK K
                  (try simp only [Act.put, List.setIfInBounds_toArray, List.set_cons_zero, List.set_cons_succ])
                  clear cl
                  refine wpAnyH_ready (rs := [19]) (by kernel_rfl) (by simp) ?_
                  refine AllReadyH.cons rfl (fun K hK => ?_) AllReadyH.nil
                  have LI := hide (lies_lit w4 #[.int .i64 tx', .int .i64 (1 + (y : Int)), .bool t2, .bool (!t2)] 55)
                  have Q5 := hide (QQ.out.below (alloc_below w4 (.cells #[.int .i64 tx', .int .i64 (1 + (y : Int)), .bool t2, .bool (!t2)] 55)))
                  have XB5 := hide (XB.out.below (alloc_below w4 (.cells #[.int .i64 tx', .int .i64 (1 + (y : Int)), .bool t2, .bool (!t2)] 55)))
                  go_simp
                  (try go_wp2_with fail)
                  generalize w4.alloc (.cells #[.int .i64 tx', .int .i64 (1 + (y : Int)), .bool t2, .bool (!t2)] 55) = w5 at *
                  refine hK.out _ _ ⟨(XB5.out.get 0 _ rfl).1, (XB5.out.get 1 _ rfl).1, (XB5.out.get 2 _ rfl).1, (XB5.out.get 3 _ rfl).1⟩ (fun hS => ?_)
                  clear hK K
                  (try simp only [Act.put, List.setIfInBounds_toArray, List.set_cons_zero, List.set_cons_succ])
                  obtain ⟨v8, w8, hrun, hr8, hg8, hv8⟩ := run_pushL 39 w5 w.heap.size _ ls Q5.out.rl ⟨w4.heap.size, 0, none⟩ ⟨tx', 1 + (y : Int), t2, (!t2)⟩ LI.out (by omega) Q5.out.bel.size
                  have Q6 := Q5.out.putL hr8 hg8 hv8
                  obtain ⟨a8, c8, ev8, _⟩ := GRow.lies hr8
                  have hle : (ls ++ [(⟨tx', 1 + (y : Int), t2, (!t2)⟩ : LiveM)]).length = ls.length + 1 := by simp
                  rw [hle] at ev8
                  subst ev8
                  have kg := (Keep.refl (fun k => _ = some k) _).grown hg8 (fun _ q _ => q)
                  have hc8 := ((Q5.out.c5.keep kg (fun q => by have := Q5.out.lne _ q; omega)).get 0 _ rfl)
                  obtain ⟨c80, f80⟩ := hc8
                  have XB8 := hide (XB5.out.keep kg (fun q => NXB.out q))
                  have HRUN := hide hrun
                  have Q6 := hide Q6
                  have LE8 := hide (leastL_snoc ⟨tx', 1 + (y : Int), t2, (!t2)⟩ ls 1)
                  have OK8 := hide (show liveB nx lsn 1 (ls ++ [⟨tx', 1 + (y : Int), t2, (!t2)⟩]) = true by rw [liveB_snoc, HOK.out, recB_of (n := 1 + (y : Int)) (lsn := (lsn : Int)) (by omega) (by have := HM1.out; omega) (by omega)]; unfold fromB; have := HLE.out; cases t2 <;> simp <;> omega)
                  clear hrun hr8 hg8 hv8 Q5 LI kg
                  refine wpAnyH_ready (rs := [20]) (by kernel_rfl) (by simp) ?_
                  refine AllReadyH.cons rfl (fun K hK => ?_) AllReadyH.nil
                  refine wp_run 66 (.tmp 47) (.tmp 65) rfl rfl rfl rfl rfl HRUN.out ?_
                  refine hK.out _ _ ⟨(XB8.out.get 0 _ rfl).1, (XB8.out.get 1 _ rfl).1, (XB8.out.get 2 _ rfl).1, (XB8.out.get 3 _ rfl).1⟩ (fun hS => ?_)
                  clear hK K
                  (try simp only [Act.put, List.setIfInBounds_toArray, List.set_cons_zero, List.set_cons_succ])
                  clear HRUN
                  refine take_at 21 (some 67) (v := ?_) rfl rfl (by kernel_rfl) (by kernel_rfl) (by kernel_rfl) (fun _ _ _ h => h) ⟨by rfl, ?_⟩ hS ?_
                  rotate_left
                  · intro wq hSw; go_simp; try rfl
                  simp only [Act.put, List.setIfInBounds_toArray, List.set_cons_zero, List.set_cons_succ]
                  refine wpAnyH_ready (rs := [22]) (by kernel_rfl) (by simp) ?_
                  refine AllReadyH.cons rfl (fun K hK => ?_) AllReadyH.nil
                  go_simp
                  go_wp2_with fail
                  have XB9 := hide (XB8.out.other (g := w.heap.size + 1 + 1) (j := 0) (y := .slice a8 (ls.length + 1) c8) (by have := NXC.out; omega))
                  refine hK.out _ _ ⟨(XB9.out.get 0 _ rfl).1, (XB9.out.get 1 _ rfl).1, (XB9.out.get 2 _ rfl).1, (XB9.out.get 3 _ rfl).1⟩ (fun hS => ?_)
                  clear hK K
                  (try simp only [Act.put, List.setIfInBounds_toArray, List.set_cons_zero, List.set_cons_succ])
                  refine wpAnyH_done (by kernel_rfl) ?_ _
                  clear c80 f80
                  go_wp2_with fail
                  go_roundw
                  case rel => exact ⟨k + 1, tx', _, ls ++ [⟨tx', 1 + (y : Int), t2, (!t2)⟩], by go_num, by go_num, by simp; omega, by omega, by omega, by omega, by rw [LE8.out]; exact Int.le_refl _, OK8.out, Q6.out⟩
                  case measure => simp [intOf]; omega
                · have LI := hide (lies_lit w4 #[.int .i64 tx', .int .i64 (1 + (y : Int)), .bool t2, .bool (!t2)] 55)
                  have Q5 := hide (QQ.out.below (alloc_below w4 (.cells #[.int .i64 tx', .int .i64 (1 + (y : Int)), .bool t2, .bool (!t2)] 55)))
                  have XB5 := hide (XB.out.below (alloc_below w4 (.cells #[.int .i64 tx', .int .i64 (1 + (y : Int)), .bool t2, .bool (!t2)] 55)))
                  go_simp
                  (try go_wp2_with fail)
                  generalize w4.alloc (.cells #[.int .i64 tx', .int .i64 (1 + (y : Int)), .bool t2, .bool (!t2)] 55) = w5 at *
                  refine hK.out _ _ ⟨(XB5.out.get 0 _ rfl).1, (XB5.out.get 1 _ rfl).1, (XB5.out.get 2 _ rfl).1, (XB5.out.get 3 _ rfl).1⟩ (fun hS => ?_)
                  clear hK K
                  (try simp only [Act.put, List.setIfInBounds_toArray, List.set_cons_zero, List.set_cons_succ])
                  refine wpAnyH_ready (rs := [1]) (by kernel_rfl) (by simp) ?_
                  refine AllReadyH.cons rfl (fun K hK => ?_) AllReadyH.nil
                  have cl := (Q5.out.c5.get 0 _ rfl).1
                  go_simp
                  go_wp2_with fail
                  refine hK.out _ _ hS (fun hS => ?_)
                  clear hK K
                  (try simp only [Act.put, List.setIfInBounds_toArray, List.set_cons_zero, List.set_cons_succ])
                  clear cl
                  obtain ⟨v8, w8, hrun, hr8, hg8, hv8⟩ := run_pushL 39 w5 w.heap.size _ ls Q5.out.rl ⟨w4.heap.size, 0, none⟩ ⟨tx', 1 + (y : Int), t2, (!t2)⟩ LI.out (by omega) Q5.out.bel.size
                  have Q6 := Q5.out.putL hr8 hg8 hv8
                  obtain ⟨a8, c8, ev8, _⟩ := GRow.lies hr8
                  have hle : (ls ++ [(⟨tx', 1 + (y : Int), t2, (!t2)⟩ : LiveM)]).length = ls.length + 1 := by simp
                  rw [hle] at ev8
                  subst ev8
                  have kg := (Keep.refl (fun k => _ = some k) _).grown hg8 (fun _ q _ => q)
                  have hc8 := ((Q5.out.c5.keep kg (fun q => by have := Q5.out.lne _ q; omega)).get 0 _ rfl)
                  obtain ⟨c80, f80⟩ := hc8
                  have XB8 := hide (XB5.out.keep kg (fun q => NXB.out q))
                  have HRUN := hide hrun
                  have Q6 := hide Q6
                  have LE8 := hide (leastL_snoc ⟨tx', 1 + (y : Int), t2, (!t2)⟩ ls 1)
                  have OK8 := hide (show liveB nx lsn 1 (ls ++ [⟨tx', 1 + (y : Int), t2, (!t2)⟩]) = true by rw [liveB_snoc, HOK.out, recB_of (n := 1 + (y : Int)) (lsn := (lsn : Int)) (by omega) (by have := HM1.out; omega) (by omega)]; unfold fromB; have := HLE.out; cases t2 <;> simp <;> omega)
                  clear hrun hr8 hg8 hv8 Q5 LI kg
                  refine wpAnyH_ready (rs := [20]) (by kernel_rfl) (by simp) ?_
                  refine AllReadyH.cons rfl (fun K hK => ?_) AllReadyH.nil
                  refine wp_run 66 (.tmp 47) (.tmp 65) rfl rfl rfl rfl rfl HRUN.out ?_
                  refine hK.out _ _ ⟨(XB8.out.get 0 _ rfl).1, (XB8.out.get 1 _ rfl).1, (XB8.out.get 2 _ rfl).1, (XB8.out.get 3 _ rfl).1⟩ (fun hS => ?_)
                  clear hK K
                  (try simp only [Act.put, List.setIfInBounds_toArray, List.set_cons_zero, List.set_cons_succ])
                  clear HRUN
                  refine take_at 21 (some 67) (v := ?_) rfl rfl (by kernel_rfl) (by kernel_rfl) (by kernel_rfl) (fun _ _ _ h => h) ⟨by rfl, ?_⟩ hS ?_
                  rotate_left
                  · intro wq hSw; go_simp; try rfl
                  simp only [Act.put, List.setIfInBounds_toArray, List.set_cons_zero, List.set_cons_succ]
                  refine wpAnyH_ready (rs := [22]) (by kernel_rfl) (by simp) ?_
                  refine AllReadyH.cons rfl (fun K hK => ?_) AllReadyH.nil
                  go_simp
                  go_wp2_with fail
                  have XB9 := hide (XB8.out.other (g := w.heap.size + 1 + 1) (j := 0) (y := .slice a8 (ls.length + 1) c8) (by have := NXC.out; omega))
                  refine hK.out _ _ ⟨(XB9.out.get 0 _ rfl).1, (XB9.out.get 1 _ rfl).1, (XB9.out.get 2 _ rfl).1, (XB9.out.get 3 _ rfl).1⟩ (fun hS => ?_)
                  clear hK K
                  (try simp only [Act.put, List.setIfInBounds_toArray, List.set_cons_zero, List.set_cons_succ])
                  refine wpAnyH_done (by kernel_rfl) ?_ _
                  clear c80 f80
                  go_wp2_with fail
                  go_roundw
                  case rel => exact ⟨k + 1, tx', _, ls ++ [⟨tx', 1 + (y : Int), t2, (!t2)⟩], by go_num, by go_num, by simp; omega, by omega, by omega, by omega, by rw [LE8.out]; exact Int.le_refl _, OK8.out, Q6.out⟩
                  case measure => simp [intOf]; omega
          · have hg4 : decide (tx' < nx) = false := by simpa using hnx3
            go_wp2_with fail
            go_roundw
            case rel => exact ⟨k + 1, tx', _, ls, rfl, by go_num, by omega, by omega, by omega, by omega, by have := HLE.out; omega, HOK.out, Q1.out⟩
            case measure => simp [intOf]; omega
      | false =>
        have HOKL := hide HOK.out
        have LNE := hide HQ.out.lne
        have hlen32 : ls.length ≤ 32 := by omega
        clear HOK HLE hqq
        go_wp2_with fail
        go_loopw [9, 10] (fun s i wr => ∃ (j : Nat) (pg : Int) (vD : Value) (ds : List DirtyM), s = .int .i64 pg ∧ i = .int .i64 (j : Int) ∧ ds.length ≤ j ∧ j ≤ 16 ∧ j ≤ ds0.length ∧ (-1 ≤ pg ∧ pg ≤ 4 * (j : Int)) ∧ leastD 0 ds ≤ pg + 1 ∧ dirtyB lsn 0 ds = true ∧ QB w [.slice la ls0.length lc, .slice da ds0.length dc, .int .i64 next] wr nx (.slice aL ls.length cL) ls vD ds) (fun _ i _ => 17 - (intOf i).toNat)
        case atStart => exact ⟨0, -1, .slice none 0 0, [], rfl, rfl, by simp, by omega, Nat.zero_le _, by omega, by simp [leastD], rfl, HQ.out⟩
        case round =>
          obtain ⟨j, pg, vD, ds, rfl, rfl, hlenD, hj16, hj0, hpg, hleast, hok, hq⟩ := hrel
          have HOK := hide hok
          have HLE := hide hleast
          have HQ2 := hide hq
          obtain ⟨aD, cD, eD, _⟩ := GRow.lies hq.rd
          subst eD
          clear hok hleast hq HQ
          go_upto_region 12 with fail
          go_cut [80] from 68 to 111 (fun s w' => (∃ q : Bool, s = .bool q ∧ (q = true → j < ds0.length ∧ j < 16 ∧ 1 < lsn)) ∧ w' = wr)
          case first =>
            have p1 := (HQ2.out.c2.get 1 _ rfl).1
            by_cases h1' : j < ds0.length
            · have d1 : decide ((j : Int) < (ds0.length : Int)) = true := by simp; omega
              by_cases h2' : j < 16
              · have d2 : decide ((j : Int) < 16) = true := by simp; omega
                go_wp2_with fail
                go_meet
                exact ⟨⟨_, rfl, fun q => ⟨h1', h2', by simp at q; omega⟩⟩, rfl⟩
              · have d2 : decide ((j : Int) < 16) = false := by simp; omega
                go_wp2_with fail
                go_meet
                exact ⟨⟨_, rfl, fun q => by cases q⟩, rfl⟩
            · have d1 : decide ((j : Int) < (ds0.length : Int)) = false := by simp; omega
              go_wp2_with fail
              go_meet
              exact ⟨⟨_, rfl, fun q => by cases q⟩, rfl⟩
          case rest =>
            obtain ⟨⟨q, hs80, hqq⟩, hwc⟩ := hcut
            have hwc := hwc.symm
            subst hwc
            rw [hs80]
            clear hs80
            cases q with
            | true =>
              obtain ⟨hlt1, hlt2, hlt3⟩ := hqq rfl
              have p1 := (HQ2.out.c2.get 1 _ rfl).1
              obtain ⟨b, off, ea, hbl, yy0, yy1⟩ := HD.out.dirtyAt j hlt1
              subst ea
              have v0 := (HQ2.out.bel.cell (p := ⟨b, off + j * 2, none⟩) hbl).trans yy0
              have v1 := (HQ2.out.bel.cell (p := ⟨b, off + j * 2 + 1, none⟩) hbl).trans yy1
              generalize ds0[j].page = t0 at *
              generalize ds0[j].since = t1 at *
              have Y1 := hide yy1
              clear yy0 yy1
              go_wp2_with fail
              refine (brought_lit t0 4 4 rfl _ (by decide) (by decide)).mono ?_
              rintro e w' ⟨y4, rfl, hy4, hw⟩
              subst hw
              obtain ⟨pg', hpg'⟩ : ∃ pg', pg + 1 + (y4 : Int) = pg' := ⟨_, rfl⟩
              have hpg2 : pg + 1 ≤ pg' ∧ pg' ≤ pg + 4 := by omega
              by_cases hp64 : pg' < 64
              · have hg4 : decide (pg' < 64) = true := by simpa using hp64
                have FX := hide (show w'.cell? ⟨w.heap.size, 1, none⟩ = some (.slice (some ⟨b, off, none⟩) ds0.length dc) ∧ w'.cell? ⟨b, off + j * 2 + 1, none⟩ = some (.int .i64 t1) from ⟨p1, v1⟩)
                have QQ := hide (HQ2.out.below (Below.refl _ _).drew)
                obtain ⟨m1, hm1⟩ : ∃ m1 : Nat, lsn = m1 + 1 := ⟨lsn - 1, by omega⟩
                have e52 : IntKind.i64.wrap ((lsn : Int) - 1) = (m1 : Int) := by rw [IntKind.wrap_i64]; omega
                have hm12 : 1 ≤ m1 ∧ m1 ≤ 100000 := by omega
                have HM1 := hide hm1
                clear hm1
                go_upto_region 16 with fail
                clear hpg' HQ2 p1 v0 v1
                refine wp_region_held_drew (S := fun wq => wq.cell? ⟨w.heap.size, 1, none⟩ = some (.slice (some ⟨b, off, none⟩) ds0.length dc) ∧ wq.cell? ⟨b, off + j * 2 + 1, none⟩ = some (.int .i64 t1)) (by kernel_rfl) FX.out (fun hS => ?_)
                generalize w'.drew = w4 at *
                clear FX
                refine take_at 0 (some 95) (v := ?_) rfl rfl (by kernel_rfl) (by kernel_rfl) (by kernel_rfl) (fun _ _ _ h => h) ⟨by rfl, ?_⟩ hS ?_
                rotate_left
                · intro wq hSw; go_simp; try rfl
                simp only [Act.put, List.setIfInBounds_toArray, List.set_cons_zero, List.set_cons_succ]
                refine take_at 2 (some 97) (v := ?_) rfl rfl (by kernel_rfl) (by kernel_rfl) (by kernel_rfl) (fun _ _ _ h => h) ⟨by rfl, ?_⟩ hS ?_
                rotate_left
                · intro wq hSw; go_simp; try rfl
                simp only [Act.put, List.setIfInBounds_toArray, List.set_cons_zero, List.set_cons_succ]
                refine take_at 3 (some 98) (v := ?_) rfl rfl (by kernel_rfl) (by kernel_rfl) (by kernel_rfl) (fun _ _ _ h => h) ⟨by rfl, ?_⟩ hS ?_
                rotate_left
                · intro wq hSw; go_simp; try rfl
                simp only [Act.put, List.setIfInBounds_toArray, List.set_cons_zero, List.set_cons_succ]
                refine take_at 4 (some 99) (v := ?_) rfl rfl (by kernel_rfl) (by kernel_rfl) (by kernel_rfl) (fun _ _ _ h => h) ⟨by rfl, ?_⟩ hS ?_
                rotate_left
                · intro wq hSw; obtain ⟨y0, y1⟩ := hSw; go_simp; try rfl
                simp only [Act.put, List.setIfInBounds_toArray, List.set_cons_zero, List.set_cons_succ]
                refine take_at 5 (some 100) (v := ?_) rfl rfl (by kernel_rfl) (by kernel_rfl) (by kernel_rfl) (fun _ _ _ h => h) ⟨by rfl, ?_⟩ hS ?_
                rotate_left
                · intro wq hSw; go_simp; try rfl
                simp only [Act.put, List.setIfInBounds_toArray, List.set_cons_zero, List.set_cons_succ]
                refine take_at 6 (some 101) (v := ?_) rfl rfl (by kernel_rfl) (by kernel_rfl) (by kernel_rfl) (fun _ _ _ h => h) ⟨by rfl, ?_⟩ hS ?_
                rotate_left
                · intro wq hSw; go_simp; try rfl
                simp only [Act.put, List.setIfInBounds_toArray, List.set_cons_zero, List.set_cons_succ]
                refine take_at 7 (some 102) (v := ?_) rfl rfl (by kernel_rfl) (by kernel_rfl) (by kernel_rfl) (fun _ _ _ h => h) ⟨by rfl, ?_⟩ hS ?_
                rotate_left
                · intro wq hSw; go_simp; try rfl
                simp only [Act.put, List.setIfInBounds_toArray, List.set_cons_zero, List.set_cons_succ]
                refine take_at 8 (some 103) (v := ?_) rfl rfl (by kernel_rfl) (by kernel_rfl) (by kernel_rfl) (fun _ _ _ h => h) ⟨by rfl, ?_⟩ hS ?_
                rotate_left
                · intro wq hSw; obtain ⟨y0, y1⟩ := hSw; go_simp; try rfl
                simp only [Act.put, List.setIfInBounds_toArray, List.set_cons_zero, List.set_cons_succ]
                refine take_at 9 (some 104) (v := ?_) rfl rfl (by kernel_rfl) (by kernel_rfl) (by kernel_rfl) (fun _ _ _ h => h) ⟨by rfl, ?_⟩ hS ?_
                rotate_left
                · intro wq hSw; go_simp; try rfl
                simp only [Act.put, List.setIfInBounds_toArray, List.set_cons_zero, List.set_cons_succ]
                refine take_at 10 (some 105) (v := ?_) rfl rfl (by kernel_rfl) (by kernel_rfl) (by kernel_rfl) (fun _ _ _ h => h) ⟨by rfl, ?_⟩ hS ?_
                rotate_left
                · intro wq hSw; go_simp; try rfl
                simp only [Act.put, List.setIfInBounds_toArray, List.set_cons_zero, List.set_cons_succ]
                refine wpAnyH_ready (rs := [1, 11]) (by kernel_rfl) (by simp) ?_
                refine AllReadyH.cons rfl (fun K hK => ?_) (AllReadyH.cons rfl (fun K hK => ?_) AllReadyH.nil)
                · have cl := (QQ.out.c5.get 1 _ rfl).1
                  go_simp
                  go_wp2_with fail
                  refine hK.out _ _ ⟨(QQ.out.c2.get 1 _ rfl).1, (QQ.out.bel.cell (p := ⟨b, off + j * 2 + 1, none⟩) hbl).trans Y1.out⟩ (fun hS => ?_)
                  clear hK K
                  (try simp only [Act.put, List.setIfInBounds_toArray, List.set_cons_zero, List.set_cons_succ])
                  clear cl
                  refine wpAnyH_ready (rs := [11]) (by kernel_rfl) (by simp) ?_
                  refine AllReadyH.cons rfl (fun K hK => ?_) AllReadyH.nil
                  go_simp
                  go_wp2_with fail
                  refine (brought_lit t1 m1 (m1 : Int) rfl _ (by omega) (by omega)).mono ?_
                  rintro e w' ⟨y, rfl, hy, hw⟩
                  obtain rfl : w4 = w' := hw.symm
                  have e8 : IntKind.i64.wrap (1 + (y : Int)) = 1 + (y : Int) := by rw [IntKind.wrap_i64]; omega
                  go_wp2_with fail
                  refine hK.out _ _ ⟨(QQ.out.c2.get 1 _ rfl).1, (QQ.out.bel.cell (p := ⟨b, off + j * 2 + 1, none⟩) hbl).trans Y1.out⟩ (fun hS => ?_)
                  clear hK K
                  (try simp only [Act.put, List.setIfInBounds_toArray, List.set_cons_zero, List.set_cons_succ])
                  refine take_at 12 (some 107) (v := ?_) rfl rfl (by kernel_rfl) (by kernel_rfl) (by kernel_rfl) (fun _ _ _ h => h) ⟨by rfl, ?_⟩ hS ?_
                  rotate_left
                  · intro wq hSw; go_simp; try rfl
                  simp only [Act.put, List.setIfInBounds_toArray, List.set_cons_zero, List.set_cons_succ]
                  refine take_at 13 (some 108) (v := ?_) rfl rfl (by kernel_rfl) (by kernel_rfl) (by kernel_rfl) (fun _ _ _ h => h) ⟨by rfl, ?_⟩ hS ?_
                  rotate_left
                  · intro wq hSw; go_simp; try rfl
                  simp only [Act.put, List.setIfInBounds_toArray, List.set_cons_zero, List.set_cons_succ]
                  refine wpAnyH_ready (rs := [14]) (by kernel_rfl) (by simp) ?_
                  refine AllReadyH.cons rfl (fun K hK => ?_) AllReadyH.nil
                  have LI := hide (lies_lit w4 #[.int .i64 pg', .int .i64 (1 + (y : Int))] 57)
                  have Q5 := hide (QQ.out.below (alloc_below w4 (.cells #[.int .i64 pg', .int .i64 (1 + (y : Int))] 57)))
                  go_simp
                  (try go_wp2_with fail)
                  generalize w4.alloc (.cells #[.int .i64 pg', .int .i64 (1 + (y : Int))] 57) = w5 at *
                  refine hK.out _ _ ⟨(Q5.out.c2.get 1 _ rfl).1, (Q5.out.bel.cell (p := ⟨b, off + j * 2 + 1, none⟩) hbl).trans Y1.out⟩ (fun hS => ?_)
                  clear hK K
                  (try simp only [Act.put, List.setIfInBounds_toArray, List.set_cons_zero, List.set_cons_succ])
                  obtain ⟨v8, w8, hrun, hr8, hg8, hv8⟩ := run_pushD 40 w5 w.heap.size _ ds Q5.out.rd ⟨w4.heap.size, 0, none⟩ ⟨pg', 1 + (y : Int)⟩ LI.out (by omega) Q5.out.bel.size
                  have Q6 := Q5.out.putD hr8 hg8 hv8
                  obtain ⟨a8, c8, ev8, _⟩ := GRow.lies hr8
                  have hle : (ds ++ [(⟨pg', 1 + (y : Int)⟩ : DirtyM)]).length = ds.length + 1 := by simp
                  rw [hle] at ev8
                  subst ev8
                  have kg := (Keep.refl (fun k => _ = some k) _).grown hg8 (fun _ q _ => q)
                  have hc8 := ((Q5.out.c5.keep kg (fun q => by have := Q5.out.dne _ q; omega)).get 1 _ rfl)
                  obtain ⟨c80, f80⟩ := hc8
                  have S8 := hide (show w8.cell? ⟨w.heap.size, 1, none⟩ = some (.slice (some ⟨b, off, none⟩) ds0.length dc) ∧ w8.cell? ⟨b, off + j * 2 + 1, none⟩ = some (.int .i64 t1) from ⟨((Q5.out.c2.keep kg (fun q => by have := Q5.out.dne _ q; omega)).get 1 _ rfl).1, ((Q5.out.bel.trans (kg.below Q5.out.bel.size (fun k hk q => by have := Q5.out.dne _ q; omega))).cell (p := ⟨b, off + j * 2 + 1, none⟩) hbl).trans Y1.out⟩)
                  have HRUN := hide hrun
                  have Q6 := hide Q6
                  have LE8 := hide (leastD_snoc ⟨pg', 1 + (y : Int)⟩ ds 0)
                  have OK8 := hide (show dirtyB lsn 0 (ds ++ [⟨pg', 1 + (y : Int)⟩]) = true by rw [dirtyB_snoc, HOK.out, recB_of (n := 1 + (y : Int)) (lsn := (lsn : Int)) (by omega) (by have := HM1.out; omega) (by omega)]; unfold fromB; have := HLE.out; simp; omega)
                  clear hrun hr8 hg8 hv8 Q5 LI kg
                  refine wpAnyH_ready (rs := [15]) (by kernel_rfl) (by simp) ?_
                  refine AllReadyH.cons rfl (fun K hK => ?_) AllReadyH.nil
                  refine wp_run 110 (.tmp 96) (.tmp 109) rfl rfl rfl rfl rfl HRUN.out ?_
                  refine hK.out _ _ S8.out (fun hS => ?_)
                  clear hK K
                  (try simp only [Act.put, List.setIfInBounds_toArray, List.set_cons_zero, List.set_cons_succ])
                  clear HRUN
                  refine take_at 16 (some 111) (v := ?_) rfl rfl (by kernel_rfl) (by kernel_rfl) (by kernel_rfl) (fun _ _ _ h => h) ⟨by rfl, ?_⟩ hS ?_
                  rotate_left
                  · intro wq hSw; go_simp; try rfl
                  simp only [Act.put, List.setIfInBounds_toArray, List.set_cons_zero, List.set_cons_succ]
                  refine wpAnyH_ready (rs := [17]) (by kernel_rfl) (by simp) ?_
                  refine AllReadyH.cons rfl (fun K hK => ?_) AllReadyH.nil
                  go_simp
                  go_wp2_with fail
                  refine hK.out _ _ ⟨(Q6.out.c2.get 1 _ rfl).1, (Q6.out.bel.cell (p := ⟨b, off + j * 2 + 1, none⟩) hbl).trans Y1.out⟩ (fun hS => ?_)
                  clear hK K
                  (try simp only [Act.put, List.setIfInBounds_toArray, List.set_cons_zero, List.set_cons_succ])
                  refine wpAnyH_done (by kernel_rfl) ?_ _
                  clear c80 f80
                  go_wp2_with fail
                  go_roundw
                  case rel => exact ⟨j + 1, pg', _, ds ++ [⟨pg', 1 + (y : Int)⟩], by go_num, by go_num, by simp; omega, by omega, by omega, by omega, by rw [LE8.out]; exact Int.le_refl _, OK8.out, Q6.out⟩
                  case measure => simp [intOf]; omega
                · go_simp
                  go_wp2_with fail
                  refine (brought_lit t1 m1 (m1 : Int) rfl _ (by omega) (by omega)).mono ?_
                  rintro e w' ⟨y, rfl, hy, hw⟩
                  obtain rfl : w4 = w' := hw.symm
                  have e8 : IntKind.i64.wrap (1 + (y : Int)) = 1 + (y : Int) := by rw [IntKind.wrap_i64]; omega
                  go_wp2_with fail
                  refine hK.out _ _ ⟨(QQ.out.c2.get 1 _ rfl).1, (QQ.out.bel.cell (p := ⟨b, off + j * 2 + 1, none⟩) hbl).trans Y1.out⟩ (fun hS => ?_)
                  clear hK K
                  (try simp only [Act.put, List.setIfInBounds_toArray, List.set_cons_zero, List.set_cons_succ])
                  refine take_at 12 (some 107) (v := ?_) rfl rfl (by kernel_rfl) (by kernel_rfl) (by kernel_rfl) (fun _ _ _ h => h) ⟨by rfl, ?_⟩ hS ?_
                  rotate_left
                  · intro wq hSw; go_simp; try rfl
                  simp only [Act.put, List.setIfInBounds_toArray, List.set_cons_zero, List.set_cons_succ]
                  refine take_at 13 (some 108) (v := ?_) rfl rfl (by kernel_rfl) (by kernel_rfl) (by kernel_rfl) (fun _ _ _ h => h) ⟨by rfl, ?_⟩ hS ?_
                  rotate_left
                  · intro wq hSw; go_simp; try rfl
                  simp only [Act.put, List.setIfInBounds_toArray, List.set_cons_zero, List.set_cons_succ]
                  refine wpAnyH_ready (rs := [1, 14]) (by kernel_rfl) (by simp) ?_
                  refine AllReadyH.cons rfl (fun K hK => ?_) (AllReadyH.cons rfl (fun K hK => ?_) AllReadyH.nil)
                  · have cl := (QQ.out.c5.get 1 _ rfl).1
                    go_simp
                    go_wp2_with fail
                    refine hK.out _ _ ⟨(QQ.out.c2.get 1 _ rfl).1, (QQ.out.bel.cell (p := ⟨b, off + j * 2 + 1, none⟩) hbl).trans Y1.out⟩ (fun hS => ?_)
                    clear hK K
                    (try simp only [Act.put, List.setIfInBounds_toArray, List.set_cons_zero, List.set_cons_succ])
                    clear cl
                    refine wpAnyH_ready (rs := [14]) (by kernel_rfl) (by simp) ?_
                    refine AllReadyH.cons rfl (fun K hK => ?_) AllReadyH.nil
                    have LI := hide (lies_lit w4 #[.int .i64 pg', .int .i64 (1 + (y : Int))] 57)
                    have Q5 := hide (QQ.out.below (alloc_below w4 (.cells #[.int .i64 pg', .int .i64 (1 + (y : Int))] 57)))
                    go_simp
                    (try go_wp2_with fail)
                    generalize w4.alloc (.cells #[.int .i64 pg', .int .i64 (1 + (y : Int))] 57) = w5 at *
                    refine hK.out _ _ ⟨(Q5.out.c2.get 1 _ rfl).1, (Q5.out.bel.cell (p := ⟨b, off + j * 2 + 1, none⟩) hbl).trans Y1.out⟩ (fun hS => ?_)
                    clear hK K
                    (try simp only [Act.put, List.setIfInBounds_toArray, List.set_cons_zero, List.set_cons_succ])
                    obtain ⟨v8, w8, hrun, hr8, hg8, hv8⟩ := run_pushD 40 w5 w.heap.size _ ds Q5.out.rd ⟨w4.heap.size, 0, none⟩ ⟨pg', 1 + (y : Int)⟩ LI.out (by omega) Q5.out.bel.size
                    have Q6 := Q5.out.putD hr8 hg8 hv8
                    obtain ⟨a8, c8, ev8, _⟩ := GRow.lies hr8
                    have hle : (ds ++ [(⟨pg', 1 + (y : Int)⟩ : DirtyM)]).length = ds.length + 1 := by simp
                    rw [hle] at ev8
                    subst ev8
                    have kg := (Keep.refl (fun k => _ = some k) _).grown hg8 (fun _ q _ => q)
                    have hc8 := ((Q5.out.c5.keep kg (fun q => by have := Q5.out.dne _ q; omega)).get 1 _ rfl)
                    obtain ⟨c80, f80⟩ := hc8
                    have S8 := hide (show w8.cell? ⟨w.heap.size, 1, none⟩ = some (.slice (some ⟨b, off, none⟩) ds0.length dc) ∧ w8.cell? ⟨b, off + j * 2 + 1, none⟩ = some (.int .i64 t1) from ⟨((Q5.out.c2.keep kg (fun q => by have := Q5.out.dne _ q; omega)).get 1 _ rfl).1, ((Q5.out.bel.trans (kg.below Q5.out.bel.size (fun k hk q => by have := Q5.out.dne _ q; omega))).cell (p := ⟨b, off + j * 2 + 1, none⟩) hbl).trans Y1.out⟩)
                    have HRUN := hide hrun
                    have Q6 := hide Q6
                    have LE8 := hide (leastD_snoc ⟨pg', 1 + (y : Int)⟩ ds 0)
                    have OK8 := hide (show dirtyB lsn 0 (ds ++ [⟨pg', 1 + (y : Int)⟩]) = true by rw [dirtyB_snoc, HOK.out, recB_of (n := 1 + (y : Int)) (lsn := (lsn : Int)) (by omega) (by have := HM1.out; omega) (by omega)]; unfold fromB; have := HLE.out; simp; omega)
                    clear hrun hr8 hg8 hv8 Q5 LI kg
                    refine wpAnyH_ready (rs := [15]) (by kernel_rfl) (by simp) ?_
                    refine AllReadyH.cons rfl (fun K hK => ?_) AllReadyH.nil
                    refine wp_run 110 (.tmp 96) (.tmp 109) rfl rfl rfl rfl rfl HRUN.out ?_
                    refine hK.out _ _ S8.out (fun hS => ?_)
                    clear hK K
                    (try simp only [Act.put, List.setIfInBounds_toArray, List.set_cons_zero, List.set_cons_succ])
                    clear HRUN
                    refine take_at 16 (some 111) (v := ?_) rfl rfl (by kernel_rfl) (by kernel_rfl) (by kernel_rfl) (fun _ _ _ h => h) ⟨by rfl, ?_⟩ hS ?_
                    rotate_left
                    · intro wq hSw; go_simp; try rfl
                    simp only [Act.put, List.setIfInBounds_toArray, List.set_cons_zero, List.set_cons_succ]
                    refine wpAnyH_ready (rs := [17]) (by kernel_rfl) (by simp) ?_
                    refine AllReadyH.cons rfl (fun K hK => ?_) AllReadyH.nil
                    go_simp
                    go_wp2_with fail
                    refine hK.out _ _ ⟨(Q6.out.c2.get 1 _ rfl).1, (Q6.out.bel.cell (p := ⟨b, off + j * 2 + 1, none⟩) hbl).trans Y1.out⟩ (fun hS => ?_)
                    clear hK K
                    (try simp only [Act.put, List.setIfInBounds_toArray, List.set_cons_zero, List.set_cons_succ])
                    refine wpAnyH_done (by kernel_rfl) ?_ _
                    clear c80 f80
                    go_wp2_with fail
                    go_roundw
                    case rel => exact ⟨j + 1, pg', _, ds ++ [⟨pg', 1 + (y : Int)⟩], by go_num, by go_num, by simp; omega, by omega, by omega, by omega, by rw [LE8.out]; exact Int.le_refl _, OK8.out, Q6.out⟩
                    case measure => simp [intOf]; omega
                  · have LI := hide (lies_lit w4 #[.int .i64 pg', .int .i64 (1 + (y : Int))] 57)
                    have Q5 := hide (QQ.out.below (alloc_below w4 (.cells #[.int .i64 pg', .int .i64 (1 + (y : Int))] 57)))
                    go_simp
                    (try go_wp2_with fail)
                    generalize w4.alloc (.cells #[.int .i64 pg', .int .i64 (1 + (y : Int))] 57) = w5 at *
                    refine hK.out _ _ ⟨(Q5.out.c2.get 1 _ rfl).1, (Q5.out.bel.cell (p := ⟨b, off + j * 2 + 1, none⟩) hbl).trans Y1.out⟩ (fun hS => ?_)
                    clear hK K
                    (try simp only [Act.put, List.setIfInBounds_toArray, List.set_cons_zero, List.set_cons_succ])
                    refine wpAnyH_ready (rs := [1]) (by kernel_rfl) (by simp) ?_
                    refine AllReadyH.cons rfl (fun K hK => ?_) AllReadyH.nil
                    have cl := (Q5.out.c5.get 1 _ rfl).1
                    go_simp
                    go_wp2_with fail
                    refine hK.out _ _ ⟨(Q5.out.c2.get 1 _ rfl).1, (Q5.out.bel.cell (p := ⟨b, off + j * 2 + 1, none⟩) hbl).trans Y1.out⟩ (fun hS => ?_)
                    clear hK K
                    (try simp only [Act.put, List.setIfInBounds_toArray, List.set_cons_zero, List.set_cons_succ])
                    clear cl
                    obtain ⟨v8, w8, hrun, hr8, hg8, hv8⟩ := run_pushD 40 w5 w.heap.size _ ds Q5.out.rd ⟨w4.heap.size, 0, none⟩ ⟨pg', 1 + (y : Int)⟩ LI.out (by omega) Q5.out.bel.size
                    have Q6 := Q5.out.putD hr8 hg8 hv8
                    obtain ⟨a8, c8, ev8, _⟩ := GRow.lies hr8
                    have hle : (ds ++ [(⟨pg', 1 + (y : Int)⟩ : DirtyM)]).length = ds.length + 1 := by simp
                    rw [hle] at ev8
                    subst ev8
                    have kg := (Keep.refl (fun k => _ = some k) _).grown hg8 (fun _ q _ => q)
                    have hc8 := ((Q5.out.c5.keep kg (fun q => by have := Q5.out.dne _ q; omega)).get 1 _ rfl)
                    obtain ⟨c80, f80⟩ := hc8
                    have S8 := hide (show w8.cell? ⟨w.heap.size, 1, none⟩ = some (.slice (some ⟨b, off, none⟩) ds0.length dc) ∧ w8.cell? ⟨b, off + j * 2 + 1, none⟩ = some (.int .i64 t1) from ⟨((Q5.out.c2.keep kg (fun q => by have := Q5.out.dne _ q; omega)).get 1 _ rfl).1, ((Q5.out.bel.trans (kg.below Q5.out.bel.size (fun k hk q => by have := Q5.out.dne _ q; omega))).cell (p := ⟨b, off + j * 2 + 1, none⟩) hbl).trans Y1.out⟩)
                    have HRUN := hide hrun
                    have Q6 := hide Q6
                    have LE8 := hide (leastD_snoc ⟨pg', 1 + (y : Int)⟩ ds 0)
                    have OK8 := hide (show dirtyB lsn 0 (ds ++ [⟨pg', 1 + (y : Int)⟩]) = true by rw [dirtyB_snoc, HOK.out, recB_of (n := 1 + (y : Int)) (lsn := (lsn : Int)) (by omega) (by have := HM1.out; omega) (by omega)]; unfold fromB; have := HLE.out; simp; omega)
                    clear hrun hr8 hg8 hv8 Q5 LI kg
                    refine wpAnyH_ready (rs := [15]) (by kernel_rfl) (by simp) ?_
                    refine AllReadyH.cons rfl (fun K hK => ?_) AllReadyH.nil
                    refine wp_run 110 (.tmp 96) (.tmp 109) rfl rfl rfl rfl rfl HRUN.out ?_
                    refine hK.out _ _ S8.out (fun hS => ?_)
                    clear hK K
                    (try simp only [Act.put, List.setIfInBounds_toArray, List.set_cons_zero, List.set_cons_succ])
                    clear HRUN
                    refine take_at 16 (some 111) (v := ?_) rfl rfl (by kernel_rfl) (by kernel_rfl) (by kernel_rfl) (fun _ _ _ h => h) ⟨by rfl, ?_⟩ hS ?_
                    rotate_left
                    · intro wq hSw; go_simp; try rfl
                    simp only [Act.put, List.setIfInBounds_toArray, List.set_cons_zero, List.set_cons_succ]
                    refine wpAnyH_ready (rs := [17]) (by kernel_rfl) (by simp) ?_
                    refine AllReadyH.cons rfl (fun K hK => ?_) AllReadyH.nil
                    go_simp
                    go_wp2_with fail
                    refine hK.out _ _ ⟨(Q6.out.c2.get 1 _ rfl).1, (Q6.out.bel.cell (p := ⟨b, off + j * 2 + 1, none⟩) hbl).trans Y1.out⟩ (fun hS => ?_)
                    clear hK K
                    (try simp only [Act.put, List.setIfInBounds_toArray, List.set_cons_zero, List.set_cons_succ])
                    refine wpAnyH_done (by kernel_rfl) ?_ _
                    clear c80 f80
                    go_wp2_with fail
                    go_roundw
                    case rel => exact ⟨j + 1, pg', _, ds ++ [⟨pg', 1 + (y : Int)⟩], by go_num, by go_num, by simp; omega, by omega, by omega, by omega, by rw [LE8.out]; exact Int.le_refl _, OK8.out, Q6.out⟩
                    case measure => simp [intOf]; omega
              · have hg4 : decide (pg' < 64) = false := by simpa using hp64
                go_wp2_with fail
                go_roundw
                case rel => exact ⟨j + 1, pg', _, ds, rfl, by go_num, by omega, by omega, by omega, by omega, by have := HLE.out; omega, HOK.out, HQ2.out⟩
                case measure => simp [intOf]; omega
            | false =>
              have w5c := HQ2.out.c5
              have k0 := (w5c.get 0 _ rfl).1
              have k1 := (w5c.get 1 _ rfl).1
              have k2 := (w5c.get 2 _ rfl).1
              have g0 := (HQ2.out.c4.get 0 _ rfl).1
              have f0 := (HQ2.out.c4.get 0 _ rfl).2
              have g1 := (HQ2.out.c4.get 1 _ rfl).1
              have f1 := (HQ2.out.c4.get 1 _ rfl).2
              have g2 := (HQ2.out.c4.get 2 _ rfl).1
              have f2 := (HQ2.out.c4.get 2 _ rfl).2
              have kk : Keep (fun k => k = w.heap.size + 1) wr (((wr.setCell ⟨w.heap.size + 1, 0, none⟩ (.slice aL ls.length cL)).setCell ⟨w.heap.size + 1, 1, none⟩ (.slice aD ds.length cD)).setCell ⟨w.heap.size + 1, 2, none⟩ (.int .i64 nx)) := (((Keep.refl (fun k => k = w.heap.size + 1) wr).setCell (fun _ => rfl) _).setCell (fun _ => rfl) _).setCell (fun _ => rfl) _
              have C4 := ((HQ2.out.c4.stored (j := 0) (by simp) ((.slice aL ls.length cL))).stored (j := 1) (by simp) ((.slice aD ds.length cD))).stored (j := 2) (by simp) (.int .i64 nx)
              have RL := hide (GRow.keep HQ2.out.rl kk (fun g q e => by have := HQ2.out.lne g q; omega))
              have RD := hide (GRow.keep HQ2.out.rd kk (fun g q e => by have := HQ2.out.dne g q; omega))
              have BB := hide (HQ2.out.bel.trans (kk.below HQ2.out.bel.size (fun k hk q => by omega)))
              have y0 := (C4.get 0 _ rfl).1
              have y1 := (C4.get 1 _ rfl).1
              have y2 := (C4.get 2 _ rfl).1
              have PTS := hide (show pointsB true ls ds nx lsn = true by
                unfold pointsB
                rw [cond_true, HOKL.out, HOK.out]
                unfold fromB
                simp
                omega)
              clear kk C4 w5c
              go_wp2_with fail
              refine bodyPost_ret (v := .agg #[(.slice aL ls.length cL), (.slice aD ds.length cD), .int .i64 nx]) (by simp only [results, Tryz.results47]; simp [go_sem, y0, y1, y2]) rfl ?_
              first | exact ⟨_, _, nx, ls, ds, rfl, RL.out, RD.out, HQ2.out.ld, PTS.out, BB.out⟩ | exact ⟨_, _, nx, rfl, ls, RL.out, ds, RD.out, HQ2.out.ld, PTS.out, BB.out⟩
end Go.Proofs.YtgpmghdoofcpaaaGreat.Lg
