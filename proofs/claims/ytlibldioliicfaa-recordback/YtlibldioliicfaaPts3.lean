import Derived.Test.YtlibldioliicfaaPts
import Derived.Test.YtlibldioliicfaaDec2
namespace Go.Proofs.Ytlibldioliicfaa
open Go.RowKit Go.QK
set_option maxRecDepth 100000
set_option maxHeartbeats 8000000 in
theorem points_any (ls0 : List LiveM) (ds0 : List DirtyM) (la da : Option Addr) (lc dc : Nat) (next lsn : Int) (w : World) (hl : Lies w la (liveCs ls0)) (hd : Lies w da (dirtyCs ds0)) (h2 : 2 ≤ lsn) (h31 : lsn ≤ 2147483647) :
    Calls Try.prog 31 #[.agg #[.slice la ls0.length lc, .slice da ds0.length dc, .int .i64 next], .int .i64 lsn] w fun e w' => ∃ vL vD nx ls ds, e = .returned (.agg #[vL, vD, .int .i64 nx]) ∧ LRow w' w.heap.size vL ls ∧ DRow w' w.heap.size vD ds ∧ (∀ g, vL.ownBlock = some g → vD.ownBlock ≠ some g) ∧ pointsB true ls ds nx lsn = true ∧ Below w.heap.size w w' := by
  have HL := hide hl
  have HD := hide hd
  clear hl hd
  have sz1 : (w.alloc (.cells #[.slice la ls0.length lc, .slice da ds0.length dc, .int .i64 next] 34)).heap.size = w.heap.size + 1 := by simp
  have sz2 : ((w.alloc (.cells #[.slice la ls0.length lc, .slice da ds0.length dc, .int .i64 next] 34)).alloc (.cells #[.slice none 0 0, .slice none 0 0, .int .i64 0] 34)).heap.size = w.heap.size + 2 := by simp
  have b1 := alloc_below w (.cells #[.slice la ls0.length lc, .slice da ds0.length dc, .int .i64 next] 34)
  have b2 := alloc_below (w.alloc (.cells #[.slice la ls0.length lc, .slice da ds0.length dc, .int .i64 next] 34)) (.cells #[.slice none 0 0, .slice none 0 0, .int .i64 0] 34)
  have b3 := alloc_below ((w.alloc (.cells #[.slice la ls0.length lc, .slice da ds0.length dc, .int .i64 next] 34)).alloc (.cells #[.slice none 0 0, .slice none 0 0, .int .i64 0] 34)) (.cells #[.slice none 0 0, .slice none 0 0, .int .i64 0] 34)
  have C4 := Cells.new (w.alloc (.cells #[.slice la ls0.length lc, .slice da ds0.length dc, .int .i64 next] 34)) #[.slice none 0 0, .slice none 0 0, .int .i64 0] 34
  have C5 := Cells.new ((w.alloc (.cells #[.slice la ls0.length lc, .slice da ds0.length dc, .int .i64 next] 34)).alloc (.cells #[.slice none 0 0, .slice none 0 0, .int .i64 0] 34)) #[.slice none 0 0, .slice none 0 0, .int .i64 0] 34
  rw [sz1] at C4
  rw [sz2] at C5
  have Q0 : QB w [.slice la ls0.length lc, .slice da ds0.length dc, .int .i64 next] (((w.alloc (.cells #[.slice la ls0.length lc, .slice da ds0.length dc, .int .i64 next] 34)).alloc (.cells #[.slice none 0 0, .slice none 0 0, .int .i64 0] 34)).alloc (.cells #[.slice none 0 0, .slice none 0 0, .int .i64 0] 34)) 0 (.slice none 0 0) [] (.slice none 0 0) [] :=
    ⟨bnext (bnext b1 b2 (Nat.le_refl _)) b3 (Nat.le_refl _), ((Cells.new w #[.slice la ls0.length lc, .slice da ds0.length dc, .int .i64 next] 34).below b2).below b3, C4.below b3, C5, World.ownsRow_nil _ _ _ _, World.ownsRow_nil _ _ _ _, nofun, nofun, nofun⟩
  have Q0 := hide Q0
  clear b1 b2 b3 C4 C5 sz1 sz2
  have e0 : IntKind.i64.wrap (lsn - 1) = lsn - 1 := by rw [IntKind.wrap_i64]; omega
  go_enter Try.func31, Try.ntmps31
  go_wp2_with fail
  rw [show w.heap.size + 1 + 1 = w.heap.size + 2 from rfl]
  go_loopw [6, 7] (fun s i wr => ∃ (k : Nat) (at_ : Int) (vL : Value) (ls : List LiveM), s = .int .i64 at_ ∧ i = .int .i64 (k : Int) ∧ ls.length = k ∧ k ≤ 32 ∧ k ≤ ls0.length ∧ (0 ≤ at_ ∧ at_ ≤ 1000 * (k : Int)) ∧ leastL 1 ls = at_ + 1 ∧ (∀ nx, at_ < nx → liveB nx lsn 1 ls = true) ∧ QB w [.slice la ls0.length lc, .slice da ds0.length dc, .int .i64 next] wr 0 vL ls (.slice none 0 0) []) (fun _ i _ => (ls0.length + 1 - (intOf i).toNat))
  case atStart => exact ⟨0, 0, .slice none 0 0, [], rfl, rfl, rfl, by omega, Nat.zero_le _, by omega, rfl, fun _ _ => rfl, Q0.out⟩
  case round =>
    obtain ⟨k, at_, vL, ls, rfl, rfl, hlen, hk32, hk0, hat, hleast, hok, hq⟩ := hrel
    have HLEN := hide hlen
    have HOK := hide hok
    have HLE := hide hleast
    have HQ := hide hq
    obtain ⟨aL, cL, eL, _⟩ := GRow.lies hq.rl
    rw [hlen] at eL
    subst eL
    have p0 := (HQ.out.c2.get 0 _ rfl).1
    have x0 := (HQ.out.c5.get 0 _ rfl).1
    have lt5 := HQ.out.c5.1
    have ne5 : ¬ (w.heap.size + 2 = wr.heap.size) := by omega
    have ne0 : ¬ (w.heap.size = wr.heap.size) := by omega
    clear hlen hok hleast hq Q0
    by_cases hlt : k < ls0.length ∧ k < 32
    · have hg1 : decide ((k : Int) < (ls0.length : Int)) = true := by simp; omega
      have hg2 : decide ((k : Int) < 32) = true := by simp; omega
      obtain ⟨b, off, ea, hbl, y0, y1, y2, y3⟩ := (HL.out.below HQ.out.bel).liveAt k hlt.1
      subst ea
      generalize ls0[k].tx = t0 at *
      generalize ls0[k].last = t1 at *
      generalize ls0[k].com = t2 at *
      generalize ls0[k].und = t3 at *
      go_wp2_with fail
      refine (rest_any t0 1 1000 _ (by omega) (by omega) (by omega)).mono ?_
      rintro e w' ⟨x, rfl, hx, hw⟩
      subst hw
      have e1 : IntKind.i64.wrap (at_ + x) = at_ + x := by rw [IntKind.wrap_i64]; omega
      go_wp2_with fail
      refine (rest_any t1 1 (lsn - 1) _ (by omega) (by omega) (by omega)).mono ?_
      rintro e w' ⟨y, rfl, hy, hw⟩
      subst hw
      obtain ⟨u, hu⟩ : ∃ u, u = (t3 && !t2) := ⟨_, rfl⟩
      have b5 := alloc_below wr (.cells #[.int .i64 (at_ + x), .int .i64 y, .bool t2, .bool u] 63)
      have b6 := alloc_below (wr.alloc (.cells #[.int .i64 (at_ + x), .int .i64 y, .bool t2, .bool u] 63)) (.cells #[.int .i64 (at_ + x), .int .i64 y, .bool t2, .bool u] 63)
      have Q5 := HQ.out.below (bnext b5 b6 (Nat.le_refl _))
      have sz : (wr.alloc (.cells #[.int .i64 (at_ + x), .int .i64 y, .bool t2, .bool u] 63)).heap.size = wr.heap.size + 1 := by simp
      have LI := lies_lit (wr.alloc (.cells #[.int .i64 (at_ + x), .int .i64 y, .bool t2, .bool u] 63)) #[.int .i64 (at_ + x), .int .i64 y, .bool t2, .bool u] 63
      rw [sz] at LI
      obtain ⟨v7, w7, hrun, hr7, hg7, hv7⟩ := run_pushL 31 _ w.heap.size _ ls Q5.rl ⟨wr.heap.size + 1, 0, none⟩ ⟨at_ + x, y, t2, u⟩ LI (by have := HLEN.out; omega) Q5.bel.size
      have Q7 := Q5.putL hr7 hg7 hv7
      obtain ⟨a7, c7, ev7, _⟩ := GRow.lies hr7
      have hle : (ls ++ [(⟨at_ + x, y, t2, u⟩ : LiveM)]).length = k + 1 := by have := HLEN.out; simp; omega
      rw [hle] at ev7
      subst ev7
      have hc7 := ((Q5.c5.keep ((Keep.refl (fun k => _ = some k) _).grown hg7 (fun _ q _ => q)) (fun q => by have := Q5.lne _ q; omega)).get 0 _ rfl)
      obtain ⟨c70, f70⟩ := hc7
      have HRUN := hide hrun
      have Q7 := hide Q7
      have HLE7 := hide hle
      have LE7 := hide (leastL_snoc ⟨at_ + x, y, t2, u⟩ ls 1)
      have OK7 := hide (show ∀ nx, at_ + x < nx → liveB nx lsn 1 (ls ++ [⟨at_ + x, y, t2, u⟩]) = true by
        intro nx hnx
        rw [liveB_snoc, HOK.out nx (by omega), HLE.out, recB_of hy.1 hy.2 h31, hu]
        unfold fromB
        cases t3 <;> cases t2 <;> simp <;> omega)
      clear hrun hr7 hg7 hv7 Q5 LI hle b5 b6 sz
      cases t3
      · simp only [Bool.false_and] at hu
        subst hu
        go_wp2_with (at_builtin; refine wpList_run (t := 31) rfl (.tmp 51) (.tmp 53) rfl rfl rfl HRUN.out ?_)
        go_roundw
        case rel => exact ⟨k + 1, at_ + x, _, _, rfl, by go_num, HLE7.out, by omega, by omega, by omega, LE7.out, OK7.out, Q7.out⟩
        case measure => simp [intOf]; omega
      · cases t2
        · simp only [Bool.true_and, Bool.not_false] at hu
          subst hu
          go_wp2_with (at_builtin; refine wpList_run (t := 31) rfl (.tmp 51) (.tmp 53) rfl rfl rfl HRUN.out ?_)
          go_roundw
          case rel => exact ⟨k + 1, at_ + x, _, _, rfl, by go_num, HLE7.out, by omega, by omega, by omega, LE7.out, OK7.out, Q7.out⟩
          case measure => simp [intOf]; omega
        · simp only [Bool.true_and, Bool.not_true] at hu
          subst hu
          go_wp2_with (at_builtin; refine wpList_run (t := 31) rfl (.tmp 51) (.tmp 53) rfl rfl rfl HRUN.out ?_)
          go_roundw
          case rel => exact ⟨k + 1, at_ + x, _, _, rfl, by go_num, HLE7.out, by omega, by omega, by omega, LE7.out, OK7.out, Q7.out⟩
          case measure => simp [intOf]; omega
    · by_cases hlt1 : k < ls0.length
      · have hg1 : decide ((k : Int) < (ls0.length : Int)) = true := by simp; omega
        have hg2 : decide ((k : Int) < 32) = false := by simp; omega
        have LNE := hide HQ.out.lne
        have e2 : IntKind.i64.wrap (at_ + 1) = at_ + 1 := by rw [IntKind.wrap_i64]; omega
        have p2 := (HQ.out.c2.get 2 _ rfl).1
        have x2 := (HQ.out.c5.get 2 _ rfl).1
        have z2 := (HQ.out.c5.get 2 _ rfl).2
        have HOKL := hide HOK.out
        have HLENL := hide HLEN.out
        go_wp2_with fail
        refine (rest_any next (at_ + 1) 2147483648 _ (by omega) (by omega) (by omega)).mono ?_
        rintro e w' ⟨nx, rfl, hnx, hw⟩
        obtain rfl : wr = w' := hw.symm
        have Q1 := hide (HQ.out.next nx)
        clear HOK HLEN HLE
        go_wp2_with fail
        clear p0 x0 p2 x2 z2
        go_loopw [9, 10] (fun s i wr => ∃ (j : Nat) (pg : Int) (vD : Value) (ds : List DirtyM), s = .int .i64 pg ∧ i = .int .i64 (j : Int) ∧ ds.length = j ∧ j ≤ 16 ∧ j ≤ ds0.length ∧ (-1 ≤ pg ∧ pg ≤ 63) ∧ leastD 0 ds = pg + 1 ∧ dirtyB lsn 0 ds = true ∧ QB w [.slice la ls0.length lc, .slice da ds0.length dc, .int .i64 next] wr nx (.slice aL k cL) ls vD ds) (fun _ i _ => (ds0.length + 1 - (intOf i).toNat))
        case atStart => exact ⟨0, -1, .slice none 0 0, [], rfl, rfl, rfl, by omega, Nat.zero_le _, by omega, rfl, rfl, Q1.out⟩
        case round =>
          obtain ⟨j, pg, vD, ds, rfl, rfl, hlen, hj16, hj0, hpg, hleast, hok, hq⟩ := hrel
          have HLEN := hide hlen
          have HOK := hide hok
          have HLE := hide hleast
          have HQ2 := hide hq
          obtain ⟨aD, cD, eD, _⟩ := GRow.lies hq.rd
          rw [hlen] at eD
          subst eD
          have p1 := (HQ2.out.c2.get 1 _ rfl).1
          have x1 := (HQ2.out.c5.get 1 _ rfl).1
          clear hlen hok hleast hq Q1 HQ
          by_cases hlt1 : j < ds0.length
          · have hg1 : decide ((j : Int) < (ds0.length : Int)) = true := by simp; omega
            by_cases hlt2 : j < 16
            · have hg2 : decide ((j : Int) < 16) = true := by simp; omega
              by_cases hlt3 : pg < 63
              · have hg3 : decide (pg < 63) = true := by simp; omega
                obtain ⟨b, off, ea, hbl, yy0, yy1⟩ := HD.out.dirtyAt j hlt1
                subst ea
                have v0 := (HQ2.out.bel.cell (p := ⟨b, off + j * 2, none⟩) hbl).trans yy0
                have v1 := (HQ2.out.bel.cell (p := ⟨b, off + j * 2 + 1, none⟩) hbl).trans yy1
                generalize ds0[j].page = t0 at *
                generalize ds0[j].since = t1 at *
                have Y1 := hide yy1
                clear yy0 yy1
                have e5 : IntKind.i64.wrap (pg + 1) = pg + 1 := by rw [IntKind.wrap_i64]; omega
                have e6 : IntKind.i64.wrap (pg + 5) = pg + 5 := by rw [IntKind.wrap_i64]; omega
                have e7 : -1 ≤ pg + 1 := by omega
                by_cases hm5 : pg + 5 ≤ 63
                · obtain ⟨mm, hmm⟩ : ∃ mm, mm = pg + 5 := ⟨_, rfl⟩
                  go_wp2_with fail
                  refine (rest_any t0 (pg + 1) (pg + 5) _ (by omega) (by omega) (by omega)).mono ?_
                  rintro e w' ⟨pg', rfl, hp', hw⟩
                  obtain rfl : wr = w' := hw.symm
                  have QQ := hide (HQ2.out.below (Below.refl _ _).drew)
                  have FX := hide (show wr.cell? ⟨w.heap.size, 1, none⟩ = some (.slice (some ⟨b, off, none⟩) ds0.length dc) ∧ wr.cell? ⟨b, off + j * 2 + 1, none⟩ = some (.int .i64 t1) from ⟨p1, v1⟩)
                  clear hmm HQ2
                  go_upto_region 18 with fail
                  refine wp_region_held_drew (S := fun wq => wq.cell? ⟨w.heap.size, 1, none⟩ = some (.slice (some ⟨b, off, none⟩) ds0.length dc) ∧ wq.cell? ⟨b, off + j * 2 + 1, none⟩ = some (.int .i64 t1)) (by kernel_rfl) FX.out (fun hS => ?_)
                  generalize wr.drew = w4 at *
                  clear FX p1 x1 v0 v1
                  refine take_at 0 (some 91) (v := ?_) rfl rfl (by kernel_rfl) (by kernel_rfl) (by kernel_rfl) (fun _ _ _ h => h) ⟨by rfl, ?_⟩ hS ?_
                  rotate_left
                  · intro wq hSw; go_simp; try rfl
                  simp only [Act.put, List.setIfInBounds_toArray, List.set_cons_zero, List.set_cons_succ]
                  refine take_at 2 (some 93) (v := ?_) rfl rfl (by kernel_rfl) (by kernel_rfl) (by kernel_rfl) (fun _ _ _ h => h) ⟨by rfl, ?_⟩ hS ?_
                  rotate_left
                  · intro wq hSw; go_simp; try rfl
                  simp only [Act.put, List.setIfInBounds_toArray, List.set_cons_zero, List.set_cons_succ]
                  refine take_at 3 (some 94) (v := ?_) rfl rfl (by kernel_rfl) (by kernel_rfl) (by kernel_rfl) (fun _ _ _ h => h) ⟨by rfl, ?_⟩ hS ?_
                  rotate_left
                  · intro wq hSw; go_simp; try rfl
                  simp only [Act.put, List.setIfInBounds_toArray, List.set_cons_zero, List.set_cons_succ]
                  refine take_at 4 (some 95) (v := ?_) rfl rfl (by kernel_rfl) (by kernel_rfl) (by kernel_rfl) (fun _ _ _ h => h) ⟨by rfl, ?_⟩ hS ?_
                  rotate_left
                  · intro wq hSw; obtain ⟨y0, y1⟩ := hSw; go_simp; try rfl
                  simp only [Act.put, List.setIfInBounds_toArray, List.set_cons_zero, List.set_cons_succ]
                  refine take_at 5 (some 96) (v := ?_) rfl rfl (by kernel_rfl) (by kernel_rfl) (by kernel_rfl) (fun _ _ _ h => h) ⟨by rfl, ?_⟩ hS ?_
                  rotate_left
                  · intro wq hSw; go_simp; try rfl
                  simp only [Act.put, List.setIfInBounds_toArray, List.set_cons_zero, List.set_cons_succ]
                  refine take_at 6 (some 97) (v := ?_) rfl rfl (by kernel_rfl) (by kernel_rfl) (by kernel_rfl) (fun _ _ _ h => h) ⟨by rfl, ?_⟩ hS ?_
                  rotate_left
                  · intro wq hSw; go_simp; try rfl
                  simp only [Act.put, List.setIfInBounds_toArray, List.set_cons_zero, List.set_cons_succ]
                  refine take_at 7 (some 98) (v := ?_) rfl rfl (by kernel_rfl) (by kernel_rfl) (by kernel_rfl) (fun _ _ _ h => h) ⟨by rfl, ?_⟩ hS ?_
                  rotate_left
                  · intro wq hSw; go_simp; try rfl
                  simp only [Act.put, List.setIfInBounds_toArray, List.set_cons_zero, List.set_cons_succ]
                  refine take_at 8 (some 99) (v := ?_) rfl rfl (by kernel_rfl) (by kernel_rfl) (by kernel_rfl) (fun _ _ _ h => h) ⟨by rfl, ?_⟩ hS ?_
                  rotate_left
                  · intro wq hSw; obtain ⟨y0, y1⟩ := hSw; go_simp; try rfl
                  simp only [Act.put, List.setIfInBounds_toArray, List.set_cons_zero, List.set_cons_succ]
                  refine take_at 9 (some 100) (v := ?_) rfl rfl (by kernel_rfl) (by kernel_rfl) (by kernel_rfl) (fun _ _ _ h => h) ⟨by rfl, ?_⟩ hS ?_
                  rotate_left
                  · intro wq hSw; go_simp; try rfl
                  simp only [Act.put, List.setIfInBounds_toArray, List.set_cons_zero, List.set_cons_succ]
                  refine take_at 10 (some 101) (v := ?_) rfl rfl (by kernel_rfl) (by kernel_rfl) (by kernel_rfl) (fun _ _ _ h => h) ⟨by rfl, ?_⟩ hS ?_
                  rotate_left
                  · intro wq hSw; go_simp; try rfl
                  simp only [Act.put, List.setIfInBounds_toArray, List.set_cons_zero, List.set_cons_succ]
                  refine wpAnyH_ready (rs := [1, 11]) (by kernel_rfl) (by simp) ?_
                  refine AllReadyH.cons rfl (fun K hK => ?_) (AllReadyH.cons rfl (fun K hK => ?_) AllReadyH.nil)
                  · have cl := (QQ.out.c5.get 1 _ rfl).1
                    go_simp
                    go_wp2_with fail
                    refine hK.out _ _ ⟨(QQ.out.c2.get 1 _ rfl).1, (QQ.out.bel.cell (p := ⟨b, off + j * 2 + 1, none⟩) hbl).trans Y1.out⟩ (fun hS => ?_)
                    clear hK K
                    (try simp only [Act.put, List.setIfInBounds_toArray, List.set_cons_zero, List.set_cons_succ])
                    clear cl
                    refine wpAnyH_ready (rs := [11]) (by kernel_rfl) (by simp) ?_
                    refine AllReadyH.cons rfl (fun K hK => ?_) AllReadyH.nil
                    go_simp
                    go_wp2_with fail
                    refine (rest_any t1 1 (lsn - 1) _ (by omega) (by omega) (by omega)).mono ?_
                    rintro e w' ⟨y, rfl, hy, hw⟩
                    obtain rfl : w4 = w' := hw.symm
                    go_wp2_with fail
                    refine hK.out _ _ ⟨(QQ.out.c2.get 1 _ rfl).1, (QQ.out.bel.cell (p := ⟨b, off + j * 2 + 1, none⟩) hbl).trans Y1.out⟩ (fun hS => ?_)
                    clear hK K
                    (try simp only [Act.put, List.setIfInBounds_toArray, List.set_cons_zero, List.set_cons_succ])
                    refine take_at 12 (some 103) (v := ?_) rfl rfl (by kernel_rfl) (by kernel_rfl) (by kernel_rfl) (fun _ _ _ h => h) ⟨by rfl, ?_⟩ hS ?_
                    rotate_left
                    · intro wq hSw; go_simp; try rfl
                    simp only [Act.put, List.setIfInBounds_toArray, List.set_cons_zero, List.set_cons_succ]
                    refine wpAnyH_ready (rs := [13]) (by kernel_rfl) (by simp) ?_
                    refine AllReadyH.cons rfl (fun K hK => ?_) AllReadyH.nil
                    have LI := hide (lies_lit w4 #[.int .i64 pg', .int .i64 y] 65)
                    have Q5 := hide (QQ.out.below (alloc_below w4 (.cells #[.int .i64 pg', .int .i64 y] 65)))
                    go_simp
                    (try go_wp2_with fail)
                    generalize w4.alloc (.cells #[.int .i64 pg', .int .i64 y] 65) = w5 at *
                    refine hK.out _ _ ⟨(Q5.out.c2.get 1 _ rfl).1, (Q5.out.bel.cell (p := ⟨b, off + j * 2 + 1, none⟩) hbl).trans Y1.out⟩ (fun hS => ?_)
                    clear hK K
                    (try simp only [Act.put, List.setIfInBounds_toArray, List.set_cons_zero, List.set_cons_succ])
                    obtain ⟨v8, w8, hrun, hr8, hg8, hv8⟩ := run_pushD 32 w5 w.heap.size _ ds Q5.out.rd ⟨w4.heap.size, 0, none⟩ ⟨pg', y⟩ LI.out (by have := HLEN.out; omega) Q5.out.bel.size
                    have Q6 := Q5.out.putD hr8 hg8 hv8
                    obtain ⟨a8, c8, ev8, _⟩ := GRow.lies hr8
                    have hle : (ds ++ [(⟨pg', y⟩ : DirtyM)]).length = j + 1 := by have := HLEN.out; simp; omega
                    rw [hle] at ev8
                    subst ev8
                    have kg := (Keep.refl (fun k => _ = some k) _).grown hg8 (fun _ q _ => q)
                    have hc8 := ((Q5.out.c5.keep kg (fun q => by have := Q5.out.dne _ q; omega)).get 1 _ rfl)
                    obtain ⟨c80, f80⟩ := hc8
                    have Q6' := hide (show w8.cell? ⟨w.heap.size, 1, none⟩ = some (.slice (some ⟨b, off, none⟩) ds0.length dc) ∧ w8.cell? ⟨b, off + j * 2 + 1, none⟩ = some (.int .i64 t1) from ⟨((Q5.out.c2.keep kg (fun q => by have := Q5.out.dne _ q; omega)).get 1 _ rfl).1, ((Q5.out.bel.trans (kg.below Q5.out.bel.size (fun k hk q => by have := Q5.out.dne _ q; omega))).cell (p := ⟨b, off + j * 2 + 1, none⟩) hbl).trans Y1.out⟩)
                    have HRUN := hide hrun
                    have Q6 := hide Q6
                    have HLE8 := hide hle
                    have LE8 := hide (leastD_snoc ⟨pg', y⟩ ds 0)
                    have OK8 := hide (show dirtyB lsn 0 (ds ++ [⟨pg', y⟩]) = true by rw [dirtyB_snoc, HOK.out, HLE.out, recB_of hy.1 hy.2 h31]; unfold fromB; simp; omega)
                    clear hrun hr8 hg8 hv8 Q5 LI hle kg
                    refine wpAnyH_ready (rs := [14]) (by kernel_rfl) (by simp) ?_
                    refine AllReadyH.cons rfl (fun K hK => ?_) AllReadyH.nil
                    refine wp_run 105 (.tmp 92) (.tmp 104) rfl rfl rfl rfl rfl HRUN.out ?_
                    refine hK.out _ _ Q6'.out (fun hS => ?_)
                    clear hK K
                    (try simp only [Act.put, List.setIfInBounds_toArray, List.set_cons_zero, List.set_cons_succ])
                    clear HRUN
                    refine take_at 15 (some 106) (v := ?_) rfl rfl (by kernel_rfl) (by kernel_rfl) (by kernel_rfl) (fun _ _ _ h => h) ⟨by rfl, ?_⟩ hS ?_
                    rotate_left
                    · intro wq hSw; go_simp; try rfl
                    simp only [Act.put, List.setIfInBounds_toArray, List.set_cons_zero, List.set_cons_succ]
                    refine wpAnyH_ready (rs := [16]) (by kernel_rfl) (by simp) ?_
                    refine AllReadyH.cons rfl (fun K hK => ?_) AllReadyH.nil
                    go_simp
                    go_wp2_with fail
                    refine hK.out _ _ ⟨(Q6.out.c2.get 1 _ rfl).1, (Q6.out.bel.cell (p := ⟨b, off + j * 2 + 1, none⟩) hbl).trans Y1.out⟩ (fun hS => ?_)
                    clear hK K
                    (try simp only [Act.put, List.setIfInBounds_toArray, List.set_cons_zero, List.set_cons_succ])
                    refine wpAnyH_done (by kernel_rfl) ?_ _
                    clear c80 f80
                    go_wp2_with fail
                    go_roundw
                    case rel => exact ⟨j + 1, pg', _, _, rfl, by go_num, HLE8.out, by omega, by omega, by omega, LE8.out, OK8.out, Q6.out⟩
                    case measure => simp [intOf]; omega
                  · go_simp
                    go_wp2_with fail
                    refine (rest_any t1 1 (lsn - 1) _ (by omega) (by omega) (by omega)).mono ?_
                    rintro e w' ⟨y, rfl, hy, hw⟩
                    obtain rfl : w4 = w' := hw.symm
                    go_wp2_with fail
                    refine hK.out _ _ ⟨(QQ.out.c2.get 1 _ rfl).1, (QQ.out.bel.cell (p := ⟨b, off + j * 2 + 1, none⟩) hbl).trans Y1.out⟩ (fun hS => ?_)
                    clear hK K
                    (try simp only [Act.put, List.setIfInBounds_toArray, List.set_cons_zero, List.set_cons_succ])
                    refine take_at 12 (some 103) (v := ?_) rfl rfl (by kernel_rfl) (by kernel_rfl) (by kernel_rfl) (fun _ _ _ h => h) ⟨by rfl, ?_⟩ hS ?_
                    rotate_left
                    · intro wq hSw; go_simp; try rfl
                    simp only [Act.put, List.setIfInBounds_toArray, List.set_cons_zero, List.set_cons_succ]
                    refine wpAnyH_ready (rs := [1, 13]) (by kernel_rfl) (by simp) ?_
                    refine AllReadyH.cons rfl (fun K hK => ?_) (AllReadyH.cons rfl (fun K hK => ?_) AllReadyH.nil)
                    · have cl := (QQ.out.c5.get 1 _ rfl).1
                      go_simp
                      go_wp2_with fail
                      refine hK.out _ _ ⟨(QQ.out.c2.get 1 _ rfl).1, (QQ.out.bel.cell (p := ⟨b, off + j * 2 + 1, none⟩) hbl).trans Y1.out⟩ (fun hS => ?_)
                      clear hK K
                      (try simp only [Act.put, List.setIfInBounds_toArray, List.set_cons_zero, List.set_cons_succ])
                      clear cl
                      refine wpAnyH_ready (rs := [13]) (by kernel_rfl) (by simp) ?_
                      refine AllReadyH.cons rfl (fun K hK => ?_) AllReadyH.nil
                      have LI := hide (lies_lit w4 #[.int .i64 pg', .int .i64 y] 65)
                      have Q5 := hide (QQ.out.below (alloc_below w4 (.cells #[.int .i64 pg', .int .i64 y] 65)))
                      go_simp
                      (try go_wp2_with fail)
                      generalize w4.alloc (.cells #[.int .i64 pg', .int .i64 y] 65) = w5 at *
                      refine hK.out _ _ ⟨(Q5.out.c2.get 1 _ rfl).1, (Q5.out.bel.cell (p := ⟨b, off + j * 2 + 1, none⟩) hbl).trans Y1.out⟩ (fun hS => ?_)
                      clear hK K
                      (try simp only [Act.put, List.setIfInBounds_toArray, List.set_cons_zero, List.set_cons_succ])
                      obtain ⟨v8, w8, hrun, hr8, hg8, hv8⟩ := run_pushD 32 w5 w.heap.size _ ds Q5.out.rd ⟨w4.heap.size, 0, none⟩ ⟨pg', y⟩ LI.out (by have := HLEN.out; omega) Q5.out.bel.size
                      have Q6 := Q5.out.putD hr8 hg8 hv8
                      obtain ⟨a8, c8, ev8, _⟩ := GRow.lies hr8
                      have hle : (ds ++ [(⟨pg', y⟩ : DirtyM)]).length = j + 1 := by have := HLEN.out; simp; omega
                      rw [hle] at ev8
                      subst ev8
                      have kg := (Keep.refl (fun k => _ = some k) _).grown hg8 (fun _ q _ => q)
                      have hc8 := ((Q5.out.c5.keep kg (fun q => by have := Q5.out.dne _ q; omega)).get 1 _ rfl)
                      obtain ⟨c80, f80⟩ := hc8
                      have Q6' := hide (show w8.cell? ⟨w.heap.size, 1, none⟩ = some (.slice (some ⟨b, off, none⟩) ds0.length dc) ∧ w8.cell? ⟨b, off + j * 2 + 1, none⟩ = some (.int .i64 t1) from ⟨((Q5.out.c2.keep kg (fun q => by have := Q5.out.dne _ q; omega)).get 1 _ rfl).1, ((Q5.out.bel.trans (kg.below Q5.out.bel.size (fun k hk q => by have := Q5.out.dne _ q; omega))).cell (p := ⟨b, off + j * 2 + 1, none⟩) hbl).trans Y1.out⟩)
                      have HRUN := hide hrun
                      have Q6 := hide Q6
                      have HLE8 := hide hle
                      have LE8 := hide (leastD_snoc ⟨pg', y⟩ ds 0)
                      have OK8 := hide (show dirtyB lsn 0 (ds ++ [⟨pg', y⟩]) = true by rw [dirtyB_snoc, HOK.out, HLE.out, recB_of hy.1 hy.2 h31]; unfold fromB; simp; omega)
                      clear hrun hr8 hg8 hv8 Q5 LI hle kg
                      refine wpAnyH_ready (rs := [14]) (by kernel_rfl) (by simp) ?_
                      refine AllReadyH.cons rfl (fun K hK => ?_) AllReadyH.nil
                      refine wp_run 105 (.tmp 92) (.tmp 104) rfl rfl rfl rfl rfl HRUN.out ?_
                      refine hK.out _ _ Q6'.out (fun hS => ?_)
                      clear hK K
                      (try simp only [Act.put, List.setIfInBounds_toArray, List.set_cons_zero, List.set_cons_succ])
                      clear HRUN
                      refine take_at 15 (some 106) (v := ?_) rfl rfl (by kernel_rfl) (by kernel_rfl) (by kernel_rfl) (fun _ _ _ h => h) ⟨by rfl, ?_⟩ hS ?_
                      rotate_left
                      · intro wq hSw; go_simp; try rfl
                      simp only [Act.put, List.setIfInBounds_toArray, List.set_cons_zero, List.set_cons_succ]
                      refine wpAnyH_ready (rs := [16]) (by kernel_rfl) (by simp) ?_
                      refine AllReadyH.cons rfl (fun K hK => ?_) AllReadyH.nil
                      go_simp
                      go_wp2_with fail
                      refine hK.out _ _ ⟨(Q6.out.c2.get 1 _ rfl).1, (Q6.out.bel.cell (p := ⟨b, off + j * 2 + 1, none⟩) hbl).trans Y1.out⟩ (fun hS => ?_)
                      clear hK K
                      (try simp only [Act.put, List.setIfInBounds_toArray, List.set_cons_zero, List.set_cons_succ])
                      refine wpAnyH_done (by kernel_rfl) ?_ _
                      clear c80 f80
                      go_wp2_with fail
                      go_roundw
                      case rel => exact ⟨j + 1, pg', _, _, rfl, by go_num, HLE8.out, by omega, by omega, by omega, LE8.out, OK8.out, Q6.out⟩
                      case measure => simp [intOf]; omega
                    · have LI := hide (lies_lit w4 #[.int .i64 pg', .int .i64 y] 65)
                      have Q5 := hide (QQ.out.below (alloc_below w4 (.cells #[.int .i64 pg', .int .i64 y] 65)))
                      go_simp
                      (try go_wp2_with fail)
                      generalize w4.alloc (.cells #[.int .i64 pg', .int .i64 y] 65) = w5 at *
                      refine hK.out _ _ ⟨(Q5.out.c2.get 1 _ rfl).1, (Q5.out.bel.cell (p := ⟨b, off + j * 2 + 1, none⟩) hbl).trans Y1.out⟩ (fun hS => ?_)
                      clear hK K
                      (try simp only [Act.put, List.setIfInBounds_toArray, List.set_cons_zero, List.set_cons_succ])
                      refine wpAnyH_ready (rs := [1]) (by kernel_rfl) (by simp) ?_
                      refine AllReadyH.cons rfl (fun K hK => ?_) AllReadyH.nil
                      have cl := (Q5.out.c5.get 1 _ rfl).1
                      go_simp
                      go_wp2_with fail
                      refine hK.out _ _ ⟨(Q5.out.c2.get 1 _ rfl).1, (Q5.out.bel.cell (p := ⟨b, off + j * 2 + 1, none⟩) hbl).trans Y1.out⟩ (fun hS => ?_)
                      clear hK K
                      (try simp only [Act.put, List.setIfInBounds_toArray, List.set_cons_zero, List.set_cons_succ])
                      clear cl
                      obtain ⟨v8, w8, hrun, hr8, hg8, hv8⟩ := run_pushD 32 w5 w.heap.size _ ds Q5.out.rd ⟨w4.heap.size, 0, none⟩ ⟨pg', y⟩ LI.out (by have := HLEN.out; omega) Q5.out.bel.size
                      have Q6 := Q5.out.putD hr8 hg8 hv8
                      obtain ⟨a8, c8, ev8, _⟩ := GRow.lies hr8
                      have hle : (ds ++ [(⟨pg', y⟩ : DirtyM)]).length = j + 1 := by have := HLEN.out; simp; omega
                      rw [hle] at ev8
                      subst ev8
                      have kg := (Keep.refl (fun k => _ = some k) _).grown hg8 (fun _ q _ => q)
                      have hc8 := ((Q5.out.c5.keep kg (fun q => by have := Q5.out.dne _ q; omega)).get 1 _ rfl)
                      obtain ⟨c80, f80⟩ := hc8
                      have Q6' := hide (show w8.cell? ⟨w.heap.size, 1, none⟩ = some (.slice (some ⟨b, off, none⟩) ds0.length dc) ∧ w8.cell? ⟨b, off + j * 2 + 1, none⟩ = some (.int .i64 t1) from ⟨((Q5.out.c2.keep kg (fun q => by have := Q5.out.dne _ q; omega)).get 1 _ rfl).1, ((Q5.out.bel.trans (kg.below Q5.out.bel.size (fun k hk q => by have := Q5.out.dne _ q; omega))).cell (p := ⟨b, off + j * 2 + 1, none⟩) hbl).trans Y1.out⟩)
                      have HRUN := hide hrun
                      have Q6 := hide Q6
                      have HLE8 := hide hle
                      have LE8 := hide (leastD_snoc ⟨pg', y⟩ ds 0)
                      have OK8 := hide (show dirtyB lsn 0 (ds ++ [⟨pg', y⟩]) = true by rw [dirtyB_snoc, HOK.out, HLE.out, recB_of hy.1 hy.2 h31]; unfold fromB; simp; omega)
                      clear hrun hr8 hg8 hv8 Q5 LI hle kg
                      refine wpAnyH_ready (rs := [14]) (by kernel_rfl) (by simp) ?_
                      refine AllReadyH.cons rfl (fun K hK => ?_) AllReadyH.nil
                      refine wp_run 105 (.tmp 92) (.tmp 104) rfl rfl rfl rfl rfl HRUN.out ?_
                      refine hK.out _ _ Q6'.out (fun hS => ?_)
                      clear hK K
                      (try simp only [Act.put, List.setIfInBounds_toArray, List.set_cons_zero, List.set_cons_succ])
                      clear HRUN
                      refine take_at 15 (some 106) (v := ?_) rfl rfl (by kernel_rfl) (by kernel_rfl) (by kernel_rfl) (fun _ _ _ h => h) ⟨by rfl, ?_⟩ hS ?_
                      rotate_left
                      · intro wq hSw; go_simp; try rfl
                      simp only [Act.put, List.setIfInBounds_toArray, List.set_cons_zero, List.set_cons_succ]
                      refine wpAnyH_ready (rs := [16]) (by kernel_rfl) (by simp) ?_
                      refine AllReadyH.cons rfl (fun K hK => ?_) AllReadyH.nil
                      go_simp
                      go_wp2_with fail
                      refine hK.out _ _ ⟨(Q6.out.c2.get 1 _ rfl).1, (Q6.out.bel.cell (p := ⟨b, off + j * 2 + 1, none⟩) hbl).trans Y1.out⟩ (fun hS => ?_)
                      clear hK K
                      (try simp only [Act.put, List.setIfInBounds_toArray, List.set_cons_zero, List.set_cons_succ])
                      refine wpAnyH_done (by kernel_rfl) ?_ _
                      clear c80 f80
                      go_wp2_with fail
                      go_roundw
                      case rel => exact ⟨j + 1, pg', _, _, rfl, by go_num, HLE8.out, by omega, by omega, by omega, LE8.out, OK8.out, Q6.out⟩
                      case measure => simp [intOf]; omega
                · obtain ⟨mm, hmm⟩ : ∃ mm : Int, mm = 63 := ⟨_, rfl⟩
                  go_wp2_with fail
                  refine (rest_any t0 (pg + 1) 63 _ (by omega) (by omega) (by omega)).mono ?_
                  rintro e w' ⟨pg', rfl, hp', hw⟩
                  obtain rfl : wr = w' := hw.symm
                  have QQ := hide (HQ2.out.below (Below.refl _ _).drew)
                  have FX := hide (show wr.cell? ⟨w.heap.size, 1, none⟩ = some (.slice (some ⟨b, off, none⟩) ds0.length dc) ∧ wr.cell? ⟨b, off + j * 2 + 1, none⟩ = some (.int .i64 t1) from ⟨p1, v1⟩)
                  clear hmm HQ2
                  go_upto_region 18 with fail
                  refine wp_region_held_drew (S := fun wq => wq.cell? ⟨w.heap.size, 1, none⟩ = some (.slice (some ⟨b, off, none⟩) ds0.length dc) ∧ wq.cell? ⟨b, off + j * 2 + 1, none⟩ = some (.int .i64 t1)) (by kernel_rfl) FX.out (fun hS => ?_)
                  generalize wr.drew = w4 at *
                  clear FX p1 x1 v0 v1
                  refine take_at 0 (some 91) (v := ?_) rfl rfl (by kernel_rfl) (by kernel_rfl) (by kernel_rfl) (fun _ _ _ h => h) ⟨by rfl, ?_⟩ hS ?_
                  rotate_left
                  · intro wq hSw; go_simp; try rfl
                  simp only [Act.put, List.setIfInBounds_toArray, List.set_cons_zero, List.set_cons_succ]
                  refine take_at 2 (some 93) (v := ?_) rfl rfl (by kernel_rfl) (by kernel_rfl) (by kernel_rfl) (fun _ _ _ h => h) ⟨by rfl, ?_⟩ hS ?_
                  rotate_left
                  · intro wq hSw; go_simp; try rfl
                  simp only [Act.put, List.setIfInBounds_toArray, List.set_cons_zero, List.set_cons_succ]
                  refine take_at 3 (some 94) (v := ?_) rfl rfl (by kernel_rfl) (by kernel_rfl) (by kernel_rfl) (fun _ _ _ h => h) ⟨by rfl, ?_⟩ hS ?_
                  rotate_left
                  · intro wq hSw; go_simp; try rfl
                  simp only [Act.put, List.setIfInBounds_toArray, List.set_cons_zero, List.set_cons_succ]
                  refine take_at 4 (some 95) (v := ?_) rfl rfl (by kernel_rfl) (by kernel_rfl) (by kernel_rfl) (fun _ _ _ h => h) ⟨by rfl, ?_⟩ hS ?_
                  rotate_left
                  · intro wq hSw; obtain ⟨y0, y1⟩ := hSw; go_simp; try rfl
                  simp only [Act.put, List.setIfInBounds_toArray, List.set_cons_zero, List.set_cons_succ]
                  refine take_at 5 (some 96) (v := ?_) rfl rfl (by kernel_rfl) (by kernel_rfl) (by kernel_rfl) (fun _ _ _ h => h) ⟨by rfl, ?_⟩ hS ?_
                  rotate_left
                  · intro wq hSw; go_simp; try rfl
                  simp only [Act.put, List.setIfInBounds_toArray, List.set_cons_zero, List.set_cons_succ]
                  refine take_at 6 (some 97) (v := ?_) rfl rfl (by kernel_rfl) (by kernel_rfl) (by kernel_rfl) (fun _ _ _ h => h) ⟨by rfl, ?_⟩ hS ?_
                  rotate_left
                  · intro wq hSw; go_simp; try rfl
                  simp only [Act.put, List.setIfInBounds_toArray, List.set_cons_zero, List.set_cons_succ]
                  refine take_at 7 (some 98) (v := ?_) rfl rfl (by kernel_rfl) (by kernel_rfl) (by kernel_rfl) (fun _ _ _ h => h) ⟨by rfl, ?_⟩ hS ?_
                  rotate_left
                  · intro wq hSw; go_simp; try rfl
                  simp only [Act.put, List.setIfInBounds_toArray, List.set_cons_zero, List.set_cons_succ]
                  refine take_at 8 (some 99) (v := ?_) rfl rfl (by kernel_rfl) (by kernel_rfl) (by kernel_rfl) (fun _ _ _ h => h) ⟨by rfl, ?_⟩ hS ?_
                  rotate_left
                  · intro wq hSw; obtain ⟨y0, y1⟩ := hSw; go_simp; try rfl
                  simp only [Act.put, List.setIfInBounds_toArray, List.set_cons_zero, List.set_cons_succ]
                  refine take_at 9 (some 100) (v := ?_) rfl rfl (by kernel_rfl) (by kernel_rfl) (by kernel_rfl) (fun _ _ _ h => h) ⟨by rfl, ?_⟩ hS ?_
                  rotate_left
                  · intro wq hSw; go_simp; try rfl
                  simp only [Act.put, List.setIfInBounds_toArray, List.set_cons_zero, List.set_cons_succ]
                  refine take_at 10 (some 101) (v := ?_) rfl rfl (by kernel_rfl) (by kernel_rfl) (by kernel_rfl) (fun _ _ _ h => h) ⟨by rfl, ?_⟩ hS ?_
                  rotate_left
                  · intro wq hSw; go_simp; try rfl
                  simp only [Act.put, List.setIfInBounds_toArray, List.set_cons_zero, List.set_cons_succ]
                  refine wpAnyH_ready (rs := [1, 11]) (by kernel_rfl) (by simp) ?_
                  refine AllReadyH.cons rfl (fun K hK => ?_) (AllReadyH.cons rfl (fun K hK => ?_) AllReadyH.nil)
                  · have cl := (QQ.out.c5.get 1 _ rfl).1
                    go_simp
                    go_wp2_with fail
                    refine hK.out _ _ ⟨(QQ.out.c2.get 1 _ rfl).1, (QQ.out.bel.cell (p := ⟨b, off + j * 2 + 1, none⟩) hbl).trans Y1.out⟩ (fun hS => ?_)
                    clear hK K
                    (try simp only [Act.put, List.setIfInBounds_toArray, List.set_cons_zero, List.set_cons_succ])
                    clear cl
                    refine wpAnyH_ready (rs := [11]) (by kernel_rfl) (by simp) ?_
                    refine AllReadyH.cons rfl (fun K hK => ?_) AllReadyH.nil
                    go_simp
                    go_wp2_with fail
                    refine (rest_any t1 1 (lsn - 1) _ (by omega) (by omega) (by omega)).mono ?_
                    rintro e w' ⟨y, rfl, hy, hw⟩
                    obtain rfl : w4 = w' := hw.symm
                    go_wp2_with fail
                    refine hK.out _ _ ⟨(QQ.out.c2.get 1 _ rfl).1, (QQ.out.bel.cell (p := ⟨b, off + j * 2 + 1, none⟩) hbl).trans Y1.out⟩ (fun hS => ?_)
                    clear hK K
                    (try simp only [Act.put, List.setIfInBounds_toArray, List.set_cons_zero, List.set_cons_succ])
                    refine take_at 12 (some 103) (v := ?_) rfl rfl (by kernel_rfl) (by kernel_rfl) (by kernel_rfl) (fun _ _ _ h => h) ⟨by rfl, ?_⟩ hS ?_
                    rotate_left
                    · intro wq hSw; go_simp; try rfl
                    simp only [Act.put, List.setIfInBounds_toArray, List.set_cons_zero, List.set_cons_succ]
                    refine wpAnyH_ready (rs := [13]) (by kernel_rfl) (by simp) ?_
                    refine AllReadyH.cons rfl (fun K hK => ?_) AllReadyH.nil
                    have LI := hide (lies_lit w4 #[.int .i64 pg', .int .i64 y] 65)
                    have Q5 := hide (QQ.out.below (alloc_below w4 (.cells #[.int .i64 pg', .int .i64 y] 65)))
                    go_simp
                    (try go_wp2_with fail)
                    generalize w4.alloc (.cells #[.int .i64 pg', .int .i64 y] 65) = w5 at *
                    refine hK.out _ _ ⟨(Q5.out.c2.get 1 _ rfl).1, (Q5.out.bel.cell (p := ⟨b, off + j * 2 + 1, none⟩) hbl).trans Y1.out⟩ (fun hS => ?_)
                    clear hK K
                    (try simp only [Act.put, List.setIfInBounds_toArray, List.set_cons_zero, List.set_cons_succ])
                    obtain ⟨v8, w8, hrun, hr8, hg8, hv8⟩ := run_pushD 32 w5 w.heap.size _ ds Q5.out.rd ⟨w4.heap.size, 0, none⟩ ⟨pg', y⟩ LI.out (by have := HLEN.out; omega) Q5.out.bel.size
                    have Q6 := Q5.out.putD hr8 hg8 hv8
                    obtain ⟨a8, c8, ev8, _⟩ := GRow.lies hr8
                    have hle : (ds ++ [(⟨pg', y⟩ : DirtyM)]).length = j + 1 := by have := HLEN.out; simp; omega
                    rw [hle] at ev8
                    subst ev8
                    have kg := (Keep.refl (fun k => _ = some k) _).grown hg8 (fun _ q _ => q)
                    have hc8 := ((Q5.out.c5.keep kg (fun q => by have := Q5.out.dne _ q; omega)).get 1 _ rfl)
                    obtain ⟨c80, f80⟩ := hc8
                    have Q6' := hide (show w8.cell? ⟨w.heap.size, 1, none⟩ = some (.slice (some ⟨b, off, none⟩) ds0.length dc) ∧ w8.cell? ⟨b, off + j * 2 + 1, none⟩ = some (.int .i64 t1) from ⟨((Q5.out.c2.keep kg (fun q => by have := Q5.out.dne _ q; omega)).get 1 _ rfl).1, ((Q5.out.bel.trans (kg.below Q5.out.bel.size (fun k hk q => by have := Q5.out.dne _ q; omega))).cell (p := ⟨b, off + j * 2 + 1, none⟩) hbl).trans Y1.out⟩)
                    have HRUN := hide hrun
                    have Q6 := hide Q6
                    have HLE8 := hide hle
                    have LE8 := hide (leastD_snoc ⟨pg', y⟩ ds 0)
                    have OK8 := hide (show dirtyB lsn 0 (ds ++ [⟨pg', y⟩]) = true by rw [dirtyB_snoc, HOK.out, HLE.out, recB_of hy.1 hy.2 h31]; unfold fromB; simp; omega)
                    clear hrun hr8 hg8 hv8 Q5 LI hle kg
                    refine wpAnyH_ready (rs := [14]) (by kernel_rfl) (by simp) ?_
                    refine AllReadyH.cons rfl (fun K hK => ?_) AllReadyH.nil
                    refine wp_run 105 (.tmp 92) (.tmp 104) rfl rfl rfl rfl rfl HRUN.out ?_
                    refine hK.out _ _ Q6'.out (fun hS => ?_)
                    clear hK K
                    (try simp only [Act.put, List.setIfInBounds_toArray, List.set_cons_zero, List.set_cons_succ])
                    clear HRUN
                    refine take_at 15 (some 106) (v := ?_) rfl rfl (by kernel_rfl) (by kernel_rfl) (by kernel_rfl) (fun _ _ _ h => h) ⟨by rfl, ?_⟩ hS ?_
                    rotate_left
                    · intro wq hSw; go_simp; try rfl
                    simp only [Act.put, List.setIfInBounds_toArray, List.set_cons_zero, List.set_cons_succ]
                    refine wpAnyH_ready (rs := [16]) (by kernel_rfl) (by simp) ?_
                    refine AllReadyH.cons rfl (fun K hK => ?_) AllReadyH.nil
                    go_simp
                    go_wp2_with fail
                    refine hK.out _ _ ⟨(Q6.out.c2.get 1 _ rfl).1, (Q6.out.bel.cell (p := ⟨b, off + j * 2 + 1, none⟩) hbl).trans Y1.out⟩ (fun hS => ?_)
                    clear hK K
                    (try simp only [Act.put, List.setIfInBounds_toArray, List.set_cons_zero, List.set_cons_succ])
                    refine wpAnyH_done (by kernel_rfl) ?_ _
                    clear c80 f80
                    go_wp2_with fail
                    go_roundw
                    case rel => exact ⟨j + 1, pg', _, _, rfl, by go_num, HLE8.out, by omega, by omega, by omega, LE8.out, OK8.out, Q6.out⟩
                    case measure => simp [intOf]; omega
                  · go_simp
                    go_wp2_with fail
                    refine (rest_any t1 1 (lsn - 1) _ (by omega) (by omega) (by omega)).mono ?_
                    rintro e w' ⟨y, rfl, hy, hw⟩
                    obtain rfl : w4 = w' := hw.symm
                    go_wp2_with fail
                    refine hK.out _ _ ⟨(QQ.out.c2.get 1 _ rfl).1, (QQ.out.bel.cell (p := ⟨b, off + j * 2 + 1, none⟩) hbl).trans Y1.out⟩ (fun hS => ?_)
                    clear hK K
                    (try simp only [Act.put, List.setIfInBounds_toArray, List.set_cons_zero, List.set_cons_succ])
                    refine take_at 12 (some 103) (v := ?_) rfl rfl (by kernel_rfl) (by kernel_rfl) (by kernel_rfl) (fun _ _ _ h => h) ⟨by rfl, ?_⟩ hS ?_
                    rotate_left
                    · intro wq hSw; go_simp; try rfl
                    simp only [Act.put, List.setIfInBounds_toArray, List.set_cons_zero, List.set_cons_succ]
                    refine wpAnyH_ready (rs := [1, 13]) (by kernel_rfl) (by simp) ?_
                    refine AllReadyH.cons rfl (fun K hK => ?_) (AllReadyH.cons rfl (fun K hK => ?_) AllReadyH.nil)
                    · have cl := (QQ.out.c5.get 1 _ rfl).1
                      go_simp
                      go_wp2_with fail
                      refine hK.out _ _ ⟨(QQ.out.c2.get 1 _ rfl).1, (QQ.out.bel.cell (p := ⟨b, off + j * 2 + 1, none⟩) hbl).trans Y1.out⟩ (fun hS => ?_)
                      clear hK K
                      (try simp only [Act.put, List.setIfInBounds_toArray, List.set_cons_zero, List.set_cons_succ])
                      clear cl
                      refine wpAnyH_ready (rs := [13]) (by kernel_rfl) (by simp) ?_
                      refine AllReadyH.cons rfl (fun K hK => ?_) AllReadyH.nil
                      have LI := hide (lies_lit w4 #[.int .i64 pg', .int .i64 y] 65)
                      have Q5 := hide (QQ.out.below (alloc_below w4 (.cells #[.int .i64 pg', .int .i64 y] 65)))
                      go_simp
                      (try go_wp2_with fail)
                      generalize w4.alloc (.cells #[.int .i64 pg', .int .i64 y] 65) = w5 at *
                      refine hK.out _ _ ⟨(Q5.out.c2.get 1 _ rfl).1, (Q5.out.bel.cell (p := ⟨b, off + j * 2 + 1, none⟩) hbl).trans Y1.out⟩ (fun hS => ?_)
                      clear hK K
                      (try simp only [Act.put, List.setIfInBounds_toArray, List.set_cons_zero, List.set_cons_succ])
                      obtain ⟨v8, w8, hrun, hr8, hg8, hv8⟩ := run_pushD 32 w5 w.heap.size _ ds Q5.out.rd ⟨w4.heap.size, 0, none⟩ ⟨pg', y⟩ LI.out (by have := HLEN.out; omega) Q5.out.bel.size
                      have Q6 := Q5.out.putD hr8 hg8 hv8
                      obtain ⟨a8, c8, ev8, _⟩ := GRow.lies hr8
                      have hle : (ds ++ [(⟨pg', y⟩ : DirtyM)]).length = j + 1 := by have := HLEN.out; simp; omega
                      rw [hle] at ev8
                      subst ev8
                      have kg := (Keep.refl (fun k => _ = some k) _).grown hg8 (fun _ q _ => q)
                      have hc8 := ((Q5.out.c5.keep kg (fun q => by have := Q5.out.dne _ q; omega)).get 1 _ rfl)
                      obtain ⟨c80, f80⟩ := hc8
                      have Q6' := hide (show w8.cell? ⟨w.heap.size, 1, none⟩ = some (.slice (some ⟨b, off, none⟩) ds0.length dc) ∧ w8.cell? ⟨b, off + j * 2 + 1, none⟩ = some (.int .i64 t1) from ⟨((Q5.out.c2.keep kg (fun q => by have := Q5.out.dne _ q; omega)).get 1 _ rfl).1, ((Q5.out.bel.trans (kg.below Q5.out.bel.size (fun k hk q => by have := Q5.out.dne _ q; omega))).cell (p := ⟨b, off + j * 2 + 1, none⟩) hbl).trans Y1.out⟩)
                      have HRUN := hide hrun
                      have Q6 := hide Q6
                      have HLE8 := hide hle
                      have LE8 := hide (leastD_snoc ⟨pg', y⟩ ds 0)
                      have OK8 := hide (show dirtyB lsn 0 (ds ++ [⟨pg', y⟩]) = true by rw [dirtyB_snoc, HOK.out, HLE.out, recB_of hy.1 hy.2 h31]; unfold fromB; simp; omega)
                      clear hrun hr8 hg8 hv8 Q5 LI hle kg
                      refine wpAnyH_ready (rs := [14]) (by kernel_rfl) (by simp) ?_
                      refine AllReadyH.cons rfl (fun K hK => ?_) AllReadyH.nil
                      refine wp_run 105 (.tmp 92) (.tmp 104) rfl rfl rfl rfl rfl HRUN.out ?_
                      refine hK.out _ _ Q6'.out (fun hS => ?_)
                      clear hK K
                      (try simp only [Act.put, List.setIfInBounds_toArray, List.set_cons_zero, List.set_cons_succ])
                      clear HRUN
                      refine take_at 15 (some 106) (v := ?_) rfl rfl (by kernel_rfl) (by kernel_rfl) (by kernel_rfl) (fun _ _ _ h => h) ⟨by rfl, ?_⟩ hS ?_
                      rotate_left
                      · intro wq hSw; go_simp; try rfl
                      simp only [Act.put, List.setIfInBounds_toArray, List.set_cons_zero, List.set_cons_succ]
                      refine wpAnyH_ready (rs := [16]) (by kernel_rfl) (by simp) ?_
                      refine AllReadyH.cons rfl (fun K hK => ?_) AllReadyH.nil
                      go_simp
                      go_wp2_with fail
                      refine hK.out _ _ ⟨(Q6.out.c2.get 1 _ rfl).1, (Q6.out.bel.cell (p := ⟨b, off + j * 2 + 1, none⟩) hbl).trans Y1.out⟩ (fun hS => ?_)
                      clear hK K
                      (try simp only [Act.put, List.setIfInBounds_toArray, List.set_cons_zero, List.set_cons_succ])
                      refine wpAnyH_done (by kernel_rfl) ?_ _
                      clear c80 f80
                      go_wp2_with fail
                      go_roundw
                      case rel => exact ⟨j + 1, pg', _, _, rfl, by go_num, HLE8.out, by omega, by omega, by omega, LE8.out, OK8.out, Q6.out⟩
                      case measure => simp [intOf]; omega
                    · have LI := hide (lies_lit w4 #[.int .i64 pg', .int .i64 y] 65)
                      have Q5 := hide (QQ.out.below (alloc_below w4 (.cells #[.int .i64 pg', .int .i64 y] 65)))
                      go_simp
                      (try go_wp2_with fail)
                      generalize w4.alloc (.cells #[.int .i64 pg', .int .i64 y] 65) = w5 at *
                      refine hK.out _ _ ⟨(Q5.out.c2.get 1 _ rfl).1, (Q5.out.bel.cell (p := ⟨b, off + j * 2 + 1, none⟩) hbl).trans Y1.out⟩ (fun hS => ?_)
                      clear hK K
                      (try simp only [Act.put, List.setIfInBounds_toArray, List.set_cons_zero, List.set_cons_succ])
                      refine wpAnyH_ready (rs := [1]) (by kernel_rfl) (by simp) ?_
                      refine AllReadyH.cons rfl (fun K hK => ?_) AllReadyH.nil
                      have cl := (Q5.out.c5.get 1 _ rfl).1
                      go_simp
                      go_wp2_with fail
                      refine hK.out _ _ ⟨(Q5.out.c2.get 1 _ rfl).1, (Q5.out.bel.cell (p := ⟨b, off + j * 2 + 1, none⟩) hbl).trans Y1.out⟩ (fun hS => ?_)
                      clear hK K
                      (try simp only [Act.put, List.setIfInBounds_toArray, List.set_cons_zero, List.set_cons_succ])
                      clear cl
                      obtain ⟨v8, w8, hrun, hr8, hg8, hv8⟩ := run_pushD 32 w5 w.heap.size _ ds Q5.out.rd ⟨w4.heap.size, 0, none⟩ ⟨pg', y⟩ LI.out (by have := HLEN.out; omega) Q5.out.bel.size
                      have Q6 := Q5.out.putD hr8 hg8 hv8
                      obtain ⟨a8, c8, ev8, _⟩ := GRow.lies hr8
                      have hle : (ds ++ [(⟨pg', y⟩ : DirtyM)]).length = j + 1 := by have := HLEN.out; simp; omega
                      rw [hle] at ev8
                      subst ev8
                      have kg := (Keep.refl (fun k => _ = some k) _).grown hg8 (fun _ q _ => q)
                      have hc8 := ((Q5.out.c5.keep kg (fun q => by have := Q5.out.dne _ q; omega)).get 1 _ rfl)
                      obtain ⟨c80, f80⟩ := hc8
                      have Q6' := hide (show w8.cell? ⟨w.heap.size, 1, none⟩ = some (.slice (some ⟨b, off, none⟩) ds0.length dc) ∧ w8.cell? ⟨b, off + j * 2 + 1, none⟩ = some (.int .i64 t1) from ⟨((Q5.out.c2.keep kg (fun q => by have := Q5.out.dne _ q; omega)).get 1 _ rfl).1, ((Q5.out.bel.trans (kg.below Q5.out.bel.size (fun k hk q => by have := Q5.out.dne _ q; omega))).cell (p := ⟨b, off + j * 2 + 1, none⟩) hbl).trans Y1.out⟩)
                      have HRUN := hide hrun
                      have Q6 := hide Q6
                      have HLE8 := hide hle
                      have LE8 := hide (leastD_snoc ⟨pg', y⟩ ds 0)
                      have OK8 := hide (show dirtyB lsn 0 (ds ++ [⟨pg', y⟩]) = true by rw [dirtyB_snoc, HOK.out, HLE.out, recB_of hy.1 hy.2 h31]; unfold fromB; simp; omega)
                      clear hrun hr8 hg8 hv8 Q5 LI hle kg
                      refine wpAnyH_ready (rs := [14]) (by kernel_rfl) (by simp) ?_
                      refine AllReadyH.cons rfl (fun K hK => ?_) AllReadyH.nil
                      refine wp_run 105 (.tmp 92) (.tmp 104) rfl rfl rfl rfl rfl HRUN.out ?_
                      refine hK.out _ _ Q6'.out (fun hS => ?_)
                      clear hK K
                      (try simp only [Act.put, List.setIfInBounds_toArray, List.set_cons_zero, List.set_cons_succ])
                      clear HRUN
                      refine take_at 15 (some 106) (v := ?_) rfl rfl (by kernel_rfl) (by kernel_rfl) (by kernel_rfl) (fun _ _ _ h => h) ⟨by rfl, ?_⟩ hS ?_
                      rotate_left
                      · intro wq hSw; go_simp; try rfl
                      simp only [Act.put, List.setIfInBounds_toArray, List.set_cons_zero, List.set_cons_succ]
                      refine wpAnyH_ready (rs := [16]) (by kernel_rfl) (by simp) ?_
                      refine AllReadyH.cons rfl (fun K hK => ?_) AllReadyH.nil
                      go_simp
                      go_wp2_with fail
                      refine hK.out _ _ ⟨(Q6.out.c2.get 1 _ rfl).1, (Q6.out.bel.cell (p := ⟨b, off + j * 2 + 1, none⟩) hbl).trans Y1.out⟩ (fun hS => ?_)
                      clear hK K
                      (try simp only [Act.put, List.setIfInBounds_toArray, List.set_cons_zero, List.set_cons_succ])
                      refine wpAnyH_done (by kernel_rfl) ?_ _
                      clear c80 f80
                      go_wp2_with fail
                      go_roundw
                      case rel => exact ⟨j + 1, pg', _, _, rfl, by go_num, HLE8.out, by omega, by omega, by omega, LE8.out, OK8.out, Q6.out⟩
                      case measure => simp [intOf]; omega
              · have hg3 : decide (pg < 63) = false := by simp; omega
                have w5c := HQ2.out.c5
                have k0 := (w5c.get 0 _ rfl).1
                have k1 := (w5c.get 1 _ rfl).1
                have k2 := (w5c.get 2 _ rfl).1
                have g0 := (HQ2.out.c4.get 0 _ rfl).1
                have f0 := (HQ2.out.c4.get 0 _ rfl).2
                have g1 := (HQ2.out.c4.get 1 _ rfl).1
                have f1 := (HQ2.out.c4.get 1 _ rfl).2
                have g2 := (HQ2.out.c4.get 2 _ rfl).1
                have f2 := (HQ2.out.c4.get 2 _ rfl).2
                have kk : Keep (fun k => k = w.heap.size + 1) wr (((wr.setCell ⟨w.heap.size + 1, 0, none⟩ (.slice aL k cL)).setCell ⟨w.heap.size + 1, 1, none⟩ (.slice aD j cD)).setCell ⟨w.heap.size + 1, 2, none⟩ (.int .i64 nx)) := (((Keep.refl (fun k => k = w.heap.size + 1) wr).setCell (fun _ => rfl) _).setCell (fun _ => rfl) _).setCell (fun _ => rfl) _
                have C4 := ((HQ2.out.c4.stored (j := 0) (by simp) ((.slice aL k cL))).stored (j := 1) (by simp) ((.slice aD j cD))).stored (j := 2) (by simp) (.int .i64 nx)
                have RL := hide (GRow.keep HQ2.out.rl kk (fun g q e => by have := HQ2.out.lne g q; omega))
                have RD := hide (GRow.keep HQ2.out.rd kk (fun g q e => by have := HQ2.out.dne g q; omega))
                have BB := hide (HQ2.out.bel.trans (kk.below HQ2.out.bel.size (fun k hk q => by omega)))
                have y0 := (C4.get 0 _ rfl).1
                have y1 := (C4.get 1 _ rfl).1
                have y2 := (C4.get 2 _ rfl).1
                have PTS := hide (show pointsB true ls ds nx lsn = true by
                  unfold pointsB
                  rw [cond_true, HOKL.out nx (by omega), HOK.out]
                  have := HLENL.out
                  have := HLEN.out
                  unfold fromB
                  simp
                  omega)
                clear kk C4 w5c
                go_wp2_with fail
                refine bodyPost_ret (v := .agg #[(.slice aL k cL), (.slice aD j cD), .int .i64 nx]) (by simp only [results, Try.results31]; simp [go_sem, y0, y1, y2]) rfl ?_
                first | exact ⟨_, _, nx, ls, ds, rfl, RL.out, RD.out, HQ2.out.ld, PTS.out, BB.out⟩ | exact ⟨_, _, nx, rfl, ls, RL.out, ds, RD.out, HQ2.out.ld, PTS.out, BB.out⟩
            · have hg2 : decide ((j : Int) < 16) = false := by simp; omega
              have w5c := HQ2.out.c5
              have k0 := (w5c.get 0 _ rfl).1
              have k1 := (w5c.get 1 _ rfl).1
              have k2 := (w5c.get 2 _ rfl).1
              have g0 := (HQ2.out.c4.get 0 _ rfl).1
              have f0 := (HQ2.out.c4.get 0 _ rfl).2
              have g1 := (HQ2.out.c4.get 1 _ rfl).1
              have f1 := (HQ2.out.c4.get 1 _ rfl).2
              have g2 := (HQ2.out.c4.get 2 _ rfl).1
              have f2 := (HQ2.out.c4.get 2 _ rfl).2
              have kk : Keep (fun k => k = w.heap.size + 1) wr (((wr.setCell ⟨w.heap.size + 1, 0, none⟩ (.slice aL k cL)).setCell ⟨w.heap.size + 1, 1, none⟩ (.slice aD j cD)).setCell ⟨w.heap.size + 1, 2, none⟩ (.int .i64 nx)) := (((Keep.refl (fun k => k = w.heap.size + 1) wr).setCell (fun _ => rfl) _).setCell (fun _ => rfl) _).setCell (fun _ => rfl) _
              have C4 := ((HQ2.out.c4.stored (j := 0) (by simp) ((.slice aL k cL))).stored (j := 1) (by simp) ((.slice aD j cD))).stored (j := 2) (by simp) (.int .i64 nx)
              have RL := hide (GRow.keep HQ2.out.rl kk (fun g q e => by have := HQ2.out.lne g q; omega))
              have RD := hide (GRow.keep HQ2.out.rd kk (fun g q e => by have := HQ2.out.dne g q; omega))
              have BB := hide (HQ2.out.bel.trans (kk.below HQ2.out.bel.size (fun k hk q => by omega)))
              have y0 := (C4.get 0 _ rfl).1
              have y1 := (C4.get 1 _ rfl).1
              have y2 := (C4.get 2 _ rfl).1
              have PTS := hide (show pointsB true ls ds nx lsn = true by
                unfold pointsB
                rw [cond_true, HOKL.out nx (by omega), HOK.out]
                have := HLENL.out
                have := HLEN.out
                unfold fromB
                simp
                omega)
              clear kk C4 w5c
              go_wp2_with fail
              refine bodyPost_ret (v := .agg #[(.slice aL k cL), (.slice aD j cD), .int .i64 nx]) (by simp only [results, Try.results31]; simp [go_sem, y0, y1, y2]) rfl ?_
              first | exact ⟨_, _, nx, ls, ds, rfl, RL.out, RD.out, HQ2.out.ld, PTS.out, BB.out⟩ | exact ⟨_, _, nx, rfl, ls, RL.out, ds, RD.out, HQ2.out.ld, PTS.out, BB.out⟩
          · have hg1 : decide ((j : Int) < (ds0.length : Int)) = false := by simp; omega
            have w5c := HQ2.out.c5
            have k0 := (w5c.get 0 _ rfl).1
            have k1 := (w5c.get 1 _ rfl).1
            have k2 := (w5c.get 2 _ rfl).1
            have g0 := (HQ2.out.c4.get 0 _ rfl).1
            have f0 := (HQ2.out.c4.get 0 _ rfl).2
            have g1 := (HQ2.out.c4.get 1 _ rfl).1
            have f1 := (HQ2.out.c4.get 1 _ rfl).2
            have g2 := (HQ2.out.c4.get 2 _ rfl).1
            have f2 := (HQ2.out.c4.get 2 _ rfl).2
            have kk : Keep (fun k => k = w.heap.size + 1) wr (((wr.setCell ⟨w.heap.size + 1, 0, none⟩ (.slice aL k cL)).setCell ⟨w.heap.size + 1, 1, none⟩ (.slice aD j cD)).setCell ⟨w.heap.size + 1, 2, none⟩ (.int .i64 nx)) := (((Keep.refl (fun k => k = w.heap.size + 1) wr).setCell (fun _ => rfl) _).setCell (fun _ => rfl) _).setCell (fun _ => rfl) _
            have C4 := ((HQ2.out.c4.stored (j := 0) (by simp) ((.slice aL k cL))).stored (j := 1) (by simp) ((.slice aD j cD))).stored (j := 2) (by simp) (.int .i64 nx)
            have RL := hide (GRow.keep HQ2.out.rl kk (fun g q e => by have := HQ2.out.lne g q; omega))
            have RD := hide (GRow.keep HQ2.out.rd kk (fun g q e => by have := HQ2.out.dne g q; omega))
            have BB := hide (HQ2.out.bel.trans (kk.below HQ2.out.bel.size (fun k hk q => by omega)))
            have y0 := (C4.get 0 _ rfl).1
            have y1 := (C4.get 1 _ rfl).1
            have y2 := (C4.get 2 _ rfl).1
            have PTS := hide (show pointsB true ls ds nx lsn = true by
              unfold pointsB
              rw [cond_true, HOKL.out nx (by omega), HOK.out]
              have := HLENL.out
              have := HLEN.out
              unfold fromB
              simp
              omega)
            clear kk C4 w5c
            go_wp2_with fail
            refine bodyPost_ret (v := .agg #[(.slice aL k cL), (.slice aD j cD), .int .i64 nx]) (by simp only [results, Try.results31]; simp [go_sem, y0, y1, y2]) rfl ?_
            first | exact ⟨_, _, nx, ls, ds, rfl, RL.out, RD.out, HQ2.out.ld, PTS.out, BB.out⟩ | exact ⟨_, _, nx, rfl, ls, RL.out, ds, RD.out, HQ2.out.ld, PTS.out, BB.out⟩
      · have hg1 : decide ((k : Int) < (ls0.length : Int)) = false := by simp; omega
        have LNE := hide HQ.out.lne
        have e2 : IntKind.i64.wrap (at_ + 1) = at_ + 1 := by rw [IntKind.wrap_i64]; omega
        have p2 := (HQ.out.c2.get 2 _ rfl).1
        have x2 := (HQ.out.c5.get 2 _ rfl).1
        have z2 := (HQ.out.c5.get 2 _ rfl).2
        have HOKL := hide HOK.out
        have HLENL := hide HLEN.out
        go_wp2_with fail
        refine (rest_any next (at_ + 1) 2147483648 _ (by omega) (by omega) (by omega)).mono ?_
        rintro e w' ⟨nx, rfl, hnx, hw⟩
        obtain rfl : wr = w' := hw.symm
        have Q1 := hide (HQ.out.next nx)
        clear HOK HLEN HLE
        go_wp2_with fail
        clear p0 x0 p2 x2 z2
        go_loopw [9, 10] (fun s i wr => ∃ (j : Nat) (pg : Int) (vD : Value) (ds : List DirtyM), s = .int .i64 pg ∧ i = .int .i64 (j : Int) ∧ ds.length = j ∧ j ≤ 16 ∧ j ≤ ds0.length ∧ (-1 ≤ pg ∧ pg ≤ 63) ∧ leastD 0 ds = pg + 1 ∧ dirtyB lsn 0 ds = true ∧ QB w [.slice la ls0.length lc, .slice da ds0.length dc, .int .i64 next] wr nx (.slice aL k cL) ls vD ds) (fun _ i _ => (ds0.length + 1 - (intOf i).toNat))
        case atStart => exact ⟨0, -1, .slice none 0 0, [], rfl, rfl, rfl, by omega, Nat.zero_le _, by omega, rfl, rfl, Q1.out⟩
        case round =>
          obtain ⟨j, pg, vD, ds, rfl, rfl, hlen, hj16, hj0, hpg, hleast, hok, hq⟩ := hrel
          have HLEN := hide hlen
          have HOK := hide hok
          have HLE := hide hleast
          have HQ2 := hide hq
          obtain ⟨aD, cD, eD, _⟩ := GRow.lies hq.rd
          rw [hlen] at eD
          subst eD
          have p1 := (HQ2.out.c2.get 1 _ rfl).1
          have x1 := (HQ2.out.c5.get 1 _ rfl).1
          clear hlen hok hleast hq Q1 HQ
          by_cases hlt1 : j < ds0.length
          · have hg1 : decide ((j : Int) < (ds0.length : Int)) = true := by simp; omega
            by_cases hlt2 : j < 16
            · have hg2 : decide ((j : Int) < 16) = true := by simp; omega
              by_cases hlt3 : pg < 63
              · have hg3 : decide (pg < 63) = true := by simp; omega
                obtain ⟨b, off, ea, hbl, yy0, yy1⟩ := HD.out.dirtyAt j hlt1
                subst ea
                have v0 := (HQ2.out.bel.cell (p := ⟨b, off + j * 2, none⟩) hbl).trans yy0
                have v1 := (HQ2.out.bel.cell (p := ⟨b, off + j * 2 + 1, none⟩) hbl).trans yy1
                generalize ds0[j].page = t0 at *
                generalize ds0[j].since = t1 at *
                have Y1 := hide yy1
                clear yy0 yy1
                have e5 : IntKind.i64.wrap (pg + 1) = pg + 1 := by rw [IntKind.wrap_i64]; omega
                have e6 : IntKind.i64.wrap (pg + 5) = pg + 5 := by rw [IntKind.wrap_i64]; omega
                have e7 : -1 ≤ pg + 1 := by omega
                by_cases hm5 : pg + 5 ≤ 63
                · obtain ⟨mm, hmm⟩ : ∃ mm, mm = pg + 5 := ⟨_, rfl⟩
                  go_wp2_with fail
                  refine (rest_any t0 (pg + 1) (pg + 5) _ (by omega) (by omega) (by omega)).mono ?_
                  rintro e w' ⟨pg', rfl, hp', hw⟩
                  obtain rfl : wr = w' := hw.symm
                  have QQ := hide (HQ2.out.below (Below.refl _ _).drew)
                  have FX := hide (show wr.cell? ⟨w.heap.size, 1, none⟩ = some (.slice (some ⟨b, off, none⟩) ds0.length dc) ∧ wr.cell? ⟨b, off + j * 2 + 1, none⟩ = some (.int .i64 t1) from ⟨p1, v1⟩)
                  clear hmm HQ2
                  go_upto_region 18 with fail
                  refine wp_region_held_drew (S := fun wq => wq.cell? ⟨w.heap.size, 1, none⟩ = some (.slice (some ⟨b, off, none⟩) ds0.length dc) ∧ wq.cell? ⟨b, off + j * 2 + 1, none⟩ = some (.int .i64 t1)) (by kernel_rfl) FX.out (fun hS => ?_)
                  generalize wr.drew = w4 at *
                  clear FX p1 x1 v0 v1
                  refine take_at 0 (some 91) (v := ?_) rfl rfl (by kernel_rfl) (by kernel_rfl) (by kernel_rfl) (fun _ _ _ h => h) ⟨by rfl, ?_⟩ hS ?_
                  rotate_left
                  · intro wq hSw; go_simp; try rfl
                  simp only [Act.put, List.setIfInBounds_toArray, List.set_cons_zero, List.set_cons_succ]
                  refine take_at 2 (some 93) (v := ?_) rfl rfl (by kernel_rfl) (by kernel_rfl) (by kernel_rfl) (fun _ _ _ h => h) ⟨by rfl, ?_⟩ hS ?_
                  rotate_left
                  · intro wq hSw; go_simp; try rfl
                  simp only [Act.put, List.setIfInBounds_toArray, List.set_cons_zero, List.set_cons_succ]
                  refine take_at 3 (some 94) (v := ?_) rfl rfl (by kernel_rfl) (by kernel_rfl) (by kernel_rfl) (fun _ _ _ h => h) ⟨by rfl, ?_⟩ hS ?_
                  rotate_left
                  · intro wq hSw; go_simp; try rfl
                  simp only [Act.put, List.setIfInBounds_toArray, List.set_cons_zero, List.set_cons_succ]
                  refine take_at 4 (some 95) (v := ?_) rfl rfl (by kernel_rfl) (by kernel_rfl) (by kernel_rfl) (fun _ _ _ h => h) ⟨by rfl, ?_⟩ hS ?_
                  rotate_left
                  · intro wq hSw; obtain ⟨y0, y1⟩ := hSw; go_simp; try rfl
                  simp only [Act.put, List.setIfInBounds_toArray, List.set_cons_zero, List.set_cons_succ]
                  refine take_at 5 (some 96) (v := ?_) rfl rfl (by kernel_rfl) (by kernel_rfl) (by kernel_rfl) (fun _ _ _ h => h) ⟨by rfl, ?_⟩ hS ?_
                  rotate_left
                  · intro wq hSw; go_simp; try rfl
                  simp only [Act.put, List.setIfInBounds_toArray, List.set_cons_zero, List.set_cons_succ]
                  refine take_at 6 (some 97) (v := ?_) rfl rfl (by kernel_rfl) (by kernel_rfl) (by kernel_rfl) (fun _ _ _ h => h) ⟨by rfl, ?_⟩ hS ?_
                  rotate_left
                  · intro wq hSw; go_simp; try rfl
                  simp only [Act.put, List.setIfInBounds_toArray, List.set_cons_zero, List.set_cons_succ]
                  refine take_at 7 (some 98) (v := ?_) rfl rfl (by kernel_rfl) (by kernel_rfl) (by kernel_rfl) (fun _ _ _ h => h) ⟨by rfl, ?_⟩ hS ?_
                  rotate_left
                  · intro wq hSw; go_simp; try rfl
                  simp only [Act.put, List.setIfInBounds_toArray, List.set_cons_zero, List.set_cons_succ]
                  refine take_at 8 (some 99) (v := ?_) rfl rfl (by kernel_rfl) (by kernel_rfl) (by kernel_rfl) (fun _ _ _ h => h) ⟨by rfl, ?_⟩ hS ?_
                  rotate_left
                  · intro wq hSw; obtain ⟨y0, y1⟩ := hSw; go_simp; try rfl
                  simp only [Act.put, List.setIfInBounds_toArray, List.set_cons_zero, List.set_cons_succ]
                  refine take_at 9 (some 100) (v := ?_) rfl rfl (by kernel_rfl) (by kernel_rfl) (by kernel_rfl) (fun _ _ _ h => h) ⟨by rfl, ?_⟩ hS ?_
                  rotate_left
                  · intro wq hSw; go_simp; try rfl
                  simp only [Act.put, List.setIfInBounds_toArray, List.set_cons_zero, List.set_cons_succ]
                  refine take_at 10 (some 101) (v := ?_) rfl rfl (by kernel_rfl) (by kernel_rfl) (by kernel_rfl) (fun _ _ _ h => h) ⟨by rfl, ?_⟩ hS ?_
                  rotate_left
                  · intro wq hSw; go_simp; try rfl
                  simp only [Act.put, List.setIfInBounds_toArray, List.set_cons_zero, List.set_cons_succ]
                  refine wpAnyH_ready (rs := [1, 11]) (by kernel_rfl) (by simp) ?_
                  refine AllReadyH.cons rfl (fun K hK => ?_) (AllReadyH.cons rfl (fun K hK => ?_) AllReadyH.nil)
                  · have cl := (QQ.out.c5.get 1 _ rfl).1
                    go_simp
                    go_wp2_with fail
                    refine hK.out _ _ ⟨(QQ.out.c2.get 1 _ rfl).1, (QQ.out.bel.cell (p := ⟨b, off + j * 2 + 1, none⟩) hbl).trans Y1.out⟩ (fun hS => ?_)
                    clear hK K
                    (try simp only [Act.put, List.setIfInBounds_toArray, List.set_cons_zero, List.set_cons_succ])
                    clear cl
                    refine wpAnyH_ready (rs := [11]) (by kernel_rfl) (by simp) ?_
                    refine AllReadyH.cons rfl (fun K hK => ?_) AllReadyH.nil
                    go_simp
                    go_wp2_with fail
                    refine (rest_any t1 1 (lsn - 1) _ (by omega) (by omega) (by omega)).mono ?_
                    rintro e w' ⟨y, rfl, hy, hw⟩
                    obtain rfl : w4 = w' := hw.symm
                    go_wp2_with fail
                    refine hK.out _ _ ⟨(QQ.out.c2.get 1 _ rfl).1, (QQ.out.bel.cell (p := ⟨b, off + j * 2 + 1, none⟩) hbl).trans Y1.out⟩ (fun hS => ?_)
                    clear hK K
                    (try simp only [Act.put, List.setIfInBounds_toArray, List.set_cons_zero, List.set_cons_succ])
                    refine take_at 12 (some 103) (v := ?_) rfl rfl (by kernel_rfl) (by kernel_rfl) (by kernel_rfl) (fun _ _ _ h => h) ⟨by rfl, ?_⟩ hS ?_
                    rotate_left
                    · intro wq hSw; go_simp; try rfl
                    simp only [Act.put, List.setIfInBounds_toArray, List.set_cons_zero, List.set_cons_succ]
                    refine wpAnyH_ready (rs := [13]) (by kernel_rfl) (by simp) ?_
                    refine AllReadyH.cons rfl (fun K hK => ?_) AllReadyH.nil
                    have LI := hide (lies_lit w4 #[.int .i64 pg', .int .i64 y] 65)
                    have Q5 := hide (QQ.out.below (alloc_below w4 (.cells #[.int .i64 pg', .int .i64 y] 65)))
                    go_simp
                    (try go_wp2_with fail)
                    generalize w4.alloc (.cells #[.int .i64 pg', .int .i64 y] 65) = w5 at *
                    refine hK.out _ _ ⟨(Q5.out.c2.get 1 _ rfl).1, (Q5.out.bel.cell (p := ⟨b, off + j * 2 + 1, none⟩) hbl).trans Y1.out⟩ (fun hS => ?_)
                    clear hK K
                    (try simp only [Act.put, List.setIfInBounds_toArray, List.set_cons_zero, List.set_cons_succ])
                    obtain ⟨v8, w8, hrun, hr8, hg8, hv8⟩ := run_pushD 32 w5 w.heap.size _ ds Q5.out.rd ⟨w4.heap.size, 0, none⟩ ⟨pg', y⟩ LI.out (by have := HLEN.out; omega) Q5.out.bel.size
                    have Q6 := Q5.out.putD hr8 hg8 hv8
                    obtain ⟨a8, c8, ev8, _⟩ := GRow.lies hr8
                    have hle : (ds ++ [(⟨pg', y⟩ : DirtyM)]).length = j + 1 := by have := HLEN.out; simp; omega
                    rw [hle] at ev8
                    subst ev8
                    have kg := (Keep.refl (fun k => _ = some k) _).grown hg8 (fun _ q _ => q)
                    have hc8 := ((Q5.out.c5.keep kg (fun q => by have := Q5.out.dne _ q; omega)).get 1 _ rfl)
                    obtain ⟨c80, f80⟩ := hc8
                    have Q6' := hide (show w8.cell? ⟨w.heap.size, 1, none⟩ = some (.slice (some ⟨b, off, none⟩) ds0.length dc) ∧ w8.cell? ⟨b, off + j * 2 + 1, none⟩ = some (.int .i64 t1) from ⟨((Q5.out.c2.keep kg (fun q => by have := Q5.out.dne _ q; omega)).get 1 _ rfl).1, ((Q5.out.bel.trans (kg.below Q5.out.bel.size (fun k hk q => by have := Q5.out.dne _ q; omega))).cell (p := ⟨b, off + j * 2 + 1, none⟩) hbl).trans Y1.out⟩)
                    have HRUN := hide hrun
                    have Q6 := hide Q6
                    have HLE8 := hide hle
                    have LE8 := hide (leastD_snoc ⟨pg', y⟩ ds 0)
                    have OK8 := hide (show dirtyB lsn 0 (ds ++ [⟨pg', y⟩]) = true by rw [dirtyB_snoc, HOK.out, HLE.out, recB_of hy.1 hy.2 h31]; unfold fromB; simp; omega)
                    clear hrun hr8 hg8 hv8 Q5 LI hle kg
                    refine wpAnyH_ready (rs := [14]) (by kernel_rfl) (by simp) ?_
                    refine AllReadyH.cons rfl (fun K hK => ?_) AllReadyH.nil
                    refine wp_run 105 (.tmp 92) (.tmp 104) rfl rfl rfl rfl rfl HRUN.out ?_
                    refine hK.out _ _ Q6'.out (fun hS => ?_)
                    clear hK K
                    (try simp only [Act.put, List.setIfInBounds_toArray, List.set_cons_zero, List.set_cons_succ])
                    clear HRUN
                    refine take_at 15 (some 106) (v := ?_) rfl rfl (by kernel_rfl) (by kernel_rfl) (by kernel_rfl) (fun _ _ _ h => h) ⟨by rfl, ?_⟩ hS ?_
                    rotate_left
                    · intro wq hSw; go_simp; try rfl
                    simp only [Act.put, List.setIfInBounds_toArray, List.set_cons_zero, List.set_cons_succ]
                    refine wpAnyH_ready (rs := [16]) (by kernel_rfl) (by simp) ?_
                    refine AllReadyH.cons rfl (fun K hK => ?_) AllReadyH.nil
                    go_simp
                    go_wp2_with fail
                    refine hK.out _ _ ⟨(Q6.out.c2.get 1 _ rfl).1, (Q6.out.bel.cell (p := ⟨b, off + j * 2 + 1, none⟩) hbl).trans Y1.out⟩ (fun hS => ?_)
                    clear hK K
                    (try simp only [Act.put, List.setIfInBounds_toArray, List.set_cons_zero, List.set_cons_succ])
                    refine wpAnyH_done (by kernel_rfl) ?_ _
                    clear c80 f80
                    go_wp2_with fail
                    go_roundw
                    case rel => exact ⟨j + 1, pg', _, _, rfl, by go_num, HLE8.out, by omega, by omega, by omega, LE8.out, OK8.out, Q6.out⟩
                    case measure => simp [intOf]; omega
                  · go_simp
                    go_wp2_with fail
                    refine (rest_any t1 1 (lsn - 1) _ (by omega) (by omega) (by omega)).mono ?_
                    rintro e w' ⟨y, rfl, hy, hw⟩
                    obtain rfl : w4 = w' := hw.symm
                    go_wp2_with fail
                    refine hK.out _ _ ⟨(QQ.out.c2.get 1 _ rfl).1, (QQ.out.bel.cell (p := ⟨b, off + j * 2 + 1, none⟩) hbl).trans Y1.out⟩ (fun hS => ?_)
                    clear hK K
                    (try simp only [Act.put, List.setIfInBounds_toArray, List.set_cons_zero, List.set_cons_succ])
                    refine take_at 12 (some 103) (v := ?_) rfl rfl (by kernel_rfl) (by kernel_rfl) (by kernel_rfl) (fun _ _ _ h => h) ⟨by rfl, ?_⟩ hS ?_
                    rotate_left
                    · intro wq hSw; go_simp; try rfl
                    simp only [Act.put, List.setIfInBounds_toArray, List.set_cons_zero, List.set_cons_succ]
                    refine wpAnyH_ready (rs := [1, 13]) (by kernel_rfl) (by simp) ?_
                    refine AllReadyH.cons rfl (fun K hK => ?_) (AllReadyH.cons rfl (fun K hK => ?_) AllReadyH.nil)
                    · have cl := (QQ.out.c5.get 1 _ rfl).1
                      go_simp
                      go_wp2_with fail
                      refine hK.out _ _ ⟨(QQ.out.c2.get 1 _ rfl).1, (QQ.out.bel.cell (p := ⟨b, off + j * 2 + 1, none⟩) hbl).trans Y1.out⟩ (fun hS => ?_)
                      clear hK K
                      (try simp only [Act.put, List.setIfInBounds_toArray, List.set_cons_zero, List.set_cons_succ])
                      clear cl
                      refine wpAnyH_ready (rs := [13]) (by kernel_rfl) (by simp) ?_
                      refine AllReadyH.cons rfl (fun K hK => ?_) AllReadyH.nil
                      have LI := hide (lies_lit w4 #[.int .i64 pg', .int .i64 y] 65)
                      have Q5 := hide (QQ.out.below (alloc_below w4 (.cells #[.int .i64 pg', .int .i64 y] 65)))
                      go_simp
                      (try go_wp2_with fail)
                      generalize w4.alloc (.cells #[.int .i64 pg', .int .i64 y] 65) = w5 at *
                      refine hK.out _ _ ⟨(Q5.out.c2.get 1 _ rfl).1, (Q5.out.bel.cell (p := ⟨b, off + j * 2 + 1, none⟩) hbl).trans Y1.out⟩ (fun hS => ?_)
                      clear hK K
                      (try simp only [Act.put, List.setIfInBounds_toArray, List.set_cons_zero, List.set_cons_succ])
                      obtain ⟨v8, w8, hrun, hr8, hg8, hv8⟩ := run_pushD 32 w5 w.heap.size _ ds Q5.out.rd ⟨w4.heap.size, 0, none⟩ ⟨pg', y⟩ LI.out (by have := HLEN.out; omega) Q5.out.bel.size
                      have Q6 := Q5.out.putD hr8 hg8 hv8
                      obtain ⟨a8, c8, ev8, _⟩ := GRow.lies hr8
                      have hle : (ds ++ [(⟨pg', y⟩ : DirtyM)]).length = j + 1 := by have := HLEN.out; simp; omega
                      rw [hle] at ev8
                      subst ev8
                      have kg := (Keep.refl (fun k => _ = some k) _).grown hg8 (fun _ q _ => q)
                      have hc8 := ((Q5.out.c5.keep kg (fun q => by have := Q5.out.dne _ q; omega)).get 1 _ rfl)
                      obtain ⟨c80, f80⟩ := hc8
                      have Q6' := hide (show w8.cell? ⟨w.heap.size, 1, none⟩ = some (.slice (some ⟨b, off, none⟩) ds0.length dc) ∧ w8.cell? ⟨b, off + j * 2 + 1, none⟩ = some (.int .i64 t1) from ⟨((Q5.out.c2.keep kg (fun q => by have := Q5.out.dne _ q; omega)).get 1 _ rfl).1, ((Q5.out.bel.trans (kg.below Q5.out.bel.size (fun k hk q => by have := Q5.out.dne _ q; omega))).cell (p := ⟨b, off + j * 2 + 1, none⟩) hbl).trans Y1.out⟩)
                      have HRUN := hide hrun
                      have Q6 := hide Q6
                      have HLE8 := hide hle
                      have LE8 := hide (leastD_snoc ⟨pg', y⟩ ds 0)
                      have OK8 := hide (show dirtyB lsn 0 (ds ++ [⟨pg', y⟩]) = true by rw [dirtyB_snoc, HOK.out, HLE.out, recB_of hy.1 hy.2 h31]; unfold fromB; simp; omega)
                      clear hrun hr8 hg8 hv8 Q5 LI hle kg
                      refine wpAnyH_ready (rs := [14]) (by kernel_rfl) (by simp) ?_
                      refine AllReadyH.cons rfl (fun K hK => ?_) AllReadyH.nil
                      refine wp_run 105 (.tmp 92) (.tmp 104) rfl rfl rfl rfl rfl HRUN.out ?_
                      refine hK.out _ _ Q6'.out (fun hS => ?_)
                      clear hK K
                      (try simp only [Act.put, List.setIfInBounds_toArray, List.set_cons_zero, List.set_cons_succ])
                      clear HRUN
                      refine take_at 15 (some 106) (v := ?_) rfl rfl (by kernel_rfl) (by kernel_rfl) (by kernel_rfl) (fun _ _ _ h => h) ⟨by rfl, ?_⟩ hS ?_
                      rotate_left
                      · intro wq hSw; go_simp; try rfl
                      simp only [Act.put, List.setIfInBounds_toArray, List.set_cons_zero, List.set_cons_succ]
                      refine wpAnyH_ready (rs := [16]) (by kernel_rfl) (by simp) ?_
                      refine AllReadyH.cons rfl (fun K hK => ?_) AllReadyH.nil
                      go_simp
                      go_wp2_with fail
                      refine hK.out _ _ ⟨(Q6.out.c2.get 1 _ rfl).1, (Q6.out.bel.cell (p := ⟨b, off + j * 2 + 1, none⟩) hbl).trans Y1.out⟩ (fun hS => ?_)
                      clear hK K
                      (try simp only [Act.put, List.setIfInBounds_toArray, List.set_cons_zero, List.set_cons_succ])
                      refine wpAnyH_done (by kernel_rfl) ?_ _
                      clear c80 f80
                      go_wp2_with fail
                      go_roundw
                      case rel => exact ⟨j + 1, pg', _, _, rfl, by go_num, HLE8.out, by omega, by omega, by omega, LE8.out, OK8.out, Q6.out⟩
                      case measure => simp [intOf]; omega
                    · have LI := hide (lies_lit w4 #[.int .i64 pg', .int .i64 y] 65)
                      have Q5 := hide (QQ.out.below (alloc_below w4 (.cells #[.int .i64 pg', .int .i64 y] 65)))
                      go_simp
                      (try go_wp2_with fail)
                      generalize w4.alloc (.cells #[.int .i64 pg', .int .i64 y] 65) = w5 at *
                      refine hK.out _ _ ⟨(Q5.out.c2.get 1 _ rfl).1, (Q5.out.bel.cell (p := ⟨b, off + j * 2 + 1, none⟩) hbl).trans Y1.out⟩ (fun hS => ?_)
                      clear hK K
                      (try simp only [Act.put, List.setIfInBounds_toArray, List.set_cons_zero, List.set_cons_succ])
                      refine wpAnyH_ready (rs := [1]) (by kernel_rfl) (by simp) ?_
                      refine AllReadyH.cons rfl (fun K hK => ?_) AllReadyH.nil
                      have cl := (Q5.out.c5.get 1 _ rfl).1
                      go_simp
                      go_wp2_with fail
                      refine hK.out _ _ ⟨(Q5.out.c2.get 1 _ rfl).1, (Q5.out.bel.cell (p := ⟨b, off + j * 2 + 1, none⟩) hbl).trans Y1.out⟩ (fun hS => ?_)
                      clear hK K
                      (try simp only [Act.put, List.setIfInBounds_toArray, List.set_cons_zero, List.set_cons_succ])
                      clear cl
                      obtain ⟨v8, w8, hrun, hr8, hg8, hv8⟩ := run_pushD 32 w5 w.heap.size _ ds Q5.out.rd ⟨w4.heap.size, 0, none⟩ ⟨pg', y⟩ LI.out (by have := HLEN.out; omega) Q5.out.bel.size
                      have Q6 := Q5.out.putD hr8 hg8 hv8
                      obtain ⟨a8, c8, ev8, _⟩ := GRow.lies hr8
                      have hle : (ds ++ [(⟨pg', y⟩ : DirtyM)]).length = j + 1 := by have := HLEN.out; simp; omega
                      rw [hle] at ev8
                      subst ev8
                      have kg := (Keep.refl (fun k => _ = some k) _).grown hg8 (fun _ q _ => q)
                      have hc8 := ((Q5.out.c5.keep kg (fun q => by have := Q5.out.dne _ q; omega)).get 1 _ rfl)
                      obtain ⟨c80, f80⟩ := hc8
                      have Q6' := hide (show w8.cell? ⟨w.heap.size, 1, none⟩ = some (.slice (some ⟨b, off, none⟩) ds0.length dc) ∧ w8.cell? ⟨b, off + j * 2 + 1, none⟩ = some (.int .i64 t1) from ⟨((Q5.out.c2.keep kg (fun q => by have := Q5.out.dne _ q; omega)).get 1 _ rfl).1, ((Q5.out.bel.trans (kg.below Q5.out.bel.size (fun k hk q => by have := Q5.out.dne _ q; omega))).cell (p := ⟨b, off + j * 2 + 1, none⟩) hbl).trans Y1.out⟩)
                      have HRUN := hide hrun
                      have Q6 := hide Q6
                      have HLE8 := hide hle
                      have LE8 := hide (leastD_snoc ⟨pg', y⟩ ds 0)
                      have OK8 := hide (show dirtyB lsn 0 (ds ++ [⟨pg', y⟩]) = true by rw [dirtyB_snoc, HOK.out, HLE.out, recB_of hy.1 hy.2 h31]; unfold fromB; simp; omega)
                      clear hrun hr8 hg8 hv8 Q5 LI hle kg
                      refine wpAnyH_ready (rs := [14]) (by kernel_rfl) (by simp) ?_
                      refine AllReadyH.cons rfl (fun K hK => ?_) AllReadyH.nil
                      refine wp_run 105 (.tmp 92) (.tmp 104) rfl rfl rfl rfl rfl HRUN.out ?_
                      refine hK.out _ _ Q6'.out (fun hS => ?_)
                      clear hK K
                      (try simp only [Act.put, List.setIfInBounds_toArray, List.set_cons_zero, List.set_cons_succ])
                      clear HRUN
                      refine take_at 15 (some 106) (v := ?_) rfl rfl (by kernel_rfl) (by kernel_rfl) (by kernel_rfl) (fun _ _ _ h => h) ⟨by rfl, ?_⟩ hS ?_
                      rotate_left
                      · intro wq hSw; go_simp; try rfl
                      simp only [Act.put, List.setIfInBounds_toArray, List.set_cons_zero, List.set_cons_succ]
                      refine wpAnyH_ready (rs := [16]) (by kernel_rfl) (by simp) ?_
                      refine AllReadyH.cons rfl (fun K hK => ?_) AllReadyH.nil
                      go_simp
                      go_wp2_with fail
                      refine hK.out _ _ ⟨(Q6.out.c2.get 1 _ rfl).1, (Q6.out.bel.cell (p := ⟨b, off + j * 2 + 1, none⟩) hbl).trans Y1.out⟩ (fun hS => ?_)
                      clear hK K
                      (try simp only [Act.put, List.setIfInBounds_toArray, List.set_cons_zero, List.set_cons_succ])
                      refine wpAnyH_done (by kernel_rfl) ?_ _
                      clear c80 f80
                      go_wp2_with fail
                      go_roundw
                      case rel => exact ⟨j + 1, pg', _, _, rfl, by go_num, HLE8.out, by omega, by omega, by omega, LE8.out, OK8.out, Q6.out⟩
                      case measure => simp [intOf]; omega
                · obtain ⟨mm, hmm⟩ : ∃ mm : Int, mm = 63 := ⟨_, rfl⟩
                  go_wp2_with fail
                  refine (rest_any t0 (pg + 1) 63 _ (by omega) (by omega) (by omega)).mono ?_
                  rintro e w' ⟨pg', rfl, hp', hw⟩
                  obtain rfl : wr = w' := hw.symm
                  have QQ := hide (HQ2.out.below (Below.refl _ _).drew)
                  have FX := hide (show wr.cell? ⟨w.heap.size, 1, none⟩ = some (.slice (some ⟨b, off, none⟩) ds0.length dc) ∧ wr.cell? ⟨b, off + j * 2 + 1, none⟩ = some (.int .i64 t1) from ⟨p1, v1⟩)
                  clear hmm HQ2
                  go_upto_region 18 with fail
                  refine wp_region_held_drew (S := fun wq => wq.cell? ⟨w.heap.size, 1, none⟩ = some (.slice (some ⟨b, off, none⟩) ds0.length dc) ∧ wq.cell? ⟨b, off + j * 2 + 1, none⟩ = some (.int .i64 t1)) (by kernel_rfl) FX.out (fun hS => ?_)
                  generalize wr.drew = w4 at *
                  clear FX p1 x1 v0 v1
                  refine take_at 0 (some 91) (v := ?_) rfl rfl (by kernel_rfl) (by kernel_rfl) (by kernel_rfl) (fun _ _ _ h => h) ⟨by rfl, ?_⟩ hS ?_
                  rotate_left
                  · intro wq hSw; go_simp; try rfl
                  simp only [Act.put, List.setIfInBounds_toArray, List.set_cons_zero, List.set_cons_succ]
                  refine take_at 2 (some 93) (v := ?_) rfl rfl (by kernel_rfl) (by kernel_rfl) (by kernel_rfl) (fun _ _ _ h => h) ⟨by rfl, ?_⟩ hS ?_
                  rotate_left
                  · intro wq hSw; go_simp; try rfl
                  simp only [Act.put, List.setIfInBounds_toArray, List.set_cons_zero, List.set_cons_succ]
                  refine take_at 3 (some 94) (v := ?_) rfl rfl (by kernel_rfl) (by kernel_rfl) (by kernel_rfl) (fun _ _ _ h => h) ⟨by rfl, ?_⟩ hS ?_
                  rotate_left
                  · intro wq hSw; go_simp; try rfl
                  simp only [Act.put, List.setIfInBounds_toArray, List.set_cons_zero, List.set_cons_succ]
                  refine take_at 4 (some 95) (v := ?_) rfl rfl (by kernel_rfl) (by kernel_rfl) (by kernel_rfl) (fun _ _ _ h => h) ⟨by rfl, ?_⟩ hS ?_
                  rotate_left
                  · intro wq hSw; obtain ⟨y0, y1⟩ := hSw; go_simp; try rfl
                  simp only [Act.put, List.setIfInBounds_toArray, List.set_cons_zero, List.set_cons_succ]
                  refine take_at 5 (some 96) (v := ?_) rfl rfl (by kernel_rfl) (by kernel_rfl) (by kernel_rfl) (fun _ _ _ h => h) ⟨by rfl, ?_⟩ hS ?_
                  rotate_left
                  · intro wq hSw; go_simp; try rfl
                  simp only [Act.put, List.setIfInBounds_toArray, List.set_cons_zero, List.set_cons_succ]
                  refine take_at 6 (some 97) (v := ?_) rfl rfl (by kernel_rfl) (by kernel_rfl) (by kernel_rfl) (fun _ _ _ h => h) ⟨by rfl, ?_⟩ hS ?_
                  rotate_left
                  · intro wq hSw; go_simp; try rfl
                  simp only [Act.put, List.setIfInBounds_toArray, List.set_cons_zero, List.set_cons_succ]
                  refine take_at 7 (some 98) (v := ?_) rfl rfl (by kernel_rfl) (by kernel_rfl) (by kernel_rfl) (fun _ _ _ h => h) ⟨by rfl, ?_⟩ hS ?_
                  rotate_left
                  · intro wq hSw; go_simp; try rfl
                  simp only [Act.put, List.setIfInBounds_toArray, List.set_cons_zero, List.set_cons_succ]
                  refine take_at 8 (some 99) (v := ?_) rfl rfl (by kernel_rfl) (by kernel_rfl) (by kernel_rfl) (fun _ _ _ h => h) ⟨by rfl, ?_⟩ hS ?_
                  rotate_left
                  · intro wq hSw; obtain ⟨y0, y1⟩ := hSw; go_simp; try rfl
                  simp only [Act.put, List.setIfInBounds_toArray, List.set_cons_zero, List.set_cons_succ]
                  refine take_at 9 (some 100) (v := ?_) rfl rfl (by kernel_rfl) (by kernel_rfl) (by kernel_rfl) (fun _ _ _ h => h) ⟨by rfl, ?_⟩ hS ?_
                  rotate_left
                  · intro wq hSw; go_simp; try rfl
                  simp only [Act.put, List.setIfInBounds_toArray, List.set_cons_zero, List.set_cons_succ]
                  refine take_at 10 (some 101) (v := ?_) rfl rfl (by kernel_rfl) (by kernel_rfl) (by kernel_rfl) (fun _ _ _ h => h) ⟨by rfl, ?_⟩ hS ?_
                  rotate_left
                  · intro wq hSw; go_simp; try rfl
                  simp only [Act.put, List.setIfInBounds_toArray, List.set_cons_zero, List.set_cons_succ]
                  refine wpAnyH_ready (rs := [1, 11]) (by kernel_rfl) (by simp) ?_
                  refine AllReadyH.cons rfl (fun K hK => ?_) (AllReadyH.cons rfl (fun K hK => ?_) AllReadyH.nil)
                  · have cl := (QQ.out.c5.get 1 _ rfl).1
                    go_simp
                    go_wp2_with fail
                    refine hK.out _ _ ⟨(QQ.out.c2.get 1 _ rfl).1, (QQ.out.bel.cell (p := ⟨b, off + j * 2 + 1, none⟩) hbl).trans Y1.out⟩ (fun hS => ?_)
                    clear hK K
                    (try simp only [Act.put, List.setIfInBounds_toArray, List.set_cons_zero, List.set_cons_succ])
                    clear cl
                    refine wpAnyH_ready (rs := [11]) (by kernel_rfl) (by simp) ?_
                    refine AllReadyH.cons rfl (fun K hK => ?_) AllReadyH.nil
                    go_simp
                    go_wp2_with fail
                    refine (rest_any t1 1 (lsn - 1) _ (by omega) (by omega) (by omega)).mono ?_
                    rintro e w' ⟨y, rfl, hy, hw⟩
                    obtain rfl : w4 = w' := hw.symm
                    go_wp2_with fail
                    refine hK.out _ _ ⟨(QQ.out.c2.get 1 _ rfl).1, (QQ.out.bel.cell (p := ⟨b, off + j * 2 + 1, none⟩) hbl).trans Y1.out⟩ (fun hS => ?_)
                    clear hK K
                    (try simp only [Act.put, List.setIfInBounds_toArray, List.set_cons_zero, List.set_cons_succ])
                    refine take_at 12 (some 103) (v := ?_) rfl rfl (by kernel_rfl) (by kernel_rfl) (by kernel_rfl) (fun _ _ _ h => h) ⟨by rfl, ?_⟩ hS ?_
                    rotate_left
                    · intro wq hSw; go_simp; try rfl
                    simp only [Act.put, List.setIfInBounds_toArray, List.set_cons_zero, List.set_cons_succ]
                    refine wpAnyH_ready (rs := [13]) (by kernel_rfl) (by simp) ?_
                    refine AllReadyH.cons rfl (fun K hK => ?_) AllReadyH.nil
                    have LI := hide (lies_lit w4 #[.int .i64 pg', .int .i64 y] 65)
                    have Q5 := hide (QQ.out.below (alloc_below w4 (.cells #[.int .i64 pg', .int .i64 y] 65)))
                    go_simp
                    (try go_wp2_with fail)
                    generalize w4.alloc (.cells #[.int .i64 pg', .int .i64 y] 65) = w5 at *
                    refine hK.out _ _ ⟨(Q5.out.c2.get 1 _ rfl).1, (Q5.out.bel.cell (p := ⟨b, off + j * 2 + 1, none⟩) hbl).trans Y1.out⟩ (fun hS => ?_)
                    clear hK K
                    (try simp only [Act.put, List.setIfInBounds_toArray, List.set_cons_zero, List.set_cons_succ])
                    obtain ⟨v8, w8, hrun, hr8, hg8, hv8⟩ := run_pushD 32 w5 w.heap.size _ ds Q5.out.rd ⟨w4.heap.size, 0, none⟩ ⟨pg', y⟩ LI.out (by have := HLEN.out; omega) Q5.out.bel.size
                    have Q6 := Q5.out.putD hr8 hg8 hv8
                    obtain ⟨a8, c8, ev8, _⟩ := GRow.lies hr8
                    have hle : (ds ++ [(⟨pg', y⟩ : DirtyM)]).length = j + 1 := by have := HLEN.out; simp; omega
                    rw [hle] at ev8
                    subst ev8
                    have kg := (Keep.refl (fun k => _ = some k) _).grown hg8 (fun _ q _ => q)
                    have hc8 := ((Q5.out.c5.keep kg (fun q => by have := Q5.out.dne _ q; omega)).get 1 _ rfl)
                    obtain ⟨c80, f80⟩ := hc8
                    have Q6' := hide (show w8.cell? ⟨w.heap.size, 1, none⟩ = some (.slice (some ⟨b, off, none⟩) ds0.length dc) ∧ w8.cell? ⟨b, off + j * 2 + 1, none⟩ = some (.int .i64 t1) from ⟨((Q5.out.c2.keep kg (fun q => by have := Q5.out.dne _ q; omega)).get 1 _ rfl).1, ((Q5.out.bel.trans (kg.below Q5.out.bel.size (fun k hk q => by have := Q5.out.dne _ q; omega))).cell (p := ⟨b, off + j * 2 + 1, none⟩) hbl).trans Y1.out⟩)
                    have HRUN := hide hrun
                    have Q6 := hide Q6
                    have HLE8 := hide hle
                    have LE8 := hide (leastD_snoc ⟨pg', y⟩ ds 0)
                    have OK8 := hide (show dirtyB lsn 0 (ds ++ [⟨pg', y⟩]) = true by rw [dirtyB_snoc, HOK.out, HLE.out, recB_of hy.1 hy.2 h31]; unfold fromB; simp; omega)
                    clear hrun hr8 hg8 hv8 Q5 LI hle kg
                    refine wpAnyH_ready (rs := [14]) (by kernel_rfl) (by simp) ?_
                    refine AllReadyH.cons rfl (fun K hK => ?_) AllReadyH.nil
                    refine wp_run 105 (.tmp 92) (.tmp 104) rfl rfl rfl rfl rfl HRUN.out ?_
                    refine hK.out _ _ Q6'.out (fun hS => ?_)
                    clear hK K
                    (try simp only [Act.put, List.setIfInBounds_toArray, List.set_cons_zero, List.set_cons_succ])
                    clear HRUN
                    refine take_at 15 (some 106) (v := ?_) rfl rfl (by kernel_rfl) (by kernel_rfl) (by kernel_rfl) (fun _ _ _ h => h) ⟨by rfl, ?_⟩ hS ?_
                    rotate_left
                    · intro wq hSw; go_simp; try rfl
                    simp only [Act.put, List.setIfInBounds_toArray, List.set_cons_zero, List.set_cons_succ]
                    refine wpAnyH_ready (rs := [16]) (by kernel_rfl) (by simp) ?_
                    refine AllReadyH.cons rfl (fun K hK => ?_) AllReadyH.nil
                    go_simp
                    go_wp2_with fail
                    refine hK.out _ _ ⟨(Q6.out.c2.get 1 _ rfl).1, (Q6.out.bel.cell (p := ⟨b, off + j * 2 + 1, none⟩) hbl).trans Y1.out⟩ (fun hS => ?_)
                    clear hK K
                    (try simp only [Act.put, List.setIfInBounds_toArray, List.set_cons_zero, List.set_cons_succ])
                    refine wpAnyH_done (by kernel_rfl) ?_ _
                    clear c80 f80
                    go_wp2_with fail
                    go_roundw
                    case rel => exact ⟨j + 1, pg', _, _, rfl, by go_num, HLE8.out, by omega, by omega, by omega, LE8.out, OK8.out, Q6.out⟩
                    case measure => simp [intOf]; omega
                  · go_simp
                    go_wp2_with fail
                    refine (rest_any t1 1 (lsn - 1) _ (by omega) (by omega) (by omega)).mono ?_
                    rintro e w' ⟨y, rfl, hy, hw⟩
                    obtain rfl : w4 = w' := hw.symm
                    go_wp2_with fail
                    refine hK.out _ _ ⟨(QQ.out.c2.get 1 _ rfl).1, (QQ.out.bel.cell (p := ⟨b, off + j * 2 + 1, none⟩) hbl).trans Y1.out⟩ (fun hS => ?_)
                    clear hK K
                    (try simp only [Act.put, List.setIfInBounds_toArray, List.set_cons_zero, List.set_cons_succ])
                    refine take_at 12 (some 103) (v := ?_) rfl rfl (by kernel_rfl) (by kernel_rfl) (by kernel_rfl) (fun _ _ _ h => h) ⟨by rfl, ?_⟩ hS ?_
                    rotate_left
                    · intro wq hSw; go_simp; try rfl
                    simp only [Act.put, List.setIfInBounds_toArray, List.set_cons_zero, List.set_cons_succ]
                    refine wpAnyH_ready (rs := [1, 13]) (by kernel_rfl) (by simp) ?_
                    refine AllReadyH.cons rfl (fun K hK => ?_) (AllReadyH.cons rfl (fun K hK => ?_) AllReadyH.nil)
                    · have cl := (QQ.out.c5.get 1 _ rfl).1
                      go_simp
                      go_wp2_with fail
                      refine hK.out _ _ ⟨(QQ.out.c2.get 1 _ rfl).1, (QQ.out.bel.cell (p := ⟨b, off + j * 2 + 1, none⟩) hbl).trans Y1.out⟩ (fun hS => ?_)
                      clear hK K
                      (try simp only [Act.put, List.setIfInBounds_toArray, List.set_cons_zero, List.set_cons_succ])
                      clear cl
                      refine wpAnyH_ready (rs := [13]) (by kernel_rfl) (by simp) ?_
                      refine AllReadyH.cons rfl (fun K hK => ?_) AllReadyH.nil
                      have LI := hide (lies_lit w4 #[.int .i64 pg', .int .i64 y] 65)
                      have Q5 := hide (QQ.out.below (alloc_below w4 (.cells #[.int .i64 pg', .int .i64 y] 65)))
                      go_simp
                      (try go_wp2_with fail)
                      generalize w4.alloc (.cells #[.int .i64 pg', .int .i64 y] 65) = w5 at *
                      refine hK.out _ _ ⟨(Q5.out.c2.get 1 _ rfl).1, (Q5.out.bel.cell (p := ⟨b, off + j * 2 + 1, none⟩) hbl).trans Y1.out⟩ (fun hS => ?_)
                      clear hK K
                      (try simp only [Act.put, List.setIfInBounds_toArray, List.set_cons_zero, List.set_cons_succ])
                      obtain ⟨v8, w8, hrun, hr8, hg8, hv8⟩ := run_pushD 32 w5 w.heap.size _ ds Q5.out.rd ⟨w4.heap.size, 0, none⟩ ⟨pg', y⟩ LI.out (by have := HLEN.out; omega) Q5.out.bel.size
                      have Q6 := Q5.out.putD hr8 hg8 hv8
                      obtain ⟨a8, c8, ev8, _⟩ := GRow.lies hr8
                      have hle : (ds ++ [(⟨pg', y⟩ : DirtyM)]).length = j + 1 := by have := HLEN.out; simp; omega
                      rw [hle] at ev8
                      subst ev8
                      have kg := (Keep.refl (fun k => _ = some k) _).grown hg8 (fun _ q _ => q)
                      have hc8 := ((Q5.out.c5.keep kg (fun q => by have := Q5.out.dne _ q; omega)).get 1 _ rfl)
                      obtain ⟨c80, f80⟩ := hc8
                      have Q6' := hide (show w8.cell? ⟨w.heap.size, 1, none⟩ = some (.slice (some ⟨b, off, none⟩) ds0.length dc) ∧ w8.cell? ⟨b, off + j * 2 + 1, none⟩ = some (.int .i64 t1) from ⟨((Q5.out.c2.keep kg (fun q => by have := Q5.out.dne _ q; omega)).get 1 _ rfl).1, ((Q5.out.bel.trans (kg.below Q5.out.bel.size (fun k hk q => by have := Q5.out.dne _ q; omega))).cell (p := ⟨b, off + j * 2 + 1, none⟩) hbl).trans Y1.out⟩)
                      have HRUN := hide hrun
                      have Q6 := hide Q6
                      have HLE8 := hide hle
                      have LE8 := hide (leastD_snoc ⟨pg', y⟩ ds 0)
                      have OK8 := hide (show dirtyB lsn 0 (ds ++ [⟨pg', y⟩]) = true by rw [dirtyB_snoc, HOK.out, HLE.out, recB_of hy.1 hy.2 h31]; unfold fromB; simp; omega)
                      clear hrun hr8 hg8 hv8 Q5 LI hle kg
                      refine wpAnyH_ready (rs := [14]) (by kernel_rfl) (by simp) ?_
                      refine AllReadyH.cons rfl (fun K hK => ?_) AllReadyH.nil
                      refine wp_run 105 (.tmp 92) (.tmp 104) rfl rfl rfl rfl rfl HRUN.out ?_
                      refine hK.out _ _ Q6'.out (fun hS => ?_)
                      clear hK K
                      (try simp only [Act.put, List.setIfInBounds_toArray, List.set_cons_zero, List.set_cons_succ])
                      clear HRUN
                      refine take_at 15 (some 106) (v := ?_) rfl rfl (by kernel_rfl) (by kernel_rfl) (by kernel_rfl) (fun _ _ _ h => h) ⟨by rfl, ?_⟩ hS ?_
                      rotate_left
                      · intro wq hSw; go_simp; try rfl
                      simp only [Act.put, List.setIfInBounds_toArray, List.set_cons_zero, List.set_cons_succ]
                      refine wpAnyH_ready (rs := [16]) (by kernel_rfl) (by simp) ?_
                      refine AllReadyH.cons rfl (fun K hK => ?_) AllReadyH.nil
                      go_simp
                      go_wp2_with fail
                      refine hK.out _ _ ⟨(Q6.out.c2.get 1 _ rfl).1, (Q6.out.bel.cell (p := ⟨b, off + j * 2 + 1, none⟩) hbl).trans Y1.out⟩ (fun hS => ?_)
                      clear hK K
                      (try simp only [Act.put, List.setIfInBounds_toArray, List.set_cons_zero, List.set_cons_succ])
                      refine wpAnyH_done (by kernel_rfl) ?_ _
                      clear c80 f80
                      go_wp2_with fail
                      go_roundw
                      case rel => exact ⟨j + 1, pg', _, _, rfl, by go_num, HLE8.out, by omega, by omega, by omega, LE8.out, OK8.out, Q6.out⟩
                      case measure => simp [intOf]; omega
                    · have LI := hide (lies_lit w4 #[.int .i64 pg', .int .i64 y] 65)
                      have Q5 := hide (QQ.out.below (alloc_below w4 (.cells #[.int .i64 pg', .int .i64 y] 65)))
                      go_simp
                      (try go_wp2_with fail)
                      generalize w4.alloc (.cells #[.int .i64 pg', .int .i64 y] 65) = w5 at *
                      refine hK.out _ _ ⟨(Q5.out.c2.get 1 _ rfl).1, (Q5.out.bel.cell (p := ⟨b, off + j * 2 + 1, none⟩) hbl).trans Y1.out⟩ (fun hS => ?_)
                      clear hK K
                      (try simp only [Act.put, List.setIfInBounds_toArray, List.set_cons_zero, List.set_cons_succ])
                      refine wpAnyH_ready (rs := [1]) (by kernel_rfl) (by simp) ?_
                      refine AllReadyH.cons rfl (fun K hK => ?_) AllReadyH.nil
                      have cl := (Q5.out.c5.get 1 _ rfl).1
                      go_simp
                      go_wp2_with fail
                      refine hK.out _ _ ⟨(Q5.out.c2.get 1 _ rfl).1, (Q5.out.bel.cell (p := ⟨b, off + j * 2 + 1, none⟩) hbl).trans Y1.out⟩ (fun hS => ?_)
                      clear hK K
                      (try simp only [Act.put, List.setIfInBounds_toArray, List.set_cons_zero, List.set_cons_succ])
                      clear cl
                      obtain ⟨v8, w8, hrun, hr8, hg8, hv8⟩ := run_pushD 32 w5 w.heap.size _ ds Q5.out.rd ⟨w4.heap.size, 0, none⟩ ⟨pg', y⟩ LI.out (by have := HLEN.out; omega) Q5.out.bel.size
                      have Q6 := Q5.out.putD hr8 hg8 hv8
                      obtain ⟨a8, c8, ev8, _⟩ := GRow.lies hr8
                      have hle : (ds ++ [(⟨pg', y⟩ : DirtyM)]).length = j + 1 := by have := HLEN.out; simp; omega
                      rw [hle] at ev8
                      subst ev8
                      have kg := (Keep.refl (fun k => _ = some k) _).grown hg8 (fun _ q _ => q)
                      have hc8 := ((Q5.out.c5.keep kg (fun q => by have := Q5.out.dne _ q; omega)).get 1 _ rfl)
                      obtain ⟨c80, f80⟩ := hc8
                      have Q6' := hide (show w8.cell? ⟨w.heap.size, 1, none⟩ = some (.slice (some ⟨b, off, none⟩) ds0.length dc) ∧ w8.cell? ⟨b, off + j * 2 + 1, none⟩ = some (.int .i64 t1) from ⟨((Q5.out.c2.keep kg (fun q => by have := Q5.out.dne _ q; omega)).get 1 _ rfl).1, ((Q5.out.bel.trans (kg.below Q5.out.bel.size (fun k hk q => by have := Q5.out.dne _ q; omega))).cell (p := ⟨b, off + j * 2 + 1, none⟩) hbl).trans Y1.out⟩)
                      have HRUN := hide hrun
                      have Q6 := hide Q6
                      have HLE8 := hide hle
                      have LE8 := hide (leastD_snoc ⟨pg', y⟩ ds 0)
                      have OK8 := hide (show dirtyB lsn 0 (ds ++ [⟨pg', y⟩]) = true by rw [dirtyB_snoc, HOK.out, HLE.out, recB_of hy.1 hy.2 h31]; unfold fromB; simp; omega)
                      clear hrun hr8 hg8 hv8 Q5 LI hle kg
                      refine wpAnyH_ready (rs := [14]) (by kernel_rfl) (by simp) ?_
                      refine AllReadyH.cons rfl (fun K hK => ?_) AllReadyH.nil
                      refine wp_run 105 (.tmp 92) (.tmp 104) rfl rfl rfl rfl rfl HRUN.out ?_
                      refine hK.out _ _ Q6'.out (fun hS => ?_)
                      clear hK K
                      (try simp only [Act.put, List.setIfInBounds_toArray, List.set_cons_zero, List.set_cons_succ])
                      clear HRUN
                      refine take_at 15 (some 106) (v := ?_) rfl rfl (by kernel_rfl) (by kernel_rfl) (by kernel_rfl) (fun _ _ _ h => h) ⟨by rfl, ?_⟩ hS ?_
                      rotate_left
                      · intro wq hSw; go_simp; try rfl
                      simp only [Act.put, List.setIfInBounds_toArray, List.set_cons_zero, List.set_cons_succ]
                      refine wpAnyH_ready (rs := [16]) (by kernel_rfl) (by simp) ?_
                      refine AllReadyH.cons rfl (fun K hK => ?_) AllReadyH.nil
                      go_simp
                      go_wp2_with fail
                      refine hK.out _ _ ⟨(Q6.out.c2.get 1 _ rfl).1, (Q6.out.bel.cell (p := ⟨b, off + j * 2 + 1, none⟩) hbl).trans Y1.out⟩ (fun hS => ?_)
                      clear hK K
                      (try simp only [Act.put, List.setIfInBounds_toArray, List.set_cons_zero, List.set_cons_succ])
                      refine wpAnyH_done (by kernel_rfl) ?_ _
                      clear c80 f80
                      go_wp2_with fail
                      go_roundw
                      case rel => exact ⟨j + 1, pg', _, _, rfl, by go_num, HLE8.out, by omega, by omega, by omega, LE8.out, OK8.out, Q6.out⟩
                      case measure => simp [intOf]; omega
              · have hg3 : decide (pg < 63) = false := by simp; omega
                have w5c := HQ2.out.c5
                have k0 := (w5c.get 0 _ rfl).1
                have k1 := (w5c.get 1 _ rfl).1
                have k2 := (w5c.get 2 _ rfl).1
                have g0 := (HQ2.out.c4.get 0 _ rfl).1
                have f0 := (HQ2.out.c4.get 0 _ rfl).2
                have g1 := (HQ2.out.c4.get 1 _ rfl).1
                have f1 := (HQ2.out.c4.get 1 _ rfl).2
                have g2 := (HQ2.out.c4.get 2 _ rfl).1
                have f2 := (HQ2.out.c4.get 2 _ rfl).2
                have kk : Keep (fun k => k = w.heap.size + 1) wr (((wr.setCell ⟨w.heap.size + 1, 0, none⟩ (.slice aL k cL)).setCell ⟨w.heap.size + 1, 1, none⟩ (.slice aD j cD)).setCell ⟨w.heap.size + 1, 2, none⟩ (.int .i64 nx)) := (((Keep.refl (fun k => k = w.heap.size + 1) wr).setCell (fun _ => rfl) _).setCell (fun _ => rfl) _).setCell (fun _ => rfl) _
                have C4 := ((HQ2.out.c4.stored (j := 0) (by simp) ((.slice aL k cL))).stored (j := 1) (by simp) ((.slice aD j cD))).stored (j := 2) (by simp) (.int .i64 nx)
                have RL := hide (GRow.keep HQ2.out.rl kk (fun g q e => by have := HQ2.out.lne g q; omega))
                have RD := hide (GRow.keep HQ2.out.rd kk (fun g q e => by have := HQ2.out.dne g q; omega))
                have BB := hide (HQ2.out.bel.trans (kk.below HQ2.out.bel.size (fun k hk q => by omega)))
                have y0 := (C4.get 0 _ rfl).1
                have y1 := (C4.get 1 _ rfl).1
                have y2 := (C4.get 2 _ rfl).1
                have PTS := hide (show pointsB true ls ds nx lsn = true by
                  unfold pointsB
                  rw [cond_true, HOKL.out nx (by omega), HOK.out]
                  have := HLENL.out
                  have := HLEN.out
                  unfold fromB
                  simp
                  omega)
                clear kk C4 w5c
                go_wp2_with fail
                refine bodyPost_ret (v := .agg #[(.slice aL k cL), (.slice aD j cD), .int .i64 nx]) (by simp only [results, Try.results31]; simp [go_sem, y0, y1, y2]) rfl ?_
                first | exact ⟨_, _, nx, ls, ds, rfl, RL.out, RD.out, HQ2.out.ld, PTS.out, BB.out⟩ | exact ⟨_, _, nx, rfl, ls, RL.out, ds, RD.out, HQ2.out.ld, PTS.out, BB.out⟩
            · have hg2 : decide ((j : Int) < 16) = false := by simp; omega
              have w5c := HQ2.out.c5
              have k0 := (w5c.get 0 _ rfl).1
              have k1 := (w5c.get 1 _ rfl).1
              have k2 := (w5c.get 2 _ rfl).1
              have g0 := (HQ2.out.c4.get 0 _ rfl).1
              have f0 := (HQ2.out.c4.get 0 _ rfl).2
              have g1 := (HQ2.out.c4.get 1 _ rfl).1
              have f1 := (HQ2.out.c4.get 1 _ rfl).2
              have g2 := (HQ2.out.c4.get 2 _ rfl).1
              have f2 := (HQ2.out.c4.get 2 _ rfl).2
              have kk : Keep (fun k => k = w.heap.size + 1) wr (((wr.setCell ⟨w.heap.size + 1, 0, none⟩ (.slice aL k cL)).setCell ⟨w.heap.size + 1, 1, none⟩ (.slice aD j cD)).setCell ⟨w.heap.size + 1, 2, none⟩ (.int .i64 nx)) := (((Keep.refl (fun k => k = w.heap.size + 1) wr).setCell (fun _ => rfl) _).setCell (fun _ => rfl) _).setCell (fun _ => rfl) _
              have C4 := ((HQ2.out.c4.stored (j := 0) (by simp) ((.slice aL k cL))).stored (j := 1) (by simp) ((.slice aD j cD))).stored (j := 2) (by simp) (.int .i64 nx)
              have RL := hide (GRow.keep HQ2.out.rl kk (fun g q e => by have := HQ2.out.lne g q; omega))
              have RD := hide (GRow.keep HQ2.out.rd kk (fun g q e => by have := HQ2.out.dne g q; omega))
              have BB := hide (HQ2.out.bel.trans (kk.below HQ2.out.bel.size (fun k hk q => by omega)))
              have y0 := (C4.get 0 _ rfl).1
              have y1 := (C4.get 1 _ rfl).1
              have y2 := (C4.get 2 _ rfl).1
              have PTS := hide (show pointsB true ls ds nx lsn = true by
                unfold pointsB
                rw [cond_true, HOKL.out nx (by omega), HOK.out]
                have := HLENL.out
                have := HLEN.out
                unfold fromB
                simp
                omega)
              clear kk C4 w5c
              go_wp2_with fail
              refine bodyPost_ret (v := .agg #[(.slice aL k cL), (.slice aD j cD), .int .i64 nx]) (by simp only [results, Try.results31]; simp [go_sem, y0, y1, y2]) rfl ?_
              first | exact ⟨_, _, nx, ls, ds, rfl, RL.out, RD.out, HQ2.out.ld, PTS.out, BB.out⟩ | exact ⟨_, _, nx, rfl, ls, RL.out, ds, RD.out, HQ2.out.ld, PTS.out, BB.out⟩
          · have hg1 : decide ((j : Int) < (ds0.length : Int)) = false := by simp; omega
            have w5c := HQ2.out.c5
            have k0 := (w5c.get 0 _ rfl).1
            have k1 := (w5c.get 1 _ rfl).1
            have k2 := (w5c.get 2 _ rfl).1
            have g0 := (HQ2.out.c4.get 0 _ rfl).1
            have f0 := (HQ2.out.c4.get 0 _ rfl).2
            have g1 := (HQ2.out.c4.get 1 _ rfl).1
            have f1 := (HQ2.out.c4.get 1 _ rfl).2
            have g2 := (HQ2.out.c4.get 2 _ rfl).1
            have f2 := (HQ2.out.c4.get 2 _ rfl).2
            have kk : Keep (fun k => k = w.heap.size + 1) wr (((wr.setCell ⟨w.heap.size + 1, 0, none⟩ (.slice aL k cL)).setCell ⟨w.heap.size + 1, 1, none⟩ (.slice aD j cD)).setCell ⟨w.heap.size + 1, 2, none⟩ (.int .i64 nx)) := (((Keep.refl (fun k => k = w.heap.size + 1) wr).setCell (fun _ => rfl) _).setCell (fun _ => rfl) _).setCell (fun _ => rfl) _
            have C4 := ((HQ2.out.c4.stored (j := 0) (by simp) ((.slice aL k cL))).stored (j := 1) (by simp) ((.slice aD j cD))).stored (j := 2) (by simp) (.int .i64 nx)
            have RL := hide (GRow.keep HQ2.out.rl kk (fun g q e => by have := HQ2.out.lne g q; omega))
            have RD := hide (GRow.keep HQ2.out.rd kk (fun g q e => by have := HQ2.out.dne g q; omega))
            have BB := hide (HQ2.out.bel.trans (kk.below HQ2.out.bel.size (fun k hk q => by omega)))
            have y0 := (C4.get 0 _ rfl).1
            have y1 := (C4.get 1 _ rfl).1
            have y2 := (C4.get 2 _ rfl).1
            have PTS := hide (show pointsB true ls ds nx lsn = true by
              unfold pointsB
              rw [cond_true, HOKL.out nx (by omega), HOK.out]
              have := HLENL.out
              have := HLEN.out
              unfold fromB
              simp
              omega)
            clear kk C4 w5c
            go_wp2_with fail
            refine bodyPost_ret (v := .agg #[(.slice aL k cL), (.slice aD j cD), .int .i64 nx]) (by simp only [results, Try.results31]; simp [go_sem, y0, y1, y2]) rfl ?_
            first | exact ⟨_, _, nx, ls, ds, rfl, RL.out, RD.out, HQ2.out.ld, PTS.out, BB.out⟩ | exact ⟨_, _, nx, rfl, ls, RL.out, ds, RD.out, HQ2.out.ld, PTS.out, BB.out⟩
end Go.Proofs.Ytlibldioliicfaa
