import Derived.Test.YtaohdmaenplbpaaGreatLdAJ
import Derived.BigQuiet
import Derived.Deep.QuietTactic
import Derived.Deep.DeepCutAuto
set_option linter.all false
namespace Go.Proofs.YtaohdmaenplbpaaGreat
open Go.RowKit Go.QK Quota Go.Maps Go.QM
set_option maxRecDepth 100000
/-! LedgerEscrows: the law. -/
set_option maxHeartbeats 20000000 in
theorem law_escrows (rs : List Rm) (ra : Option Addr) (nR rc : Nat) (ds : List Dd) (da : Option Addr) (nD dc : Nat) (w : World) (hr : Lies w ra (rowsC rmC rs)) (hn : nR = rs.length) (hin : ∀ x ∈ rs, x.In) (hmax : nR ≤ 9223372036854775807) (hd : Lies w da (rowsC ddC ds)) (hdn : nD = ds.length) (hdi : ∀ x ∈ ds, I64 x.d) : Calls Tryz.prog 3 #[.slice ra nR rc, .slice da nD dc] w fun r w' => r = .returned (.bool true) ∧ Below w.heap.size w w' := by
  have KB := hide (begun_any rs ra nR rc w hr hn hin hmax)
  have KF := hide (fun w' => first_any w')
  have HD := hide hd
  have HN := hide hdn
  have HI := hide hdi
  clear hr hn hin hmax hd hdn hdi
  go_enter Tryz.func3, Tryz.ntmps3
  go_upto_region 2 with (go_at_call 9; refine KB.out.mono ?_; rintro r w1 ⟨sb, T, es, rfl, hs, hT, hb⟩; have B1 := hide (show Btw w w1 sb T es [] from ⟨hs, hT, hb⟩); clear hs hT hb)
  clear KB
  go_upto_region 4 with (go_at_call 10; refine (KF.out _).mono ?_; rintro r w2 ⟨rfl, hb⟩; have B2 := hide (B1.out.below hb); clear hb B1)
  clear KF
  go_wp2_with fail
  go_loopw [7] (fun v wr => ∃ (i : Nat) (T : Nat → Prop) (es : List SE) (H : Helds), v = .int .i64 (i : Int) ∧ i ≤ nD ∧ i ≤ 100 ∧ Btw w wr sb T es H) (fun v _ => nD + 1 - (intOf v).toNat)
  case atStart => exact ⟨0, T, es, [], rfl, Nat.zero_le _, Nat.zero_le _, B2.out⟩
  case round =>
    clear B2 T es
    obtain ⟨i, T, es, H, rfl, hi, hi100, hB⟩ := hrel
    by_cases hlt : i < nD
    · by_cases h100 : i < 100
      · have hid : i < ds.length := by rw [← HN.out]; exact hlt
        obtain ⟨db, doo, rfl, dlt, sel⟩ := HD.out.rowAt ddC 4 ddC_len i hid (by decide)
        have KD := hide (hB.call ds[i] (HI.out _ (List.getElem_mem hid)))
        have f0 := (hB.bel.cell (p := ⟨db, doo + i * 4 + 0, none⟩) dlt).trans (sel 0 _ rfl)
        have f1 := (hB.bel.cell (p := ⟨db, doo + i * 4 + 1, none⟩) dlt).trans (sel 1 _ rfl)
        have f2 := (hB.bel.cell (p := ⟨db, doo + i * 4 + 2, none⟩) dlt).trans (sel 2 _ rfl)
        have f3 := (hB.bel.cell (p := ⟨db, doo + i * 4 + 3, none⟩) dlt).trans (sel 3 _ rfl)
        have FT := hide (fun wz (h : Below w.heap.size w wz) => (h.cell (p := ⟨db, doo + i * 4 + 1, none⟩) dlt).trans (sel 1 _ rfl))
        simp only [Nat.add_zero] at f0
        generalize ds[i] = x at *
        obtain ⟨kd, tx, ct, d⟩ := x
        simp only at f0 f1 f2 f3 KD FT
        clear sel hB
        go_upto_region 8 with (go_at_call 11; refine KD.out.mono ?_; rintro r w2 ⟨rfl, T2, es2, H2, hB⟩)
        clear KD f0 f1 f2 f3 T es H
        have hB0 := hB
        obtain ⟨⟨ok, lab, lb, vc, ve, hst⟩, hlow, hbel⟩ := hB0
        have OK := hide ok
        have BT := hide hB
        clear ok hB
        obtain ⟨a1, c1, a2, c2, rfl, rfl⟩ := hst.form
        obtain ⟨n, hn⟩ : ∃ n, n = es2.length := ⟨_, rfl⟩
        rw [← hn] at hst
        have n8 : n ≤ 8 := by rw [hn]; exact OK.out.few
        have NE := hide hn
        obtain ⟨S, hl⟩ := hst.lg
        have LK := hide hl.ok
        have KC := hide (lg_counters hl)
        have f0 := (hst.box.get 0 _ rfl).1
        have HS := hide hst
        clear hst hl hn hlow hbel
        go_upto_region 11 with (go_at_call 12; refine KC.out.mono ?_; rintro r w3 ⟨va, rfl, hga, -, hb3⟩)
        clear KC f0
        obtain ⟨aa, ca, rfl, see⟩ := rows_see hga
        rw [← NE.out]
        have SA := hide see
        have S3 := hide (HS.out.below hb3)
        have B3 := hide (BT.out.below hb3)
        have f1 := (S3.out.box.get 1 _ rfl).1
        clear see hga hb3 HS BT
        go_wp2_with fail
        clear f1
        go_loopw [9] (fun v wq => ∃ k : Nat, v = .int .i64 (k : Int) ∧ k ≤ n ∧ Below w3.heap.size w3 wq) (fun v _ => n + 1 - (intOf v).toNat)
        case atStart => exact ⟨0, rfl, Nat.zero_le _, Below.refl _ _⟩
        case round =>
          obtain ⟨k, rfl, hk, hbq⟩ := hrel
          have S4 := hide (S3.out.below hbq)
          by_cases hkn : k < n
          · have hke : k < es2.length := by rw [← NE.out]; exact hkn
            obtain ⟨cb, co, eb, eo, rfl, rfl, sees⟩ := S4.out.see hke
            obtain ⟨ab, ao, hab, toldq⟩ := SA.out k hke
            subst hab
            have XC := hide sees
            have YA := hide (fun wz (h : Below wr.heap.size wr wz) => toldq wz (hbq.trans (h.mono hbq.size)))
            obtain ⟨hR1, hR2⟩ := read_at LK.out.1.up hke
            obtain ⟨S, hl⟩ := S4.out.lg
            have KR := hide (fun (wz : World) (h : Below wr.heap.size wr wz) => lg_read (hl.below h) (id := es2[k].id) (by have := (OK.out.ids _ (List.getElem_mem hke)).1; unfold I64; omega))
            rw [hR1, hR2] at KR
            have KV := hide (fun (wz : World) (h : Below wr.heap.size wr wz) => value_any _ _ _ wz ((S4.out.esc k hke).keep (Keep.of_below (S := fun _ => False) h) id id))
            have KI := hide (fun (wz : World) (h : Below wr.heap.size wr wz) => interval_any _ _ _ wz ((S4.out.esc k hke).keep (Keep.of_below (S := fun _ => False) h) id id))
            have BQ := hide hbq
            clear sees toldq hR1 hR2 hl hbq S4 S
            generalize es2[k] = x at *
            obtain ⟨id, grp, v0, xb, xm, e⟩ := x
            simp only at KR KV KI XC YA
            obtain ⟨lo, hlo⟩ : ∃ z, z = e.low := ⟨_, rfl⟩
            obtain ⟨hi', hhi⟩ : ∃ z, z = e.high := ⟨_, rfl⟩
            obtain ⟨vv, hvv⟩ : ∃ z, z = e.val := ⟨_, rfl⟩
            rw [← hlo, ← hhi] at KR KI
            rw [← hvv] at KV
            have YA := hide (fun wz (h : Below wr.heap.size wr wz) => (show wz.cell? ⟨ab, ao + k * 5, none⟩ = some (.int .i64 id) ∧ wz.cell? ⟨ab, ao + k * 5 + 1, none⟩ = some (.int .i64 grp) ∧ wz.cell? ⟨ab, ao + k * 5 + 2, none⟩ = some (.int .i64 e.lo) ∧ wz.cell? ⟨ab, ao + k * 5 + 3, none⟩ = some (.int .i64 e.hi) ∧ wz.cell? ⟨ab, ao + k * 5 + 4, none⟩ = some (.int .i64 vv) by obtain ⟨y0, y1, y2, y3, y4⟩ := YA.out wz h; rw [hvv]; exact ⟨y0, y1, y2, y3, y4⟩))
            clear hlo hhi hvv
            go_upto_region 16 with fail
            go_cut [10, 11] from 61 to 120 (fun p q w' => ∃ rb, p = ptr rb ∧ q = .int .i64 0 ∧ Cells w' rb [.int .i64 lo, .int .i64 hi'] ∧ Below wr.heap.size wr w' ∧ wr.heap.size ≤ rb)
            case first =>
              refine wp_region_held_drew (S := fun wz => Below wr.heap.size wr wz) (by kernel_rfl) (Below.refl _ _).drew (fun hS => ?_)
              generalize wr.drew = y0 at *
              refine take_at 0 (some 68) (v := ?_) rfl rfl (by kernel_rfl) (by kernel_rfl) (by kernel_rfl) (fun _ _ _ h => h) ⟨by rfl, ?_⟩ hS ?_
              rotate_left
              · intro wz hSw; obtain ⟨m0, m1, m2, x0, x1, x2, x3, x4, xe⟩ := XC.out _ hSw; go_simp; try rfl
              simp only [Act.put, List.setIfInBounds_toArray, List.set_cons_zero, List.set_cons_succ]
              refine take_at 1 (some 69) (v := ?_) rfl rfl (by kernel_rfl) (by kernel_rfl) (by kernel_rfl) (fun _ _ _ h => h) ⟨by rfl, ?_⟩ hS ?_
              rotate_left
              · intro wz hSw; obtain ⟨m0, m1, m2, x0, x1, x2, x3, x4, xe⟩ := XC.out _ hSw; go_simp; try rfl
              simp only [Act.put, List.setIfInBounds_toArray, List.set_cons_zero, List.set_cons_succ]
              refine take_at 2 (some 70) (v := ?_) rfl rfl (by kernel_rfl) (by kernel_rfl) (by kernel_rfl) (fun _ _ _ h => h) ⟨by rfl, ?_⟩ hS ?_
              rotate_left
              · intro wz hSw; obtain ⟨m0, m1, m2, x0, x1, x2, x3, x4, xe⟩ := XC.out _ hSw; go_simp; try rfl
              simp only [Act.put, List.setIfInBounds_toArray, List.set_cons_zero, List.set_cons_succ]
              refine take_at 3 (some 71) (v := ?_) rfl rfl (by kernel_rfl) (by kernel_rfl) (by kernel_rfl) (fun _ _ _ h => h) ⟨by rfl, ?_⟩ hS ?_
              rotate_left
              · intro wz hSw; obtain ⟨m0, m1, m2, x0, x1, x2, x3, x4, xe⟩ := XC.out _ hSw; go_simp; try rfl
              simp only [Act.put, List.setIfInBounds_toArray, List.set_cons_zero, List.set_cons_succ]
              refine take_at 4 (some 72) (v := ?_) rfl rfl (by kernel_rfl) (by kernel_rfl) (by kernel_rfl) (fun _ _ _ h => h) ⟨by rfl, ?_⟩ hS ?_
              rotate_left
              · intro wz hSw; obtain ⟨m0, m1, m2, x0, x1, x2, x3, x4, xe⟩ := XC.out _ hSw; go_simp; try rfl
              simp only [Act.put, List.setIfInBounds_toArray, List.set_cons_zero, List.set_cons_succ]
              refine take_at 5 (some 73) (v := ?_) rfl rfl (by kernel_rfl) (by kernel_rfl) (by kernel_rfl) (fun _ _ _ h => h) ⟨by rfl, ?_⟩ hS ?_
              rotate_left
              · intro wz hSw; obtain ⟨m0, m1, m2, x0, x1, x2, x3, x4, xe⟩ := XC.out _ hSw; go_simp; try rfl
              simp only [Act.put, List.setIfInBounds_toArray, List.set_cons_zero, List.set_cons_succ]
              refine take_at 6 (some 74) (v := ?_) rfl rfl (by kernel_rfl) (by kernel_rfl) (by kernel_rfl) (fun _ _ _ h => h) ⟨by rfl, ?_⟩ hS ?_
              rotate_left
              · intro wz hSw; obtain ⟨m0, m1, m2, x0, x1, x2, x3, x4, xe⟩ := XC.out _ hSw; go_simp; try rfl
              simp only [Act.put, List.setIfInBounds_toArray, List.set_cons_zero, List.set_cons_succ]
              refine take_at 7 (some 75) (v := ?_) rfl rfl (by kernel_rfl) (by kernel_rfl) (by kernel_rfl) (fun _ _ _ h => h) ⟨by rfl, ?_⟩ hS ?_
              rotate_left
              · intro wz hSw; obtain ⟨m0, m1, m2, x0, x1, x2, x3, x4, xe⟩ := XC.out _ hSw; go_simp; try rfl
              simp only [Act.put, List.setIfInBounds_toArray, List.set_cons_zero, List.set_cons_succ]
              refine take_at 8 (some 76) (v := ?_) rfl rfl (by kernel_rfl) (by kernel_rfl) (by kernel_rfl) (fun _ _ _ h => h) ⟨by rfl, ?_⟩ hS ?_
              rotate_left
              · intro wz hSw; obtain ⟨m0, m1, m2, x0, x1, x2, x3, x4, xe⟩ := XC.out _ hSw; go_simp; try rfl
              simp only [Act.put, List.setIfInBounds_toArray, List.set_cons_zero, List.set_cons_succ]
              refine take_at 9 (some 77) (v := ?_) rfl rfl (by kernel_rfl) (by kernel_rfl) (by kernel_rfl) (fun _ _ _ h => h) ⟨by rfl, ?_⟩ hS ?_
              rotate_left
              · intro wz hSw; obtain ⟨m0, m1, m2, x0, x1, x2, x3, x4, xe⟩ := XC.out _ hSw; go_simp; try rfl
              simp only [Act.put, List.setIfInBounds_toArray, List.set_cons_zero, List.set_cons_succ]
              refine take_at 10 (some 78) (v := ?_) rfl rfl (by kernel_rfl) (by kernel_rfl) (by kernel_rfl) (fun _ _ _ h => h) ⟨by rfl, ?_⟩ hS ?_
              rotate_left
              · intro wz hSw; obtain ⟨m0, m1, m2, x0, x1, x2, x3, x4, xe⟩ := XC.out _ hSw; go_simp; try rfl
              simp only [Act.put, List.setIfInBounds_toArray, List.set_cons_zero, List.set_cons_succ]
              refine take_at 11 (some 79) (v := ?_) rfl rfl (by kernel_rfl) (by kernel_rfl) (by kernel_rfl) (fun _ _ _ h => h) ⟨by rfl, ?_⟩ hS ?_
              rotate_left
              · intro wz hSw; obtain ⟨m0, m1, m2, x0, x1, x2, x3, x4, xe⟩ := XC.out _ hSw; go_simp; try rfl
              simp only [Act.put, List.setIfInBounds_toArray, List.set_cons_zero, List.set_cons_succ]
              refine wpAnyH_ready (rs := [12, 16]) (by kernel_rfl) (by simp) ?_
              refine AllReadyH.cons rfl (fun K hK => ?_) (AllReadyH.cons rfl (fun K hK => ?_) AllReadyH.nil)
              · go_simp
                go_wp2_with fail
                refine (KR.out _ hS).mono ?_
                rintro e x3 ⟨rfl, hh⟩
                have s_x3 : Below wr.heap.size wr x3 := hS.trans (hh.mono hS.size)
                clear hh hS
                go_wp2_with fail
                refine hK.out _ _ s_x3 (fun hS => ?_)
                clear hK K s_x3
                (try simp only [Act.put, List.setIfInBounds_toArray, List.set_cons_zero, List.set_cons_succ])
                refine take_at 13 (some 67) (v := ?_) rfl rfl (by kernel_rfl) (by kernel_rfl) (by kernel_rfl) (fun _ _ _ h => h) ⟨by rfl, ?_⟩ hS ?_
                rotate_left
                · intro wz hSw; go_simp; try rfl
                simp only [Act.put, List.setIfInBounds_toArray, List.set_cons_zero, List.set_cons_succ]
                refine take_at 14 (some 81) (v := ?_) rfl rfl (by kernel_rfl) (by kernel_rfl) (by kernel_rfl) (fun _ _ _ h => h) ⟨by rfl, ?_⟩ hS ?_
                rotate_left
                · intro wz hSw; go_simp; try rfl
                simp only [Act.put, List.setIfInBounds_toArray, List.set_cons_zero, List.set_cons_succ]
                refine take_at 15 (some 82) (v := ?_) rfl rfl (by kernel_rfl) (by kernel_rfl) (by kernel_rfl) (fun _ _ _ h => h) ⟨by rfl, ?_⟩ hS ?_
                rotate_left
                · intro wz hSw; go_simp; try rfl
                simp only [Act.put, List.setIfInBounds_toArray, List.set_cons_zero, List.set_cons_succ]
                refine wpAnyH_ready (rs := [16]) (by kernel_rfl) (by simp) ?_
                refine AllReadyH.cons rfl (fun K hK => ?_) AllReadyH.nil
                have LO := hide hS.size
                go_simp
                go_wp2_with fail
                refine hK.out _ _ (hS.alloc hS.size _) (fun hS => ?_)
                clear hK K
                (try simp only [Act.put, List.setIfInBounds_toArray, List.set_cons_zero, List.set_cons_succ])
                refine named (P := wpAnyH _ _ _ _ _ _ _ _) ?_
                intro xa hxa
                rw [← hxa] at hS
                obtain ⟨qb, hqb⟩ : ∃ qb, qb = x3.heap.size := ⟨_, rfl⟩
                have Z := hide (show Cells xa qb [.int .i64 0, .int .i64 0] by rw [hxa, hqb]; exact Cells.new _ _ _)
                have QB := hide (show wr.heap.size ≤ qb by rw [hqb]; exact LO.out)
                rw [← hqb]
                clear hxa hqb LO
                have K8 := hide (((Keep.refl (fun i => i = qb) xa).setCell (g := qb) (j := 0) (fun _ => rfl) (.int .i64 lo)).setCell (g := qb) (j := 1) (fun _ => rfl) (.int .i64 hi'))
                have C8 := hide ((Z.out.stored (j := 0) (by simp) (.int .i64 lo)).stored (j := 1) (by simp) (.int .i64 hi'))
                obtain ⟨y0, z0⟩ := Z.out.get 0 _ rfl
                obtain ⟨y1, z1⟩ := Z.out.get 1 _ rfl
                have S8 := hide (hS.trans (K8.out.below hS.size (fun i hi q => by have := QB.out; omega)))
                clear hS
                refine wpAnyH_ready (rs := [17]) (by kernel_rfl) (by simp) ?_
                refine AllReadyH.cons rfl (fun K hK => ?_) AllReadyH.nil
                go_simp
                go_wp2_with fail
                refine hK.out _ _ S8.out (fun hS => ?_)
                clear hK K
                (try simp only [Act.put, List.setIfInBounds_toArray, List.set_cons_zero, List.set_cons_succ])
                clear y0 z0 y1 z1
                refine take_at 18 (some 11) (v := ?_) rfl rfl (by kernel_rfl) (by kernel_rfl) (by kernel_rfl) (fun _ _ _ h => h) ⟨by rfl, ?_⟩ hS ?_
                rotate_left
                · intro wz hSw; go_simp; try rfl
                simp only [Act.put, List.setIfInBounds_toArray, List.set_cons_zero, List.set_cons_succ]
                refine wpAnyH_done (by kernel_rfl) ?_ _
                clear hS
                go_wp2_with fail
                go_meet
                exact ⟨qb, rfl, rfl, C8.out, S8.out, QB.out⟩
              · have LO := hide hS.size
                go_simp
                go_wp2_with fail
                refine hK.out _ _ (hS.alloc hS.size _) (fun hS => ?_)
                clear hK K
                (try simp only [Act.put, List.setIfInBounds_toArray, List.set_cons_zero, List.set_cons_succ])
                refine named (P := wpAnyH _ _ _ _ _ _ _ _) ?_
                intro xa hxa
                rw [← hxa] at hS
                obtain ⟨qb, hqb⟩ : ∃ qb, qb = y0.heap.size := ⟨_, rfl⟩
                have Z := hide (show Cells xa qb [.int .i64 0, .int .i64 0] by rw [hxa, hqb]; exact Cells.new _ _ _)
                have QB := hide (show wr.heap.size ≤ qb by rw [hqb]; exact LO.out)
                rw [← hqb]
                clear hxa hqb LO
                refine wpAnyH_ready (rs := [12]) (by kernel_rfl) (by simp) ?_
                refine AllReadyH.cons rfl (fun K hK => ?_) AllReadyH.nil
                go_simp
                go_wp2_with fail
                refine (KR.out _ hS).mono ?_
                rintro e x3 ⟨rfl, hh⟩
                have s_x3 : Below wr.heap.size wr x3 := hS.trans (hh.mono hS.size)
                have Z1 := hide (Z.out.below hh)
                clear Z
                have Z := Z1
                clear Z1
                clear hh hS
                go_wp2_with fail
                refine hK.out _ _ s_x3 (fun hS => ?_)
                clear hK K s_x3
                (try simp only [Act.put, List.setIfInBounds_toArray, List.set_cons_zero, List.set_cons_succ])
                refine take_at 13 (some 67) (v := ?_) rfl rfl (by kernel_rfl) (by kernel_rfl) (by kernel_rfl) (fun _ _ _ h => h) ⟨by rfl, ?_⟩ hS ?_
                rotate_left
                · intro wz hSw; go_simp; try rfl
                simp only [Act.put, List.setIfInBounds_toArray, List.set_cons_zero, List.set_cons_succ]
                refine take_at 14 (some 81) (v := ?_) rfl rfl (by kernel_rfl) (by kernel_rfl) (by kernel_rfl) (fun _ _ _ h => h) ⟨by rfl, ?_⟩ hS ?_
                rotate_left
                · intro wz hSw; go_simp; try rfl
                simp only [Act.put, List.setIfInBounds_toArray, List.set_cons_zero, List.set_cons_succ]
                refine take_at 15 (some 82) (v := ?_) rfl rfl (by kernel_rfl) (by kernel_rfl) (by kernel_rfl) (fun _ _ _ h => h) ⟨by rfl, ?_⟩ hS ?_
                rotate_left
                · intro wz hSw; go_simp; try rfl
                simp only [Act.put, List.setIfInBounds_toArray, List.set_cons_zero, List.set_cons_succ]
                have K8 := hide (((Keep.refl (fun i => i = qb) x3).setCell (g := qb) (j := 0) (fun _ => rfl) (.int .i64 lo)).setCell (g := qb) (j := 1) (fun _ => rfl) (.int .i64 hi'))
                have C8 := hide ((Z.out.stored (j := 0) (by simp) (.int .i64 lo)).stored (j := 1) (by simp) (.int .i64 hi'))
                obtain ⟨y0, z0⟩ := Z.out.get 0 _ rfl
                obtain ⟨y1, z1⟩ := Z.out.get 1 _ rfl
                have S8 := hide (hS.trans (K8.out.below hS.size (fun i hi q => by have := QB.out; omega)))
                clear hS
                refine wpAnyH_ready (rs := [17]) (by kernel_rfl) (by simp) ?_
                refine AllReadyH.cons rfl (fun K hK => ?_) AllReadyH.nil
                go_simp
                go_wp2_with fail
                refine hK.out _ _ S8.out (fun hS => ?_)
                clear hK K
                (try simp only [Act.put, List.setIfInBounds_toArray, List.set_cons_zero, List.set_cons_succ])
                clear y0 z0 y1 z1
                refine take_at 18 (some 11) (v := ?_) rfl rfl (by kernel_rfl) (by kernel_rfl) (by kernel_rfl) (fun _ _ _ h => h) ⟨by rfl, ?_⟩ hS ?_
                rotate_left
                · intro wz hSw; go_simp; try rfl
                simp only [Act.put, List.setIfInBounds_toArray, List.set_cons_zero, List.set_cons_succ]
                refine wpAnyH_done (by kernel_rfl) ?_ _
                clear hS
                go_wp2_with fail
                go_meet
                exact ⟨qb, rfl, rfl, C8.out, S8.out, QB.out⟩
            case rest =>
              obtain ⟨rb, rfl, rfl, hrb, hb4, hrl⟩ := hcut
              have R4 := hide hrb
              have RL := hide hrl
              obtain ⟨m0, m1, m2, x0, x1, x2, x3, x4, xe⟩ := XC.out _ hb4
              go_upto_region 18 with fail
              refine named (P := Code.wp _ _ _ _) ?_
              intro w5 hw5
              obtain ⟨wb, hwb⟩ : ∃ b, b = wc.heap.size := ⟨_, rfl⟩
              have b45 : Below wc.heap.size wc w5 := by rw [hw5]; exact alloc_below _ _
              have W5 := hide (show Cells w5 wb [.int .i64 id, .int .i64 grp, .int .i64 e.lo, .int .i64 e.hi, .int .i64 v0] by rw [hw5, hwb]; exact Cells.new _ _ _)
              have R5 := hide (R4.out.below b45)
              have B5 := hide (hb4.trans (b45.mono hb4.size))
              have WL := hide (show wr.heap.size ≤ wb by have := hb4.size; omega)
              have WR := hide (show rb ≠ wb by have := R4.out.1; omega)
              rw [← hwb]
              clear hw5 hwb b45 hb4 hrb hrl R4 m0 m1 m2 x0 x1 x2 x3 x4 xe
              obtain ⟨m0, m1, m2, x0, x1, x2, x3, x4, xe⟩ := XC.out _ B5.out
              go_upto_region 19 with (go_at_call 14; refine (KV.out _ B5.out).mono ?_; rintro r w6 ⟨rfl, hb6⟩; have W6 := hide (W5.out.below hb6); have R6 := hide (R5.out.below hb6); have B6 := hide (B5.out.trans (hb6.mono B5.out.size)); obtain ⟨u4, v4⟩ := W6.out.get 4 _ rfl; clear hb6 W5 R5 B5 KV)
              refine named (P := Code.wp _ _ _ _) ?_
              intro w7 hw7
              have K7 := (Keep.refl (fun z => z = wb) w6).setCell (g := wb) (j := 4) (fun _ => rfl) (.int .i64 vv)
              have W7 := hide (show Cells w7 wb [.int .i64 id, .int .i64 grp, .int .i64 e.lo, .int .i64 e.hi, .int .i64 vv] by rw [hw7]; exact W6.out.stored (j := 4) (by simp) (.int .i64 vv))
              rw [← hw7] at K7
              have R7 := hide (R6.out.keep K7 WR.out)
              have B7 := hide (B6.out.trans (K7.below B6.out.size (fun i hi q => by have := WL.out; omega)))
              clear hw7 K7 W6 R6 B6 u4 v4 m0 m1 m2 x0 x1 x2 x3 x4 xe
              refine wp_region_held_drew (S := fun wz => Below w7.heap.size w7 wz) (by kernel_rfl) (Below.refl _ _).drew (fun hS => ?_)
              generalize w7.drew = y7 at *
              refine take_at 0 (some 99) (v := ?_) rfl rfl (by kernel_rfl) (by kernel_rfl) (by kernel_rfl) (fun _ _ _ h => h) ⟨by rfl, ?_⟩ hS ?_
              rotate_left
              · intro wz hSw; go_simp; try rfl
              simp only [Act.put, List.setIfInBounds_toArray, List.set_cons_zero, List.set_cons_succ]
              refine take_at 1 (some 100) (v := ?_) rfl rfl (by kernel_rfl) (by kernel_rfl) (by kernel_rfl) (fun _ _ _ h => h) ⟨by rfl, ?_⟩ hS ?_
              rotate_left
              · intro wz hSw; go_simp; try rfl
              simp only [Act.put, List.setIfInBounds_toArray, List.set_cons_zero, List.set_cons_succ]
              refine take_at 2 (some 101) (v := ?_) rfl rfl (by kernel_rfl) (by kernel_rfl) (by kernel_rfl) (fun _ _ _ h => h) ⟨by rfl, ?_⟩ hS ?_
              rotate_left
              · intro wz hSw; go_simp; try rfl
              simp only [Act.put, List.setIfInBounds_toArray, List.set_cons_zero, List.set_cons_succ]
              refine take_at 3 (some 102) (v := ?_) rfl rfl (by kernel_rfl) (by kernel_rfl) (by kernel_rfl) (fun _ _ _ h => h) ⟨by rfl, ?_⟩ hS ?_
              rotate_left
              · intro wz hSw; obtain ⟨u0, _⟩ := (R7.out.below hSw).get 0 _ rfl; obtain ⟨u1, _⟩ := (R7.out.below hSw).get 1 _ rfl; go_simp; try rfl
              simp only [Act.put, List.setIfInBounds_toArray, List.set_cons_zero, List.set_cons_succ]
              refine take_at 4 (some 103) (v := ?_) rfl rfl (by kernel_rfl) (by kernel_rfl) (by kernel_rfl) (fun _ _ _ h => h) ⟨by rfl, ?_⟩ hS ?_
              rotate_left
              · intro wz hSw; go_simp; try rfl
              simp only [Act.put, List.setIfInBounds_toArray, List.set_cons_zero, List.set_cons_succ]
              refine take_at 5 (some 104) (v := ?_) rfl rfl (by kernel_rfl) (by kernel_rfl) (by kernel_rfl) (fun _ _ _ h => h) ⟨by rfl, ?_⟩ hS ?_
              rotate_left
              · intro wz hSw; go_simp; try rfl
              simp only [Act.put, List.setIfInBounds_toArray, List.set_cons_zero, List.set_cons_succ]
              refine take_at 6 (some 105) (v := ?_) rfl rfl (by kernel_rfl) (by kernel_rfl) (by kernel_rfl) (fun _ _ _ h => h) ⟨by rfl, ?_⟩ hS ?_
              rotate_left
              · intro wz hSw; go_simp; try rfl
              simp only [Act.put, List.setIfInBounds_toArray, List.set_cons_zero, List.set_cons_succ]
              refine take_at 7 (some 106) (v := ?_) rfl rfl (by kernel_rfl) (by kernel_rfl) (by kernel_rfl) (fun _ _ _ h => h) ⟨by rfl, ?_⟩ hS ?_
              rotate_left
              · intro wz hSw; obtain ⟨m0, m1, m2, x0, x1, x2, x3, x4, xe⟩ := XC.out _ (B7.out.trans (hSw.mono B7.out.size)); go_simp; try rfl
              simp only [Act.put, List.setIfInBounds_toArray, List.set_cons_zero, List.set_cons_succ]
              refine take_at 8 (some 107) (v := ?_) rfl rfl (by kernel_rfl) (by kernel_rfl) (by kernel_rfl) (fun _ _ _ h => h) ⟨by rfl, ?_⟩ hS ?_
              rotate_left
              · intro wz hSw; go_simp; try rfl
              simp only [Act.put, List.setIfInBounds_toArray, List.set_cons_zero, List.set_cons_succ]
              refine take_at 9 (some 108) (v := ?_) rfl rfl (by kernel_rfl) (by kernel_rfl) (by kernel_rfl) (fun _ _ _ h => h) ⟨by rfl, ?_⟩ hS ?_
              rotate_left
              · intro wz hSw; go_simp; try rfl
              simp only [Act.put, List.setIfInBounds_toArray, List.set_cons_zero, List.set_cons_succ]
              refine take_at 10 (some 109) (v := ?_) rfl rfl (by kernel_rfl) (by kernel_rfl) (by kernel_rfl) (fun _ _ _ h => h) ⟨by rfl, ?_⟩ hS ?_
              rotate_left
              · intro wz hSw; obtain ⟨m0, m1, m2, x0, x1, x2, x3, x4, xe⟩ := XC.out _ (B7.out.trans (hSw.mono B7.out.size)); go_simp; try rfl
              simp only [Act.put, List.setIfInBounds_toArray, List.set_cons_zero, List.set_cons_succ]
              refine wpAnyH_ready (rs := [11]) (by kernel_rfl) (by simp) ?_
              refine AllReadyH.cons rfl (fun K hK => ?_) AllReadyH.nil
              go_simp
              go_wp2_with fail
              refine (KI.out _ (B7.out.trans (hS.mono B7.out.size))).mono ?_
              rintro e w8 ⟨rfl, hh⟩
              have s_w8 : Below w7.heap.size w7 w8 := hS.trans (hh.mono hS.size)
              clear hh hS
              go_wp2_with fail
              refine hK.out _ _ s_w8 (fun hS => ?_)
              clear hK K s_w8
              (try simp only [Act.put, List.setIfInBounds_toArray, List.set_cons_zero, List.set_cons_succ])
              refine take_at 12 (some 111) (v := ?_) rfl rfl (by kernel_rfl) (by kernel_rfl) (by kernel_rfl) (fun _ _ _ h => h) ⟨by rfl, ?_⟩ hS ?_
              rotate_left
              · intro wz hSw; go_simp; try rfl
              simp only [Act.put, List.setIfInBounds_toArray, List.set_cons_zero, List.set_cons_succ]
              refine take_at 13 (some 112) (v := ?_) rfl rfl (by kernel_rfl) (by kernel_rfl) (by kernel_rfl) (fun _ _ _ h => h) ⟨by rfl, ?_⟩ hS ?_
              rotate_left
              · intro wz hSw; go_simp; try rfl
              simp only [Act.put, List.setIfInBounds_toArray, List.set_cons_zero, List.set_cons_succ]
              refine take_at 14 (some 113) (v := ?_) rfl rfl (by kernel_rfl) (by kernel_rfl) (by kernel_rfl) (fun _ _ _ h => h) ⟨by rfl, ?_⟩ hS ?_
              rotate_left
              · intro wz hSw; go_simp; try rfl
              simp only [Act.put, List.setIfInBounds_toArray, List.set_cons_zero, List.set_cons_succ]
              refine take_at 15 (some 114) (v := ?_) rfl rfl (by kernel_rfl) (by kernel_rfl) (by kernel_rfl) (fun _ _ _ h => h) ⟨by rfl, ?_⟩ hS ?_
              rotate_left
              · intro wz hSw; go_simp; try rfl
              simp only [Act.put, List.setIfInBounds_toArray, List.set_cons_zero, List.set_cons_succ]
              refine take_at 16 (some 115) (v := ?_) rfl rfl (by kernel_rfl) (by kernel_rfl) (by kernel_rfl) (fun _ _ _ h => h) ⟨by rfl, ?_⟩ hS ?_
              rotate_left
              · intro wz hSw; go_simp; try rfl
              simp only [Act.put, List.setIfInBounds_toArray, List.set_cons_zero, List.set_cons_succ]
              refine take_at 17 (some 116) (v := ?_) rfl rfl (by kernel_rfl) (by kernel_rfl) (by kernel_rfl) (fun _ _ _ h => h) ⟨by rfl, ?_⟩ hS ?_
              rotate_left
              · intro wz hSw; go_simp; try rfl
              simp only [Act.put, List.setIfInBounds_toArray, List.set_cons_zero, List.set_cons_succ]
              refine take_at 18 (some 117) (v := ?_) rfl rfl (by kernel_rfl) (by kernel_rfl) (by kernel_rfl) (fun _ _ _ h => h) ⟨by rfl, ?_⟩ hS ?_
              rotate_left
              · intro wz hSw; obtain ⟨y0, y1, y2, y3, y4⟩ := YA.out _ (B7.out.trans (hSw.mono B7.out.size)); go_simp; try rfl
              simp only [Act.put, List.setIfInBounds_toArray, List.set_cons_zero, List.set_cons_succ]
              refine take_at 19 (some 118) (v := ?_) rfl rfl (by kernel_rfl) (by kernel_rfl) (by kernel_rfl) (fun _ _ _ h => h) ⟨by rfl, ?_⟩ hS ?_
              rotate_left
              · intro wz hSw; obtain ⟨u0, _⟩ := (W7.out.below hSw).get 0 _ rfl; obtain ⟨u1, _⟩ := (W7.out.below hSw).get 1 _ rfl; obtain ⟨u2, _⟩ := (W7.out.below hSw).get 2 _ rfl; obtain ⟨u3, _⟩ := (W7.out.below hSw).get 3 _ rfl; obtain ⟨u4, _⟩ := (W7.out.below hSw).get 4 _ rfl; go_simp; try rfl
              simp only [Act.put, List.setIfInBounds_toArray, List.set_cons_zero, List.set_cons_succ]
              refine take_at 20 (some 119) (v := ?_) rfl rfl (by kernel_rfl) (by kernel_rfl) (by kernel_rfl) (fun _ _ _ h => h) ⟨by rfl, ?_⟩ hS ?_
              rotate_left
              · intro wz hSw; go_simp; try rfl
              simp only [Act.put, List.setIfInBounds_toArray, List.set_cons_zero, List.set_cons_succ]
              refine take_at 21 (some 120) (v := ?_) rfl rfl (by kernel_rfl) (by kernel_rfl) (by kernel_rfl) (fun _ _ _ h => h) ⟨by rfl, ?_⟩ hS ?_
              rotate_left
              · intro wz hSw; go_simp; try rfl
              simp only [Act.put, List.setIfInBounds_toArray, List.set_cons_zero, List.set_cons_succ]
              refine wpAnyH_done (by kernel_rfl) ?_ _
              have B8 := hide (B7.out.trans (hS.mono B7.out.size))
              clear hS
              go_wp2_with fail
              go_roundw
              case rel => exact ⟨k + 1, by go_num, by omega, BQ.out.trans (B8.out.mono BQ.out.size)⟩
              case measure => simp [intOf]; omega
          · obtain rfl : k = n := by omega
            have S5 := hide (S3.out.below hbq)
            have B5 := hide (B3.out.below hbq)
            have NE' := NE
            clear S3 B3 S4 hbq SA
            have ft := FT.out _ B5.out.bel
            obtain ⟨t, ht⟩ : ∃ t, t = 1 + tx % 6 := ⟨_, rfl⟩
            have KM := hide (fun w' => modulo_any tx 6 w' (by omega) (by omega))
            have ti : IntKind.i64.wrap (1 + tx % 6) = t := by rw [IntKind.wrap_i64]; omega
            have ti2 : wrap64 (1 + tx % 6) = t := by unfold wrap64; omega
            have HX := hide (show I64 t by unfold I64; omega)
            clear ht
            go_upto_region 22 with (go_at_call 16; refine (KM.out _).mono ?_; rintro r w6 ⟨rfl, hb⟩; have S6 := hide (S5.out.below hb); have B6 := hide (B5.out.below hb); clear hb S5 B5 ft KM)
            clear ti ti2
            obtain ⟨S, hl⟩ := S6.out.lg
            have KH := hide (lg_holdings hl HX.out)
            have f0 := (S6.out.box.get 0 _ rfl).1
            clear hl S
            go_upto_region 23 with (go_at_call 17; refine KH.out.mono ?_; rintro r w7 ⟨vh, rfl, hgh, hb⟩)
            clear KH f0
            obtain ⟨ha, hc, rfl, seeh⟩ := held_see LK.out.1.up LK.out.2 hgh
            have SH := hide seeh
            have S7 := hide (S6.out.below hb)
            have B7 := hide (B6.out.below hb)
            clear seeh hgh hb S6 B6
            obtain ⟨m, hm⟩ : ∃ m, m = cntS t es2.length es2 := ⟨_, rfl⟩
            rw [← hm] at SH ⊢
            have HM := hide hm
            have m8 : m ≤ 8 := by rw [hm]; exact Nat.le_trans (cnt_le t _ _) (by rw [← NE.out]; exact n8)
            clear hm
            go_wp2_with fail
            go_loopw [16, 15] (fun v u wq => ∃ j : Nat, v = .int .i64 (j : Int) ∧ u = .int .i64 ((cntS t j es2 : Nat) : Int) ∧ j ≤ k ∧ Below w7.heap.size w7 wq) (fun v _ _ => k + 1 - (intOf v).toNat)
            case atStart => exact ⟨0, rfl, rfl, Nat.zero_le _, Below.refl _ _⟩
            case round =>
              obtain ⟨j, rfl, rfl, hj, hbq⟩ := hrel
              have S8 := hide (S7.out.below hbq)
              have g2 := (S8.out.box.get 2 _ rfl).1
              by_cases hjn : j < k
              · have hje : j < es2.length := by rw [← NE.out]; exact hjn
                obtain ⟨cb, co, eb, eo, rfl, rfl, sees⟩ := S8.out.see hje
                have XC := hide sees
                have SJ := hide (SH.out j hje)
                have CN := hide (cnt_next t hje)
                have KN := hide (net_any _ _ _ t _ (S8.out.esc j hje) HX.out)
                clear sees
                have cl := cnt_le t j es2
                obtain ⟨cj, hcj⟩ : ∃ c, c = cntS t j es2 := ⟨_, rfl⟩
                obtain ⟨cj1, hcj1⟩ : ∃ c, c = cntS t (j + 1) es2 := ⟨_, rfl⟩
                rw [← hcj] at SJ CN cl ⊢
                rw [← hcj1] at CN
                have CJ1 := hide hcj1
                clear hcj hcj1
                generalize es2[j] = x at *
                obtain ⟨id, grp, v0, xb, xm, e⟩ := x
                simp only at KN XC SJ CN
                obtain ⟨q, hq⟩ : ∃ q, q = holdB e.nets t := ⟨_, rfl⟩
                obtain ⟨nv, hnv⟩ : ∃ q, q = netV e.nets t := ⟨_, rfl⟩
                rw [← hq] at KN SJ CN
                rw [← hnv] at KN SJ
                clear hq hnv g2 S8
                obtain ⟨m0, m1, m2, x0, x1, x2, x3, x4, xe⟩ := XC.out _ (Below.refl _ _)
                go_upto_region 28 with (go_at_call 18; refine KN.out.mono ?_; rintro r w8 ⟨rfl, hb8⟩)
                clear m0 m1 m2 x0 x1 x2 x3 x4 xe KN
                have Q8 := hide hb8
                have B8 := hide (hbq.trans (hb8.mono hbq.size))
                clear hb8
                cases q with
                | true =>
                  obtain ⟨hlt2, hb', ho', hae, hcell⟩ := SJ.out rfl
                  subst hae
                  have CN2 := hide (show cj1 = cj + 1 by rw [CN.out, if_pos rfl])
                  have HC := hide hcell
                  clear CN SJ hcell
                  have g1 : decide ((m : Int) ≤ (cj : Int)) = false := by rw [decide_eq_false_iff_not]; omega
                  go_upto_region 29 with fail
                  obtain ⟨m0, m1, m2, x0, x1, x2, x3, x4, xe⟩ := XC.out w8 Q8.out
                  obtain ⟨h0, h1, h2⟩ := HC.out w8 B8.out
                  go_quiet (fail)
                  go_wp2_with fail
                  go_roundw
                  case rel => exact ⟨j + 1, by go_num, by rw [← CJ1.out, CN2.out]; go_num, by omega, by first | exact B8.out | exact below_drewN B8.out _⟩
                  case measure => simp [intOf]; omega
                | false =>
                  have CN2 := hide (show cj1 = cj by rw [CN.out]; simp)
                  clear CN SJ
                  go_wp2_with fail
                  go_roundw
                  case rel => exact ⟨j + 1, by go_num, by rw [← CJ1.out, CN2.out], by omega, B8.out⟩
                  case measure => simp [intOf]; omega
              · obtain rfl : j = k := by omega
                have ej : cntS t j es2 = m := by rw [HM.out, ← NE.out]
                rw [ej]
                have B8 := hide (B7.out.below hbq)
                clear ej hbq S8 S7 B7
                go_wp2_with fail
                go_roundw
                case rel => exact ⟨i + 1, _, _, _, by go_num, by omega, by omega, B8.out⟩
                case measure => simp [intOf]; omega
      · go_wp2_with fail
        go_ret
        exact ⟨rfl, hB.bel⟩
    · go_wp2_with fail
      go_ret
      exact ⟨rfl, hB.bel⟩
end Go.Proofs.YtaohdmaenplbpaaGreat
