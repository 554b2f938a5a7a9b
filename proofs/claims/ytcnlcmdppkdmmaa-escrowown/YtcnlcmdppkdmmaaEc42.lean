import Derived.Test.YtcnlcmdppkdmmaaEc43
namespace Go.Proofs.Ytcnlcmdppkdmmaa
open Go.RowKit Go.QK Quota Go.Maps
set_option maxRecDepth 100000

theorem OwnSt.start {w wr : World} {b m : Nat} {e : Esc} (p : PE wr b m e) (h1 : w.heap.size ≤ b) (h2 : w.heap.size ≤ m) (h : Below w.heap.size w wr) : OwnSt (fun _ => 1) w wr b m e (.slice none 0 0) (.slice none 0 0) [] [] :=
  ⟨p, rfl, rfl, h1, h2, ⟨World.ownsRow_nil _ _ _ _, (fun g hg => by cases hg), (fun i hi => by cases hi), (fun i hi => by cases hi)⟩, ⟨World.ownsRow_nil _ _ _ _, (fun g hg => by cases hg), (fun i hi => by cases hi), (fun i hi => by cases hi)⟩, h⟩
theorem stF_start2 (e : Esc) (wy : Int → Bool) : stF e (dnS e.nets (fun j => j) 0) wy = e := by
  have e1 : e.nets.filter (fun p => !dnS e.nets (fun j => j) 0 p.1) = e.nets := by
    rw [List.filter_eq_self]
    intro p _
    rfl
  have e2 : e.nets.filter (fun p => dnS e.nets (fun j => j) 0 p.1 && wy p.1) = [] := by
    rw [List.filter_eq_nil_iff]
    intro p _
    simp [dnS]
  unfold stF
  rw [e1, e2]
  simp [sumF]
theorem ord_step2 {e : Esc} (ok : e.Ok) {k : Nat} (hk : k < e.nets.length) :
    holdB (stF e (dnS e.nets (fun j => j) k) (wyB e.nets [])).nets (keyAt e.nets k) = true ∧ relN (stF e (dnS e.nets (fun j => j) k) (wyB e.nets [])) (keyAt e.nets k) = stF e (dnS e.nets (fun j => j) (k + 1)) (wyB e.nets []) := by
  have h1 := dnS_new ok.rise (s := fun j => j) (fun i hi => hi) (fun i j _ _ h => h) hk
  have hm : holdB e.nets (keyAt e.nets k) = true := by
    rw [keyAt_eq hk]
    exact (netV_of_mem ok.rise (List.getElem_mem hk)).2
  have hw := wyB_at ok.rise ([] : List Bool) hk
  rw [dnS_succ]
  exact stF_rel ok _ _ h1 hm (by rw [hw]; rfl)
theorem stF_all (e : Esc) : stF e (dnS e.nets (fun j => j) e.nets.length) (wyB e.nets []) = ⟨e.lo, e.hi, e.base, []⟩ := by
  rw [stF_end (fun p hp => dnS_all (fun j hj => ⟨j, hj, rfl⟩) p hp)]
  have : e.nets.filter (fun p => wyB e.nets [] p.1) = [] := by
    rw [List.filter_eq_nil_iff]
    intro p _
    simp [wyB]
  rw [this]
  simp [sumF]
set_option maxHeartbeats 1000000 in
/-- 'last': the last list that was told; of none: what the escrow tells. -/
theorem last_any (b m : Nat) (e : Esc) (sv : Value) (M : Ents) (B : Nat) (lab : Nat → Nat) (w : World) (h : PE w b m e) (hs : Side lab B w sv M 1) (hm : M = [] ∨ (M.map Prod.snd).getLast? = some (keysN e.nets)) (hl : e.nets.length ≤ 1000) (hM : M.length ≤ 1000) :
    Calls Try.prog 21 #[sv, ptr b] w fun r w' => ∃ a c, r = .returned (.slice a (keysN e.nets).length c) ∧ Go.QK.Seen .i64 w' a (keysN e.nets) ∧ Below w.heap.size w w' := by
  have HP := hide h
  have KH := fun w' (h : PE w' b m e) => holders_any b m e w' h (by omega)
  generalize keysN e.nets = ks at *
  by_cases hn : M = []
  · subst hn
    obtain ⟨a, c, rfl, _⟩ := GRow.ptr hs.row
    clear hs hm h
    go_enter Try.func21, Try.ntmps21
    go_wp2_with fail
    refine (KH _ HP.out).mono ?_
    rintro r w1 ⟨v, rfl, oh, _, hh⟩
    obtain ⟨ah, ch, rfl, sh, _⟩ := Owns.seen oh
    have SH := hide sh
    have HH := hide hh
    clear sh hh oh
    go_wp2_with fail
    go_ret
    exact ⟨ah, ch, rfl, SH.out, HH.out⟩
  · have hlast := hm.resolve_left hn
    have hpos : 0 < M.length := List.length_pos_iff.2 hn
    have hge : (M[M.length - 1]'(by omega)).2 = ks := by
      rw [List.getLast?_eq_getElem?, List.length_map, List.getElem?_map, List.getElem?_eq_getElem (show M.length - 1 < M.length by omega)] at hlast
      simpa using hlast
    obtain ⟨a, c, rfl, hp⟩ := GRow.ptr hs.row
    obtain ⟨g, o, rfl⟩ := hp hpos
    have hin := hs.inn (M.length - 1) (by omega)
    rw [hge] at hin
    obtain ⟨ah, ch, eh, sh, _⟩ := Owns.seen hin
    have y0 := GRow.cellOf hs.row (M.length - 1) (.slice ah ks.length ch) (by rw [List.getElem?_map, List.getElem?_eq_getElem (show M.length - 1 < M.length by omega), ← eh]; rfl)
    have SH := hide sh
    have n0 : ((M.length : Int) == 0) = false := by simp; intro r; rw [r] at hpos; cases hpos
    have hw1 : wrap64 ((M.length : Int) - 1) = ((M.length - 1 : Nat) : Int) := by rw [wrapI (by unfold I64; omega)]; omega
    obtain ⟨N1, hN1⟩ : ∃ N1, N1 = M.length - 1 := ⟨_, rfl⟩
    rw [← hN1] at y0 hw1
    have hN2 : N1 < M.length := by omega
    have hw2 : (M.length : Int) - 1 = (N1 : Int) := by omega
    clear hs hm h hlast hge hin eh sh HP hN1 hp KH
    go_enter Try.func21, Try.ntmps21
    go_wp2_with fail
    go_ret
    exact ⟨ah, ch, rfl, SH.out, Below.refl _ _⟩

set_option maxHeartbeats 32000000 in
theorem law_own (lo hi v : Int) (ds : List Deed) (a : Option Addr) (cap : Nat) (w : World) (h1 : I64 lo) (h2 : I64 hi) (hs : Lies w a (rowsC deedC ds)) (hx : ∀ d ∈ ds, I64 d.1 ∧ I64 d.2) (_hl : ds.length ≤ 9223372036854775807) :
    Calls Try.prog 3 #[rng lo hi, .int .i64 v, .slice a ds.length cap] w fun r w' => r = .returned (.bool true) ∧ Below w.heap.size w w' := by
  have KM := fun w' => made_any lo hi v [] none 0 w' h1 h2 (.inl rfl) (by simp) (by simp)
  simp only [List.length_nil] at KM
  have h8 := madeM_eight lo hi v []
  have hlen : (madeM lo hi v []).nets.length ≤ 0 := by simp [madeM, runD]
  obtain ⟨e0, he⟩ : ∃ e, e = madeM lo hi v [] := ⟨_, rfl⟩
  rw [← he] at KM h8 hlen
  have HS := hide hs
  have HX := hide hx
  have H80 := hide h8
  have HL0 := hide hlen
  clear he hs hx h1 h2 h8 hlen
  go_enter Try.func3, Try.ntmps3
  go_wp2_with fail
  refine (first_any _).mono ?_
  rintro r w1 ⟨rfl, h1⟩
  obtain ⟨c0, c1, _, _, z0⟩ := keep1 h1
  have B1 := hide (below1 h1)
  clear h1
  go_wp2_with fail
  refine (KM _).mono ?_
  rintro r w2 ⟨b, m, rfl, P2, g1, g2, h2⟩
  have A0 := hide (OwnSt.start P2 (Nat.le_trans B1.out.size g1) (Nat.le_trans B1.out.size g2) (B1.out.trans (h2.mono B1.out.size)))
  clear h2 P2 KM B1 c0 c1 z0 g1 g2
  go_wp2_with fail
  go_loopw [11, 9, 10] (fun i gv sv wr => ∃ (k : Nat) (lab : Nat → Nat) (e : Esc) (L M : Ents), k ≤ 40 ∧ i = .int .i64 k ∧ OwnSt lab w wr b m e gv sv L M ∧ M.length = L.length ∧ M.map Prod.snd = L.map Prod.snd ∧ L.length ≤ 2 * k ∧ (M = [] ∨ (M.map Prod.snd).getLast? = some (keysN e.nets)) ∧ Eight e ∧ e.nets.length ≤ k ∧ ∀ p ∈ L, p.2.length ≤ 1000) (fun i _ _ _ => 40 - (intOf i).toNat)
  case atStart => exact ⟨0, fun _ => 1, e0, [], [], by omega, rfl, A0.out, rfl, rfl, by simp, .inl rfl, H80.out, HL0.out, (fun p hp => by cases hp)⟩
  case round =>
    obtain ⟨k, lab, e, L, M, hk, rfl, hA, hML, hMs, hLn, hlast, h8, hnk, hls⟩ := hrel
    have A := hide hA
    have HMS := hide hMs
    have HML := hide hML
    have HLA := hide hlast
    have H8 := hide h8
    have HLS := hide hls
    clear hls A0 H80 HL0 hA hML hMs hlast h8
    obtain ⟨ga, gc, rfl, -⟩ := GRow.ptr A.out.g.row
    obtain ⟨sa, sc, rfl, -⟩ := GRow.ptr A.out.s.row
    go_upto_region 8 with fail
    go_cut [44] from 37 to 90 (fun s w' => (∃ q : Bool, s = .bool q ∧ (q = true → k < ds.length ∧ k < 40)) ∧ w' = wr)
    case first =>
      by_cases q1 : k < ds.length
      · by_cases q2 : k < 40
        · go_wp2_with fail
          go_meet
          exact ⟨⟨_, rfl, fun _ => ⟨q1, q2⟩⟩, rfl⟩
        · go_wp2_with fail
          go_meet
          exact ⟨⟨_, rfl, by intro h; exfalso; revert h; simp; try omega⟩, rfl⟩
      · go_wp2_with fail
        go_meet
        exact ⟨⟨_, rfl, by intro h; exfalso; revert h; simp; try omega⟩, rfl⟩
    case rest =>
      obtain ⟨⟨q, hs, hq⟩, hwc⟩ := hcut
      subst hwc
      rw [hs]
      clear hs
      obtain ⟨wo, hwo⟩ : ∃ wo : World, wo = wc := ⟨_, rfl⟩
      subst hwo
      cases q
      · clear hq
        have hne : e.nets.length ≤ 40 := by omega
        have hLL : L.length ≤ 80 := by omega
        have hM8 : M.length ≤ 80 := by have := HML.out; omega
        clear hnk hLn
        go_wp2_with fail
        refine (copy_any b m e _ A.out.pe).mono ?_
        rintro r x2 ⟨bc, mc, rfl, pc, gc1, gc2, hh⟩
        obtain ⟨lab2, hA2, hC2, -⟩ := A.out.copied hh pc gc1 gc2
        have A2 := hide hA2
        have C2 := hide hC2
        clear hh pc gc1 gc2 hA2 hC2 A
        go_wp2_with fail
        go_loopw [17] (fun i wr => ∃ j : Nat, j ≤ L.length ∧ i = .int .i64 j ∧ OwnSt lab2 w wr b m e (.slice ga L.length gc) (.slice sa M.length sc) L M ∧ Cop lab2 w wr bc mc e) (fun i _ => L.length - (intOf i).toNat)
        case atStart => exact ⟨0, Nat.zero_le _, rfl, A2.out, C2.out⟩
        case round =>
          clear A2 C2
          obtain ⟨j, hj, rfl, hA, hC⟩ := hrel
          have A := hide hA
          have C := hide hC
          clear hA hC
          by_cases qj : j < L.length
          · obtain ⟨a9, c9, e9, hp⟩ := GRow.ptr A.out.g.row
            cases e9
            obtain ⟨gB, gO, rfl⟩ := hp (by omega)
            obtain ⟨a9, c9, e9, hp⟩ := GRow.ptr A.out.s.row
            cases e9
            obtain ⟨sB, sO, rfl⟩ := hp (by have := HML.out; omega)
            have qjm : j < M.length := by have := HML.out; omega
            obtain ⟨xs, a1, c1, a2, c2, kc⟩ := A.out.pair HMS.out HLS.out qj
            have KC := hide kc
            have SS := (kc _ A.out).1
            clear kc hp
            go_upto_region 26 with fail
            refine wp_region_held_drew (S := fun wq => wq.cell? ⟨gB, gO + j, none⟩ = some (.slice a1 xs.length c1) ∧ wq.cell? ⟨sB, sO + j, none⟩ = some (.slice a2 xs.length c2)) (by kernel_rfl) SS (fun hS => ?_)
            have A5 := hide (A.out.below (Below.refl _ _).drew)
            have C5 := hide (C.out.below (Below.refl _ _).drew)
            clear SS A C
            generalize World.drew _ = x5 at *
            refine take_at 0 (some 101) (v := ?_) rfl rfl (by kernel_rfl) (by kernel_rfl) (by kernel_rfl) (fun _ _ _ h => h) ⟨by rfl, ?_⟩ hS ?_
            rotate_left
            · intro wq hSw; go_simp; try rfl
            simp only [Act.put, List.setIfInBounds_toArray, List.set_cons_zero, List.set_cons_succ]
            refine take_at 1 (some 102) (v := ?_) rfl rfl (by kernel_rfl) (by kernel_rfl) (by kernel_rfl) (fun _ _ _ h => h) ⟨by rfl, ?_⟩ hS ?_
            rotate_left
            · intro wq hSw; go_simp; try rfl
            simp only [Act.put, List.setIfInBounds_toArray, List.set_cons_zero, List.set_cons_succ]
            refine take_at 2 (some 103) (v := ?_) rfl rfl (by kernel_rfl) (by kernel_rfl) (by kernel_rfl) (fun _ _ _ h => h) ⟨by rfl, ?_⟩ hS ?_
            rotate_left
            · intro wq hSw; go_simp; try rfl
            simp only [Act.put, List.setIfInBounds_toArray, List.set_cons_zero, List.set_cons_succ]
            refine take_at 3 (some 104) (v := ?_) rfl rfl (by kernel_rfl) (by kernel_rfl) (by kernel_rfl) (fun _ _ _ h => h) ⟨by rfl, ?_⟩ hS ?_
            rotate_left
            · intro wq hSw; obtain ⟨r0, r1⟩ := hSw; go_simp; try rfl
            simp only [Act.put, List.setIfInBounds_toArray, List.set_cons_zero, List.set_cons_succ]
            refine take_at 4 (some 105) (v := ?_) rfl rfl (by kernel_rfl) (by kernel_rfl) (by kernel_rfl) (fun _ _ _ h => h) ⟨by rfl, ?_⟩ hS ?_
            rotate_left
            · intro wq hSw; go_simp; try rfl
            simp only [Act.put, List.setIfInBounds_toArray, List.set_cons_zero, List.set_cons_succ]
            refine take_at 5 (some 106) (v := ?_) rfl rfl (by kernel_rfl) (by kernel_rfl) (by kernel_rfl) (fun _ _ _ h => h) ⟨by rfl, ?_⟩ hS ?_
            rotate_left
            · intro wq hSw; go_simp; try rfl
            simp only [Act.put, List.setIfInBounds_toArray, List.set_cons_zero, List.set_cons_succ]
            refine take_at 6 (some 107) (v := ?_) rfl rfl (by kernel_rfl) (by kernel_rfl) (by kernel_rfl) (fun _ _ _ h => h) ⟨by rfl, ?_⟩ hS ?_
            rotate_left
            · intro wq hSw; go_simp; try rfl
            simp only [Act.put, List.setIfInBounds_toArray, List.set_cons_zero, List.set_cons_succ]
            refine take_at 7 (some 108) (v := ?_) rfl rfl (by kernel_rfl) (by kernel_rfl) (by kernel_rfl) (fun _ _ _ h => h) ⟨by rfl, ?_⟩ hS ?_
            rotate_left
            · intro wq hSw; obtain ⟨r0, r1⟩ := hSw; go_simp; try rfl
            simp only [Act.put, List.setIfInBounds_toArray, List.set_cons_zero, List.set_cons_succ]
            refine wpAnyH_ready (rs := [8]) (by kernel_rfl) (by simp) ?_
            refine AllReadyH.cons rfl (fun K hK => ?_) AllReadyH.nil
            go_simp
            go_wp2_with fail
            refine (KC.out _ A5.out).2.mono ?_
            rintro r x6 ⟨rfl, hh⟩
            have A6 := hide (A5.out.below hh)
            have C6 := hide (C5.out.below hh)
            clear hh A5 C5
            go_wp2_with fail
            refine hK.out _ _ (KC.out _ A6.out).1 (fun hS => ?_)
            clear hK K
            (try simp only [Act.put, List.setIfInBounds_toArray, List.set_cons_zero, List.set_cons_succ])
            refine take_at 9 (some 110) (v := ?_) rfl rfl (by kernel_rfl) (by kernel_rfl) (by kernel_rfl) (fun _ _ _ h => h) ⟨by rfl, ?_⟩ hS ?_
            rotate_left
            · intro wq hSw; go_simp; try rfl
            simp only [Act.put, List.setIfInBounds_toArray, List.set_cons_zero, List.set_cons_succ]
            refine wpAnyH_done (by kernel_rfl) ?_ _
            go_wp2_with fail
            go_roundw
            case rel => first | exact ⟨j + 1, by omega, by go_num, A6.out, C6.out⟩ | ((repeat apply Exists.intro); exact ⟨⟨j + 1, by omega, by go_num, A6.out, C6.out⟩, rfl⟩)
            case measure => simp [intOf]; omega
          · have M0 := hide (show MkSt lab2 w wr b m bc mc e (.slice ga L.length gc) (.slice sa M.length sc) L M L.length 0 from ⟨A.out, C.out, rfl, HLS.out, fun j hj h => by omega⟩)
            obtain ⟨N, hN⟩ : ∃ N, N = L.length := ⟨_, rfl⟩
            rw [← hN] at M0 hj qj ⊢
            have hN8 : N ≤ 80 := by omega
            clear hN
            obtain rfl : N = j := by omega
            clear hj qj
            clear A C HMS HLS HML hLL
            go_wp2_with fail
            go_loopw [19] (fun i wr => ∃ (n : Nat) (L' : Ents), n ≤ N ∧ i = .int .i64 n ∧ MkSt lab2 w wr b m bc mc e (.slice ga N gc) (.slice sa M.length sc) L' M N n) (fun i _ => N - (intOf i).toNat)
            case atStart => exact ⟨0, L, Nat.zero_le _, rfl, M0.out⟩
            case round =>
              clear M0
              obtain ⟨n, L', hn, rfl, hM⟩ := hrel
              have MK := hide hM
              clear hM
              by_cases qn : n < N
              · have row := MK.out.st.g.row
                rw [MK.out.len] at row
                obtain ⟨a9, c9, e9, hp⟩ := GRow.ptr row
                cases e9
                obtain ⟨gB, gO, rfl⟩ := hp (by omega)
                clear row
                have hnl : n < L'.length := by have := MK.out.len; omega
                obtain ⟨ai, ci, ei, si, -⟩ := Owns.seen (MK.out.st.g.inn n hnl)
                obtain ⟨ni, hni⟩ : ∃ ni, ni = (L'[n]).2.length := ⟨_, rfl⟩
                rw [← hni] at ei
                have MI := hide (show MkIn lab2 w wr b m bc mc e (.slice (some ⟨gB, gO, none⟩) N gc) (.slice sa M.length sc) L' M N n 0 ni (.slice ai ni ci) from ⟨MK.out, hnl, ei, hni.symm, fun s hs => by omega⟩)
                have hni8 : ni ≤ 1000 := by rw [hni]; exact MK.out.lens _ (List.getElem_mem hnl)
                have hai : 0 < ni → ∃ g, ai = some ⟨g, 0, none⟩ := by
                  intro h0
                  obtain ⟨g, cp, q9, _⟩ := Owns.form (MK.out.st.g.inn n hnl) (by rw [← hni]; exact h0)
                  rw [ei] at q9
                  cases q9
                  exact ⟨g, rfl⟩
                have HAI := hide hai
                have hwz : wrap64 (-1 - (n : Int)) = -1 - (n : Int) := wrapI (by unfold I64; omega)
                clear hni ei si MK hp hai hnl
                go_wp2_with fail
                go_loopw [20] (fun kk wr => ∃ (t : Nat) (L' : Ents), t ≤ ni ∧ kk = .int .i64 t ∧ MkIn lab2 w wr b m bc mc e (.slice (some ⟨gB, gO, none⟩) N gc) (.slice sa M.length sc) L' M N n t ni (.slice ai ni ci)) (fun kk _ => ni - (intOf kk).toNat)
                case atStart => exact ⟨0, L', Nat.zero_le _, rfl, MI.out⟩
                case round =>
                  clear MI
                  obtain ⟨t, L', ht, rfl, hI⟩ := hrel
                  have MI := hide hI
                  clear hI
                  have hhl := MI.out.hi
                  have y0 : wr.cell? ⟨gB, gO + n, none⟩ = some (.slice ai ni ci) := GRow.cellOf (n := L'.length) (c := gc) (by have := MI.out.m0.st.g.row; rw [MI.out.m0.len] at this ⊢; exact this) n _ (by rw [List.getElem?_map, List.getElem?_eq_getElem hhl, ← MI.out.val]; rfl)
                  clear hhl
                  by_cases qt : t < ni
                  · obtain ⟨g, hg⟩ := HAI.out (by omega)
                    subst hg
                    have hfr : wr.frozen? ⟨g, t, none⟩ = false := by
                      have := MI.out.m0.st.g.inn n MI.out.hi
                      rw [MI.out.val] at this
                      exact Owns.frozen this t
                    have hcl : ∃ z, wr.cell? ⟨g, t, none⟩ = some (.int .i64 z) := by
                      have h9 := MI.out.m0.st.g.inn n MI.out.hi
                      have h8 := Owns.seenAs h9 (a := some ⟨g, 0, none⟩) (c := ci) (by rw [MI.out.val, MI.out.num])
                      obtain ⟨b9, o9, q9, _, hc9⟩ := Seen.at h8 (i := t) (by rw [MI.out.num]; exact qt)
                      cases q9
                      rw [Nat.zero_add] at hc9
                      exact ⟨_, hc9⟩
                    obtain ⟨zo, hzo⟩ := hcl
                    have MP := hide (MI.out.put qt)
                    clear MI
                    go_wp2_with fail
                    go_roundw
                    case rel =>
                      obtain ⟨L2, h2⟩ := MP.out
                      first | exact ⟨t + 1, L2, by omega, by go_num, h2⟩ | ((repeat apply Exists.intro); exact ⟨⟨t + 1, L2, by omega, by go_num, h2⟩, rfl⟩)
                    case measure => simp [intOf]; omega
                  · obtain rfl : t = ni := by omega
                    have MN := hide MI.out.next
                    clear MI HAI
                    go_wp2_with fail
                    go_roundw
                    case rel => first | exact ⟨n + 1, L', by omega, by go_num, MN.out⟩ | ((repeat apply Exists.intro); exact ⟨⟨n + 1, L', by omega, by go_num, MN.out⟩, rfl⟩)
                    case measure => simp [intOf]; omega
              · obtain rfl : n = N := by omega
                have HZ := hide (show ∀ j (hj : j < L'.length), ∀ x ∈ (L'[j]).2, x = -1 - (j : Int) from fun j hj => MK.out.done j hj (by have := MK.out.len; omega))
                have HLN := hide MK.out.len
                have HLS := hide MK.out.lens
                have D0 := hide (DSt.start MK.out.st MK.out.cop)
                clear MK hn qn
                go_wp2_with fail
                go_loopw [21, 18] (fun i mv wr => ∃ (lab : Nat → Nat) (ms : List Value), i = .int .i64 (ms.length : Nat) ∧ DSt lab w wr b m bc mc e (.slice ga n gc) (.slice sa M.length sc) mv L' M ms) (fun i _ _ => n - (intOf i).toNat)
                case atStart => exact ⟨lab2, [], rfl, D0.out⟩
                case round =>
                  clear D0
                  obtain ⟨lab3, ms, rfl, hD⟩ := hrel
                  have D := hide hD
                  clear hD
                  have hml : ms.length ≤ n := by have := D.out.mle; have := HLN.out; omega
                  by_cases qm : ms.length < n
                  · have hmL : ms.length < L'.length := by have := HLN.out; omega
                    have row := D.out.grow
                    rw [HLN.out] at row
                    obtain ⟨a9, c9, e9, hp⟩ := GRow.ptr row
                    cases e9
                    obtain ⟨gB, gO, rfl⟩ := hp (by omega)
                    clear row
                    obtain ⟨ai, ci, ei, si, -⟩ := D.out.red ms.length hmL
                    have hnb := HLS.out _ (List.getElem_mem hmL)
                    have y0 : wr.cell? ⟨gB, gO + ms.length, none⟩ = some (.slice ai (L'[ms.length]).2.length ci) := GRow.cellOf (n := L'.length) (c := gc) (by have := D.out.grow; rw [HLN.out] at this ⊢; exact this) ms.length _ (by rw [List.getElem?_map, List.getElem?_eq_getElem hmL, ← ei]; rfl)
                    obtain ⟨v2, w2, hrun, ho, hg, hn2, hse⟩ := run_more2 36 (wr.alloc (.cells #[.int .i64 (-1 - (ms.length : Int)), .int .i64 (-1 - (ms.length : Int))] 3)) w.heap.size (L'[ms.length]).1 (L'[ms.length]).2 ((D.out.own ms.length hmL (Nat.le_refl _)).below (alloc_below _ _)) ⟨wr.heap.size, 0, none⟩ (-1 - (ms.length : Int)) (lit_lies wr #[.int .i64 (-1 - (ms.length : Int)), .int .i64 (-1 - (ms.length : Int))] 3) (by omega) (by have := D.out.bel.size; simp; omega)
                    rw [ei] at hrun
                    obtain ⟨a8, n8, c8, rfl⟩ : ∃ a n c, v2 = .slice a n c := (by obtain ⟨a, c, e, _⟩ := Owns.seen ho; exact ⟨a, _, c, e⟩)
                    have HRUN := hide hrun
                    have ST := hide (fun mv' w4 (o2 : Obj) g4 b4 n4 => D.out.step (mv' := mv') (w4 := w4) (o2 := o2) hmL (HZ.out _ hmL) ho hg hn2 hse g4 b4 n4)
                    have hk2 := (Keep.refl (fun x => (L'[ms.length]).1.ownBlock = some x) (wr.alloc (.cells #[.int .i64 (-1 - (ms.length : Int)), .int .i64 (-1 - (ms.length : Int))] 3))).grown hg (fun g hg _ => hg)
                    have zsz := hk2.size
                    have zsz2 : w.heap.size ≤ w2.heap.size := by have := D.out.bel.size; simp at zsz; omega
                    have MR2 := hide (GRow.below ((D.out.mor.below (alloc_below wr (.cells #[.int .i64 (-1 - (ms.length : Int)), .int .i64 (-1 - (ms.length : Int))] 3))).row.keep hk2 (fun g hg9 q9 => by have a1 := D.out.mor.lbl g hg9; have a2 := D.out.lin ms.length hmL (Nat.le_refl _) g q9; omega)) (alloc_below w2 (.cells #[.slice a8 n8 c8] 36)))
                    have L2 := hide (lit_lies w2 #[.slice a8 n8 c8] 36)
                    have hwz : wrap64 (-1 - (ms.length : Int)) = -1 - (ms.length : Int) := wrapI (by unfold I64; omega)
                    clear hrun ho hg hn2 hse hk2 zsz D ei si hp
                    generalize (L'[ms.length]).2.length = ni at *
                    go_wp2_with (at_builtin; first | (refine wpList_run rfl (.tmp _) (.tmp _) rfl rfl rfl HRUN.out ?_) | (refine wpList_appR Try.underlying29 info36 rfl (by decide) (by decide) rfl (.tmp _) (.tmp _) rfl w.heap.size _ ms.length ms rfl MR2.out (some ⟨w2.heap.size, 0, none⟩) 1 1 [.slice a8 n8 c8] rfl rfl L2.out (by simp [Value.oneCell']) (by nofun) (by omega) (by simp; omega) ?_; intro v6 w6 t1 t2 t3; have DD := hide (ST.out v6 w6 _ t1 t2 t3)))
                    clear ST MR2 L2 HRUN t1 t2 t3
                    go_roundw
                    case rel =>
                      obtain ⟨lab4, hD4⟩ := DD.out
                      first | exact ⟨lab4, ms ++ [.slice a8 n8 c8], by simp, hD4⟩ | ((repeat apply Exists.intro); exact ⟨⟨lab4, ms ++ [.slice a8 n8 c8], by simp, hD4⟩, rfl⟩)
                    case measure => simp [intOf]; omega
                  · have hme : ms.length = n := by omega
                    obtain ⟨am, cm, e9, -⟩ := GRow.ptr D.out.mor.row
                    subst e9
                    have DF := hide D.out.fin
                    have row := D.out.grow
                    rw [HLN.out] at row
                    obtain ⟨a9, c9, e9, hpg⟩ := GRow.ptr row
                    cases e9
                    obtain ⟨a9, c9, e9, hpm⟩ := GRow.ptr D.out.mor.row
                    cases e9
                    have HPG := hide hpg
                    have HPM := hide hpm
                    obtain ⟨NN, hNN⟩ : ∃ NN, NN = ms.length := ⟨_, rfl⟩
                    have HNN := hide hNN
                    rw [← hNN] at hme hpm ⊢
                    subst hme
                    have BOTH := hide (fun (q : Nat) (hq : q < NN) => show ∃ (ni : Nat) (a1 : Option Addr) (c1 b2 o2 c2 gB gO mB mO : Nat), ga = some ⟨gB, gO, none⟩ ∧ am = some ⟨mB, mO, none⟩ ∧ ni ≤ 1000 ∧ wr.cell? ⟨gB, gO + q, none⟩ = some (.slice a1 ni c1) ∧ wr.cell? ⟨mB, mO + q, none⟩ = some (.slice (some ⟨b2, o2, none⟩) (ni + 2) c2) ∧ (∀ t, t < ni + 2 → wr.cell? ⟨b2, o2 + t, none⟩ = some (.int .i64 (-1 - (q : Int)))) ∧ (0 < ni → ∃ b1 o1, a1 = some ⟨b1, o1, none⟩ ∧ ∀ t, t < ni → wr.cell? ⟨b1, o1 + t, none⟩ = some (.int .i64 (-1 - (q : Int)))) from by
                      obtain ⟨gB, gO, hga⟩ := HPG.out (by omega)
                      obtain ⟨mB, mO, hma⟩ := HPM.out (by have := HNN.out; omega)
                      have D2 := D.out
                      rw [hga, hma] at D2
                      rw [← HLN.out] at D2
                      obtain ⟨ni, a1, c1, b2, o2, c2, r1, r2, r3, r4, r5⟩ := D2.both HZ.out HLS.out (n := q) (by have := HNN.out; omega)
                      exact ⟨ni, a1, c1, b2, o2, c2, gB, gO, mB, mO, hga, hma, r1, r2, r3, r4, r5⟩)
                    clear D hpg hpm HPG HPM hNN HNN row HLN HZ HLS qm hml
                    go_wp2_with fail
                    go_loopw [22] (fun i wq => ∃ q : Nat, q ≤ NN ∧ i = .int .i64 q ∧ wq = wr) (fun i _ => NN - (intOf i).toNat)
                    case atStart => exact ⟨0, Nat.zero_le _, rfl, rfl⟩
                    case round =>
                      obtain ⟨q, hq, rfl, rfl⟩ := hrel
                      by_cases qq : q < NN
                      · obtain ⟨ni, a1, c1, b2, o2, c2, gB, gO, mB, mO, rfl, rfl, r1, y1, y2, y3, y4⟩ := BOTH.out q qq
                        have Y3 := hide y3
                        have Y4 := hide y4
                        have hwz : wrap64 (-1 - (q : Int)) = -1 - (q : Int) := wrapI (by unfold I64; omega)
                        clear y3 y4
                        go_wp2_with fail
                        go_loopw [23] (fun kk wq => ∃ t : Nat, t ≤ ni + 2 ∧ kk = .int .i64 t ∧ wq = wr) (fun kk _ => ni + 2 - (intOf kk).toNat)
                        case atStart => exact ⟨0, Nat.zero_le _, rfl, rfl⟩
                        case round =>
                          obtain ⟨t, ht, rfl, rfl⟩ := hrel
                          by_cases qt : t < ni + 2
                          · have y3 := Y3.out t qt
                            by_cases qu : t < ni
                            · obtain ⟨b1, o1, rfl, h9⟩ := Y4.out (by omega)
                              have y4 := h9 t qu
                              clear h9
                              go_wp2_with fail
                              go_roundw
                              case rel => first | exact ⟨t + 1, by omega, by go_num, rfl⟩ | exact ⟨t + 1, by omega, by go_num⟩ | exact ⟨t + 1, by omega, by go_num, by trivial⟩ | ((repeat apply Exists.intro); exact ⟨⟨t + 1, by omega, by go_num, rfl⟩, rfl⟩)
                              case measure => simp [intOf]; omega
                            · go_wp2_with fail
                              go_roundw
                              case rel => first | exact ⟨t + 1, by omega, by go_num, rfl⟩ | exact ⟨t + 1, by omega, by go_num⟩ | exact ⟨t + 1, by omega, by go_num, by trivial⟩ | ((repeat apply Exists.intro); exact ⟨⟨t + 1, by omega, by go_num, rfl⟩, rfl⟩)
                              case measure => simp [intOf]; omega
                          · go_wp2_with fail
                            go_roundw
                            case rel => first | exact ⟨q + 1, by omega, by go_num, rfl⟩ | exact ⟨q + 1, by omega, by go_num⟩ | exact ⟨q + 1, by omega, by go_num, by trivial⟩ | ((repeat apply Exists.intro); exact ⟨⟨q + 1, by omega, by go_num, rfl⟩, rfl⟩)
                            case measure => simp [intOf]; omega
                      · clear BOTH
                        have ok := DF.out.pe.ok
                        go_wp2_with fail
                        refine (value_any b m e _ DF.out.pe).mono ?_
                        rintro r x1 ⟨rfl, hh⟩
                        have F1 := hide (DF.out.below hh)
                        clear hh DF
                        go_wp2_with fail
                        refine (nets_any bc mc e _ F1.out.cop.pe H8.out (by omega)).mono ?_
                        rintro r x3 ⟨al, cl, rfl, r3, hh⟩
                        have F3 := hide (F1.out.below hh)
                        have ltc := F1.out.cop.pe.lt
                        have AL := hide (show ∀ ad, al = some ad → ad.block ≠ bc ∧ ad.block ≠ mc from by
                          intro ad hd
                          subst hd
                          have := (World.ownsRow.lt r3 ad.block rfl).1
                          omega)
                        have LL := hide (show Lies x3 al (rowsC netC e.nets) from by
                          obtain ⟨a', c', q9, hli, _⟩ := GRow.lies r3
                          cases q9
                          exact hli)
                        obtain ⟨F, hF⟩ : ∃ F : Nat → Esc, F = fun i => stF e (dnS e.nets (fun j => j) i) (wyB e.nets []) := ⟨_, rfl⟩
                        have HF := hide hF
                        have F3 := hide (show FSt _ w x3 b m bc mc e (F 0) (.slice sa M.length sc) M from by rw [hF]; show FSt _ w x3 b m bc mc e (stF e (dnS e.nets (fun j => j) 0) (wyB e.nets [])) _ M; rw [stF_start2]; exact F3.out)
                        clear hh r3 ltc F1 hF
                        go_wp2_with fail
                        go_loopw [26] (fun i wq => ∃ n : Nat, n ≤ e.nets.length ∧ i = .int .i64 n ∧ FSt lab3 w wq b m bc mc e (F n) (.slice sa M.length sc) M ∧ Lies wq al (rowsC netC e.nets)) (fun i _ => e.nets.length - (intOf i).toNat)
                        case atStart => exact ⟨0, Nat.zero_le _, rfl, F3.out, LL.out⟩
                        case round =>
                          clear F3 LL
                          obtain ⟨n, hn, rfl, hf, hL⟩ := hrel
                          have FF := hide hf
                          have LL := hide hL
                          clear hf hL
                          by_cases qn : n < e.nets.length
                          · obtain ⟨bl, off, hal2, hlt, hcell⟩ := Lies.rowAt netC 2 (fun _ => rfl) LL.out n qn (by omega)
                            have y0 := hcell 0 _ rfl
                            rw [Nat.add_zero] at y0
                            have hst := ord_step2 ok qn
                            rw [keyAt_eq qn] at hst
                            have hkI : I64 e.nets[n].1 := by have := ok.keys _ (List.getElem_mem qn); unfold I64; omega
                            have KR := fun w' (h : PE w' bc mc (F n)) => release_any bc mc (F n) e.nets[n].1 w' h hkI
                            rw [HF.out] at KR
                            rw [hst.1, hst.2] at KR
                            have HF1 := hide (show F (n + 1) = stF e (dnS e.nets (fun j => j) (n + 1)) (wyB e.nets []) from by rw [HF.out])
                            have HF2 := hide (show F n = stF e (dnS e.nets (fun j => j) n) (wyB e.nets []) from by rw [HF.out])
                            clear hcell hlt hkI hst
                            subst hal2
                            generalize e.nets[n].1 = tk at *
                            go_wp2_with fail
                            refine (KR _ (by have := FF.out.cop.pe; rw [HF2.out] at this; exact this)).mono ?_
                            rintro r x4 ⟨rfl, kk, pp⟩
                            have F4 := hide (show FSt lab3 w x4 b m bc mc e (F (n + 1)) (.slice sa M.length sc) M from by rw [HF1.out]; exact FF.out.rel kk pp)
                            have L4 := hide (LL.out.keep kk (fun ad hd q9 => by have := AL.out ad hd; rcases q9 with q9 | q9; exact this.1 q9; exact this.2 q9))
                            clear kk pp FF LL KR y0
                            go_wp2_with fail
                            go_roundw
                            case rel => first | exact ⟨n + 1, by omega, by go_num, F4.out, L4.out⟩ | ((repeat apply Exists.intro); exact ⟨⟨n + 1, by omega, by go_num, F4.out, L4.out⟩, rfl⟩)
                            case measure => simp [intOf]; omega
                          · obtain rfl : n = e.nets.length := by omega
                            obtain ⟨ZE, hZE⟩ : ∃ ZE : Esc, ZE = ⟨e.lo, e.hi, e.base, []⟩ := ⟨_, rfl⟩
                            have hFE : F e.nets.length = ZE := by rw [HF.out, hZE]; exact stF_all e
                            rw [hFE] at FF
                            have KVE := fun w' (h : PE w' b m e) => value_any b m e w' h
                            have KSE := fun w' (h : PE w' b m e) => settled_any b m e w' h
                            have KHE := fun w' (h : PE w' b m e) => holders_any b m e w' h (by omega)
                            have KVC := fun w' (h : PE w' bc mc ZE) => value_any bc mc ZE w' h
                            have KSC := fun w' (h : PE w' bc mc ZE) => settled_any bc mc ZE w' h
                            rw [show ZE.val = e.base from by rw [hZE]; simp [Esc.val, sumF]] at KVC
                            rw [show ZE.base = e.base from by rw [hZE]] at KSC
                            have KLA := fun w' (h : PE w' b m e) (hs : Side lab3 w.heap.size w' (.slice sa M.length sc) M 1) => last_any b m e (.slice sa M.length sc) M w.heap.size lab3 w' h hs HLA.out (by omega) (by omega)
                            have hk1000 : (keysN e.nets).length ≤ 1000000 := by simp; omega
                            have KSA := fun a1 a2 c1 c2 w' h1 h2 => same_any (keysN e.nets) a1 a2 c1 c2 w' h1 h2 hk1000
                            clear hFE hZE HF LL AL hn qn hk1000
                            generalize keysN e.nets = ks at *
                            generalize e.val = EV at *
                            generalize e.base = EB at *
                            go_wp2_with fail
                            refine (KVE _ FF.out.pe).mono ?_
                            rintro r x1 ⟨rfl, hh⟩
                            have F1 := hide (FF.out.below hh)
                            clear hh FF
                            go_wp2_with fail
                            refine (KVC _ F1.out.cop.pe).mono ?_
                            rintro r x2 ⟨rfl, hh⟩
                            have F2 := hide (F1.out.below hh)
                            clear hh F1
                            go_wp2_with fail
                            refine (KSC _ F2.out.cop.pe).mono ?_
                            rintro r x3 ⟨rfl, hh⟩
                            have F3 := hide (F2.out.below hh)
                            clear hh F2
                            go_wp2_with fail
                            refine (KSC _ F3.out.cop.pe).mono ?_
                            rintro r x4 ⟨rfl, hh⟩
                            have F4 := hide (F3.out.below hh)
                            clear hh F3
                            go_wp2_with fail
                            refine (KSE _ F4.out.pe).mono ?_
                            rintro r x5 ⟨rfl, hh⟩
                            have F5 := hide (F4.out.below hh)
                            clear hh F4
                            go_wp2_with fail
                            refine (KHE _ F5.out.pe).mono ?_
                            rintro r x6 ⟨vh, rfl, oh, _, hh⟩
                            obtain ⟨ah, ch, rfl, sh, -⟩ := Owns.seen oh
                            have F6 := hide (F5.out.below hh)
                            have SH := hide sh
                            clear hh oh sh F5
                            go_wp2_with fail
                            refine (KLA _ F6.out.pe F6.out.s).mono ?_
                            rintro r x7 ⟨a7, c7, rfl, s7, hh⟩
                            have F7 := hide (F6.out.below hh)
                            have SH7 := hide (Go.QK.Seen.below SH.out hh)
                            have S7 := hide s7
                            clear hh s7 F6 SH
                            go_wp2_with fail
                            refine (KSA ah a7 ch c7 _ SH7.out S7.out).mono ?_
                            rintro r x8 ⟨rfl, hh⟩
                            have B8 := hide (F7.out.below hh).bel
                            clear hh F7 SH7 S7
                            go_wp2_with fail
                            go_ret
                            exact ⟨rfl, B8.out⟩
      · obtain ⟨q1, q2⟩ := hq rfl
        clear hq HLA
        obtain ⟨bl, off, hae, hlt, hcell⟩ := Lies.rowAt deedC 2 (fun _ => rfl) (HS.out.below A.out.bel) k q1 (by omega)
        have HC := hide (fun wq (hq : Lies wq a (rowsC deedC ds)) => show wq.cell? ⟨bl, off + k * 2, none⟩ = some (.int .i64 ds[k].1) ∧ wq.cell? ⟨bl, off + k * 2 + 1, none⟩ = some (.int .i64 ds[k].2) from by
          obtain ⟨b9, o9, q9, _, h9⟩ := Lies.rowAt deedC 2 (fun _ => rfl) hq k q1 (by omega)
          rw [hae] at q9
          cases q9
          have g0 := h9 0 _ rfl
          have g1 := h9 1 _ rfl
          rw [Nat.add_zero] at g0
          exact ⟨g0, g1⟩)
        have hx := HX.out ds[k] (List.getElem_mem q1)
        have KX := fun w' => txOf_any ds[k].1 w'
        have KA := fun w' (h : PE w' b m e) => add_any' b m e (txF ds[k].1) ds[k].2 w' h (txF_i64 _) hx.2 (by omega)
        have KS := fun e' w' (h : PE w' b m e') => settle_any b m e' (txF ds[k].1) w' h (txF_i64 _)
        have HA8 := hide (addN_eight H8.out ds[k].2 (txF_bd ds[k].1).2)
        have HAN := hide (Nat.le_trans (addN_len e (txF ds[k].1) ds[k].2) (Nat.succ_le_succ hnk))
        clear hlt hcell hx
        subst hae
        generalize txF ds[k].1 = tt at *
        generalize ds[k].1 = tn at *
        generalize ds[k].2 = dn at *
        generalize addN e tt dn = ea at *
        generalize mayE e tt dn = MV at *
        have SS := HC.out _ (HS.out.below A.out.bel)
        go_upto_region 10 with fail
        refine wp_region_held_drew (S := fun wq => wq.cell? ⟨bl, off + k * 2, none⟩ = some (.int .i64 tn) ∧ wq.cell? ⟨bl, off + k * 2 + 1, none⟩ = some (.int .i64 dn)) (by kernel_rfl) SS (fun hS => ?_)
        have A5 := hide (A.out.below (Below.refl _ _).drew)
        clear SS A
        generalize World.drew _ = x5 at *
        refine take_at 0 (some 47) (v := ?_) rfl rfl (by kernel_rfl) (by kernel_rfl) (by kernel_rfl) (fun _ _ _ h => h) ⟨by rfl, ?_⟩ hS ?_
        rotate_left
        · intro wq hSw; go_simp; try rfl
        simp only [Act.put, List.setIfInBounds_toArray, List.set_cons_zero, List.set_cons_succ]
        refine take_at 1 (some 48) (v := ?_) rfl rfl (by kernel_rfl) (by kernel_rfl) (by kernel_rfl) (fun _ _ _ h => h) ⟨by rfl, ?_⟩ hS ?_
        rotate_left
        · intro wq hSw; go_simp; try rfl
        simp only [Act.put, List.setIfInBounds_toArray, List.set_cons_zero, List.set_cons_succ]
        refine take_at 2 (some 49) (v := ?_) rfl rfl (by kernel_rfl) (by kernel_rfl) (by kernel_rfl) (fun _ _ _ h => h) ⟨by rfl, ?_⟩ hS ?_
        rotate_left
        · intro wq hSw; go_simp; try rfl
        simp only [Act.put, List.setIfInBounds_toArray, List.set_cons_zero, List.set_cons_succ]
        refine take_at 3 (some 50) (v := ?_) rfl rfl (by kernel_rfl) (by kernel_rfl) (by kernel_rfl) (fun _ _ _ h => h) ⟨by rfl, ?_⟩ hS ?_
        rotate_left
        · intro wq hSw; go_simp; try rfl
        simp only [Act.put, List.setIfInBounds_toArray, List.set_cons_zero, List.set_cons_succ]
        refine take_at 4 (some 51) (v := ?_) rfl rfl (by kernel_rfl) (by kernel_rfl) (by kernel_rfl) (fun _ _ _ h => h) ⟨by rfl, ?_⟩ hS ?_
        rotate_left
        · intro wq hSw; go_simp; try rfl
        simp only [Act.put, List.setIfInBounds_toArray, List.set_cons_zero, List.set_cons_succ]
        refine take_at 5 (some 52) (v := ?_) rfl rfl (by kernel_rfl) (by kernel_rfl) (by kernel_rfl) (fun _ _ _ h => h) ⟨by rfl, ?_⟩ hS ?_
        rotate_left
        · intro wq hSw; obtain ⟨r0, r1⟩ := hSw; go_simp; try rfl
        simp only [Act.put, List.setIfInBounds_toArray, List.set_cons_zero, List.set_cons_succ]
        refine take_at 7 (some 54) (v := ?_) rfl rfl (by kernel_rfl) (by kernel_rfl) (by kernel_rfl) (fun _ _ _ h => h) ⟨by rfl, ?_⟩ hS ?_
        rotate_left
        · intro wq hSw; go_simp; try rfl
        simp only [Act.put, List.setIfInBounds_toArray, List.set_cons_zero, List.set_cons_succ]
        refine take_at 8 (some 55) (v := ?_) rfl rfl (by kernel_rfl) (by kernel_rfl) (by kernel_rfl) (fun _ _ _ h => h) ⟨by rfl, ?_⟩ hS ?_
        rotate_left
        · intro wq hSw; go_simp; try rfl
        simp only [Act.put, List.setIfInBounds_toArray, List.set_cons_zero, List.set_cons_succ]
        refine take_at 9 (some 56) (v := ?_) rfl rfl (by kernel_rfl) (by kernel_rfl) (by kernel_rfl) (fun _ _ _ h => h) ⟨by rfl, ?_⟩ hS ?_
        rotate_left
        · intro wq hSw; go_simp; try rfl
        simp only [Act.put, List.setIfInBounds_toArray, List.set_cons_zero, List.set_cons_succ]
        refine take_at 10 (some 57) (v := ?_) rfl rfl (by kernel_rfl) (by kernel_rfl) (by kernel_rfl) (fun _ _ _ h => h) ⟨by rfl, ?_⟩ hS ?_
        rotate_left
        · intro wq hSw; go_simp; try rfl
        simp only [Act.put, List.setIfInBounds_toArray, List.set_cons_zero, List.set_cons_succ]
        refine take_at 11 (some 58) (v := ?_) rfl rfl (by kernel_rfl) (by kernel_rfl) (by kernel_rfl) (fun _ _ _ h => h) ⟨by rfl, ?_⟩ hS ?_
        rotate_left
        · intro wq hSw; obtain ⟨r0, r1⟩ := hSw; go_simp; try rfl
        simp only [Act.put, List.setIfInBounds_toArray, List.set_cons_zero, List.set_cons_succ]
        refine wpAnyH_ready (rs := [6]) (by kernel_rfl) (by simp) ?_
        refine AllReadyH.cons rfl (fun K hK => ?_) AllReadyH.nil
        go_simp
        go_wp2_with fail
        refine (KX _).mono ?_
        rintro r x6 ⟨rfl, hh⟩
        have A6 := hide (A5.out.below hh)
        clear hh A5
        go_wp2_with fail
        refine hK.out _ _ (HC.out _ (HS.out.below A6.out.bel)) (fun hS => ?_)
        clear hK K
        (try simp only [Act.put, List.setIfInBounds_toArray, List.set_cons_zero, List.set_cons_succ])
        refine wpAnyH_ready (rs := [12]) (by kernel_rfl) (by simp) ?_
        refine AllReadyH.cons rfl (fun K hK => ?_) AllReadyH.nil
        go_simp
        go_wp2_with fail
        refine (KA _ A6.out.pe).mono ?_
        rintro r x7 ⟨rfl, kk, pp⟩
        have A7 := hide (A6.out.deed kk pp)
        clear kk pp A6
        go_wp2_with fail
        refine hK.out _ _ (HC.out _ (HS.out.below A7.out.bel)) (fun hS => ?_)
        clear hK K
        (try simp only [Act.put, List.setIfInBounds_toArray, List.set_cons_zero, List.set_cons_succ])
        refine take_at 13 (some 12) (v := ?_) rfl rfl (by kernel_rfl) (by kernel_rfl) (by kernel_rfl) (fun _ _ _ h => h) ⟨by rfl, ?_⟩ hS ?_
        rotate_left
        · intro wq hSw; go_simp; try rfl
        simp only [Act.put, List.setIfInBounds_toArray, List.set_cons_zero, List.set_cons_succ]
        refine wpAnyH_done (by kernel_rfl) ?_ _
        clear hS
        go_upto_region 11 with fail
        go_cut [66] from 37 to 90 (fun s w' => (∃ q : Bool, s = .bool q) ∧ w' = x7)
        case first =>
          by_cases qm : MV = 0
          · subst qm
            go_wp2_with fail
            go_meet
            exact ⟨⟨_, rfl⟩, rfl⟩
          · have qm' : (MV != 0) = true := by simpa using qm
            clear qm
            go_wp2_with fail
            go_meet
            exact ⟨⟨_, rfl⟩, rfl⟩
        case rest =>
          obtain ⟨⟨q, hs⟩, hwc⟩ := hcut
          subst hwc
          rw [hs]
          clear hs
          obtain ⟨wo, hwo⟩ : ∃ wo : World, wo = wc := ⟨_, rfl⟩
          subst hwo
          go_upto_if 66 with fail
          go_cut [12] from 37 to 90 (fun _ w' => ∃ e', OwnSt lab w w' b m e' (.slice ga L.length gc) (.slice sa M.length sc) L M ∧ Eight e' ∧ e'.nets.length ≤ k + 1)
          case first =>
            cases q
            · go_wp2_with fail
              go_meet
              exact ⟨_, A7.out, HA8.out, HAN.out⟩
            · obtain ⟨y0, y1⟩ := HC.out _ (HS.out.below A7.out.bel)
              go_wp2_with fail
              refine (KX _).mono ?_
              rintro r x8 ⟨rfl, hh⟩
              have A8 := hide (A7.out.below hh)
              clear hh y0 y1 A7
              go_wp2_with fail
              refine (KS _ _ A8.out.pe).mono ?_
              rintro r x9 ⟨rfl, kk, pp⟩
              have A9 := hide (A8.out.deed kk pp)
              clear kk pp A8
              go_wp2_with fail
              go_meet
              exact ⟨_, A9.out, setN_eight HA8.out tt, Nat.le_trans (setN_shorter ea tt) HAN.out⟩
          case rest =>
            obtain ⟨e', hA, h8, hN⟩ := hcut
            have A8 := hide hA
            have H8' := hide h8
            have KH := fun w' (h : PE w' b m e') => holders_any b m e' w' h (by omega)
            have hkl : (keysN e'.nets).length ≤ k + 1 := by simpa using hN
            generalize hks : keysN e'.nets = ks at *
            have HKS := hide hks
            clear hks
            clear hA h8 A7 HA8 HAN KX KA KS HC H8
            go_wp2_with fail
            go_loopw [13, 9, 10] (fun z gv sv wr => ∃ (zn : Nat) (lab : Nat → Nat) (L M : Ents), zn ≤ 2 ∧ z = .int .i64 zn ∧ OwnSt lab w wr b m e' gv sv L M ∧ M.length = L.length ∧ M.map Prod.snd = L.map Prod.snd ∧ L.length ≤ 2 * k + zn ∧ (zn = 0 ∨ (M.map Prod.snd).getLast? = some ks) ∧ ∀ p ∈ L, p.2.length ≤ 1000) (fun z _ _ _ => 2 - (intOf z).toNat)
            case atStart => exact ⟨0, lab, L, M, by omega, rfl, A8.out, HML.out, HMS.out, by omega, .inl rfl, HLS.out⟩
            case round =>
              clear A8 HML HMS HLS hLn
              obtain ⟨zn, lab, L, M, hz, rfl, hA, hML, hMs, hLn, hlast, hls⟩ := hrel
              obtain ⟨ga, gc, rfl, -⟩ := GRow.ptr hA.g.row
              obtain ⟨sa, sc, rfl, -⟩ := GRow.ptr hA.s.row
              have A := hide hA
              have HMS := hide hMs
              have HML := hide hML
              have HLA := hide hlast
              have hMn : M.length ≤ 82 := by omega
              have HLS := hide hls
              clear hA hMs hlast hML hls
              by_cases hz2 : zn < 2
              · clear HLA
                go_wp2_with fail
                refine (KH _ A.out.pe).mono ?_
                rintro r x1 ⟨vh, rfl, oh, nb, hh⟩
                obtain ⟨ah, ch, rfl, sh, _⟩ := Owns.seen oh
                have OH := hide oh
                have H1 := hide hh
                have z1 := hh.size
                have z0 := A.out.bel.size
                have G2 := hide (GRow.below A.out.g.row (hh.alloc hh.size (.cells #[.slice ah ks.length ch] 36)))
                have S2 := hide (GRow.below A.out.s.row (hh.alloc hh.size (.cells #[.slice ah ks.length ch] 36)))
                have LI := hide (lit_lies x1 #[.slice ah ks.length ch] 36)
                have SH2 := hide (Go.QK.Seen.below sh (alloc_below x1 (.cells #[.slice ah ks.length ch] 36)))
                have HGL := hide A.out.g.lbl
                have HSL := hide A.out.s.lbl
                clear hh sh oh
                go_upto_region 19 with (at_builtin; refine wpList_appR Try.underlying29 info36 rfl (by decide) (by decide) rfl (.tmp _) (.tmp _) rfl w.heap.size _ L.length (L.map Prod.fst) rfl G2.out (some ⟨x1.heap.size, 0, none⟩) 1 1 [.slice ah ks.length ch] rfl rfl LI.out (by simp [Value.oneCell']) (by nofun) (by omega) (by simp; omega) ?_; intro v3 w3 f1 f2 f3)
                have K3 := (Keep.refl (fun x => (Value.slice ga L.length gc).ownBlock = some x) _).grown f2 (fun g hg _ => hg)
                have z3 := K3.size
                have zz : (x1.alloc (.cells #[.slice ah ks.length ch] 36)).heap.size = x1.heap.size + 1 := by simp
                have S3 := hide (GRow.keep S2.out K3 (fun g hg q9 => by have a1 := HGL.out g q9; have a2 := HSL.out g hg; omega))
                have SH3 := hide (Seen.lies (Go.QK.Seen.keep SH2.out K3 (fun ad hd q9 => by
                  have a1 := (World.ownsRow.lt OH.out ad.block (by rw [hd]; rfl)).1
                  have a2 := (World.ownsRow.lt A.out.g.row _ q9).2
                  omega)))
                rw [zz] at z3
                have Q1 := hide f1
                have Q2 := hide f2
                have Q3 := hide f3
                clear f1 f2 f3 K3 zz S2 SH2 G2
                go_wp2_with (at_builtin; first | (refine wpList_appR Try.underlying36 info3 rfl (by decide) (by decide) rfl (.tmp _) (.tmp _) rfl w3.heap.size _ 0 [] rfl (World.ownsRow_nil _ _ _ _) ah ks.length ch (ks.map (Value.int .i64)) rfl (by simp) SH3.out (by intro u hu; obtain ⟨z, _, rfl⟩ := List.mem_map.1 hu; rfl) (by intro q; subst q; exact absurd rfl nb) (by omega) (Nat.le_refl _) ?_; intro v4 w4 p1 p2 p3; obtain ⟨av, nv, cv, rfl⟩ : ∃ a n c, v4 = .slice a n c := (by obtain ⟨a, c, e, _⟩ := GRow.lies p1; exact ⟨a, _, c, e⟩); have B4 := hide ((Below.refl w3.heap.size w3).grown p2 (Nat.le_refl _) (by intro j hj; cases hj)); have O4 := hide (show Owns .i64 3 w4 w3.heap.size (.slice av nv cv) ks from by unfold Owns; simpa using p1); have S5 := hide (GRow.below (GRow.below S3.out B4.out) (alloc_below w4 (.cells #[.slice av nv cv] 36))); have L5 := hide (lit_lies w4 #[.slice av nv cv] 36); have z4 := B4.out.size) | (refine wpList_appR Try.underlying29 info36 rfl (by decide) (by decide) rfl (.tmp _) (.tmp _) rfl w.heap.size _ M.length (M.map Prod.fst) rfl S5.out (some ⟨w4.heap.size, 0, none⟩) 1 1 [.slice av nv cv] rfl rfl L5.out (by simp [Value.oneCell']) (by nofun) (by omega) (by simp; omega) ?_; intro v6 w6 t1 t2 t3))
                have AA := OwnSt.ask A.out HML.out H1.out OH.out Q1.out Q2.out Q3.out B4.out O4.out t1 t2 t3
                have AA := hide AA
                clear p1 p2 p3 t1 t2 t3 A H1 OH Q1 Q2 Q3 B4 O4 S5 L5 LI S3 SH3 z4 HGL HSL
                go_roundw
                case rel =>
                  obtain ⟨lab', hA⟩ := AA.out
                  have hr : ∃ (zn' : Nat) (lab' : Nat → Nat) (L' M' : Ents), zn' ≤ 2 ∧ Value.int .i64 ((zn : Int) + 1) = .int .i64 zn' ∧ OwnSt lab' w w6 b m e' v3 v6 L' M' ∧ M'.length = L'.length ∧ M'.map Prod.snd = L'.map Prod.snd ∧ L'.length ≤ 2 * k + zn' ∧ (zn' = 0 ∨ (M'.map Prod.snd).getLast? = some ks) ∧ ∀ p ∈ L', p.2.length ≤ 1000 := ⟨zn + 1, lab', _, _, by omega, by simp, hA, by simp [HML.out], by simp [HMS.out], by simp; omega, .inr (by simp), (by intro p hp; rcases List.mem_append.1 hp with q | q; exact HLS.out p q; simp at q; rw [q]; show ks.length ≤ 1000; omega)⟩
                  first | exact hr
                case measure => simp [intOf]; omega
              · obtain rfl : zn = 2 := by omega
                have hla := HLA.out.resolve_left (by omega)
                have HLA := hide hla
                clear hla
                go_wp2_with fail
                go_roundw
                case rel => first | exact ⟨k + 1, lab, e', L, M, by omega, by go_num, A.out, HML.out, HMS.out, by omega, .inr (by rw [HKS.out]; exact HLA.out), H8'.out, hN, HLS.out⟩ | ((repeat apply Exists.intro); exact ⟨⟨k + 1, lab, e', L, M, by omega, by go_num, A.out, HML.out, HMS.out, by omega, .inr (by rw [HKS.out]; exact HLA.out), H8'.out, hN, HLS.out⟩, rfl⟩)
                case measure => simp [intOf]; omega
end Go.Proofs.Ytcnlcmdppkdmmaa
