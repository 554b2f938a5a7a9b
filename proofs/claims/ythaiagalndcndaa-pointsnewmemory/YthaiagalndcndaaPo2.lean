import Derived.Test.YthaiagalndcndaaPo1
namespace Go.Proofs.Ythaiagalndcndaa
open Go.RowKit Go.QK Go.Maps Go.QM Go.QP
set_option maxRecDepth 100000
theorem I64.small {z : Int} (h0 : 0 ≤ z) (h1 : z ≤ 2147483647) : I64 z := by unfold I64; omega
set_option maxHeartbeats 1000000 in
theorem told_any (m : Nat) (l : List Dr) (w : World) (h : DM w m l) : Calls Try.prog 36 #[.map (some m)] w fun e w' => ∃ v, e = .returned v ∧ DRow w' w.heap.size v (tidy l) ∧ Below w.heap.size w w' := by
  have HD := hide h
  clear h
  go_enter Try.func36, Try.ntmps36
  go_wp2
  go_loopw [3, 7] (fun v i wr => ∃ k : Nat, i = .int .i64 (k : Int) ∧ k ≤ 64 ∧ DRow wr w.heap.size v (told (lst l) k) ∧ Below w.heap.size w wr) (fun _ i _ => 64 - (intOf i).toNat)
  case atStart => exact ⟨0, rfl, Nat.zero_le _, World.ownsRow_nil w w.heap.size 28 2, Below.refl _ _⟩
  case round =>
    obtain ⟨k, rfl, hk, hr, hb⟩ := hrel
    have B0 := hide hb
    obtain ⟨ks, hc, -⟩ := HD.out.below hb
    have HC := hide hc
    have hle := told_len (lst l) k
    obtain ⟨n, hn⟩ : ∃ n, n = (told (lst l) k).length := ⟨_, rfl⟩
    have R0 := hide (show GRow wr w.heap.size 28 2 u3 n (drs (told (lst l) k)) by rw [hn]; exact hr)
    rw [← hn] at hle
    have HN := hide hn
    obtain ⟨av, cv, hv, -⟩ := GRow.lies R0.out
    subst hv
    clear hr hb hc hn
    have HI : Hid (I64 (k : Int)) := I64.small (by omega) (by omega)
    by_cases hlt : k < 64
    · cases hg : lst l (k : Int) with
      | none =>
        have HG := hide hg
        have RN := hide (show DRow wr w.heap.size (.slice av n cv) (told (lst l) (k + 1)) by
          have e : told (lst l) (k + 1) = told (lst l) k := by simp [told, one, hg]
          rw [e]
          show GRow wr w.heap.size 28 2 (.slice av n cv) (told (lst l) k).length (drs (told (lst l) k))
          rw [← HN.out]
          exact R0.out)
        clear hg
        go_wp2_with (refine wpList_look_cm HC.out Try.underlying62 zero3 HI.out rfl _ _ rfl rfl rfl ?_; rw [HG.out]; simp only [Option.map_none, Option.getD_none, Option.isSome_none])
        go_roundw
        case rel => exact ⟨k + 1, by go_num, by omega, RN.out, B0.out⟩
        case measure => simp [intOf]; omega
      | some s =>
        have HG := hide hg
        have HT := hide (show told (lst l) (k + 1) = told (lst l) k ++ [((k : Int), s)] by simp [told, one, hg])
        clear hg
        go_wp2_with (first
          | (refine wpList_look_cm HC.out Try.underlying62 zero3 HI.out rfl _ _ rfl rfl rfl ?_; rw [HG.out]; simp only [Option.map_some, Option.getD_some, Option.isSome_some])
          | (at_builtin; refine wpList_appR Try.underlying23 info28 rfl (by decide) (by decide) rfl (.tmp _) (.tmp _) rfl w.heap.size _ n (drs (told (lst l) k)) rfl (GRow.below R0.out (alloc_below _ _)) (some ⟨wr.heap.size, 0, none⟩) 1 1 (drs [((k : Int), s)]) rfl rfl (lies_new2 _ ((k : Int), s) 28) (drs_one _) (by nofun) (by omega) (by have := B0.out.size; simp; omega) ?_; intro vn w2 q1 q2 q3))
        have B2 : Below w.heap.size w w2 := (B0.out.alloc B0.out.size _).trans ((grown_keep q2).below (by have := B0.out.size; simp; omega) (fun z hz q => by have := (World.ownsRow.lt R0.out z q).1; omega))
        have R2 := hide (show DRow w2 w.heap.size vn (told (lst l) (k + 1)) by
          rw [HT.out]
          show GRow w2 w.heap.size 28 2 vn (told (lst l) k ++ [((k : Int), s)]).length (drs (told (lst l) k ++ [((k : Int), s)]))
          rw [List.length_append, ← HN.out, drs_append]
          exact q1)
        go_roundw
        case rel => exact ⟨k + 1, by go_num, by omega, R2.out, B2⟩
        case measure => simp [intOf]; omega
    · obtain rfl : k = 64 := by omega
      go_wp2
      go_ret
      refine ⟨_, rfl, ?_, B0.out⟩
      show GRow wr w.heap.size 28 2 _ (told (lst l) 64).length (drs (told (lst l) 64))
      rw [← HN.out]
      exact R0.out
theorem Lies.keepM {w w' : World} {a : Option Addr} {cs : List Value} {m : Nat} {f : Int → Option Value} {ks : List Int} (h : Lies w a cs) (hc : CM w m f ks) (hk : Keep (fun k => k = m) w w') : Lies w' a cs := by
  by_cases q : cs = []
  · exact .inl q
  · refine h.keep hk (fun ad had r => ?_)
    have h0 : 0 < cs.length := List.length_pos_iff.2 q
    rcases h with h | ⟨b, off, e, hb, hh⟩
    · exact q h
    · rw [had] at e
      cases e
      obtain ⟨L, _, ⟨es, clock, hm, _⟩, _⟩ := hc
      have c0 := hh 0 h0
      simp only at r
      subst r
      simp [World.cell?, hm] at c0
set_option maxHeartbeats 1000000 in
theorem tidy_any (m : Nat) (f : Int → Option Value) (ks : List Int) (a : Option Addr) (c : Nat) (l : List Dr) (w : World) (h : CM w m f ks) (hl : Lies w a (drs l)) (hf : Fine l) (hn : l.length < 1000000) :
    Calls Try.prog 26 #[.map (some m), .slice a l.length c] w fun e w' => ∃ v, e = .returned v ∧ DRow w' w.heap.size v (tidy l) ∧ DM w' m l ∧ Keep (fun k => k = m) w w' := by
  obtain ⟨wc, hrun, hcm, hba⟩ := h.clear Try.underlying62
  have HL := hide (hl.keepM h (grown_m hba.1))
  have D0 := hide (show DM wc m [] from ⟨[], hcm, Nat.le_refl _⟩)
  have K0 := hide (grown_m hba.1)
  have HF := hide hf
  have hmw := h.lt
  clear h hl hf hcm hba
  go_enter Try.func26, Try.ntmps26
  go_wp2
  clear hrun
  go_loopw [10] (fun i wr => ∃ k : Nat, i = .int .i64 (k : Int) ∧ k ≤ l.length ∧ DM wr m (l.take k) ∧ Lies wr a (drs l) ∧ Keep (fun k => k = m) w wr) (fun i _ => l.length - (intOf i).toNat)
  case atStart => exact ⟨0, rfl, Nat.zero_le _, by simpa using D0.out, HL.out, K0.out⟩
  case round =>
    obtain ⟨k, rfl, hk, hd, hli, hkp⟩ := hrel
    have HD := hide hd
    have HLI := hide hli
    have HK := hide hkp
    clear hd hli hkp D0 HL K0
    by_cases hlt : k < l.length
    · obtain ⟨b, off, rfl, hb, c0, c1⟩ := HLI.out.dr hlt
      have hgd := HF.out l[k] (List.getElem_mem hlt)
      have ht := List.take_succ_eq_append_getElem hlt
      generalize l[k] = d at *
      obtain ⟨p, s⟩ := d
      have HT := hide ht
      have hI : I64 p := I64.small hgd.1 (by have := hgd.2.1; simp only at this; omega)
      clear ht hgd
      simp only at c0 c1
      go_wp2_with fail
      refine (gtake_any m (l.take k) (p, s) _ (HD.out.below (alloc_below _ _)) hI (by simp; omega)).mono ?_
      rintro e w2 ⟨rfl, q1, q2⟩
      have D2 := hide (show DM w2 m (l.take (k + 1)) by rw [HT.out]; exact q1)
      have L2 := hide ((show Lies w2 (some ⟨b, off, none⟩) (drs l) from by
        obtain ⟨ks, hc, -⟩ := HD.out.below (alloc_below wr (.cells #[.int .i64 p, .int .i64 s] 28))
        exact (HLI.out.below (alloc_below _ _)).keepM hc q2))
      have K2 := hide ((HK.out.alloc (.cells #[.int .i64 p, .int .i64 s] 28)).trans q2 (fun _ _ q => q))
      clear q1 q2
      go_wp2_with fail
      go_roundw
      case rel => exact ⟨k + 1, by go_num, by omega, D2.out, L2.out, K2.out⟩
      case measure => simp [intOf]; omega
    · obtain rfl : k = l.length := by omega
      have D2 := HD.out
      rw [List.take_length] at D2
      have KT := told_any m l wr D2
      have HD2 := hide D2
      clear D2 HD
      go_wp2_with fail
      refine KT.mono ?_
      rintro e w2 ⟨v, rfl, q1, q2⟩
      have R := hide (GRow.mono q1 HK.out.size)
      have D3 := hide (HD2.out.below q2)
      have K3 := hide (HK.out.then_below q2)
      clear q1 q2 KT
      go_wp2_with fail
      go_ret
      exact ⟨v, rfl, R.out, D3.out, K3.out⟩
end Go.Proofs.Ythaiagalndcndaa
