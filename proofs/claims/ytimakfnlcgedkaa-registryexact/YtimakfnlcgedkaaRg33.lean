import Derived.Test.YtimakfnlcgedkaaRg32
namespace Go.Proofs.Ytimakfnlcgedkaa
open Go.RowKit Go.QK Go.Maps Go.QM Go.QR
set_option maxRecDepth 100000
set_option maxHeartbeats 8000000 in
theorem law_exact (os : List OpM) (sa : Option Addr) (sc : Nat) (w : World) (hli : Lies w sa (rowsC opL os)) (hos : ∀ o ∈ os, I64 o.cn ∧ I64 o.gn) : Calls Try.prog 6 #[.slice sa os.length sc] w fun e w' => e = .returned (.bool true) ∧ Below w.heap.size w w' := by
  have HLI := hide hli
  have HOS := hide hos
  clear hli hos
  go_enter Try.func6, Try.ntmps6
  go_wp2_with fail
  refine (awake_any _).mono ?_
  rintro e w0 ⟨rfl, hb⟩
  have B0 := hide hb
  clear hb
  go_upto_region 4 with fail
  refine named (P := Code.wp _ _ _ _) ?_
  intro wt hwt
  have C0 := hide (show Cells wt w0.heap.size [.pointer none, .pointer none, .pointer none, .pointer none, .slice none 0 0, .slice none 0 0] by rw [hwt]; exact Cells.new _ _ _)
  have TOP := hide (show wt.heap.size = w0.heap.size + 1 by rw [hwt]; simp)
  have B1 := hide (show Below w.heap.size w wt by rw [hwt]; exact B0.out.alloc B0.out.size _)
  have LOW := hide B0.out.size
  clear hwt B0
  obtain ⟨t, htt⟩ : ∃ t, t = w0.heap.size := ⟨_, rfl⟩
  rw [← htt] at C0 TOP LOW ⊢
  clear htt
  have K1 : Calls Try.prog 19 #[ptr t, .int .i64 0, .int .i64 3] wt _ := begins_yes t 0 3 _ _ _ _ _ _ wt C0.out (by omega) (by omega) (by omega)
  unfold BegPost at K1
  go_wp2_with fail
  refine K1.mono ?_
  rintro e w2 ⟨rfl, w1, b0, m0, g0, c0, h1, p1, r1, l1, d1, n1, hw2⟩
  have Q1 := hide (And.intro h1 (And.intro p1 (And.intro r1 (And.intro l1 (And.intro d1 (And.intro n1 hw2))))))
  have C2 : Cells w2 t [ptr b0, .pointer none, ptr c0, .pointer none, .slice none 0 0, .slice none 0 0] := by
    have a1 := ((C0.out.below h1).stored (j := 0) (by simp) (ptr b0)).stored (j := 2) (by simp) (ptr c0)
    rw [hw2]
    simpa using a1
  have K2 : Calls Try.prog 19 #[ptr t, .int .i64 1, .int .i64 2] w2 _ := begins_yes t 1 2 _ _ _ _ _ _ w2 C2 (by omega) (by omega) (by omega)
  unfold BegPost at K2
  clear h1 p1 r1 l1 d1 n1 hw2 C2 K1
  go_wp2_with fail
  refine K2.mono ?_
  rintro e w4 ⟨rfl, w3, b1, m1, g1, c1, h3, p3, r3, l3, d3, n3, hw4⟩
  obtain ⟨h1, p1, r1, l1, d1, n1, hw2⟩ := Q1.out
  obtain ⟨lab, T, tb, heq, hTt, hls, hbel⟩ := init_tb C0.out TOP.out h1 p1 r1 l1 d1 n1 hw2 h3 p3 r3 l3 d3 n3 hw4
  have TB := hide tb
  have HQ := hide heq
  have HT := hide hTt
  have HL := hide (show T.ls.length ≤ 4 * 0 by rw [hls]; simp)
  have BF := hide (B1.out.trans (hbel.mono LOW.out))
  clear K2 h3 p3 r3 l3 d3 n3 hw4 h1 p1 r1 l1 d1 n1 hw2 Q1 tb heq hTt hls hbel C0 TOP B1
  go_wp2_with fail
  go_loopw [4] (fun v wr => ∃ k : Nat, v = .int .i64 (k : Int) ∧ k ≤ os.length ∧ k ≤ 100 ∧ ∃ lb T', Tb lb wr t T' ∧ (∀ j, j < 2 → T'.rp j = T'.rq j) ∧ T'.t = t ∧ T'.ls.length ≤ 4 * k ∧ Below w.heap.size w wr) (fun v _ => 100 - (intOf v).toNat)
  case atStart => exact ⟨0, rfl, Nat.zero_le _, by omega, lab, T, TB.out, HQ.out, HT.out, HL.out, BF.out⟩
  case round =>
    obtain ⟨k, rfl, hk1, hk2, lb, T', h1, h2, h3, h4, h5⟩ := hrel
    clear TB HQ HT HL BF
    have HB := hide h5
    by_cases hlt : k < os.length
    · by_cases hlt2 : k < 100
      · obtain ⟨bl, off, ha, hbl, hcell⟩ := Lies.rowAt opL 9 (fun _ => rfl) HLI.out k hlt (by omega)
        subst ha
        have hc : ∀ j v, (opL os[k])[j]? = some v → wr.cell? ⟨bl, off + k * 9 + j, none⟩ = some v := fun j v hv => (h5.cell (p := ⟨bl, off + k * 9 + j, none⟩) hbl).trans (hcell j v hv)
        have v0 := hc 0 _ rfl
        rw [Nat.add_zero] at v0
        have v1 := hc 1 _ rfl
        have v2 := hc 2 _ rfl
        have v3 := hc 3 _ rfl
        have v4 := hc 4 _ rfl
        have v5 := hc 5 _ rfl
        have v6 := hc 6 _ rfl
        have v7 := hc 7 _ rfl
        have v8 := hc 8 _ rfl
        obtain ⟨i1, i2⟩ := HOS.out os[k] (List.getElem_mem hlt)
        have KP := plays_any lb t T' os[k] wr h1 h2 i1 i2 (by omega)
        unfold TPost at KP
        rw [h3] at KP
        obtain ⟨o, ho⟩ : ∃ o, o = os[k] := ⟨_, rfl⟩
        rw [← ho] at KP v0 v1 v2 v3 v4 v5 v6 v7 v8
        have hk3 : decide ((k : Int) < 100) = true := by simp; omega
        have H4 := hide h4
        clear hc hcell ho h1 h2 h3 h4 h5 i1 i2
        go_wp2_with fail
        refine KP.mono ?_
        rintro e w2 ⟨rfl, lb', T'', g1, g2, g3, g4, g5⟩
        have KH := holds_any lb' t T'' w2 g1
        rw [g3] at KH
        have HG := hide (And.intro g1 (And.intro g2 g3))
        have HB2 := hide (HB.out.trans (g4.mono LOW.out))
        have HL2 := hide (show T''.ls.length ≤ 4 * (k + 1) by have := H4.out; omega)
        clear g1 g2 g3 g4 g5 KP HB H4 v0 v1 v2 v3 v4 v5 v6 v7 v8
        go_wp2_with fail
        refine KH.mono ?_
        rintro e w3 ⟨rfl, rfl⟩
        go_wp2_with fail
        go_roundw
        case rel => first | exact ⟨k + 1, by go_num, by omega, by omega, lb', T'', HG.out.1, HG.out.2.1, HG.out.2.2, HL2.out, HB2.out⟩ | ((repeat apply Exists.intro); exact ⟨⟨k + 1, by go_num, by omega, by omega, lb', T'', HG.out.1, HG.out.2.1, HG.out.2.2, HL2.out, HB2.out⟩, rfl⟩)
        case measure => simp [intOf]; omega
      · clear h1 h2 h3 h4 h5
        go_wp2_with fail
        go_ret
        exact ⟨rfl, HB.out⟩
    · clear h1 h2 h3 h4 h5
      go_wp2_with fail
      go_ret
      exact ⟨rfl, HB.out⟩
end Go.Proofs.Ytimakfnlcgedkaa
