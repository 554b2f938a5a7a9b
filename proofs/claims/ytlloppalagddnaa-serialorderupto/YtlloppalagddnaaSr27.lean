import Derived.Test.YtlloppalagddnaaSr26
set_option linter.all false
namespace Go.Proofs.Ytlloppalagddnaa
open Go.RowKit Go.QK Quota Go.Maps Go.QM Go.QS
set_option maxRecDepth 100000
set_option maxHeartbeats 16000000 in
theorem turned_any (ra : Option Addr) (rcap : Nat) (rs : List RI) (ta : Option Addr) (tcap : Nat) (ts : List Int) (w : World) (h : RunsI w ra rs) (h200 : rs.length ≤ 200) (hna : ra = none → rcap = 0 ∧ rs.length = 0)
    (ht : Lies w ta (ts.map (Value.int .i64))) (htl : ts.length ≤ 1000000000000000) (hti : ∀ t ∈ ts, I64 t) (hn : ∀ r ∈ rs, (r.l.length + 1) * 24 ≤ 140737488355328) :
    Calls Try.prog 12 #[.slice ra rs.length rcap, .slice ta ts.length tcap] w fun e w' => ∃ oa oc os, e = .returned (.slice oa os.length oc) ∧ os.length = rs.length ∧ GRow w' w.heap.size 82 2 (.slice oa os.length oc) os.length (rowsC riC os) ∧ (∀ r ∈ os, NO w' w.heap.size r) ∧
      (netsOf os).Perm ((netsOf rs).map List.reverse) ∧ Below w.heap.size w w' := by
  have HR := hide h
  have HNN := hide hn
  have HT := hide ht
  have HTI := hide hti
  have HNA := hide hna
  have hl2 := ris_len rs
  clear h hn ht hti hna
  go_enter Try.func12, Try.ntmps12
  generalize hN : w.heap.size = N at *
  have HN := hide hN
  clear hN
  go_upto_region 3 with (at_builtin; refine wpList_appW Try.underlying36 info82 rfl (by decide) (by decide) rfl (.tmp 12) (.tmp 13) rfl N (.slice none 0 0) 0 [] rfl (World.ownsRow_nil _ _ _ _) ra rs.length rcap (rowsC riC rs) rfl hl2 HR.out.row (ris_one rs) HNA.out (by omega) (by have := HN.out; omega) ?_; intro v5 w5 q1 q2 q3; rw [Nat.zero_add, List.nil_append] at q1; have b5 : Below w.heap.size w w5 := (Below.refl _ _).grown q2 (Nat.le_refl _) (by nofun))
  have T0 := hide (show Tn w w5 N rs v5 (.slice none 0 0) rs [] from ⟨q1, World.ownsRow_nil _ _ _ _, (by intro g _ q; cases q), fun r hr => hr, (by intro r hr; cases hr), (by simp [netsOf]), (by simp), (by rw [← HN.out]; exact b5)⟩)
  clear q1 q2 q3 b5
  go_wp2_with fail
  go_loopw [7, 5, 6] (fun i lv ov wr => ∃ L O : List RI, i = .int .i64 (O.length : Nat) ∧ Tn w wr N rs lv ov L O) (fun i _ _ _ => rs.length - (intOf i).toNat)
  case atStart => exact ⟨rs, [], rfl, T0.out⟩
  case round =>
    obtain ⟨L, O, rfl, hT⟩ := hrel
    have hlen := hT.len
    obtain ⟨la, lc, el, hll, hlc, hlm, hln, hla⟩ := GRow.lies hT.left
    subst el
    have HTn := hide hT
    have swr : N ≤ wr.heap.size := by have := hT.below.size; have := HN.out; omega
    by_cases hlt : L.length = 0
    · have HP := hide hT.perm
      obtain ⟨oa, oc, eo, _⟩ := GRow.lies hT.out
      subst eo
      clear hT
      have e0 := List.eq_nil_of_length_eq_zero hlt
      subst e0
      go_wp2_with fail
      go_ret
      refine ⟨oa, oc, O, rfl, by simpa using hlen, HTn.out.out, HTn.out.nets, ?_, HTn.out.below⟩
      have := HP.out
      simpa [netsOf] using this
    · obtain ⟨lb, hlb⟩ : ∃ lb, la = some ⟨lb, 0, none⟩ := by
        obtain ⟨g, c, e, _⟩ := grow_open hT.left (by omega)
        cases e
        exact ⟨g, rfl⟩
      subst hlb
      have hpos : 0 < L.length := by omega
      clear hT hll hla hln
      go_upto_if 22 with fail
      go_cut [8] from 15 to 75 (fun x w' => (∃ j : Nat, x = .int .i64 j ∧ j < L.length) ∧ Below wr.heap.size wr w')
      case first =>
        by_cases hz1 : 0 < ts.length
        case neg =>
          go_wp2_with fail
          go_meet
          exact ⟨⟨0, rfl, hpos⟩, Below.refl _ _⟩
        case pos =>
          have hb2 := HTn.out.below
          have rem : ((O.length : Nat) : Int) % (ts.length : Int) = ((O.length % ts.length : Nat) : Int) := by omega
          have hm : O.length % ts.length < ts.length := Nat.mod_lt _ hz1
          obtain ⟨tb, tof, e1, htb, ct⟩ := Lies.cellAt (HT.out.below (show Below w.heap.size w wr by rw [HN.out]; exact hb2)) (O.length % ts.length) (.int .i64 ts[O.length % ts.length]) (by simp [hm])
          subst e1
          generalize ts[O.length % ts.length] = t at *
          generalize O.length % ts.length = q at *
          have hmod := modulo_any t L.length
          have hj0 := Int.emod_nonneg t (show (L.length : Int) ≠ 0 by omega)
          have hj1 := Int.emod_lt_of_pos t (show (0 : Int) < L.length by omega)
          obtain ⟨jj, hjj⟩ := Int.eq_ofNat_of_zero_le hj0
          rw [hjj] at hmod hj1
          clear hb2
          go_wp2_with (refine (hmod _ (by omega) (by omega)).mono ?_; rintro r x1 ⟨rfl, hh⟩)
          go_meet
          exact ⟨⟨jj, rfl, by omega⟩, hh⟩
      case rest =>
        obtain ⟨⟨j, rfl, hj⟩, hbc⟩ := hcut
        have BC := hide hbc
        have TL := hide (show GRow wc N 82 2 (.slice (some ⟨lb, 0, none⟩) L.length lc) L.length (rowsC riC L) from HTn.out.left.below hbc)
        have HRL := hide (show Lies wc (some ⟨lb, 0, none⟩) (rowsC riC L) by obtain ⟨a, c, e, hl, _⟩ := GRow.lies TL.out; cases e; exact hl)
        have sw : w.heap.size ≤ wc.heap.size := by have := HN.out; have := hbc.size; omega
        have bw := HTn.out.below.trans (hbc.mono swr)
        obtain ⟨ab, ao, e2, hbl, c0, c1⟩ := ri_at HRL.out j hj
        cases e2
        rw [Nat.zero_add] at c0 c1
        have hmem : L[j] ∈ rs := HTn.out.mem _ (List.getElem_mem hj)
        have hne := HR.out.nets _ hmem
        have hnn := HNN.out _ hmem
        have hne2 := hne.below (show Below w.heap.size w wc by rw [HN.out]; exact bw)
        have HG := hide (show ∀ r : RI, r.l = L[j].l.reverse → (netsOf (O ++ [r]) ++ (netsOf (L.take j ++ L.drop (j + 1))).map List.reverse).Perm ((netsOf rs).map List.reverse) from fun r hr => HTn.out.perm' j hj r hr)
        clear hbc bw hne hmem
        generalize L[j] = r at *
        obtain ⟨rt, raa, rcc, rl⟩ := r
        simp only at c0 c1 hnn hne2 HG
        have HNE := hide hne2
        clear hne2
        go_wp2_with fail
        go_loopw [10, 9] (fun i hv wx => ∃ (z : Int) (m : Nat), i = .int .i64 z ∧ m ≤ rl.length ∧ z = (rl.length : Int) - 1 - m ∧ GRow wx wc.heap.size 74 3 hv m (hns (rl.reverse.take m)) ∧ Below wc.heap.size wc wx) (fun i _ _ => (intOf i + 1).toNat)
        case atStart => exact ⟨_, 0, rfl, Nat.zero_le _, by omega, World.ownsRow_nil _ _ _ _, Below.refl _ _⟩
        case round =>
          obtain ⟨z, m, rfl, hm, hz, hrow, hbx⟩ := hrel
          by_cases hml : m < rl.length
          · obtain ⟨q, hq⟩ : ∃ q, rl.length = m + q + 1 := ⟨rl.length - m - 1, by omega⟩
            obtain rfl : z = (q : Int) := by omega
            have hql : q < rl.length := by omega
            have hrev := hide (show rl.reverse.take (m + 1) = rl.reverse.take m ++ [rl[q]] by
              rw [List.take_succ_eq_append_getElem (by simp; omega)]
              congr 2
              rw [List.getElem_reverse]
              congr 1
              omega)
            obtain ⟨nb, nof, e3, nbl, d0, d1, d2⟩ := hn_at (HNE.out.below hbx) q hql
            have e1 := (hbx.cell (p := ⟨lb, j * 2 + 1, none⟩) hbl).trans c1
            subst e3
            generalize rl[q] = x at *
            obtain ⟨xt, xc, xd⟩ := x
            simp only at d0 d1 d2
            have swx := hbx.size
            have HBX := hide hbx
            have HROW := hide hrow
            have HQ := hide hq
            clear hbx hrow c0 c1 hq hz
            go_upto_region 12 with (at_builtin; refine wpList_appW Try.underlying30 info74 rfl (by decide) (by decide) rfl (.tmp 44) (.tmp 53) rfl wc.heap.size u9 m (hns (rl.reverse.take m)) rfl (HROW.out.below (alloc_below _ _)) (some ⟨wr.heap.size, 0, none⟩) 1 1 (hns [(xt, xc, xd)]) rfl rfl (lies_one hnC wr (xt, xc, xd) #[.int .i64 xt, .int .i64 xc, .int .i64 xd] 74 rfl) (hns_one [(xt, xc, xd)]) nofun (by omega) (by simp; omega) ?_; intro v6 w6 q1 q2 q3; rw [← hns_app, ← hrev.out] at q1; have b6 : Below wc.heap.size wc w6 := (HBX.out.trans ((alloc_below wr (.cells #[.int .i64 xt, .int .i64 xc, .int .i64 xd] 74)).mono swx)).grown q2 (by simp; omega) (fun z hz => (World.ownsRow.lt HROW.out z hz).1))
            have HBR := hide q1
            have B6 := hide b6
            clear q1 q2 q3 b6 HROW HBX d0 d1 d2 e1
            go_wp2_with fail
            go_roundw
            case rel =>
              exact ⟨(q : Int) - 1, m + 1, by go_num, hml, by have := HQ.out; omega, HBR.out, B6.out⟩
            case measure => simp [intOf]; try omega
          · obtain rfl : z = -1 := by omega
            obtain rfl : m = rl.length := by omega
            have e5 : rl.reverse.take rl.length = rl.reverse := by rw [← List.length_reverse, List.take_length]
            rw [e5] at hrow
            obtain ⟨ha, hcp, e6, _⟩ := GRow.lies hrow
            subst e6
            have bo := BC.out.trans (hbx.mono BC.out.size)
            have swi : N ≤ wr.heap.size := by have := bo.size; omega
            have f0 := (hbx.cell (p := ⟨lb, j * 2, none⟩) hbl).trans c0
            have go := HTn.out.out.below bo
            have gl := TL.out.below hbx
            obtain ⟨v7, x7, hap, hr7, hk7, ho7⟩ := run_ri36 wr N u6 O go ⟨rt, ha, hcp, rl.reverse⟩ (by omega) swi
            have gl7 := gl.keep hk7 (fun g hg q => HTn.out.apart g hg q)
            have s7 : N ≤ x7.heap.size := Nat.le_trans swi hk7.size
            obtain ⟨v8, x8, v9, x9, ra1, b8, ra2, b9, g9⟩ := cut36 x7 lb lc N L gl7 j hj (by omega)
            have nr : NO wr wc.heap.size ⟨rt, ha, hcp, rl.reverse⟩ := by unfold NO; simpa using hrow
            have swc : N ≤ wc.heap.size := by have := HN.out; omega
            have FIN := hide (show Tn w x9 N rs v9 v7 (L.take j ++ L.drop (j + 1)) (O ++ [⟨rt, ha, hcp, rl.reverse⟩]) from by
              refine ⟨g9.mono s7, hr7.below b9, ?_, ?_, ?_, HG.out _ rfl, ?_, ?_⟩
              · intro g hg q
                have k1 := (World.ownsRow.lt g9 g hg).1
                have k2 := (World.ownsRow.lt hr7 g q).2
                omega
              · intro r hr
                rcases List.mem_append.1 hr with q | q
                · exact HTn.out.mem r (List.mem_of_mem_take q)
                · exact HTn.out.mem r (List.mem_of_mem_drop q)
              · intro r hr
                rcases List.mem_append.1 hr with q | q
                · have n1 : NO wr N r := (HTn.out.nets r q).below bo
                  exact GRow.below (GRow.keep n1 hk7 (fun g hg q2 => grow_apart n1 go (by decide) g hg q2)) b9
                · simp at q
                  subst q
                  have n1 : NO wr N _ := nr.mono swc
                  exact GRow.below (GRow.keep n1 hk7 (fun g hg q2 => grow_apart n1 go (by decide) g hg q2)) b9
              · have := HTn.out.len
                simp
                omega
              · exact ((HTn.out.below.trans (bo.mono swr)).trans (hk7.below swi (fun z hz q => by have := (World.ownsRow.lt go z q).1; omega))).trans (b9.mono s7))
            simp only [List.length_reverse] at hap
            have s1 := fun wq => slice36to (g := lb) (n := L.length) (cap := lc) j wq (by omega)
            have s2 := fun wq => slice36from (g := lb) (n := L.length) (cap := lc) (j + 1) wq (by omega) hlc
            have cj : (((j + 1 : Nat)) : Int) = (j : Int) + 1 := by omega
            rw [cj] at s2
            have HAP := hide hap
            have H8 := hide ra1
            have H9 := hide ra2
            have hj2 : j < 201 := by omega
            have hO : O.length < 201 := by omega
            clear hap ra1 ra2 cj gl gl7 go nr hr7 hk7 ho7 b8 b9 g9 c0 c1 bo hrow hbx e5 hz hm hml
            generalize dropR ⟨lb, 0, none⟩ lc (j + 1) = ad at *
            generalize L.length - (j + 1) = n2 at *
            generalize lc - (j + 1) = c2 at *
            go_upto_region 15 with (at_builtin; refine wpList_run rfl _ _ rfl rfl rfl HAP.out ?_)
            clear HAP f0
            go_upto_region 17 with (at_builtin; refine wpList_run rfl _ _ rfl rfl rfl H8.out ?_)
            clear H8
            go_wp2_with (at_builtin; refine wpList_run rfl _ _ rfl rfl rfl H9.out ?_)
            go_roundw
            case rel =>
              refine ⟨_, _, ?_, FIN.out⟩
              rw [List.length_append, List.length_singleton]
              go_num
            case measure => simp [intOf]; omega
end Go.Proofs.Ytlloppalagddnaa
