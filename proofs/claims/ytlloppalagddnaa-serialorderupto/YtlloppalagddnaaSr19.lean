import Derived.Test.YtlloppalagddnaaSrW
set_option linter.all false
namespace Go.Proofs.Ytlloppalagddnaa
open Go.RowKit Go.QK Quota Go.Maps Go.QM Go.QS
set_option maxRecDepth 100000
set_option maxHeartbeats 8000000 in
theorem py_any (a : Option Addr) (cap : Nat) (l : List Cn) (ra : Option Addr) (rcap : Nat) (rs : List RI) (w : World) (h : Lies w a (cns l)) (hok : ∀ x ∈ l, x.Ok) (hl : l.length * 40 ≤ 140737488355328) (hr : RunsIn w ra rs) (hrl : rs.length * 32 ≤ 140737488355328) (hn : ∀ r ∈ rs, (r.l.length + 1) * 8 ≤ 140737488355328) :
    Calls Try.prog 17 #[.slice a l.length cap, .slice ra rs.length rcap] w fun e w' => (∃ v, e = .returned (.tuple #[v, .int .i64 (pyAt l (netsOf rs) : Nat), .int .i64 (pyErr l (netsOf rs))]) ∧ CRow w' w.heap.size v (pyL l (netsOf rs))) ∧ Below w.heap.size w w' := by
  by_cases hE : staE [] l = 0
  · have HPE := hide (show pyErr l (netsOf rs) = pyE (staC [] l) (netsOf rs) from if_pos hE)
    have HPA := hide (show pyAt l (netsOf rs) = pyK (staC [] l) (netsOf rs) from if_pos hE)
    have KS := started_ok a cap l w h hok hl hE
    have HC0 := hide (CsOk.sta CsOk.nil hok hE)
    have HR := hide hr
    have HN := hide hn
    have hnl : (netsOf rs).length = rs.length := by unfold netsOf; rw [List.length_map]
    have HNL := hide hnl
    clear h hr hn hE hnl
    go_enter Try.func17, Try.ntmps17
    go_wp2_with fail
    refine KS.mono ?_
    rintro e w1 ⟨m, rfl, hm, hlo, b1⟩
    have M1 := hide hm
    have B1 := hide b1
    clear KS hm b1
    go_wp2_with fail
    generalize hC0 : staC [] l = C0 at *
    have HCC := hide hC0
    clear hC0
    go_loopw [22] (fun i wr => ∃ k : Nat, k ≤ rs.length ∧ i = .int .i64 k ∧ pyE C0 ((netsOf rs).take k) = 0 ∧ AnyAt Try.prog 3 wr m (mapC (pyC C0 ((netsOf rs).take k))) ∧ Below w.heap.size w wr) (fun i _ => rs.length - (intOf i).toNat)
    case atStart => exact ⟨0, Nat.zero_le _, rfl, rfl, M1.out, B1.out⟩
    case round =>
      obtain ⟨k, hk, rfl, he, hmm, hb⟩ := hrel
      by_cases hlt : k < rs.length
      · have hlt2 : k < (netsOf rs).length := by rw [HNL.out]; exact hlt
        have e1 : (netsOf rs)[k] = rs[k].l := List.getElem_map RI.l
        have HET := hide (pyE_take (C := C0) k hlt2 he)
        have HCT := hide (pyC_take (C := C0) k hlt2)
        have HKS := hide (fun h2 => pyK_stop (C := C0) k hlt2 he h2)
        have HES := hide (fun h2 => pyE_stop (C := C0) (l := netsOf rs) (k + 1) h2)
        rw [e1] at HET HCT HKS
        have CO := hide (pyC_ok HC0.out he)
        have rw1 := HR.out.below hb
        have hmem : rs[k] ∈ rs := List.getElem_mem hlt
        obtain ⟨ab, ao, e2, hbl, c0, c1⟩ := ri_at rw1.row k hlt
        obtain ⟨hne, hnb⟩ := rw1.nets _ hmem
        have hfit := HR.out.fit _ hmem
        have hnn := HN.out _ hmem
        subst e2
        generalize pyC C0 ((netsOf rs).take k) = C at *
        generalize rs[k] = r at *
        obtain ⟨rt, raa, rc, rl⟩ := r
        simp only at c0 c1 hne hnb hfit hnn HET HCT HKS
        have lmw := World.ownsMap.lt hmm
        have bA := alloc_below wr (.cells #[.int .i64 rt, .slice raa rl.length rc] 32)
        have KP := play_any (wr.alloc (.cells #[.int .i64 rt, .slice raa rl.length rc] 32)) m C rt raa rc rl CO.out (anyAt_below hmm bA) (hne.below bA) (fun ad e => Nat.lt_of_lt_of_le (hnb ad e) bA.size) hfit hnn
        have B2 := hide (hb.trans (bA.mono hb.size))
        clear hmm hb rw1 hne hnb hfit hnn bA hmem e1 he M1 B1
        go_wp2_with fail
        refine KP.mono ?_
        rintro e w2 ⟨rfl, k2, hyes⟩
        have B3 := hide (B2.out.trans (k2.below B2.out.size (fun z hz q => by omega)))
        clear KP k2
        generalize hP : plyE C rl = P at *
        have HP := hide hP
        clear hP
        by_cases hz : P = 0
        · subst hz
          have M2 := hide (hyes (by first | trivial | rfl))
          clear hyes
          go_wp2_with fail
          go_roundw
          case rel => exact ⟨k + 1, hlt, by go_num, HET.out, by rw [HCT.out]; exact M2.out, B3.out⟩
          case measure => simp [intOf]; omega
        · have hz2 : (P != 0) = true := by simpa using hz
          have HZ := hide hz
          have HK := hide (HKS.out hz)
          have HE2 := hide (show pyE C0 (netsOf rs) = P from by rw [HES.out (by rw [HET.out]; exact hz), HET.out])
          clear hyes hz
          go_wp2_with fail
          refine bodyPost_ret (v := .tuple #[.slice none 0 0, .int .i64 (k : Nat), .int .i64 P]) (by simp [results, Try.results17, go_sem]) rfl ⟨⟨.slice none 0 0, by rw [HPE.out, HPA.out, HK.out, HE2.out], ?_⟩, B3.out⟩
          have : pyL l (netsOf rs) = [] := by unfold pyL; rw [HPE.out, HE2.out, if_neg HZ.out]
          rw [this]
          exact World.ownsRow_nil _ _ _ _
      · have hek : k = rs.length := by omega
        subst hek
        have e3 : (netsOf rs).take rs.length = netsOf rs := by rw [← HNL.out, List.take_length]
        rw [e3] at he hmm
        have HE3 := hide he
        have KT := told_any wr m _ (CsW.of (pyC_ok HC0.out he)) hmm
        have B2 := hide hb
        have S2 := hide hb.size
        have HKZ := hide (show pyK C0 (netsOf rs) = 0 from by
          have h5 : ∀ (C : Cs) (x : List (List Hn)), pyE C x = 0 → pyK C x = 0 := by
            intro C x
            induction x generalizing C with
            | nil => intro _; rfl
            | cons y ys ih =>
              intro h
              simp only [pyE] at h
              simp only [pyK]
              split at h
              · rename_i q; rw [if_pos q, if_pos h]
              · rename_i q; exact absurd h q
          exact h5 _ _ he)
        clear he hmm hb M1 B1
        go_wp2_with fail
        refine KT.mono ?_
        rintro e w3 ⟨v, rfl, r3, _, b3⟩
        have R3 := hide (GRow.mono r3 S2.out)
        have B3 := hide (B2.out.trans (b3.mono S2.out))
        clear KT r3 b3
        go_wp2_with fail
        refine bodyPost_ret (v := .tuple #[v, .int .i64 0, .int .i64 0]) (by simp [results, Try.results17, go_sem]) rfl ⟨⟨v, by rw [HPE.out, HPA.out, HE3.out, HKZ.out]; rfl, ?_⟩, B3.out⟩
        have : pyL l (netsOf rs) = cnL (pyC C0 (netsOf rs)) := by unfold pyL; rw [HPE.out, if_pos HE3.out, HCC.out]
        rw [this]
        exact R3.out
  · have KS := started_bad a cap l w h hok hl hE
    have HPE := hide (show pyErr l (netsOf rs) = staE [] l from if_neg hE)
    have HPA := hide (show pyAt l (netsOf rs) = 0 from if_neg hE)
    have h1 : (staE [] l != 0) = true := by simpa using hE
    have HZ := hide hE
    generalize hEE : staE [] l = E at *
    clear h hr hn hE hEE
    go_enter Try.func17, Try.ntmps17
    go_wp2_with fail
    refine KS.mono ?_
    rintro e w1 ⟨rfl, b1⟩
    have B1 := hide b1
    clear KS b1
    go_wp2_with fail
    refine bodyPost_ret (v := .tuple #[.slice none 0 0, .int .i64 0, .int .i64 E]) (by simp [results, Try.results17, go_sem]) rfl ⟨⟨.slice none 0 0, by rw [HPE.out, HPA.out]; rfl, ?_⟩, B1.out⟩
    have : pyL l (netsOf rs) = [] := by unfold pyL; rw [HPE.out, if_neg HZ.out]
    rw [this]
    exact World.ownsRow_nil _ _ _ _
end Go.Proofs.Ytlloppalagddnaa
