import Derived.Test.YtlloppalagddnaaSr7
set_option linter.all false
namespace Go.Proofs.Ytlloppalagddnaa
open Go.RowKit Go.QK Go.Maps Go.QM Go.QS Quota
set_option maxRecDepth 100000
/-! Of: the runs of a log. -/
theorem note_any (lab : Nat → Nat) (B : Nat) (w : World) (hb mn mh : Nat) (rv : Value) (rs : List RV) (D : Hd) (S : St) (n : Nat) (h : PH lab B w hb mn mh rv rs D S n) (r : RZ) (hd : I64 r.delta) (hn : (n + 1) * 32 ≤ 140737488355328) :
    Calls Try.prog 29 #[ptr hb, .agg (rzA r)] w fun e w' => e = .returned (.int .i64 (stepE S (roOf r))) ∧ Below B w w' ∧
      (stepE S (roOf r) = 0 → ∃ lab' rv' rs' D', PH lab' B w' hb mn mh rv' rs' D' (stepS S (roOf r)) (n + 1) ∧ rs'.map RV.rn = rs.map RV.rn ++ stepR S (roOf r)) := by
  have hB : B ≤ w.heap.size := by have := h.low.1; have := h.lt; omega
  by_cases hc : chkR (roOf r) = 0
  · have e1 : stepE S (roOf r) = if r.kind = 3 ∧ fitB (netOf S r.tx r.id + r.delta) = false then 10 else 0 := by unfold stepE; rw [if_pos hc]; rfl
    by_cases k3 : r.kind = 3
    · cases hf : fitB (netOf S r.tx r.id + r.delta)
      · rw [e1, if_pos ⟨k3, hf⟩]
        refine (note_addno lab B w hb mn mh rv rs D S n h r hd hn k3 hc hf).mono ?_
        rintro e w' ⟨rfl, h1⟩
        exact ⟨rfl, h1.mono hB, fun q => by cases q⟩
      · rw [e1, if_neg (by rw [hf]; simp)]
        refine (note_add lab B w hb mn mh rv rs D S n h r hd hn k3 hc hf).mono ?_
        rintro e w' ⟨rfl, h1, h2⟩
        exact ⟨rfl, h2, fun _ => h1⟩
    · rw [e1, if_neg (fun q => k3 q.1)]
      by_cases k4 : r.kind = 4
      · refine (note_undo lab B w hb mn mh rv rs D S n h r hd hn k4 hc).mono ?_
        rintro e w' ⟨rfl, h1, h2⟩
        exact ⟨rfl, h2, fun _ => h1⟩
      · by_cases k5 : r.kind = 5
        · refine (note_commit lab B w hb mn mh rv rs D S n h r hd hn k5 hc).mono ?_
          rintro e w' ⟨rfl, h1, h2⟩
          exact ⟨rfl, h2, fun _ => h1⟩
        · refine (note_other lab B w hb mn mh rv rs D S n h r hd hn k3 k4 k5).mono ?_
          rintro e w' ⟨rfl, h1, h2⟩
          exact ⟨rfl, h2, fun _ => h1⟩
  · have e1 : stepE S (roOf r) = chkR (roOf r) := by unfold stepE; rw [if_neg hc]
    rw [e1]
    refine (note_bad lab B w hb mn mh rv rs D S n h r hd hn hc).mono ?_
    rintro e w' ⟨rfl, h1⟩
    exact ⟨rfl, h1.mono hB, fun q => absurd q hc⟩
def lab0 (N : Nat) (z : Nat) : Nat := if z = N + 2 then 1 else z - N + 2
set_option maxHeartbeats 2000000 in
theorem newH_any (w : World) : Calls Try.prog 28 #[] w fun e w' => e = .returned (ptr (w.heap.size + 2)) ∧ PH (lab0 w.heap.size) w.heap.size w' (w.heap.size + 2) w.heap.size (w.heap.size + 1) (.slice none 0 0) [] [] st0 0 ∧ Below w.heap.size w w' := by
  have hmm := @run_makeMap Try.prog
  go_enter Try.func28, Try.ntmps28
  go_wp2_with fail
  go_ret
  refine ⟨rfl, ⟨?_, World.ownsRow_nil _ _ _ _, (fun r hr => by cases hr), ?_, ?_, (fun p hp => by cases hp), List.Pairwise.nil, (fun t c h => by cases h), StOk.nil, (fun p hp => by cases hp), ?_, ?_, ?_, (fun g hg => by cases hg), (fun p hp => by cases hp), ⟨by omega, by omega, by omega⟩, Nat.le_refl _⟩, ?_⟩
  · have := Cells.new ((w.alloc (.map #[] 0)).alloc (.map #[] 0)) #[.slice none 0 0, .map (some w.heap.size), .map (some (w.heap.size + 1))] 81
    simpa using this
  · exact ((NM.made w).below (alloc_below _ _)).below (alloc_below _ _)
  · have := anyAt_below (AnyAt.made Try.prog 3 (w.alloc (.map #[] 0))) (alloc_below _ (.cells #[.slice none 0 0, .map (some w.heap.size), .map (some (w.heap.size + 1))] 81))
    simpa using this
  · exact if_pos rfl
  · unfold lab0; rw [if_neg (by omega)]; omega
  · unfold lab0; rw [if_neg (by omega)]; omega
  · exact (((alloc_below _ _).alloc (by simp) _).alloc (by simp; omega) _)
/-- What Of answers: the runs, each with its nets. -/
structure RunsAt (w : World) (v : Value) (l : List Rn) : Prop where
  out : ∃ (a : Option Addr) (c : Nat) (rs : List RV), v = .slice a rs.length c ∧ rs.length ≤ c ∧ c ≤ maxLen ∧ (a = none → c = 0) ∧ Lies w a (rowsC rvC rs) ∧ (∀ r ∈ rs, Lies w r.a (hns (ofT r.tx r.l)) ∧ ∀ ad, r.a = some ad → ad.block < w.heap.size) ∧ rs.map RV.rn = l
theorem RunsAt.below {w w' : World} {v : Value} {l : List Rn} (h : RunsAt w v l) (k : Below w.heap.size w w') : RunsAt w' v l := by
  obtain ⟨a, c, rs, h1, h2, h2', h2'', h3, h4, h5⟩ := h.out
  exact ⟨a, c, rs, h1, h2, h2', h2'', h3.below k, fun r hr => ⟨(h4 r hr).1.below k, fun ad e => Nat.lt_of_lt_of_le ((h4 r hr).2 ad e) k.size⟩, h5⟩
theorem RunsAt.none_ (w : World) : RunsAt w (.slice none 0 0) [] := by
  refine ⟨⟨none, 0, [], rfl, Nat.le_refl _, by unfold maxLen; omega, fun _ => rfl, .inl rfl, ?_, rfl⟩⟩
  intro r hr
  cases hr
theorem PH.runsAt {lab : Nat → Nat} {B : Nat} {w : World} {hb mn mh : Nat} {rv : Value} {rs : List RV} {D : Hd} {S : St} {n : Nat} (h : PH lab B w hb mn mh rv rs D S n) : RunsAt w rv (rs.map RV.rn) := by
  obtain ⟨a, c, h1, h2, h3, h4, h5, h6⟩ := GRow.lies h.runs
  exact ⟨a, c, rs, h1, h3, h4, h5, h2, fun r hr => ⟨(h.nets r hr).1, fun ad ha => ((h.nets r hr).2 ad ha).1⟩, rfl⟩
def ros (l : List RZ) : List Ro := l.map roOf
def ofV (l : List RZ) : List Rn := if ofE st0 (ros l) = 0 then ofR st0 (ros l) else []
set_option maxHeartbeats 4000000 in
theorem of_any (a : Option Addr) (cap : Nat) (l : List RZ) (w : World) (h : Lies w a (rzs l)) (hd : ∀ r ∈ l, I64 r.delta) (hl : l.length * 168 ≤ 140737488355328) :
    Calls Try.prog 9 #[.slice a l.length cap] w fun e w' => (∃ v, e = .returned (.tuple #[v, .int .i64 (ofE st0 (ros l))]) ∧ RunsAt w' v (ofV l)) ∧ Below w.heap.size w w' := by
  go_enter Try.func9, Try.ntmps9
  go_wp2_with fail
  refine (newH_any w).mono ?_
  rintro e x0 ⟨rfl, ph0, b0⟩
  have HL := hide h
  have hrl : (ros l).length = l.length := List.length_map _
  have HRL := hide hrl
  clear h hrl
  generalize hN : w.heap.size = N at *
  have HN := hide hN
  clear hN
  go_wp2_with fail
  go_loopw [11] (fun i wr => ∃ k : Nat, k ≤ l.length ∧ i = .int .i64 k ∧ ofE st0 ((ros l).take k) = 0 ∧ Below N w wr ∧ ∃ lab rv rs D, PH lab N wr (N + 2) N (N + 1) rv rs D (ofS st0 ((ros l).take k)) k ∧ rs.map RV.rn = ofR st0 ((ros l).take k)) (fun i _ => l.length - (intOf i).toNat)
  case atStart => exact ⟨0, Nat.zero_le _, rfl, rfl, b0, _, _, _, _, ph0, rfl⟩
  case round =>
    obtain ⟨k, hk, rfl, he, hb, lab, rv, rs, D, ph, hr⟩ := hrel
    by_cases hlt : k < l.length
    · have HEE := hide (ofE_take (S := st0) (l := ros l) k (by rw [HRL.out]; exact hlt) he)
      have HSS := hide (ofS_take (S := st0) (l := ros l) k (by rw [HRL.out]; exact hlt))
      have HRR := hide (fun h2 => ofR_take (S := st0) (l := ros l) k (by rw [HRL.out]; exact hlt) he h2)
      have e1 : (ros l)[k]'(by rw [HRL.out]; exact hlt) = roOf l[k] := by unfold ros; simp
      have hdk := hd _ (List.getElem_mem hlt)
      obtain ⟨ab, ao, e2, hbl, hcell⟩ := rz_at (HL.out.below (HN.out ▸ hb)) k hlt
      subst e2
      rw [e1] at HEE HSS HRR
      generalize l[k] = r at *
      generalize hS : ofS st0 ((ros l).take k) = S at *
      have PHH := hide ph
      have HBB := hide hb
      have HHR := hide hr
      have HCE := hide hcell
      have sN : N ≤ x0.heap.size := by have := b0.size; have := HN.out; omega
      clear ph hb hr hcell e1 hS ph0 b0
      have KN := fun w3 h3 => note_any lab N w3 (N + 2) N (N + 1) rv rs D S k h3 r hdk (by omega)
      have HEV := hide (fun (h : stepE S (roOf r) ≠ 0) => show ofE st0 (ros l) = stepE S (roOf r) from by
        have := ofE_stop (S := st0) (l := ros l) (k + 1) (by rw [HEE.out]; exact h)
        rw [this, HEE.out])
      generalize hE : stepE S (roOf r) = E at *
      have HEQ := hide hE
      go_upto_region 5 with (first
        | refine wpList_ld (cs := rzA r) HCE.out rfl rfl ?_
        | (refine wpList_st (RBox.new _ _ _) rfl rfl rfl rfl rfl ?_; intro w3 rb3 k3; have RB3 := hide rb3; have K3 := hide k3; clear rb3 k3))
      have b3 := newBox K3.out
      have B3 := hide (HBB.out.trans (b3.mono (by have := HBB.out.size; have := HN.out; omega)))
      have P3 := hide (PHH.out.below b3)
      clear b3 K3 PHH HCE
      go_wp2_with (first
        | refine wpList_lb RB3.out rfl rfl ?_
        | fail)
      refine (KN _ P3.out).mono ?_
      rintro e w4 ⟨rfl, b4, hyes⟩
      have B4 := hide (B3.out.trans b4)
      clear b4 P3 KN B3 RB3
      by_cases hz : E = 0
      · subst hz
        obtain ⟨lab', rv', rs', D', ph', hr'⟩ := hyes rfl
        have PH2 := hide ph'
        have HR2 := hide hr'
        clear hyes ph' hr' hE
        go_wp2_with fail
        go_roundw
        case rel =>
          refine ⟨k + 1, by omega, by go_num, HEE.out, B4.out, lab', rv', rs', D', ?_, ?_⟩
          · rw [HSS.out]; exact PH2.out
          · rw [HRR.out (by first | trivial | rfl), HR2.out, HHR.out]
        case measure => simp [intOf]; omega
      · have hz2 : (E != 0) = true := by simpa using hz
        have HV := hide (HEV.out hz)
        have HZ := hide hz
        clear hyes hE hz HEV
        go_wp2_with fail
        go_ret2
        refine ⟨⟨.slice none 0 0, by rw [HV.out]; rfl, ?_⟩, by rw [HN.out]; exact B4.out⟩
        have : ofV l = [] := by unfold ofV; rw [HV.out, if_neg HZ.out]
        rw [this]
        exact RunsAt.none_ _
    · have hek : k = l.length := by omega
      subst hek
      have e3 : (ros l).take l.length = ros l := by rw [← HRL.out, List.take_length]
      rw [e3] at he hr
      have HE := hide he
      have HRU := hide (ph.runsAt)
      have HBB := hide hb
      obtain ⟨z0, z0f⟩ := ph.box.get 0 _ rfl
      have hV := hide (show ofV l = rs.map RV.rn by unfold ofV; rw [if_pos he, hr])
      obtain ⟨va, vc, hve, _⟩ := GRow.lies ph.runs
      subst hve
      clear he hr ph hb
      go_wp2_with fail
      go_ret2
      exact ⟨⟨.slice va rs.length vc, by rw [HE.out]; rfl, by rw [hV.out]; exact HRU.out⟩, by rw [HN.out]; exact HBB.out⟩
end Go.Proofs.Ytlloppalagddnaa
