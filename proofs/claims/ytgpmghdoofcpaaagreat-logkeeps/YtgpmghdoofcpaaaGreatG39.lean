import Derived.Test.YtgpmghdoofcpaaaGreatG38
namespace Go.Proofs.YtgpmghdoofcpaaaGreat.Lg
open Go.RowKit Go.QK
open Dv (hide bnext alloc_below load_arr store_arr slice_arr wp_load_arr wp_store_arr neq_arr info91)

theorem encB_ok {r : RecM} (h : chkE r = 0) : encB r = bytesR r := by unfold encB; rw [if_pos h]
theorem bytes_all {r : RecM} : AllB (bytesR r) := by
  intro x hx
  unfold bytesR at hx
  rw [List.mem_flatMap] at hx
  obtain ⟨n, _, hn⟩ := hx
  exact AllB.form n x hn
section
variable {w w' : World} {S S' T U : Nat → Prop} {l d : Nat} {g : Dev} {m : LogM}
/-- The last step of Append. -/
theorem LD.push (h : LD w S T l d g m) (hm : m.Ok) (ty : TypeId) (B : Nat) (v : Value) (b : List Nat) (hv : OwnB w B v b) (hB : ∀ k, T k → k < B) (hlB : l < B) (hSB : ∀ k, S k → k < B) (hb : AllB b ∧ b.length ≤ 502) (hBw : B ≤ w.heap.size) {rv : Value} (hr : w.cell? ⟨l, 3, none⟩ = some rv) :
    ∃ a c w' T', (Builtin.append_ #[107, 107] ty #[rv, .slice (some ⟨w.heap.size, 0, none⟩) 1 1]).run Tryz.prog (w.alloc (.cells #[v] 80)) = .ok (.slice a (m.recs.length + 1) c) w' ∧ w'.cell? ⟨l, 3, none⟩ = some rv ∧ w'.frozen? ⟨l, 3, none⟩ = false ∧
      LD (w'.setCell ⟨l, 3, none⟩ (.slice a (m.recs.length + 1) c)) S T' l d g { m with recs := m.recs ++ [b] } ∧ Keep (fun k => k = l ∨ T k) w (w'.setCell ⟨l, 3, none⟩ (.slice a (m.recs.length + 1) c)) ∧ (∀ k, T' k → T k ∨ B ≤ k) := by
  obtain ⟨rv', vs, h1, h2⟩ := h.recs
  obtain ⟨c3, _⟩ := h2.get 3 _ rfl
  rw [c3] at hr
  obtain rfl : rv' = rv := Option.some.inj hr
  have hlen := hm.len
  have hpl := hm.place
  have ba := alloc_below w (.cells #[v] 80)
  have hcell : (w.alloc (.cells #[v] 80)).cell? ⟨w.heap.size, 0, none⟩ = some v := ((Cells.new w #[v] 80).get 0 _ rfl).1
  obtain ⟨v', w', T', hr, h3, h4, h5⟩ := (h1.below ba).push ty ⟨w.heap.size, 0, none⟩ v b B hcell (Owns.below hv ba) (fun k hk q => by
    have := (World.ownsRow.lt hv k hk).1
    have := hB k q
    omega) (by omega) hb
  obtain ⟨a, c, e⟩ := h3.form
  have e : v' = .slice a (m.recs.length + 1) c := by rw [e]; simp
  subst e
  have hh := (h2.below ba).keep h4 h.nT
  obtain ⟨k3, f3⟩ := hh.get 3 _ rfl
  have hlt := h.lt
  have hsz : (w.alloc (.cells #[v] 80)).heap.size = w.heap.size + 1 := by simp
  have hown := fun k hk => (World.ownsRow.lt hv k hk).1
  have hnew : ∀ k, T' k → T k ∨ B ≤ k := fun k q => by
    rcases h5 k q with r | r | r
    · exact .inl r
    · exact .inr (hown k r)
    · exact .inr (by omega)
  have nT' : ¬ T' l := fun q => by
    rcases hnew l q with r | r
    · exact h.nT r
    · omega
  have kk : Keep (fun k => k = l ∨ T k) w (w'.setCell ⟨l, 3, none⟩ (.slice a (m.recs.length + 1) c)) := by
    refine Keep.setCell ?_ (fun _ => .inl rfl) _
    exact (Keep.of_below (S := fun k => k = l ∨ T k) ba).trans h4 (fun _ _ q => .inr q)
  refine ⟨a, c, w', T', hr, k3, f3, ⟨h.dev.keep kk (fun b q r => ?_), ⟨_, _, h3.keep ((Keep.refl (fun k => k = l) w').setCell (fun _ => rfl) _) (fun b q r => nT' (q ▸ r)), hh.stored (j := 3) (by simp [hdC]) _⟩, nT', h.nS, fun b q r => ?_⟩, kk, hnew⟩
  · rcases q with q | q
    · exact h.nS (q ▸ r)
    · exact h.ap b r q
  · rcases hnew b r with x | x
    · exact h.ap b q x
    · have := hSB b q; omega

set_option maxRecDepth 100000 in
set_option maxHeartbeats 4000000 in
theorem append_any (h : LD w S T l d g m) (hm : m.Ok) (r : RecM) (la da : Option Addr) (lc dc : Nat) (hl : Lies w la (liveCs r.live)) (hd : Lies w da (dirtyCs r.dirty)) (hf : Fits r) :
    Calls Tryz.prog 13 #[.pointer (some ⟨l, 0, none⟩), .agg (recC r la lc da dc)] w fun e w' => ∃ T', e = .returned (.tuple #[.int .i64 ((m.appN r : Nat) : Int), .int .i64 ((m.appE r : Nat) : Int)]) ∧ LD w' S T' l d g (m.appM r) ∧ Keep (fun k => k = l ∨ T k) w w' ∧ (∀ k, T' k → T k ∨ w.heap.size ≤ k) := by
  have hlen := hm.len
  have hpl := hm.place
  have hlt := h.lt
  obtain ⟨n, hn⟩ : ∃ n, n = m.recs.length + 1 := ⟨_, rfl⟩
  obtain ⟨ae, hae⟩ : ∃ q, q = m.appE r := ⟨_, rfl⟩
  obtain ⟨an, han⟩ : ∃ q, q = m.appN r := ⟨_, rfl⟩
  obtain ⟨am, ham⟩ : ∃ q, q = m.appM r := ⟨_, rfl⟩
  rw [← hae, ← han, ← ham]
  unfold LogM.appN at han
  unfold LogM.appM at ham
  rw [← hae] at han ham
  unfold LogM.appE at hae
  rw [← hn] at hae han ham
  have hfw : Fits (wl n r) := hf
  have KE := fun w' a b => encode_any (wl n r) la da lc dc w' a b hfw
  have HBL := hide (fun (q : chkE (wl n r) = 0) => bytes_502 q hfw)
  have HEB := hide (fun (q : chkE (wl n r) = 0) => encB_ok q)
  have HBA := hide (bytes_all (r := wl n r))
  generalize encB (wl n r) = eb at *
  generalize bytesR (wl n r) = br at *
  generalize hce : chkE (wl n r) = ce at *
  obtain ⟨q0, q1, q2, q3, q4, q5, q6, q7, q8, q9, q10, q11, q12, q13, q14, q15, q16⟩ := r
  simp only [wl] at KE hce
  simp only [recC] at *
  obtain ⟨w1, hw1⟩ : ∃ w1, w1 = w.alloc (.cells #[.int .i64 q0, .int .i64 q1, .int .i64 q2, .int .i64 q3, .int .i64 q4, .int .i64 q5, .int .i64 q6, .int .i64 q7, .int .i64 q8, .int .i64 q9, .int .i64 q10, .int .i64 q11, .int .i64 q12, .int .i64 q13, .slice la q14.length lc, .slice da q15.length dc, .int .i64 q16] 44) := ⟨_, rfl⟩
  have b1 : Below w.heap.size w w1 := by rw [hw1]; exact alloc_below _ _
  have X1 : RBox w1 w.heap.size 44 #[.int .i64 q0, .int .i64 q1, .int .i64 q2, .int .i64 q3, .int .i64 q4, .int .i64 q5, .int .i64 q6, .int .i64 q7, .int .i64 q8, .int .i64 q9, .int .i64 q10, .int .i64 q11, .int .i64 q12, .int .i64 q13, .slice la q14.length lc, .slice da q15.length dc, .int .i64 q16] := by rw [hw1]; exact RBox.new _ _ _
  have z1 : w1.heap.size = w.heap.size + 1 := by rw [hw1]; simp
  have H1 := hide (h.below b1)
  have HL := hide hl
  have HDD := hide hd
  obtain ⟨c5, _⟩ : w1.cell? ⟨l, 5, none⟩ = some (.bool m.ended) ∧ True := by
    obtain ⟨rv, vs, -, h2⟩ := (h.below b1).recs
    exact ⟨(h2.get 5 _ rfl).1, trivial⟩
  have HW := hide hw1
  have B1 := hide b1
  have HX := hide X1
  have HAE := hide hae
  have HAN := hide han
  have HAM := hide ham
  have HN := hide hn
  have HLT := hide hlt
  clear h hl hd hw1 b1 X1 hae han ham hf hfw hn hce hlt
  cases he : m.ended
  · rw [he] at c5
    have hae := HAE.out
    rw [he, if_neg (by simp)] at hae
    have HAE := hide hae
    clear hae
    have KL := hide (show Calls Tryz.prog 18 #[.pointer (some ⟨l, 0, none⟩)] w1 fun e w' => e = .returned (.int .i64 ((n - 1 : Nat) : Int)) ∧ w' = w1 from by rw [show n - 1 = m.recs.length by have := HN.out; omega]; exact lastL_any H1.out)
    have hn1 : wrap64 (((n - 1 : Nat) : Int) + 1) = (n : Int) := by have := HN.out; unfold wrap64; omega
    obtain ⟨x0, f0⟩ := HX.out.cells.get 0 _ rfl
    have ks : Keep (fun b => b = w.heap.size) w1 (w1.setCell ⟨w.heap.size, 0, none⟩ (.int .i64 (n : Int))) := (Keep.refl (fun b => b = w.heap.size) w1).setCell (fun _ => rfl) _
    have HLT' := HLT.out
    have H2 := hide (H1.out.keep ks (fun b q r => by have := HLT'.2.1 b r; omega) (fun b q r => by have := HLT'.2.2 b r; omega) (by omega))
    have X2 := hide (show RBox (w1.setCell ⟨w.heap.size, 0, none⟩ (.int .i64 (n : Int))) w.heap.size 44 #[.int .i64 (n : Int), .int .i64 q1, .int .i64 q2, .int .i64 q3, .int .i64 q4, .int .i64 q5, .int .i64 q6, .int .i64 q7, .int .i64 q8, .int .i64 q9, .int .i64 q10, .int .i64 q11, .int .i64 q12, .int .i64 q13, .slice la q14.length lc, .slice da q15.length dc, .int .i64 q16] from HX.out.setCell 0 (.int .i64 (n : Int)))
    have bs : Below w.heap.size w (w1.setCell ⟨w.heap.size, 0, none⟩ (.int .i64 (n : Int))) := B1.out.trans (ks.below (by omega) (fun k hk q => by omega))
    have z2 : (w1.setCell ⟨w.heap.size, 0, none⟩ (.int .i64 (n : Int))).heap.size = w.heap.size + 1 := by rw [World.size_setCell, z1]
    have KE2 := hide (KE _ (HL.out.below bs) (HDD.out.below bs))
    have BS := hide bs
    clear HX HL HDD KE ks bs he B1 HLT'
    go_enter Tryz.func13, Tryz.ntmps13
    go_upto_region 1 with fail
    rw [← HW.out]
    go_wp2_with fail
    refine KL.out.mono ?_
    rintro e w2 ⟨rfl, rfl⟩
    clear KL HW c5 H1
    go_wp2_with (refine wpList_load36 X2.out rfl rfl ?_)
    refine KE2.out.mono ?_
    rintro e w3 ⟨v3, rfl, o3, b3⟩
    obtain ⟨va, vc, ev, -⟩ := ownB_form o3
    have HEV := hide ev
    have O3 := hide o3
    have H3 := hide (H2.out.below b3)
    have B3 := hide (bnext BS.out b3 (Nat.le_refl _))
    have X3 := hide (X2.out.below b3)
    have z3 := b3.size
    rw [z2] at z3
    clear KE2 H2 BS X2 x0 f0 b3 o3 ev hn1
    by_cases hce : ce = 0
    · subst hce
      have hae := HAE.out
      rw [if_neg (by simp)] at hae
      have KF0 := hide (free_any H3.out hm)
      have hfi : m.count - m.recs.length = m.count - (n - 1) := by have := HN.out; omega
      by_cases hfull : m.count = m.recs.length
      · rw [if_pos hfull] at hae
        subst hae
        have han : 0 = an := HAN.out.symm
        subst han
        have ham : m = am := HAM.out.symm
        subst ham
        have KF := hide (show Calls Tryz.prog 10 #[.pointer (some ⟨l, 0, none⟩)] w3 fun e w' => e = .returned (.int .i64 ((0 : Nat) : Int)) ∧ Below w3.heap.size w3 w' from by have := KF0.out; rw [show m.count - m.recs.length = 0 by omega] at this; exact this)
        clear KF0
        clear hfull HAE HAN HAM hfi
        go_wp2_with fail
        refine KF.out.mono ?_
        rintro e w4 ⟨rfl, b4⟩
        have H4 := hide (H3.out.below b4)
        have B4 := hide (bnext B3.out b4 (Nat.le_refl _))
        clear KF H3 B3 b4
        go_wp2_with fail
        exact bodyPost_ret (v := .tuple #[.int .i64 0, .int .i64 6]) (by simp [results, Tryz.results13]) rfl ⟨T, rfl, H4.out, Keep.of_below B4.out, fun _ q => .inl q⟩
      · rw [if_neg hfull] at hae
        subst hae
        have han : n = an := HAN.out.symm
        subst han
        have ham := HAM.out
        rw [if_pos rfl] at ham
        have hfr : (((m.count - m.recs.length : Nat) : Int) == 0) = false := by simp; omega
        have hfr2 : ¬ (((m.count - m.recs.length : Nat) : Int) = 0) := by omega
        have KF := hide KF0.out
        have HAM := hide ham
        clear KF0
        generalize m.count - m.recs.length = fr at *
        clear hfull HAE HAN ham hfi
        go_wp2_with fail
        refine KF.out.mono ?_
        rintro e w4 ⟨rfl, b4⟩
        have H4 := H3.out.below b4
        obtain ⟨rv, hrv⟩ : ∃ rv, w4.cell? ⟨l, 3, none⟩ = some rv := by
          obtain ⟨rv, vs, -, h2⟩ := H4.recs
          exact ⟨rv, (h2.get 3 _ rfl).1⟩
        have heb := HEB.out trivial
        have o4 : OwnB w4 (w.heap.size + 1) v3 br := by
          rw [← heb]
          have := Owns.below O3.out b4
          rw [z2] at this
          exact this
        have hl502 := HBL.out trivial
        have z4 := Nat.le_trans z3 b4.size
        have HLT' := HLT.out
        obtain ⟨pa, pc, w5, T5, hrun, c35, f35, ld5, k5, n5⟩ := H4.push hm 107 (w.heap.size + 1) v3 br o4 (fun k q => by have := HLT'.2.2 k q; omega) (by omega) (fun k q => by have := HLT'.2.1 k q; omega) ⟨HBA.out, hl502.2⟩ (by omega) hrv
        rw [HEV.out] at hrun
        have K5 := hide ((Keep.of_below (S := fun k => k = l ∨ T k) (bnext B3.out b4 (Nat.le_refl _))).trans k5 (fun _ _ q => q))
        have X4 := X3.out.below b4
        have x5 := (X4.cells.get 0 _ rfl).1
        have x5' : (w5.setCell ⟨l, 3, none⟩ (.slice pa (m.recs.length + 1) pc)).cell? ⟨w.heap.size, 0, none⟩ = some (.int .i64 (n : Int)) := (k5.cell (p := ⟨w.heap.size, 0, none⟩) (by show w.heap.size < w4.heap.size; omega) (fun q => by
          rcases q with q | q
          · have e : w.heap.size = l := q
            omega
          · have := HLT'.2.2 _ q
            have e : w.heap.size < w.heap.size := this
            omega)).trans x5
        have HRUN := hide hrun
        have LD5 := hide ld5
        have N5 := hide n5
        obtain ⟨rva, rvn, rvc, erv⟩ : ∃ a n c, rv = .slice a n c := by
          obtain ⟨rv', vs, h1, h2⟩ := H4.recs
          rw [(h2.get 3 _ rfl).1] at hrv
          obtain ⟨a, c, e⟩ := h1.form
          exact ⟨a, _, c, (Option.some.inj hrv).symm.trans e⟩
        subst erv
        have HEV' := HEV.out
        subst HEV'
        clear KF H3 B3 b4 hrun ld5 k5 n5 o4 O3 H4 X3 X4 x5 HEV HBL HEB HBA
        generalize eb.length = ebl at *
        generalize hm1 : m.recs.length + 1 = m1 at *
        have HM1 := hide hm1
        clear hm1
        go_wp2_with (at_builtin; refine wpList_run rfl (.tmp 31) (.tmp 33) rfl rfl rfl HRUN.out ?_)
        refine bodyPost_ret (v := .tuple #[.int .i64 (n : Int), .int .i64 0]) (by simp [results, Tryz.results13]) rfl ⟨T5, rfl, ?_, K5.out, fun k q => ?_⟩
        · rw [HAM.out]
          exact LD5.out
        · rcases N5.out k q with r | r
          · exact .inl r
          · exact .inr (by omega)
    · have hae := HAE.out
      rw [if_pos hce] at hae
      subst hae
      have han := HAN.out
      rw [if_neg hce] at han
      subst han
      have ham := HAM.out
      rw [if_neg hce] at ham
      subst ham
      have hce1 : ¬ ((ae : Int) = 0) := by omega
      clear HAE HAN HAM
      go_wp2_with fail
      exact bodyPost_ret (v := .tuple #[.int .i64 0, .int .i64 (ae : Int)]) (by simp [results, Tryz.results13]) rfl ⟨T, rfl, H3.out, Keep.of_below B3.out, fun _ q => .inl q⟩
  · rw [he] at c5
    have hae := HAE.out
    rw [he, if_pos rfl] at hae
    subst hae
    have han : 0 = an := HAN.out.symm
    subst han
    have ham : m = am := HAM.out.symm
    subst ham
    clear HAE HAN HAM he
    go_enter Tryz.func13, Tryz.ntmps13
    go_upto_region 1 with fail
    rw [← HW.out]
    go_wp2_with fail
    exact bodyPost_ret (v := .tuple #[.int .i64 0, .int .i64 40]) (by simp [results, Tryz.results13]) rfl ⟨T, rfl, H1.out, Keep.of_below B1.out, fun _ q => .inl q⟩
end
end Go.Proofs.YtgpmghdoofcpaaaGreat.Lg

namespace Go.Proofs.YtgpmghdoofcpaaaGreat.Lg
open Go.RowKit Go.QK
open Dv (hide bnext alloc_below load_arr store_arr slice_arr wp_load_arr wp_store_arr neq_arr info91)

/-! A region that draws its order in a function that defers. -/
theorem leaves_tmps {P : Program} {fn : Func} {t t' : Array Value} {R : Ending → World → Prop} (h : results fn t = results fn t') : (ds : List Deferred) → (u : FrameMode) → (w : World) → Leaves P fn t R ds u w → Leaves P fn t' R ds u w
  | [], .returning, w, k => by
    obtain ⟨v, h1, h2⟩ := k
    exact ⟨v, by rw [← h]; exact h1, h2⟩
  | [], .panicking _, _, k => k
  | [], .run, _, k => k
  | d :: ds, u, w, k => by
    obtain ⟨h1, fv, cap, f, args, h2, h3, h4⟩ := k
    refine ⟨h1, fv, cap, f, args, h2, h3, h4.mono fun e u' w' q => ?_⟩
    cases e with
    | returned v => exact leaves_tmps h ds _ _ q
    | panicked c => exact leaves_tmps h ds _ _ q
    | outgrown => exact q
theorem results28 (t : Array Value) (d : Nat) (v : Value) (hd : d ≠ 4) : results Tryz.f28 (t.setIfInBounds d v) = results Tryz.f28 t := by
  have e : (t.setIfInBounds d v).getD 4 undef = t.getD 4 undef := by
    simp only [Array.getD_eq_getD_getElem?]
    rw [Array.getElem?_setIfInBounds_ne hd]
  unfold results
  simp only [Tryz.results28]
  simp
  simp only [Array.getD_eq_getD_getElem?] at e
  rw [e]
theorem force_put {R : Ending → World → Prop} {c : List PanicEntry} {a : Act} {w : World} {d : Nat} {v : Value} (hd : d ≠ 4) (h : bodyPostD Tryz.prog Tryz.f28 R (.panic c) (a.put (some d) v) w) : bodyPostD Tryz.prog Tryz.f28 R (.panic c) a w :=
  leaves_tmps (results28 a.tmps d v hd) _ _ _ h
section
variable {P : Program} {ops : Array Oper} {Q : Exit → Act → World → Prop} {md : Region.Mode} {Sw : World → Prop}
theorem take_atD (i : Nat) (d : Option Nat) {oi : Oper} {v : Value} {fuel : Nat} {listed : Array Bool} {t : Array Value} {ds : List Deferred} {w : World} (hi : ops[i]? = some oi) (hd : oi.dst = d)
    (hs : Region.noSelect ops = true) (hf : Region.free md ops listed i = true) (hr : (Region.ready md ops listed).contains i = true)
    (hQ : ∀ c a w, Q (.panic c) (a.put d v) w → Q (.panic c) a w)
    (hy : Region.wanted oi (yielded ops t) = true ∧ ∀ w, Sw w → (execOp (Act.eval { tmps := t, defers := ds }) oi).run P w = .ok (.value v) w) (hS : Sw w)
    (h : wpAnyH P md ops Q Sw fuel (listed.setIfInBounds i true) (Act.put { tmps := t, defers := ds } d v) w) : wpAnyH P md ops Q Sw (fuel + 1) listed { tmps := t, defers := ds } w := by
  subst hd
  exact wpAnyH_take hi hs hf hr hQ (Or.inl hy) hS h
end
set_option maxRecDepth 100000 in
theorem force_idle (b4 b2 : Nat) (w : World) :
    CallsD Tryz.prog 56 #[.pointer (some ⟨b4, 0, none⟩), .pointer (some ⟨b2, 0, none⟩)] .returning w fun e u' w' => e = .returned (.tuple #[]) ∧ u' = .returning ∧ w' = w := by
  refine callsD_of_wpS Tryz.func56 rfl fun c₀ cs hu => ?_
  apply wpS_seq
  apply wpS_region
  simp [wpOpsS, go_sem, recoverD, hu, Tryz.ntmps56, Exit.thenS]
  refine wpS_of_wp ?_
  go_wp2_with fail
  cases c₀
  simp_all [bodyPostS, results, Tryz.results56]
set_option maxRecDepth 100000 in
set_option maxHeartbeats 1000000 in
theorem force_catch (b4 b2 l d first count forced at_ e : Nat) (ended : Bool) (rv : Value) (w : World) (x4 : Value) (c4 : Cells w b4 [x4]) (c2 : Cells w b2 [.pointer (some ⟨l, 0, none⟩)]) (hh : Hd w l d first count rv forced ended) (n1 : b4 ≠ b2) (n2 : b4 ≠ l) :
    CallsD Tryz.prog 56 #[.pointer (some ⟨b4, 0, none⟩), .pointer (some ⟨b2, 0, none⟩)] (.panicking (pan at_ e)) w fun x u' w' => x = .returned (.tuple #[]) ∧ u' = .panicking [{ v := stopV at_ e, recovered := true }] ∧
      ∃ v, Cells w' b4 [v] ∧ Hd w' l d first count rv forced true ∧ ErrNew w' w.heap.size v forceS at_ e ∧ Keep (fun b => b = b4 ∨ b = l) w w' := by
  have FA := hide (asFault_new forceS at_ e w)
  have HC4 := hide c4
  have HC2 := hide c2
  have HH := hide hh
  clear c4 c2 hh
  have hrep : Array.replicate 9 undef = #[undef, undef, undef, undef, undef, undef, undef, undef, undef] := rfl
  refine callsD_of_wpS Tryz.func56 rfl fun c₀ cs hu => ?_
  apply wpS_seq
  apply wpS_region
  unfold pan at hu
  unfold stopV at *
  simp [wpOpsS, go_sem, recoverD, hu, Tryz.ntmps56, Exit.thenS, hrep, Act.put]
  refine wpS_of_wp ?_
  go_wp2_with fail
  refine FA.out.mono ?_
  rintro x w1 ⟨v, rfl, h1, b1⟩
  obtain ⟨eb, rfl, heb, h1⟩ := h1
  have hc4 := HC4.out.below b1
  have hc2 := HC2.out.below b1
  have hh1 := HH.out.below b1
  obtain ⟨k4, f4⟩ := hc4.get 0 _ rfl
  obtain ⟨k2, f2⟩ := hc2.get 0 _ rfl
  obtain ⟨k5, f5⟩ := hh1.get 5 _ rfl
  have C4 := hide hc4
  have HH1 := hide hh1
  have B1 := hide b1
  have lt4 := HC4.out.1
  have ltl := HH.out.1
  have H1 := hide h1
  have n1' : ¬ b2 = b4 := fun q => n1 q.symm
  have n2' : ¬ l = b4 := fun q => n2 q.symm
  clear FA HC4 HC2 hc4 hc2 hh1 b1 h1 hu HH
  go_wp2_with fail
  have hv : ∀ (t : Array Value) (w : World), (results Tryz.f56 t).run Tryz.prog w = .ok (.tuple #[]) w := fun t w => by simp [results, Tryz.results56]
  refine ⟨rfl, _, rfl, _, hv _ _, rfl, rfl, _, ?_, ?_, ⟨eb, rfl, heb, ?_⟩, ?_⟩
  · exact (C4.out.stored (j := 0) (by simp) _).other n2'
  · exact (HH1.out.other n2).stored (j := 5) (by simp [hdC]) _
  · exact (H1.out.other (by omega)).other (by omega)
  · exact ((Keep.of_below (S := fun b => b = b4 ∨ b = l) B1.out).setCell (fun _ => .inl rfl) _).setCell (fun _ => .inr rfl) _
abbrev dff (b4 b2 : Nat) : List Deferred := [{ target := .fn (.func 56) #[.pointer (some ⟨b4, 0, none⟩), .pointer (some ⟨b2, 0, none⟩)], args := #[] }]
set_option maxRecDepth 100000 in
theorem force_results (t : Array Value) (w : World) (b4 : Nat) (v : Value) (h4 : t.getD 4 undef = .pointer (some ⟨b4, 0, none⟩)) (c4 : Cells w b4 [v]) : (results Tryz.f28 t).run Tryz.prog w = .ok v w := by
  obtain ⟨k4, _⟩ := c4.get 0 _ rfl
  have h4' : t[4]?.getD undef = .pointer (some ⟨b4, 0, none⟩) := by simpa using h4
  simp [results, Tryz.results28, go_sem, h4', k4]
theorem force_door {R : Ending → World → Prop} (t : Array Value) (w : World) (b4 b2 l d first count forced at_ e : Nat) (ended : Bool) (rv x4 : Value) (h4 : t.getD 4 undef = .pointer (some ⟨b4, 0, none⟩)) (c4 : Cells w b4 [x4]) (c2 : Cells w b2 [.pointer (some ⟨l, 0, none⟩)]) (hh : Hd w l d first count rv forced ended) (n1 : b4 ≠ b2) (n2 : b4 ≠ l)
    (hR : ∀ v w', ErrNew w' w.heap.size v forceS at_ e → Hd w' l d first count rv forced true → Keep (fun b => b = b4 ∨ b = l) w w' → R (.returned v) w') :
    bodyPostD Tryz.prog Tryz.f28 R (Exit.panic (pan at_ e)) { tmps := t, defers := dff b4 b2 } w := by
  refine leaves_cons (f := 56) (args := #[.pointer (some ⟨b4, 0, none⟩), .pointer (some ⟨b2, 0, none⟩)]) (by simp) (by simp [go_sem]) ?_
  refine (force_catch b4 b2 l d first count forced at_ e ended rv w x4 c4 c2 hh n1 n2).mono ?_
  rintro e' u' w' ⟨rfl, rfl, v, k4, kh, he, hk⟩
  exact ⟨_, force_results t w' b4 v h4 k4, hR v w' he kh hk⟩
theorem force_done {R : Ending → World → Prop} (t : Array Value) (w : World) (b4 b2 : Nat) (v : Value) (h4 : t.getD 4 undef = .pointer (some ⟨b4, 0, none⟩)) (c4 : Cells w b4 [v]) (hR : R (.returned v) w) :
    bodyPostD Tryz.prog Tryz.f28 R Exit.ret { tmps := t, defers := dff b4 b2 } w := by
  refine leaves_cons (f := 56) (args := #[.pointer (some ⟨b4, 0, none⟩), .pointer (some ⟨b2, 0, none⟩)]) (by simp) (by simp [go_sem]) ?_
  refine (force_idle b4 b2 w).mono ?_
  rintro e' u' w' ⟨rfl, rfl, rfl⟩
  exact ⟨_, force_results t w' b4 v h4 c4, hR⟩
theorem force_plain {R : Ending → World → Prop} (t : Array Value) (w : World) (b4 : Nat) (v : Value) (h4 : t.getD 4 undef = .pointer (some ⟨b4, 0, none⟩)) (c4 : Cells w b4 [v]) (hR : R (.returned v) w) :
    bodyPostD Tryz.prog Tryz.f28 R Exit.ret { tmps := t, defers := [] } w :=
  ⟨_, force_results t w b4 v h4 c4, hR⟩
end Go.Proofs.YtgpmghdoofcpaaaGreat.Lg
