import Derived.Test.YtgpmghdoofcpaaaG33
namespace Go.Proofs.Ytgpmghdoofcpaaa.Lg
open Go.RowKit Go.QK
open Dv (hide bnext alloc_below load_arr store_arr slice_arr wp_load_arr wp_store_arr neq_arr info91)

theorem write_n (g : Dev) (h : g.Ok) (i : Int) (b : List Nat) (hb : AllB b) : (g.write i b).img.length = g.img.length := by
  unfold Dev.write
  split
  · rfl
  · rename_i q
    have q1 : g.reach i = 0 := by omega
    have q2 : b.length = 512 := by omega
    have k := h.push (s := i.toNat) (b := b) ⟨(Dev.reach_ok h q1).2.2.1, q2, hb⟩
    split
    · unfold Dev.crashes
      split
      · unfold Dev.fall
        exact (fallFrom_ok _ _ 0 _ k.strike.pend rfl k.strike.bytes).1
      · rfl
    · rfl
theorem write_go {g : Dev} {i : Int} {m : Nat} (b : List Nat) (h : g.writeE i m = 0) : (g.write i b).down = g.down ∧ g.down = false := by
  have hd : g.down = false := by
    unfold Dev.writeE Dev.reach at h
    cases hd : g.down
    · rfl
    · simp [hd] at h
  refine ⟨?_, hd⟩
  unfold Dev.writeE at h
  unfold Dev.write
  split
  · rfl
  · split
    · rename_i h1 h2
      rw [if_neg (by omega)] at h
      split at h
      · simp at h
      · simp at h
    · rfl
theorem write_len {g : Dev} {i : Int} {b : List Nat} : (g.write i b).pend.length ≤ g.pend.length + 1 ∧ (g.write i b).calls ≤ g.calls + 1 := by
  unfold Dev.write
  split
  · exact ⟨Nat.le_succ _, Nat.le_succ _⟩
  · split
    · unfold Dev.crashes
      split
      · exact ⟨by simp [Dev.fall], by simp [Dev.fall, Dev.strike, Dev.push]⟩
      · exact ⟨by simp [Dev.strike, Dev.push], by simp [Dev.strike, Dev.push]⟩
    · exact ⟨by simp [Dev.strike, Dev.push], by simp [Dev.strike, Dev.push]⟩
theorem sync_len {g : Dev} : g.sync.pend.length ≤ g.pend.length ∧ g.sync.calls ≤ g.calls + 1 := by
  unfold Dev.sync
  split
  · exact ⟨Nat.le_refl _, Nat.le_succ _⟩
  · split
    · unfold Dev.crashes
      split
      · exact ⟨by simp [Dev.fall], by simp [Dev.fall, Dev.strike]⟩
      · exact ⟨by simp [Dev.strike], by simp [Dev.strike]⟩
    · exact ⟨by simp [Dev.settle], by simp [Dev.settle, Dev.strike]⟩

theorem wipeM_zero {first count s : Nat} {g : Dev} {q : Bool} (hs : s ≤ count) (hz : g.content (first + s - 1) = zerosB) : wipeM first (count + 1 - s) s g q = wipeM first (count + 1 - (s + 1)) (s + 1) g q := by
  rw [show count + 1 - s = (count + 1 - (s + 1)) + 1 by omega, wipeM, if_pos hz]
theorem wipeM_put {first count s : Nat} {g : Dev} {q : Bool} (hs : s ≤ count) (hz : g.content (first + s - 1) ≠ zerosB) (he : g.writeE ((first + s - 1 : Nat) : Int) 512 = 0) :
    wipeM first (count + 1 - s) s g q = wipeM first (count + 1 - (s + 1)) (s + 1) (g.write ((first + s - 1 : Nat) : Int) zerosB) true := by
  rw [show count + 1 - s = (count + 1 - (s + 1)) + 1 by omega, wipeM, if_neg hz, if_neg (by omega)]
theorem wipeM_bad {first count s : Nat} {g : Dev} {q : Bool} (hs : s ≤ count) (hz : g.content (first + s - 1) ≠ zerosB) (he : g.writeE ((first + s - 1 : Nat) : Int) 512 ≠ 0) :
    wipeM first (count + 1 - s) s g q = (g.write ((first + s - 1 : Nat) : Int) zerosB, true, g.writeE ((first + s - 1 : Nat) : Int) 512) := by
  rw [show count + 1 - s = (count + 1 - (s + 1)) + 1 by omega, wipeM, if_neg hz, if_pos he]
theorem wipeM_end {first count s : Nat} {g : Dev} {q : Bool} (hs : ¬ s ≤ count) : wipeM first (count + 1 - s) s g q = (g, q, 0) := by
  rw [show count + 1 - s = 0 by omega, wipeM]
/-- How wipe's loop stands. -/
structure WSt (w : World) (S : Nat → Prop) (d : Nat) (g : Dev) (first count n : Nat) (wr : World) (s : Nat) (q : Bool) (S' : Nat → Prop) (g' : Dev) : Prop where
  lo : n + 1 ≤ s
  hi : s ≤ count + 1
  eq : wiped g first count n = wipeM first (count + 1 - s) s g' q
  dev : PDev wr S' d g'
  st : Step w S wr S'
  up : g'.down = false
  num : g'.n = g.n
  pl : g'.pend.length + (n + 1) ≤ g.pend.length + s
  cl : g'.calls + (n + 1) ≤ g.calls + s

set_option maxRecDepth 100000 in
set_option maxHeartbeats 2000000 in
theorem wipe_any {w : World} {S : Nat → Prop} {d : Nat} {g : Dev} (h : PDev w S d g) (l first count n : Nat) (a : Option Addr) (c : Nat) (hl : l < w.heap.size) (hlS : ¬ S l) (c0 : w.cell? ⟨l, 0, none⟩ = some (.pointer (some ⟨d, 0, none⟩))) (c1 : w.cell? ⟨l, 1, none⟩ = some (.int .i64 (first : Int)))
    (c2 : w.cell? ⟨l, 2, none⟩ = some (.int .i64 (count : Int))) (c3 : w.cell? ⟨l, 3, none⟩ = some (.slice a n c)) (hn : n ≤ count) (hf : first + count ≤ g.n) (hd : g.down = false) (hpl : g.pend.length ≤ 900000) (hcl : g.calls ≤ 900000) :
    Calls Try.prog 23 #[.pointer (some ⟨l, 0, none⟩)] w fun e w' => ∃ S', e = fin 0 (wipeE g first count n) ∧ PDev w' S' d (wipeD g first count n) ∧ Step w S w' S' := by
  obtain ⟨nn, n1, n2, hn3⟩ := h.ok.size
  have hgn : g.n ≤ 8192 := by unfold Dev.n; omega
  have Z := Dv.zero_run
  have KL := hide (last_any l n c a w c3)
  obtain ⟨we, hwe⟩ : ∃ we, we = wipeE g first count n := ⟨_, rfl⟩
  obtain ⟨wd, hwd⟩ : ∃ wd, wd = wipeD g first count n := ⟨_, rfl⟩
  rw [← hwe, ← hwd]
  have HE := hide hwe
  have HD := hide hwd
  have C0 := hide c0
  have C1 := hide c1
  have C2 := hide c2
  have HI : WSt w S d g first count n w (n + 1) false S g := ⟨Nat.le_refl _, by omega, by unfold wiped; rw [show count + 1 - (n + 1) = count - n by omega], h, Step.refl _ _, hd, rfl, by omega, by omega⟩
  clear h c3 c0 c1 c2 hwe hwd n1 n2 hn3 hd
  go_enter Try.func23, Try.ntmps23
  go_wp2_with fail
  refine KL.out.mono ?_
  rintro e w1 ⟨rfl, rfl⟩
  clear KL
  go_wp2_with fail
  go_loopw [2, 3] (fun q i wr => ∃ (s : Nat) (qq : Bool) (S' : Nat → Prop) (g' : Dev), q = .bool qq ∧ i = .int .i64 (s : Int) ∧ WSt w1 S d g first count n wr s qq S' g') (fun _ i _ => (count + 1 - (intOf i).toNat))
  case atStart => exact ⟨n + 1, false, S, g, rfl, by go_num, HI⟩
  case round =>
    obtain ⟨s, qq, S', g', rfl, rfl, hst⟩ := hrel
    have c0 := (hst.st.1.cell (p := ⟨l, 0, none⟩) hl hlS).trans C0.out
    have c1 := (hst.st.1.cell (p := ⟨l, 1, none⟩) hl hlS).trans C1.out
    have c2 := (hst.st.1.cell (p := ⟨l, 2, none⟩) hl hlS).trans C2.out
    have hlr : l < wr.heap.size := Nat.lt_of_lt_of_le hl hst.st.1.size
    have hlS' : ¬ S' l := fun q => by
      rcases hst.st.2 l q with r | r
      · exact hlS r
      · omega
    have HST := hide hst
    clear hst HI
    by_cases hlt : s ≤ count
    · have hd : decide ((s : Int) ≤ (count : Int)) = true := by simp; omega
      have hlo := HST.out.lo
      have hpp := HST.out.pl
      have hcc := HST.out.cl
      have KR := hide (lread_any HST.out.dev l first s hlr c0 c1 (by omega) (by omega) HST.out.up (by rw [HST.out.num]; omega) (by omega))
      have hxl : (g'.content (first + s - 1)).length = 512 := Dv.content_len HST.out.dev.ok _ (by
        have h1 : first + s - 1 < g'.n := by rw [HST.out.num]; omega
        unfold Dev.n at h1
        omega)
      by_cases hz : g'.content (first + s - 1) = zerosB
      · have HM := hide (HST.out.eq.trans (wipeM_zero hlt hz))
        rw [hz] at KR
        have NQ := neq_arr zerosB zerosB zerosB_length zerosB_length
        rw [decide_eq_true rfl] at NQ
        clear hz hxl hpp hcc
        go_wp2_with fail
        refine KR.out.mono ?_
        rintro e w2 ⟨rfl, b2⟩
        have P2 := hide (HST.out.dev.below b2)
        have ST2 := hide (HST.out.st.trans (Step.of_below b2))
        clear b2 KR c0 c1 c2
        go_wp2_with fail
        go_roundw
        case rel => exact ⟨s + 1, qq, S', g', rfl, by go_num, by omega, by omega, HM.out, P2.out, ST2.out, HST.out.up, HST.out.num, by have := HST.out.pl; omega, by have := HST.out.cl; omega⟩
        case measure => simp [intOf]; omega
      · have NQ := neq_arr (g'.content (first + s - 1)) zerosB hxl zerosB_length
        rw [decide_eq_false hz] at NQ
        have KP := fun w2 (b2 : Below wr.heap.size wr w2) => lput_any (HST.out.dev.below b2) l first s zerosB (Nat.lt_of_lt_of_le hlr b2.size) hlS' ((World.cell?_of_block (a := ⟨l, 0, none⟩) (b2.block l hlr)).trans c0) ((World.cell?_of_block (a := ⟨l, 1, none⟩) (b2.block l hlr)).trans c1) (by omega) (by omega) zerosB_length zerosB_all (by omega) (by omega)
        by_cases he : g'.writeE ((first + s - 1 : Nat) : Int) 512 = 0
        · have HM := hide (HST.out.eq.trans (wipeM_put hlt hz he))
          have wg := write_go zerosB he
          have wn := write_n g' HST.out.dev.ok ((first + s - 1 : Nat) : Int) zerosB zerosB_all
          have wl := write_len (g := g') (i := ((first + s - 1 : Nat) : Int)) (b := zerosB)
          rw [he] at KP
          have KP := hide KP
          have WG := hide wg
          have WN := hide wn
          have WL := hide wl
          clear hz hxl wg wn wl he
          generalize g'.write ((first + s - 1 : Nat) : Int) zerosB = g2 at *
          generalize g'.content (first + s - 1) = X at *
          go_wp2_with fail
          refine KR.out.mono ?_
          rintro e w2 ⟨rfl, b2⟩
          have K2 := hide (KP.out w2 b2)
          have B2 := hide b2
          clear b2 KR c0 c1 c2 KP
          go_wp2_with fail
          refine K2.out.mono ?_
          rintro e w3 ⟨S3, he3, p3, s3⟩
          rw [fin_zero] at he3
          subst he3
          have P3 := hide p3
          have ST3 := hide ((HST.out.st.trans (Step.of_below B2.out)).trans s3)
          clear K2 B2 p3 s3
          go_wp2_with fail
          go_roundw
          case rel => exact ⟨s + 1, true, S3, g2, rfl, by go_num, by omega, by omega, HM.out, P3.out, ST3.out, WG.out.1.trans WG.out.2, by rw [← HST.out.num]; unfold Dev.n; rw [WN.out], by have := WL.out; omega, by have := WL.out; omega⟩
          case measure => simp [intOf]; omega
        · have HM := hide (HST.out.eq.trans (wipeM_bad hlt hz he))
          have hwe : g'.writeE ((first + s - 1 : Nat) : Int) 512 = we := by rw [HE.out]; unfold wipeE; rw [HM.out, if_pos he]
          have hwd : g'.write ((first + s - 1 : Nat) : Int) zerosB = wd := by rw [HD.out]; unfold wipeD; rw [HM.out, if_pos he]
          rw [hwe] at he
          rw [hwe, hwd] at KP
          have KP := hide KP
          have HNE := hide he
          clear hz hxl he hwe hwd HM
          generalize g'.content (first + s - 1) = X at *
          go_wp2_with fail
          refine KR.out.mono ?_
          rintro e w2 ⟨rfl, b2⟩
          have K2 := hide (KP.out w2 b2)
          have B2 := hide b2
          clear b2 KR c0 c1 c2 KP
          go_wp2_with fail
          refine K2.out.mono ?_
          rintro e w3 ⟨S3, he3, p3, s3⟩
          rw [fin_no HNE.out] at he3
          subst he3
          have P3 := hide p3
          have ST3 := hide ((HST.out.st.trans (Step.of_below B2.out)).trans s3)
          clear K2 B2 p3 s3
          exact ⟨rfl, S3, (fin_no HNE.out).symm, P3.out, ST3.out⟩
    · have hd : decide ((s : Int) ≤ (count : Int)) = false := by simp; omega
      have hM := HST.out.eq.trans (wipeM_end hlt)
      have hlo := HST.out.lo
      have hhi := HST.out.hi
      have hpp := HST.out.pl
      have hcc := HST.out.cl
      cases qq
      · have hwe : 0 = we := by rw [HE.out]; unfold wipeE; rw [hM]; simp
        have hwd : g' = wd := by rw [HD.out]; unfold wipeD; rw [hM]; simp
        subst hwe hwd
        clear hM
        go_wp2_with fail
        go_end0
        exact ⟨S', rfl, HST.out.dev, HST.out.st⟩
      · have hwe : g'.syncE = we := by rw [HE.out]; unfold wipeE; rw [hM]; simp
        have hwd : g'.sync = wd := by rw [HD.out]; unfold wipeD; rw [hM]; simp
        have KS := Dv.sync_any HST.out.dev (by omega) (by omega)
        rw [hwe, hwd] at KS
        have KS := hide KS
        clear hM hwe hwd
        go_wp2_with fail
        refine KS.out.mono ?_
        rintro e w3 ⟨rfl, p3, k3⟩
        have P3 := hide p3
        have ST3 := hide (HST.out.st.trans (Step.of_keep k3))
        clear KS p3 k3 c0 c1 c2
        by_cases he : we = 0
        · subst he
          go_wp2_with fail
          refine (must_ok w3).mono ?_
          rintro e w5 ⟨rfl, rfl⟩
          go_wp2_with fail
          go_end0
          exact ⟨S', rfl, P3.out, ST3.out⟩
        · have HNE := hide he
          clear he
          go_wp2_with fail
          refine (must_no we HNE.out w3).mono ?_
          rintro e w5 ⟨rfl, rfl⟩
          exact ⟨rfl, S', (fin_no HNE.out).symm, P3.out, ST3.out⟩
end Go.Proofs.Ytgpmghdoofcpaaa.Lg
