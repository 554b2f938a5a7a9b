import Derived.Test.YtgpmghdoofcpaaaGreatG26
namespace Go.Proofs.YtgpmghdoofcpaaaGreat.Lg
open Go.RowKit Go.QK
open Dv (hide bnext alloc_below load_arr store_arr slice_arr wp_load_arr wp_store_arr neq_arr info91)

theorem write_n (g : Dev) (h : g.Ok) (i : Int) (b : List Nat) (hb : AllB b) : (g.write i b).img.length = g.img.length := by
  unfold Dev.write
  split
  · rfl
  · rename_i q
    have q1 : g.reach i = 0 := by omega
    have q2 : b.length = 512 := by omega
    have k := h.push (s := i.toNat) (b := b) ⟨(Dev.reach_ok h q1).2.2.1, q2, hb⟩
    split
    · unfold Dev.crashes
      split
      · unfold Dev.fall
        exact (fallFrom_ok _ _ 0 _ k.strike.pend rfl k.strike.bytes).1
      · rfl
    · rfl
theorem write_go {g : Dev} {i : Int} {m : Nat} (b : List Nat) (h : g.writeE i m = 0) : (g.write i b).down = g.down ∧ g.down = false := by
  have hd : g.down = false := by
    unfold Dev.writeE Dev.reach at h
    cases hd : g.down
    · rfl
    · simp [hd] at h
  refine ⟨?_, hd⟩
  unfold Dev.writeE at h
  unfold Dev.write
  split
  · rfl
  · split
    · rename_i h1 h2
      rw [if_neg (by omega)] at h
      split at h
      · simp at h
      · simp at h
    · rfl
theorem write_len {g : Dev} {i : Int} {b : List Nat} : (g.write i b).pend.length ≤ g.pend.length + 1 ∧ (g.write i b).calls ≤ g.calls + 1 := by
  unfold Dev.write
  split
  · exact ⟨Nat.le_succ _, Nat.le_succ _⟩
  · split
    · unfold Dev.crashes
      split
      · exact ⟨by simp [Dev.fall], by simp [Dev.fall, Dev.strike, Dev.push]⟩
      · exact ⟨by simp [Dev.strike, Dev.push], by simp [Dev.strike, Dev.push]⟩
    · exact ⟨by simp [Dev.strike, Dev.push], by simp [Dev.strike, Dev.push]⟩
theorem sync_len {g : Dev} : g.sync.pend.length ≤ g.pend.length ∧ g.sync.calls ≤ g.calls + 1 := by
  unfold Dev.sync
  split
  · exact ⟨Nat.le_refl _, Nat.le_succ _⟩
  · split
    · unfold Dev.crashes
      split
      · exact ⟨by simp [Dev.fall], by simp [Dev.fall, Dev.strike]⟩
      · exact ⟨by simp [Dev.strike], by simp [Dev.strike]⟩
    · exact ⟨by simp [Dev.settle], by simp [Dev.settle, Dev.strike]⟩

theorem wipeM_zero {first count s : Nat} {g : Dev} {q : Bool} (hs : s ≤ count) (hz : g.content (first + s - 1) = zerosB) : wipeM first (count + 1 - s) s g q = wipeM first (count + 1 - (s + 1)) (s + 1) g q := by
  rw [show count + 1 - s = (count + 1 - (s + 1)) + 1 by omega, wipeM, if_pos hz]
theorem wipeM_put {first count s : Nat} {g : Dev} {q : Bool} (hs : s ≤ count) (hz : g.content (first + s - 1) ≠ zerosB) (he : g.writeE ((first + s - 1 : Nat) : Int) 512 = 0) :
    wipeM first (count + 1 - s) s g q = wipeM first (count + 1 - (s + 1)) (s + 1) (g.write ((first + s - 1 : Nat) : Int) zerosB) true := by
  rw [show count + 1 - s = (count + 1 - (s + 1)) + 1 by omega, wipeM, if_neg hz, if_neg (by omega)]
theorem wipeM_bad {first count s : Nat} {g : Dev} {q : Bool} (hs : s ≤ count) (hz : g.content (first + s - 1) ≠ zerosB) (he : g.writeE ((first + s - 1 : Nat) : Int) 512 ≠ 0) :
    wipeM first (count + 1 - s) s g q = (g.write ((first + s - 1 : Nat) : Int) zerosB, true, g.writeE ((first + s - 1 : Nat) : Int) 512) := by
  rw [show count + 1 - s = (count + 1 - (s + 1)) + 1 by omega, wipeM, if_neg hz, if_pos he]
theorem wipeM_end {first count s : Nat} {g : Dev} {q : Bool} (hs : ¬ s ≤ count) : wipeM first (count + 1 - s) s g q = (g, q, 0) := by
  rw [show count + 1 - s = 0 by omega, wipeM]
/-- How wipe's loop stands. -/
structure WSt (w : World) (S : Nat → Prop) (d : Nat) (g : Dev) (first count n : Nat) (wr : World) (s : Nat) (q : Bool) (S' : Nat → Prop) (g' : Dev) : Prop where
  lo : n + 1 ≤ s
  hi : s ≤ count + 1
  eq : wiped g first count n = wipeM first (count + 1 - s) s g' q
  dev : PDev wr S' d g'
  st : Step w S wr S'
  up : g'.down = false
  num : g'.n = g.n
  pl : g'.pend.length + (n + 1) ≤ g.pend.length + s
  cl : g'.calls + (n + 1) ≤ g.calls + s

set_option maxRecDepth 100000 in
set_option maxHeartbeats 2000000 in
theorem wipe_any {w : World} {S : Nat → Prop} {d : Nat} {g : Dev} (h : PDev w S d g) (l first count n : Nat) (a : Option Addr) (c : Nat) (hl : l < w.heap.size) (hlS : ¬ S l) (c0 : w.cell? ⟨l, 0, none⟩ = some (.pointer (some ⟨d, 0, none⟩))) (c1 : w.cell? ⟨l, 1, none⟩ = some (.int .i64 (first : Int)))
    (c2 : w.cell? ⟨l, 2, none⟩ = some (.int .i64 (count : Int))) (c3 : w.cell? ⟨l, 3, none⟩ = some (.slice a n c)) (hn : n ≤ count) (hf : first + count ≤ g.n) (hd : g.down = false) (hpl : g.pend.length ≤ 900000) (hcl : g.calls ≤ 900000) :
    Calls Tryz.prog 65 #[.pointer (some ⟨l, 0, none⟩)] w fun e w' => ∃ S', e = fin 0 (wipeE g first count n) ∧ PDev w' S' d (wipeD g first count n) ∧ Step w S w' S' := by
  obtain ⟨nn, n1, n2, hn3⟩ := h.ok.size
  have hgn : g.n ≤ 8192 := by unfold Dev.n; omega
  have Z := Dv.zero_run
  have KL := hide (last_any l n c a w c3)
  obtain ⟨we, hwe⟩ : ∃ we, we = wipeE g first count n := ⟨_, rfl⟩
  obtain ⟨wd, hwd⟩ : ∃ wd, wd = wipeD g first count n := ⟨_, rfl⟩
  rw [← hwe, ← hwd]
  have HE := hide hwe
  have HD := hide hwd
  have C0 := hide c0
  have C1 := hide c1
  have C2 := hide c2
  have HI : WSt w S d g first count n w (n + 1) false S g := ⟨Nat.le_refl _, by omega, by unfold wiped; rw [show count + 1 - (n + 1) = count - n by omega], h, Step.refl _ _, hd, rfl, by omega, by omega⟩
  clear h c3 c0 c1 c2 hwe hwd n1 n2 hn3 hd
  go_enter Tryz.func65, Tryz.ntmps65
  go_wp2_with fail
  refine KL.out.mono ?_
  rintro e w1 ⟨rfl, rfl⟩
  clear KL
  go_wp2_with fail
  go_loopw [2, 3] (fun q i wr => ∃ (s : Nat) (qq : Bool) (S' : Nat → Prop) (g' : Dev), q = .bool qq ∧ i = .int .i64 (s : Int) ∧ WSt w1 S d g first count n wr s qq S' g') (fun _ i _ => (count + 1 - (intOf i).toNat))
  case atStart => exact ⟨n + 1, false, S, g, rfl, by go_num, HI⟩
  case round =>
    obtain ⟨s, qq, S', g', rfl, rfl, hst⟩ := hrel
    have c0 := (hst.st.1.cell (p := ⟨l, 0, none⟩) hl hlS).trans C0.out
    have c1 := (hst.st.1.cell (p := ⟨l, 1, none⟩) hl hlS).trans C1.out
    have c2 := (hst.st.1.cell (p := ⟨l, 2, none⟩) hl hlS).trans C2.out
    have hlr : l < wr.heap.size := Nat.lt_of_lt_of_le hl hst.st.1.size
    have hlS' : ¬ S' l := fun q => by
      rcases hst.st.2 l q with r | r
      · exact hlS r
      · omega
    have HST := hide hst
    clear hst HI
    by_cases hlt : s ≤ count
    · have hd : decide ((s : Int) ≤ (count : Int)) = true := by simp; omega
      have hlo := HST.out.lo
      have hpp := HST.out.pl
      have hcc := HST.out.cl
      have KR := hide (lread_any HST.out.dev l first s hlr c0 c1 (by omega) (by omega) HST.out.up (by rw [HST.out.num]; omega) (by omega))
      have hxl : (g'.content (first + s - 1)).length = 512 := Dv.content_len HST.out.dev.ok _ (by
        have h1 : first + s - 1 < g'.n := by rw [HST.out.num]; omega
        unfold Dev.n at h1
        omega)
      by_cases hz : g'.content (first + s - 1) = zerosB
      · have HM := hide (HST.out.eq.trans (wipeM_zero hlt hz))
        rw [hz] at KR
        have NQ := neq_arr zerosB zerosB zerosB_length zerosB_length
        rw [decide_eq_true rfl] at NQ
        clear hz hxl hpp hcc
        go_wp2_with fail
        refine KR.out.mono ?_
        rintro e w2 ⟨rfl, b2⟩
        have P2 := hide (HST.out.dev.below b2)
        have ST2 := hide (HST.out.st.trans (Step.of_below b2))
        clear b2 KR c0 c1 c2
        go_wp2_with fail
        go_roundw
        case rel => exact ⟨s + 1, qq, S', g', rfl, by go_num, by omega, by omega, HM.out, P2.out, ST2.out, HST.out.up, HST.out.num, by have := HST.out.pl; omega, by have := HST.out.cl; omega⟩
        case measure => simp [intOf]; omega
      · have NQ := neq_arr (g'.content (first + s - 1)) zerosB hxl zerosB_length
        rw [decide_eq_false hz] at NQ
        have KP := fun w2 (b2 : Below wr.heap.size wr w2) => lput_any (HST.out.dev.below b2) l first s zerosB (Nat.lt_of_lt_of_le hlr b2.size) hlS' ((World.cell?_of_block (a := ⟨l, 0, none⟩) (b2.block l hlr)).trans c0) ((World.cell?_of_block (a := ⟨l, 1, none⟩) (b2.block l hlr)).trans c1) (by omega) (by omega) zerosB_length zerosB_all (by omega) (by omega)
        by_cases he : g'.writeE ((first + s - 1 : Nat) : Int) 512 = 0
        · have HM := hide (HST.out.eq.trans (wipeM_put hlt hz he))
          have wg := write_go zerosB he
          have wn := write_n g' HST.out.dev.ok ((first + s - 1 : Nat) : Int) zerosB zerosB_all
          have wl := write_len (g := g') (i := ((first + s - 1 : Nat) : Int)) (b := zerosB)
          rw [he] at KP
          have KP := hide KP
          have WG := hide wg
          have WN := hide wn
          have WL := hide wl
          clear hz hxl wg wn wl he
          generalize g'.write ((first + s - 1 : Nat) : Int) zerosB = g2 at *
          generalize g'.content (first + s - 1) = X at *
          go_wp2_with fail
          refine KR.out.mono ?_
          rintro e w2 ⟨rfl, b2⟩
          have K2 := hide (KP.out w2 b2)
          have B2 := hide b2
          clear b2 KR c0 c1 c2 KP
          go_wp2_with fail
          refine K2.out.mono ?_
          rintro e w3 ⟨S3, he3, p3, s3⟩
          rw [fin_zero] at he3
          subst he3
          have P3 := hide p3
          have ST3 := hide ((HST.out.st.trans (Step.of_below B2.out)).trans s3)
          clear K2 B2 p3 s3
          go_wp2_with fail
          go_roundw
          case rel => exact ⟨s + 1, true, S3, g2, rfl, by go_num, by omega, by omega, HM.out, P3.out, ST3.out, WG.out.1.trans WG.out.2, by rw [← HST.out.num]; unfold Dev.n; rw [WN.out], by have := WL.out; omega, by have := WL.out; omega⟩
          case measure => simp [intOf]; omega
        · have HM := hide (HST.out.eq.trans (wipeM_bad hlt hz he))
          have hwe : g'.writeE ((first + s - 1 : Nat) : Int) 512 = we := by rw [HE.out]; unfold wipeE; rw [HM.out, if_pos he]
          have hwd : g'.write ((first + s - 1 : Nat) : Int) zerosB = wd := by rw [HD.out]; unfold wipeD; rw [HM.out, if_pos he]
          rw [hwe] at he
          rw [hwe, hwd] at KP
          have KP := hide KP
          have HNE := hide he
          clear hz hxl he hwe hwd HM
          generalize g'.content (first + s - 1) = X at *
          go_wp2_with fail
          refine KR.out.mono ?_
          rintro e w2 ⟨rfl, b2⟩
          have K2 := hide (KP.out w2 b2)
          have B2 := hide b2
          clear b2 KR c0 c1 c2 KP
          go_wp2_with fail
          refine K2.out.mono ?_
          rintro e w3 ⟨S3, he3, p3, s3⟩
          rw [fin_no HNE.out] at he3
          subst he3
          have P3 := hide p3
          have ST3 := hide ((HST.out.st.trans (Step.of_below B2.out)).trans s3)
          clear K2 B2 p3 s3
          exact ⟨rfl, S3, (fin_no HNE.out).symm, P3.out, ST3.out⟩
    · have hd : decide ((s : Int) ≤ (count : Int)) = false := by simp; omega
      have hM := HST.out.eq.trans (wipeM_end hlt)
      have hlo := HST.out.lo
      have hhi := HST.out.hi
      have hpp := HST.out.pl
      have hcc := HST.out.cl
      cases qq
      · have hwe : 0 = we := by rw [HE.out]; unfold wipeE; rw [hM]; simp
        have hwd : g' = wd := by rw [HD.out]; unfold wipeD; rw [hM]; simp
        subst hwe hwd
        clear hM
        go_wp2_with fail
        go_end0
        exact ⟨S', rfl, HST.out.dev, HST.out.st⟩
      · have hwe : g'.syncE = we := by rw [HE.out]; unfold wipeE; rw [hM]; simp
        have hwd : g'.sync = wd := by rw [HD.out]; unfold wipeD; rw [hM]; simp
        have KS := Dv.sync_any HST.out.dev (by omega) (by omega)
        rw [hwe, hwd] at KS
        have KS := hide KS
        clear hM hwe hwd
        go_wp2_with fail
        refine KS.out.mono ?_
        rintro e w3 ⟨rfl, p3, k3⟩
        have P3 := hide p3
        have ST3 := hide (HST.out.st.trans (Step.of_keep k3))
        clear KS p3 k3 c0 c1 c2
        by_cases he : we = 0
        · subst he
          go_wp2_with fail
          refine (must_ok w3).mono ?_
          rintro e w5 ⟨rfl, rfl⟩
          go_wp2_with fail
          go_end0
          exact ⟨S', rfl, P3.out, ST3.out⟩
        · have HNE := hide he
          clear he
          go_wp2_with fail
          refine (must_no we HNE.out w3).mono ?_
          rintro e w5 ⟨rfl, rfl⟩
          exact ⟨rfl, S', (fin_no HNE.out).symm, P3.out, ST3.out⟩
end Go.Proofs.YtgpmghdoofcpaaaGreat.Lg

namespace Go.Proofs.YtgpmghdoofcpaaaGreat.Lg
open Go.RowKit Go.QK
open Dv (hide bnext alloc_below load_arr store_arr slice_arr wp_load_arr wp_store_arr neq_arr info91)

/-- A row of slices that is the program's own (their type is e). -/
def SRow (e : TypeId) (w : World) (B : Nat) (v : Value) (vs : List Value) : Prop := w.ownsRow B e 1 v vs.length vs

section
variable {e : TypeId} {S : Nat → Prop} {w w' : World} {B : Nat} {v : Value} {vs : List Value}
theorem SRow.nil (e : TypeId) (w : World) (B : Nat) : SRow e w B (.slice none 0 0) [] := World.ownsRow_nil _ _ _ _
theorem SRow.lt (h : SRow e w B v vs) : ∀ b, v.ownBlock = some b → B ≤ b ∧ b < w.heap.size := fun b hb => World.ownsRow.lt h b hb
theorem SRow.keep (h : SRow e w B v vs) (hb : Keep S w w') (hn : ∀ g, v.ownBlock = some g → ¬ S g) : SRow e w' B v vs := by
  refine ⟨h.1, ?_⟩
  rcases h.2 with q | ⟨g, cap, cur, q, hbg, hg, rest⟩
  · exact .inl q
  · have hlt := (World.ownsRow.lt h g (by rw [q]; rfl)).2
    exact .inr ⟨g, cap, cur, q, hbg, (hb.block g hlt (hn g (by rw [q]; rfl))).trans hg, rest⟩
theorem SRow.below (h : SRow e w B v vs) (hb : Below w.heap.size w w') : SRow e w' B v vs := h.keep (Keep.of_below (S := fun _ => False) hb) (fun _ _ => id)
theorem SRow.form (h : SRow e w B v vs) : ∃ a c, v = .slice a vs.length c ∧ vs.length ≤ c ∧ c ≤ maxLen ∧ (a = none → c = 0) ∧ (∀ i (_ : i < vs.length), ∃ b, a = some ⟨b, 0, none⟩ ∧ b < w.heap.size ∧ w.cell? ⟨b, i, none⟩ = some vs[i]) := by
  rcases h.2 with ⟨rfl, hn⟩ | ⟨g, cap, cur, rfl, hb, hg, hle, hm, hs, ht⟩
  · have : vs = [] := List.eq_nil_of_length_eq_zero hn
    subst this
    exact ⟨none, 0, rfl, Nat.le_refl _, by unfold maxLen; omega, fun _ => rfl, fun i hi => by simp at hi⟩
  · refine ⟨_, cap, rfl, hle, hm, nofun, fun i hi => ⟨g, rfl, (World.ownsRow.lt h g rfl).2, ?_⟩⟩
    have := World.ownsRow.cells h (g := g) rfl i vs[i] (by simp [hi])
    rw [addr_add] at this
    simpa using this
end

theorem info80 : (Tryz.prog.info? 80).map (fun i => (i.zero, i.size, i.bytes)) = some (some (.slice none 0 0), 1, 24) := by kernel_rfl
theorem und107 : Tryz.prog.underlying 107 = some (.slice 80) := by kernel_rfl

/-- What 'append(rows, x)' does. -/
theorem run_pushS {t e : TypeId} (hu : Tryz.prog.underlying t = some (.slice e)) (hin : (Tryz.prog.info? e).map (fun i => (i.zero, i.size, i.bytes)) = some (some (.slice none 0 0), 1, 24)) (ty : TypeId) (x : World)
    (B : Nat) (v : Value) (vs : List Value) (ad : Addr) (y : Value) (hown : SRow e x B v vs) (hcell : x.cell? ad = some y) (hy : y.oneCell' = true) (h63 : vs.length + 1 ≤ 2000000) (hB : B ≤ x.heap.size) :
    ∃ v' x', (Builtin.append_ #[t, t] ty #[v, .slice (some ad) 1 1]).run Tryz.prog x = .ok v' x' ∧ SRow e x' B v' (vs ++ [y]) ∧ x.grownBy x' v.ownBlock ∧ (v'.ownBlock = v.ownBlock ∨ v'.ownBlock = some x.heap.size) := by
  obtain ⟨i0, hi, hz⟩ : ∃ i0, Tryz.prog.info? e = some i0 ∧ i0.zero = some (.slice none 0 0) ∧ i0.size = 1 ∧ i0.bytes = 24 := by
    cases hq : Tryz.prog.info? e with
    | none => rw [hq] at hin; cases hin
    | some i0 =>
      rw [hq] at hin
      simp only [Option.map_some, Option.some.injEq, Prod.mk.injEq] at hin
      exact ⟨i0, rfl, hin⟩
  obtain ⟨v', w', hr, h2, h3, h4, h5⟩ := run_append_own_at (P := Tryz.prog) x B t ty e i0 (.slice none 0 0) 1 24 hu hi hz.1 hz.2.1 hz.2.2 rfl (by decide) v vs.length _ hown ad 1 1 [y] rfl
    (by
      intro j u hj
      match j, hj with
      | 0, hj =>
        simp at hj
        subst hj
        simpa [Addr.add] using hcell)
    (by
      intro u hu
      simp at hu
      subst hu
      exact hy) (by unfold maxLen; omega) (by omega) hB
  exact ⟨v', w', hr, by unfold SRow; simpa using h2, h3, h5⟩


/-- The bytes of a record in memory. -/
def Ent (w : World) (T : Nat → Prop) (v : Value) (b : List Nat) : Prop := ∃ a c, v = .slice a b.length c ∧ Bytes w a b ∧ b.length ≤ c ∧ (a = none → c = 0) ∧ ∀ ad, a = some ad → T ad.block ∧ ad.block < w.heap.size
/-- The records of a log: their row and their bytes, all in the blocks of T. -/
structure Recs (w : World) (T : Nat → Prop) (rv : Value) (rs : List (List Nat)) (vs : List Value) : Prop where
  row : SRow 80 w 0 rv vs
  len : vs.length = rs.length
  ent : ∀ i (h : i < vs.length) (h' : i < rs.length), Ent w (fun b => T b ∧ rv.ownBlock ≠ some b) vs[i] rs[i]
  own : ∀ b, rv.ownBlock = some b → T b
  lt : ∀ b, T b → b < w.heap.size
  all : ∀ b ∈ rs, AllB b ∧ b.length ≤ 502
theorem Ent.keep {w w' : World} {T U T' : Nat → Prop} {v : Value} {b : List Nat} (h : Ent w T v b) (hk : Keep U w w') (hU : ∀ k, T k → k < w.heap.size → ¬ U k) (hT : ∀ k, T k → k < w.heap.size → T' k) : Ent w' T' v b := by
  obtain ⟨a, c, h1, h2, h3, h4, h5⟩ := h
  exact ⟨a, c, h1, Seen.keep h2 hk (fun ad had => hU _ (h5 ad had).1 (h5 ad had).2), h3, h4, fun ad had => ⟨hT _ (h5 ad had).1 (h5 ad had).2, Nat.lt_of_lt_of_le (h5 ad had).2 hk.size⟩⟩
theorem Recs.keep {w w' : World} {T U : Nat → Prop} {rv : Value} {rs : List (List Nat)} {vs : List Value} (h : Recs w T rv rs vs) (hk : Keep U w w') (hU : ∀ b, U b → ¬ T b) : Recs w' T rv rs vs :=
  ⟨h.row.keep hk (fun g hg q => hU g q (h.own g hg)), h.len, fun i h1 h2 => (h.ent i h1 h2).keep hk (fun k hk _ q => hU k q hk.1) (fun _ q _ => q), h.own, fun b hb => Nat.lt_of_lt_of_le (h.lt b hb) hk.size, h.all⟩
theorem Recs.below {w w' : World} {T : Nat → Prop} {rv : Value} {rs : List (List Nat)} {vs : List Value} (h : Recs w T rv rs vs) (hk : Below w.heap.size w w') : Recs w' T rv rs vs :=
  h.keep (Keep.of_below (S := fun _ => False) hk) (fun _ q => q.elim)
theorem Recs.nil (w : World) : Recs w (fun _ => False) (.slice none 0 0) [] [] := ⟨SRow.nil _ _ _, rfl, fun i h => absurd h (by simp), nofun, nofun, nofun⟩
theorem Recs.form {w : World} {T : Nat → Prop} {rv : Value} {rs : List (List Nat)} {vs : List Value} (h : Recs w T rv rs vs) : ∃ a c, rv = .slice a rs.length c := by
  obtain ⟨a, c, h1, _⟩ := h.row.form
  rw [h.len] at h1
  exact ⟨a, c, h1⟩
theorem Recs.get {w : World} {T : Nat → Prop} {rv : Value} {rs : List (List Nat)} {vs : List Value} (h : Recs w T rv rs vs) (i : Nat) (hi : i < rs.length) :
    ∃ g c a c', rv = .slice (some ⟨g, 0, none⟩) rs.length c ∧ w.cell? ⟨g, i, none⟩ = some (.slice a (rs.getD i []).length c') ∧ Bytes w a (rs.getD i []) ∧ (rs.getD i []).length ≤ c' ∧ (a = none → c' = 0) ∧ AllB (rs.getD i []) ∧ (rs.getD i []).length ≤ 502 := by
  obtain ⟨a0, c, h1, h2, h3, h4, h5⟩ := h.row.form
  have hv : i < vs.length := by rw [h.len]; exact hi
  obtain ⟨g, rfl, hg, hc⟩ := h5 i hv
  obtain ⟨a, c', e1, e2, e3, e4, e5⟩ := h.ent i hv hi
  have e : rs.getD i [] = rs[i] := by simp [hi]
  rw [e]
  rw [h.len] at h1
  rw [e1] at hc
  have ha := h.all rs[i] (List.getElem_mem hi)
  exact ⟨g, c, a, c', h1, hc, e2, e3, e4, ha.1, ha.2⟩
/-- 'append(l.records, y)'. -/
theorem Recs.push {x : World} {T : Nat → Prop} {rv : Value} {rs : List (List Nat)} {vs : List Value} (h : Recs x T rv rs vs) (ty : TypeId) (ad : Addr) (y : Value) (b : List Nat) (B : Nat) (hcell : x.cell? ad = some y) (hy : OwnB x B y b) (hyT : ∀ k, y.ownBlock = some k → ¬ T k) (hlen : rs.length ≤ 100000) (hb : AllB b ∧ b.length ≤ 502) :
    ∃ v' x' T', (Builtin.append_ #[107, 107] ty #[rv, .slice (some ad) 1 1]).run Tryz.prog x = .ok v' x' ∧ Recs x' T' v' (rs ++ [b]) (vs ++ [y]) ∧ Keep T x x' ∧ (∀ k, T' k → T k ∨ y.ownBlock = some k ∨ x.heap.size ≤ k) := by
  obtain ⟨ya, yc, hy1, hys, hya, hyl, _⟩ := hy.seen
  rw [ints_length] at hyl hy1
  have h1 : y.oneCell' = true := by rw [hy1]; rfl
  obtain ⟨v', x', hr, hrow, hg, ho⟩ := run_pushS und107 info80 ty x 0 rv vs ad y h.row hcell h1 (by rw [h.len]; omega) (Nat.zero_le _)
  have hkr : Keep (fun k => rv.ownBlock = some k) x x' := (Keep.refl _ x).grown hg (fun g q _ => q)
  have hyb : ∀ k, ya = some k → y.ownBlock = some k.block := by
    intro k hk
    subst hk
    rcases hy.2 with ⟨q, _⟩ | ⟨g, cap, cur, q, _⟩
    · rw [hy1] at q; cases q
    · rw [hy1] at q
      simp only [Value.slice.injEq, Option.some.injEq] at q
      rw [hy1, q.1]
      rfl
  have hylt : ∀ k, y.ownBlock = some k → k < x.heap.size := fun k hk => (World.ownsRow.lt hy k hk).2
  have hlt' := hrow.lt
  refine ⟨v', x', fun k => T k ∨ y.ownBlock = some k ∨ v'.ownBlock = some k, hr, ?_, hkr.mono (fun k _ q => h.own k q), ?_⟩
  · have hnew : ∀ k, k < x.heap.size → rv.ownBlock ≠ some k → v'.ownBlock ≠ some k := by
      intro k hk hn q
      rcases ho with r | r
      · exact hn (r ▸ q)
      · rw [r] at q
        have := Option.some.inj q
        omega
    refine ⟨hrow, by simp [h.len], ?_, fun k q => .inr (.inr q), ?_, ?_⟩
    · intro i h1 h2
      by_cases hi : i < vs.length
      · have hi2 : i < rs.length := by rw [← h.len]; exact hi
        rw [List.getElem_append_left hi, List.getElem_append_left hi2]
        exact (h.ent i hi hi2).keep hkr (fun k q _ => q.2) (fun k q hk => ⟨.inl q.1, hnew k hk q.2⟩)
      · have e1 : i = vs.length := by simp at h1; omega
        have e2 : i = rs.length := by rw [← h.len]; exact e1
        have g1 : (vs ++ [y])[i] = y := by simp [e1]
        have g2 : (rs ++ [b])[i] = b := by simp [e2]
        rw [g1, g2]
        have hne : ∀ k, y.ownBlock = some k → rv.ownBlock ≠ some k := fun k q r => hyT k q (h.own k r)
        refine ⟨ya, yc, hy1, Seen.keep hys hkr (fun k hk q => hne _ (hyb k hk) q), hyl, hya, fun k hk => ?_⟩
        have hk1 := hylt _ (hyb k hk)
        exact ⟨⟨.inr (.inl (hyb k hk)), hnew _ hk1 (hne _ (hyb k hk))⟩, Nat.lt_of_lt_of_le hk1 hkr.size⟩
    · intro k q
      rcases q with q | q | q
      · exact Nat.lt_of_lt_of_le (h.lt k q) hkr.size
      · exact Nat.lt_of_lt_of_le (hylt k q) hkr.size
      · exact (hlt' k q).2
    · intro r hr
      rcases List.mem_append.1 hr with q | q
      · exact h.all r q
      · simp at q; subst q; exact hb
  · intro k q
    rcases q with q | q | q
    · exact .inl q
    · exact .inr (.inl q)
    · rcases ho with r | r
      · exact .inl (h.own k (r ▸ q))
      · rw [r] at q
        have := Option.some.inj q
        exact .inr (.inr (by omega))

theorem putM_go {first s k : Nat} {rs : List (List Nat)} {g : Dev} (he : g.writeE ((first + s - 1 : Nat) : Int) 512 = 0) :
    putM first rs (k + 1) s g = putM first rs k (s + 1) (g.write ((first + s - 1 : Nat) : Int) (filledB s (rs.getD (s - 1) []))) := by
  rw [putM, if_neg (by omega)]
theorem putM_bad {first s k : Nat} {rs : List (List Nat)} {g : Dev} (he : g.writeE ((first + s - 1 : Nat) : Int) 512 ≠ 0) :
    putM first rs (k + 1) s g = (g.write ((first + s - 1 : Nat) : Int) (filledB s (rs.getD (s - 1) [])), g.writeE ((first + s - 1 : Nat) : Int) 512) := by
  rw [putM, if_pos he]
end Go.Proofs.YtgpmghdoofcpaaaGreat.Lg
