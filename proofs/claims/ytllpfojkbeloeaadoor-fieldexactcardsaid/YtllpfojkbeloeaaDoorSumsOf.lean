import Derived.Test.YtllpfojkbeloeaaDoorParts
namespace Go.Proofs.YtllpfojkbeloeaaDoor
open Go.RowKit Go.QK

/-- Lists of bytes that are handed in. -/
def InP (w : World) (a : Option Addr) (n : Nat) : Prop :=
  ∀ i, i < n → ∃ b off, a = some ⟨b, off, none⟩ ∧ b < w.heap.size ∧ ∃ (ai : Option Addr) (l : List Nat) (ci : Nat), w.cell? ⟨b, off + i, none⟩ = some (.slice ai l.length ci) ∧ Bytes w ai l ∧ AllB l ∧ l.length ≤ ci ∧ ci ≤ maxLen ∧ (ai = none → ci = 0)
theorem InP.below {w w' : World} {a : Option Addr} {n : Nat} (h : InP w a n) (hb : Below w.heap.size w w') : InP w' a n := by
  intro i hi
  obtain ⟨b, off, ha, hlt, ai, l, ci, hc, hs, rest⟩ := h i hi
  exact ⟨b, off, ha, Nat.lt_of_lt_of_le hlt hb.size, ai, l, ci, (hb.cell (p := ⟨b, off + i, none⟩) hlt).trans hc, Seen.below hs hb, rest⟩

section
variable {w : World} {lab : Nat → Nat} {B : Nat} {vo vl : Value} {os ls : List (Value × List Nat)}
theorem OEnt.part {j : Nat} {v : Value} {l : List Nat} (h : OEnt w lab B j v l) : ∃ ai ci, v = .slice ai l.length ci ∧ Bytes w ai l ∧ AllB l ∧ l.length ≤ maxLen := by
  obtain ⟨g, c, hv, ho, h1, h2, h3, h4, h5⟩ := h
  refine ⟨_, c, hv, ?_, h4, by unfold maxLen; omega⟩
  have := Bytes.take (Owns.seen_at ho) l.length
  rw [List.take_left] at this
  exact this
theorem LEnt.part {j : Nat} {v : Value} {l : List Nat} (h : LEnt w lab B j v l) : ∃ ai ci, v = .slice ai l.length ci ∧ Bytes w ai l ∧ AllB l ∧ l.length ≤ maxLen ∧ (ai = none → ci = 0) := by
  obtain ⟨ho, _, h4, h5⟩ := h
  obtain ⟨a, c, hv, hs, hn, _, _⟩ := ho.seen
  rw [ints_length] at hv
  exact ⟨a, c, hv, hs, h4, by unfold maxLen; omega, hn⟩
theorem St.formO (h : St w lab B vo vl os ls) : ∃ a c, vo = .slice a os.length c ∧ os.length ≤ c ∧ c ≤ maxLen ∧ (∀ i (_ : i < os.length), ∃ b, a = some ⟨b, 0, none⟩ ∧ b < w.heap.size ∧ w.cell? ⟨b, i, none⟩ = some os[i].1) ∧ ∀ n, n ≤ os.length → Parts w a (os.take n) := by
  obtain ⟨a, c, hv, h1, h2, h3, h4⟩ := h.ro.form
  simp only [List.length_map, List.getElem_map] at hv h1 h4
  refine ⟨a, c, hv, h1, h2, h4, fun n hn => ?_⟩
  by_cases hz : os.take n = []
  · exact .inl hz
  · have hp : 0 < (os.take n).length := List.length_pos_iff.2 hz
    rw [List.length_take] at hp
    obtain ⟨b, ha, hb, _⟩ := h4 0 (by omega)
    refine .inr ⟨b, 0, ha, hb, fun i hi => ?_⟩
    rw [List.length_take] at hi
    obtain ⟨b', ha', _, hc⟩ := h4 i (by omega)
    rw [ha] at ha'
    cases ha'
    rw [List.getElem_take, Nat.zero_add]
    exact ⟨hc, (h.eo i (by omega)).part⟩
theorem St.formL (h : St w lab B vo vl os ls) : ∃ a c, vl = .slice a ls.length c ∧ ls.length ≤ c ∧ c ≤ maxLen ∧ (∀ i (_ : i < ls.length), ∃ b, a = some ⟨b, 0, none⟩ ∧ b < w.heap.size ∧ w.cell? ⟨b, i, none⟩ = some ls[i].1) ∧ Parts w a ls := by
  obtain ⟨a, c, hv, h1, h2, h3, h4⟩ := h.rl.form
  simp only [List.length_map, List.getElem_map] at hv h1 h4
  refine ⟨a, c, hv, h1, h2, h4, ?_⟩
  by_cases hz : ls = []
  · exact .inl hz
  · have hp : 0 < ls.length := List.length_pos_iff.2 hz
    obtain ⟨b, ha, hb, _⟩ := h4 0 (by omega)
    refine .inr ⟨b, 0, ha, hb, fun i hi => ?_⟩
    obtain ⟨b', ha', _, hc⟩ := h4 i (by omega)
    rw [ha] at ha'
    cases ha'
    rw [Nat.zero_add]
    obtain ⟨ai, ci, e1, e2, e3, e4, _⟩ := (h.el i hi).part
    exact ⟨hc, ai, ci, e1, e2, e3, e4⟩
end
theorem joined_snd : (ps qs : List (Value × List Nat)) → ps.map Prod.snd = qs.map Prod.snd → joined ps = joined qs := by
  intro ps qs h
  have e : ∀ rs : List (Value × List Nat), joined rs = (rs.map Prod.snd).flatten := by
    intro rs
    unfold joined
    rw [List.flatMap_def]
  rw [e, e, h]
theorem joined_b (ps : List (Value × List Nat)) (h : ∀ p ∈ ps, AllB p.2) : AllB (joined ps) := by
  intro x hx
  unfold joined at hx
  obtain ⟨p, hp, hx⟩ := List.mem_flatMap.1 hx
  exact h p hp x hx
theorem slice61 (a : Option Addr) (n c k : Nat) (w : World) (h2 : k ≤ c) : (Instr.slice 61 (.slice a n c) none (some (.int .i64 (k : Int))) none).run Tryd.prog w = .ok (.slice a k c) w := by
  have h3 : (k : Int) ≤ (c : Int) := by omega
  go_simp
theorem Parts.below {w w' : World} {a : Option Addr} {ps : List (Value × List Nat)} (h : Parts w a ps) (k : Below w.heap.size w w') : Parts w' a ps := by
  rcases h with h | ⟨b, off, ha, hb, hc⟩
  · exact .inl h
  · refine .inr ⟨b, off, ha, Nat.lt_of_lt_of_le hb k.size, fun i hi => ?_⟩
    obtain ⟨e, ai, ci, e1, e2, e3⟩ := hc i hi
    exact ⟨(k.cell (p := ⟨b, off + i, none⟩) hb).trans e, ai, ci, e1, Seen.below e2 k, e3⟩
def spare : List Nat := [115, 112, 97, 114, 101]

/-- What a round of the second loop reads. -/
theorem St.at {w : World} {lab : Nat → Nat} {B : Nat} {ao al : Option Addr} {n m co cl : Nat} {os ls : List (Value × List Nat)} (h : St w lab B (.slice ao n co) (.slice al m cl) os ls) (j : Nat) (hj : j < ls.length) (hjo : j < os.length) (hs : os[j].2 = ls[j].2) :
    ∃ bo bl g c a c' l, ao = some ⟨bo, 0, none⟩ ∧ al = some ⟨bl, 0, none⟩ ∧ bo < w.heap.size ∧ bl < w.heap.size ∧ w.cell? ⟨bo, j, none⟩ = some (.slice (some ⟨g, 0, none⟩) l.length c) ∧ w.cell? ⟨bl, j, none⟩ = some (.slice a l.length c') ∧
      os[j] = (.slice (some ⟨g, 0, none⟩) l.length c, l) ∧ ls[j] = (.slice a l.length c', l) ∧ l.length + 3 ≤ c ∧ Bytes w (some ⟨g, 0, none⟩) (l ++ marks) ∧ Bytes w a l ∧ (a = none → c' = 0) ∧ AllB l ∧ l.length ≤ 4000 ∧ bo ≠ g ∧ bl ≠ g ∧ g < w.heap.size ∧ w.frozen? ⟨g, 0, none⟩ = false ∧
      (∀ ad, a = some ad → bo ≠ ad.block ∧ bl ≠ ad.block ∧ g ≠ ad.block) := by
  obtain ⟨a1, c1, e1, _, _, f1, _⟩ := h.formO
  obtain ⟨a2, c2, e2, _, _, f2, _⟩ := h.formL
  simp only [Value.slice.injEq] at e1 e2
  obtain ⟨bo, p1, p2, p3⟩ := f1 j hjo
  obtain ⟨bl, q1, q2, q3⟩ := f2 j hj
  obtain ⟨g, c, r1, r2, r3, r4, r5, r6, r7⟩ := h.eo j hjo
  obtain ⟨a, c', s1, s2, s3, s4, s5⟩ := (h.el j hj).part
  have t1 := h.lo bo (by rw [e1.1, p1]; rfl)
  have t2 := h.ll bl (by rw [e2.1, q1]; rfl)
  have t3 : ∀ ad, a = some ad → lab ad.block = 2 * j + 3 := fun ad had => (h.el j hj).2.1 _ (by rw [s1, had]; rfl)
  refine ⟨bo, bl, g, c, a, c', ls[j].2, by rw [e1.1, p1], by rw [e2.1, q1], p2, q2, ?_, ?_, ?_, ?_, ?_, ?_, s2, s5, s3, (h.el j hj).2.2.2, ?_, ?_, (World.ownsRow.lt r2 g rfl).2, Owns.frozen r2 0, ?_⟩
  · rw [p3, r1, hs]
  · rw [q3, s1]
  · rw [← hs, ← r1]
  · rw [← s1]
  · rw [← hs]; exact r3
  · rw [← hs]; exact Owns.seen_at r2
  · intro q; rw [q] at t1; omega
  · intro q; rw [q] at t2; omega
  · intro ad had
    have := t3 ad had
    refine ⟨?_, ?_, ?_⟩
    · intro q; rw [q] at t1; omega
    · intro q; rw [q] at t2; omega
    · intro q; rw [q] at r5; omega

set_option maxHeartbeats 1000000 in
set_option maxRecDepth 100000 in
theorem sums_any (ap : Option Addr) (n cp : Nat) (w : World) (ht : Tab w) (hp : InP w ap n) (hn : n ≤ maxLen) :
    Calls Tryd.prog 38 #[.slice ap n cp] w fun e w' => e = .returned (.bool true) ∧ Below w.heap.size w w' := by
  have HT := hide ht
  have HP := hide hp
  clear ht hp
  unfold maxLen at hn
  go_enter Tryd.func38, Tryd.ntmps38
  go_wp2_with fail
  go_loopw [3, 4, 5, 6] (fun vo vl rm i wr => ∃ (k room : Nat) (lab : Nat → Nat) (os ls : List (Value × List Nat)), rm = .int .i64 (room : Int) ∧ i = .int .i64 (k : Int) ∧ k ≤ n ∧ k ≤ room ∧ room ≤ 8001 ∧ os.length = k ∧ os.map Prod.snd = ls.map Prod.snd ∧ St wr lab w.heap.size vo vl os ls ∧ Below w.heap.size w wr) (fun _ _ _ i _ => n - (intOf i).toNat)
  case atStart => exact ⟨0, 0, fun _ => 0, [], [], rfl, rfl, by omega, by omega, by omega, rfl, rfl, St.nil _, Below.refl _ _⟩
  case round =>
    obtain ⟨k, room, lab, os, ls, rfl, rfl, hkn, hkr, hrm, hos, hsnd, st, bl⟩ := hrel
    have HST := hide st
    clear st
    go_upto_region 5 with fail
    go_cut [18] from 11 to 40 (fun s w' => (∃ q : Bool, s = .bool q ∧ (q = true → k < n ∧ room < 4000)) ∧ w' = wr)
    case first =>
      by_cases h1 : k < n
      · have d1 : decide ((k : Int) < (n : Int)) = true := by simp; omega
        go_wp2_with fail
        go_meet
        exact ⟨⟨_, rfl, fun q => ⟨h1, by simp at q; omega⟩⟩, rfl⟩
      · have d1 : decide ((k : Int) < (n : Int)) = false := by simp; omega
        go_wp2_with fail
        go_meet
        exact ⟨⟨_, rfl, fun q => by cases q⟩, rfl⟩
    case rest =>
      obtain ⟨⟨q, hs18, hq⟩, hwc⟩ := hcut
      subst hwc
      rw [hs18]
      clear hs18
      cases q with
      | true =>
        obtain ⟨h1, h2⟩ := hq rfl
        obtain ⟨b, off, rfl, hblt, ai, l0, ci, hc0', hs0, hb0, hl0, hm0, hn0⟩ := HP.out k h1
        have hc0 := (bl.cell (p := ⟨b, off + k, none⟩) hblt).trans hc0'
        have HS0 := hide hs0
        clear hs0 hq hc0'
        go_wp2_with fail
        refine (cutB_any ai l0.length ci _ hl0 hm0 hn0).mono ?_
        rintro e w' ⟨rfl, rfl⟩
        obtain ⟨l, hl⟩ : ∃ l, l = l0.take 4000 := ⟨_, rfl⟩
        have e1 : min l0.length 4000 = l.length := by rw [hl]; simp; omega
        have HL := hide (Bytes.take HS0.out 4000)
        rw [← hl] at HL
        have bb : AllB l := by rw [hl]; exact hb0.take _
        have n1 : l.length ≤ 4000 := by rw [hl]; simp; omega
        rw [e1]
        clear e1 hl HS0 hc0
        have ew : IntKind.i64.wrap ((room : Int) + (l.length : Int)) = (room : Int) + (l.length : Int) := by rw [IntKind.wrap_i64]; omega
        have ew2 : IntKind.i64.wrap ((room : Int) + (l.length : Int) + 1) = (room : Int) + (l.length : Int) + 1 := by rw [IntKind.wrap_i64]; omega
        have ew3 : IntKind.i64.wrap ((k : Int) + 1) = (k : Int) + 1 := by rw [IntKind.wrap_i64]; omega
        have hl0 : ([] : List Nat).length + l.length ≤ 2000000 := by simp; omega
        go_wp2_with fail
        refine (lent_any ai l ci _ (Seen.below HL.out bl) hn0 (by omega)).mono ?_
        rintro e w1 ⟨g, c, rfl, o1, hc, hcm, b1⟩
        have HR1 := hide (HST.out.ro.below b1)
        have B1 : w.heap.size ≤ w1.heap.size := Nat.le_trans HST.out.base b1.size
        have hos1 : (os.map Prod.fst).length + 1 ≤ 2000000 := by simp; omega
        have hc1 : (w1.alloc (.cells #[.slice (some ⟨g, 0, none⟩) l.length c] 29)).cell? ⟨w1.heap.size, 0, none⟩ = some (.slice (some ⟨g, 0, none⟩) l.length c) := by go_simp
        have HR2 := hide (HR1.out.below ((Below.refl _ _).alloc (Nat.le_refl _) (.cells #[.slice (some ⟨g, 0, none⟩) l.length c] 29)))
        go_wp2_with (at_builtin; refine pushS rfl (.tmp 31) (.tmp 34) rfl w.heap.size _ _ rfl ⟨w1.heap.size, 0, none⟩ (.slice (some ⟨g, 0, none⟩) l.length c) rfl HR2.out hc1 rfl hos1 (by simp; omega) ?_)
        intro vo2 w2 r2 g2 hv2
        obtain ⟨⟨lab2, st2⟩, bl2⟩ := HST.out.pushO b1 o1 hc hcm bb n1 r2 g2 hv2
        have BL2 : Below w.heap.size w w2 := bl.trans (bl2.mono (Nat.le_refl _))
        have HST2 := hide st2
        clear HST HR1 HR2 hc1 o1 r2 g2 hv2 b1 bl bl2 st2
        go_wp2_with (at_builtin; refine appB rfl (.const (.slice none 0 0)) (.tmp 37) rfl w2.heap.size _ [] rfl (Owns.nil _ _ _ _) ai l.length ci l rfl rfl (Seen.below HL.out BL2) hn0 hl0 (Nat.le_refl _) ?_)
        intro v3 w3 o3 g3 _
        have b3 : Below w2.heap.size w2 w3 := (Below.refl _ _).grown g3 (Nat.le_refl _) (by nofun)
        have o3' : OwnB w3 w2.heap.size v3 l := by simpa using o3
        obtain ⟨a3, c3, hv3, _⟩ := o3'.seen
        rw [ints_length] at hv3
        subst hv3
        have hc1 : (w3.alloc (.cells #[.slice a3 l.length c3] 29)).cell? ⟨w3.heap.size, 0, none⟩ = some (.slice a3 l.length c3) := by go_simp
        have HR2 := hide ((HST2.out.rl.below b3).below ((Below.refl _ _).alloc (Nat.le_refl _) (.cells #[.slice a3 l.length c3] 29)))
        have B3 : w.heap.size ≤ w3.heap.size := Nat.le_trans HST2.out.base b3.size
        have hls1 : (ls.map Prod.fst).length + 1 ≤ 2000000 := by
          have := congrArg List.length hsnd
          simp at this
          simp; omega
        have HV3 := hide o3'
        clear o3 o3' g3
        go_wp2_with (at_builtin; refine pushS rfl (.tmp 36) (.tmp 39) rfl w.heap.size _ _ rfl ⟨w3.heap.size, 0, none⟩ (.slice a3 l.length c3) rfl HR2.out hc1 rfl hls1 (by simp; omega) ?_)
        intro vl4 w4 r4 g4 hv4
        obtain ⟨⟨lab4, st4⟩, bl4⟩ := HST2.out.pushL b3 HV3.out bb n1 r4 g4 hv4
        have BL4 : Below w.heap.size w w4 := BL2.trans (bl4.mono (Nat.le_refl _))
        have HST4 := hide st4
        clear HST2 HR2 hc1 r4 g4 hv4 b3 bl4 st4 HV3 BL2
        go_wp2_with fail
        go_roundw
        case rel => exact ⟨k + 1, room + l.length + 1, lab4, _, _, by go_num, by go_num, by omega, by omega, by omega, by simp; omega, by simp [hsnd], HST4.out, BL4⟩
        case measure => simp [intOf]; omega
      | false =>
        clear hq
        have cv1 := fun w => conv_lit w #[.int .u8 115, .int .u8 112, .int .u8 97, .int .u8 114, .int .u8 101] 5
        go_wp2_with fail
        have M1 : Bytes (marked wc #[.int .u8 115, .int .u8 112, .int .u8 97, .int .u8 114, .int .u8 101]) (some ⟨wc.heap.size, 0, none⟩) spare := marked_bytes wc spare
        have A1 := marked_below wc #[.int .u8 115, .int .u8 112, .int .u8 97, .int .u8 114, .int .u8 101]
        have HST1 := hide (HST.out.below A1)
        have BL1 := bl.trans (A1.mono bl.size)
        generalize marked wc #[.int .u8 115, .int .u8 112, .int .u8 97, .int .u8 114, .int .u8 101] = w0 at *
        generalize wc.heap.size = s0 at M1 ⊢
        clear A1 HST bl cv1
        refine (lent_any (some ⟨s0, 0, none⟩) spare 5 w0 M1 nofun (by simp [spare])).mono ?_
        rintro e w1 ⟨g, c, rfl, o1, hc, hcm, b1⟩
        have HR1 := hide (HST1.out.ro.below b1)
        have B1 : w.heap.size ≤ w1.heap.size := Nat.le_trans HST1.out.base b1.size
        have hos1 : (os.map Prod.fst).length + 1 ≤ 2000000 := by simp; omega
        have hc1 : (w1.alloc (.cells #[.slice (some ⟨g, 0, none⟩) 5 c] 29)).cell? ⟨w1.heap.size, 0, none⟩ = some (.slice (some ⟨g, 0, none⟩) 5 c) := by go_simp
        have HR2 := hide (HR1.out.below ((Below.refl _ _).alloc (Nat.le_refl _) (.cells #[.slice (some ⟨g, 0, none⟩) 5 c] 29)))
        have hsp : spare.length = 5 := rfl
        rw [hsp]
        go_wp2_with (at_builtin; refine pushS rfl (.tmp 41) (.tmp 45) rfl w.heap.size _ _ rfl ⟨w1.heap.size, 0, none⟩ (.slice (some ⟨g, 0, none⟩) 5 c) rfl HR2.out hc1 rfl hos1 (by simp; omega) ?_)
        intro vo2 w2 r2 g2 hv2
        obtain ⟨⟨lab2, st2⟩, bl2⟩ := HST1.out.pushO b1 o1 hc hcm (allB_of rfl) (by simp [spare]) r2 g2 hv2
        have BL2 : Below w.heap.size w w2 := BL1.trans (bl2.mono (Nat.le_refl _))
        have HST2 := hide st2
        clear HST1 HR1 HR2 hc1 o1 r2 g2 hv2 b1 bl2 st2 M1
        obtain ⟨ao, co, rfl, hco, hcom, -, hpo⟩ := HST2.out.formO
        obtain ⟨al, cl, rfl, hcl, hclm, -, hpl⟩ := HST2.out.formL
        have hlo : ls.length = k := by
          have := congrArg List.length hsnd
          simp at this
          omega
        simp only [List.length_append, List.length_cons, List.length_nil, Nat.zero_add] at hco hpo ⊢
        have sl := fun w => slice61 ao (k + 1) co k w (by omega)
        have hpo1 := hpo os.length (by omega)
        rw [List.take_left] at hpo1
        have jb : AllB (joined ls) := joined_b _ (fun p hp => by
          obtain ⟨j, hj, rfl⟩ := List.getElem_of_mem hp
          exact (HST2.out.el j hj).2.2.1)
        have je : joined os = joined ls := joined_snd _ _ hsnd
        have K1 := sum_any os ao co w2 (Tab.below HT.out BL2) hpo1 (by unfold maxLen; omega) (by rw [je]; exact jb)
        have K2 := rSum_any ls al cl w2 hpl (by unfold maxLen; omega) jb
        rw [je, hos] at K1
        rw [hlo] at K2 hcl
        rw [hos] at hco
        rw [hos, hlo]
        have HK1 := hide K1
        have HK2 := hide K2
        have HOS := hide hos
        have HLO := hide hlo
        have HSN := hide hsnd
        clear K1 K2 hpo hpl hpo1 jb je hos hlo hsnd
        go_wp2_with (first | (go_at_call 20; refine (Hid.out HK1).mono ?_; rintro e w' ⟨rfl, rfl⟩) | (go_at_call 51; refine (Hid.out HK2).mono ?_; rintro e w' ⟨rfl, rfl⟩))
        go_loopw [9, 10] (fun ok i wr => ∃ (j : Nat) (lab : Nat → Nat) (os ls : List (Value × List Nat)), ok = .bool true ∧ i = .int .i64 (j : Int) ∧ j ≤ k ∧ os.length = k + 1 ∧ ls.length = k ∧ os.map Prod.snd = ls.map Prod.snd ++ [spare] ∧ St wr lab w.heap.size (.slice ao (k + 1) co) (.slice al k cl) os ls ∧ Below w.heap.size w wr) (fun _ i _ => k - (intOf i).toNat)
        case atStart =>
          have s2 := HST2.out
          simp only [List.length_append, List.length_cons, List.length_nil, Nat.zero_add, HOS.out, HLO.out] at s2
          exact ⟨0, lab2, os ++ [(.slice (some ⟨g, 0, none⟩) spare.length c, spare)], ls, rfl, rfl, by omega, by simp [HOS.out], HLO.out, by simp [HSN.out], s2, BL2⟩
        case round =>
          clear HST2 HOS HLO HSN BL1 BL2 HK1 HK2
          obtain ⟨j, lab3, os3, ls3, rfl, rfl, hjk, hos3, hls3, hsn3, st3, bl3⟩ := hrel
          have HST3 := hide st3
          clear st3
          by_cases hj : j < k
          · have d1 : decide ((j : Int) < (k : Int)) = true := by simp; omega
            have d2 : (j : Int) < (k : Int) + 1 := by omega
            have d3 : (j : Int) < (k : Int) := by omega
            have he : ∀ (h1 : j < os3.length) (h2 : j < ls3.length), os3[j].2 = ls3[j].2 := by
              intro h1 h2
              have q1 : (os3.map Prod.snd)[j]? = some os3[j].2 := by simp [h1]
              have q2 : (ls3.map Prod.snd ++ [spare])[j]? = some ls3[j].2 := by rw [List.getElem?_append_left (by simpa using h2)]; simp [h2]
              rw [hsn3, q2] at q1
              exact (Option.some.inj q1).symm
            obtain ⟨bo, bl', g', c', a, cc, l, rfl, rfl, hbo, hbl, hco1, hcl1, hoj, hlj, hc3, hP, hB, hna, hbb, hll, nog, nlg, hgl, hfg, nad⟩ := HST3.out.at j (by omega) (by omega) (he _ _)
            have KP : ∀ wq, Below wr.heap.size wr wq → Calls Tryd.prog 46 #[.slice (some ⟨g', 0, none⟩) l.length c', .slice a l.length cc] wq fun e w' => e = .returned (.bool true) ∧ Below wq.heap.size wq w' := by
              intro wq hq
              have := kept_any g' l.length c' (l ++ marks) l a cc wq (Seen.below hP hq) (by simp [marks]) (by omega) (Seen.below hB hq) hna (by omega) (hbb.append marks_b) hbb
              rw [decide_eq_true rfl] at this
              exact this
            have HKP := hide KP
            have HQ := hide hP
            have HQB := hide hB
            clear KP hP hB
            go_upto_region 17 with fail
            refine wp_region_held_drew (S := fun x => x.cell? ⟨bo, j, none⟩ = some (.slice (some ⟨g', 0, none⟩) l.length c') ∧ x.cell? ⟨bl', j, none⟩ = some (.slice a l.length cc)) (by kernel_rfl) ⟨hco1, hcl1⟩ (fun hS => ?_)
            refine take_at 0 (some 61) (v := ?_) rfl rfl (by kernel_rfl) (by kernel_rfl) (by kernel_rfl) (fun _ _ _ h => h) ⟨by rfl, ?_⟩ hS ?_
            rotate_left
            · intro wq hSw; (try dsimp only at hSw); go_simp; try rfl
            simp only [Act.put, List.setIfInBounds_toArray, List.set_cons_zero, List.set_cons_succ]
            refine take_at 1 (some 62) (v := ?_) rfl rfl (by kernel_rfl) (by kernel_rfl) (by kernel_rfl) (fun _ _ _ h => h) ⟨by rfl, ?_⟩ hS ?_
            rotate_left
            · intro wq hSw; (try dsimp only at hSw); go_simp; try rfl
            simp only [Act.put, List.setIfInBounds_toArray, List.set_cons_zero, List.set_cons_succ]
            refine take_at 2 (some 63) (v := ?_) rfl rfl (by kernel_rfl) (by kernel_rfl) (by kernel_rfl) (fun _ _ _ h => h) ⟨by rfl, ?_⟩ hS ?_
            rotate_left
            · intro wq hSw; (try dsimp only at hSw); go_simp; try rfl
            simp only [Act.put, List.setIfInBounds_toArray, List.set_cons_zero, List.set_cons_succ]
            refine take_at 3 (some 64) (v := ?_) rfl rfl (by kernel_rfl) (by kernel_rfl) (by kernel_rfl) (fun _ _ _ h => h) ⟨by rfl, ?_⟩ hS ?_
            rotate_left
            · intro wq hSw; (try dsimp only at hSw); go_simp; try rfl
            simp only [Act.put, List.setIfInBounds_toArray, List.set_cons_zero, List.set_cons_succ]
            refine take_at 4 (some 65) (v := ?_) rfl rfl (by kernel_rfl) (by kernel_rfl) (by kernel_rfl) (fun _ _ _ h => h) ⟨by rfl, ?_⟩ hS ?_
            rotate_left
            · intro wq hSw; (try dsimp only at hSw); go_simp; try rfl
            simp only [Act.put, List.setIfInBounds_toArray, List.set_cons_zero, List.set_cons_succ]
            refine take_at 5 (some 66) (v := ?_) rfl rfl (by kernel_rfl) (by kernel_rfl) (by kernel_rfl) (fun _ _ _ h => h) ⟨by rfl, ?_⟩ hS ?_
            rotate_left
            · intro wq hSw; (try dsimp only at hSw); go_simp; try rfl
            simp only [Act.put, List.setIfInBounds_toArray, List.set_cons_zero, List.set_cons_succ]
            refine take_at 6 (some 67) (v := ?_) rfl rfl (by kernel_rfl) (by kernel_rfl) (by kernel_rfl) (fun _ _ _ h => h) ⟨by rfl, ?_⟩ hS ?_
            rotate_left
            · intro wq hSw; (try dsimp only at hSw); go_simp; try rfl
            simp only [Act.put, List.setIfInBounds_toArray, List.set_cons_zero, List.set_cons_succ]
            refine take_at 7 (some 68) (v := ?_) rfl rfl (by kernel_rfl) (by kernel_rfl) (by kernel_rfl) (fun _ _ _ h => h) ⟨by rfl, ?_⟩ hS ?_
            rotate_left
            · intro wq hSw; (try dsimp only at hSw); go_simp; try rfl
            simp only [Act.put, List.setIfInBounds_toArray, List.set_cons_zero, List.set_cons_succ]
            refine take_at 8 (some 69) (v := ?_) rfl rfl (by kernel_rfl) (by kernel_rfl) (by kernel_rfl) (fun _ _ _ h => h) ⟨by rfl, ?_⟩ hS ?_
            rotate_left
            · intro wq hSw; (try dsimp only at hSw); go_simp; try rfl
            simp only [Act.put, List.setIfInBounds_toArray, List.set_cons_zero, List.set_cons_succ]
            refine take_at 9 (some 70) (v := ?_) rfl rfl (by kernel_rfl) (by kernel_rfl) (by kernel_rfl) (fun _ _ _ h => h) ⟨by rfl, ?_⟩ hS ?_
            rotate_left
            · intro wq hSw; (try dsimp only at hSw); go_simp; try rfl
            simp only [Act.put, List.setIfInBounds_toArray, List.set_cons_zero, List.set_cons_succ]
            refine wpAnyH_ready (rs := [10]) (by kernel_rfl) (by simp) ?_
            refine AllReadyH.cons rfl (fun K hK => ?_) AllReadyH.nil
            go_simp
            go_wp2_with fail
            refine (HKP.out wr.drew (Below.refl _ _).drew).mono ?_
            rintro e wz ⟨rfl, bz⟩
            go_wp2_with fail
            have bz' : Below wr.heap.size wr wz := below_undrew bz
            refine hK.out _ _ ⟨(bz'.cell (p := ⟨bo, j, none⟩) hbo).trans hS.1, (bz'.cell (p := ⟨bl', j, none⟩) hbl).trans hS.2⟩ (fun hT => ?_)
            clear hS
            have hS := hT
            clear hT
            clear hK K
            refine take_at 11 (some 72) (v := ?_) rfl rfl (by kernel_rfl) (by kernel_rfl) (by kernel_rfl) (fun _ _ _ h => h) ⟨by rfl, ?_⟩ hS ?_
            rotate_left
            · intro wq hSw; (try dsimp only at hSw); go_simp; try rfl
            simp only [Act.put, List.setIfInBounds_toArray, List.set_cons_zero, List.set_cons_succ]
            refine take_at 12 (some 9) (v := ?_) rfl rfl (by kernel_rfl) (by kernel_rfl) (by kernel_rfl) (fun _ _ _ h => h) ⟨by rfl, ?_⟩ hS ?_
            rotate_left
            · intro wq hSw; (try dsimp only at hSw); go_simp; try rfl
            simp only [Act.put, List.setIfInBounds_toArray, List.set_cons_zero, List.set_cons_succ]
            refine wpAnyH_done (by kernel_rfl) ?_ _
            have HSTz := hide (HST3.out.below bz')
            have BLz : Below w.heap.size w wz := bl3.trans (bz'.mono bl3.size)
            have q1 := hS.1
            have q2 := hS.2
            have hgz : g' < wz.heap.size := Nat.lt_of_lt_of_le hgl bz'.size
            have hfz : wz.frozen? ⟨g', 0, none⟩ = false := (bz'.frozen (p := ⟨g', 0, none⟩) hgl).trans hfg
            have HQz := hide (Seen.below HQ.out bz')
            have HQBz := hide (Seen.below HQB.out bz')
            have ew3 : IntKind.i64.wrap ((j : Int) + 1) = (j : Int) + 1 := by rw [IntKind.wrap_i64]; omega
            clear hS bz bz' HST3 HKP HQ HQB hco1 hcl1 hbo hbl hfg hgl
            by_cases h0 : 0 < l.length
            · have d0 : decide ((l.length : Int) > 0) = true := by simp; omega
              have d0' : (0 : Int) < (l.length : Int) := by omega
              obtain ⟨x0, hx0⟩ : ∃ x0, x0 = l.getD 0 0 := ⟨_, rfl⟩
              have hxb : x0 < 256 := by rw [hx0]; exact hbb.get 0
              have HX0 := hide hx0
              clear hx0
              have hxx : bits .xor .u8 (x0 : Int) 9 = ((x0 ^^^ 9 : Nat) : Int) := xor_u8 x0 9 hxb (by decide)
              have r1 : wz.cell? ⟨g', 0, none⟩ = some (.int .u8 (x0 : Int)) := by
                obtain ⟨b, off, e, _, hc⟩ := Bytes.at (Bytes.take HQz.out l.length) (i := 0) (by simp; omega)
                cases e
                rw [List.take_left, Nat.zero_add, ← HX0.out] at hc
                exact hc
              have r2 : ∃ ba, a = some ⟨ba, 0, none⟩ := by
                have := (HSTz.out.el j (by omega)).1
                rw [hlj] at this
                obtain ⟨g4, c4, e4, _⟩ := Owns.form this (by rw [ints_length]; exact h0)
                simp only [Value.slice.injEq] at e4
                exact ⟨g4, e4.1⟩
              obtain ⟨ba, rfl⟩ := r2
              obtain ⟨n1, n2, n3⟩ := nad _ rfl
              go_upto_region 19 with fail
              go_region
              obtain ⟨st4, b4⟩ := HSTz.out.setO j (by omega) (g := g') (c := c') (n := l.length) (by rw [hoj]) 0 (x0 ^^^ 9) (by rw [hoj]; exact h0) (Nat.xor_lt_two_pow (n := 8) hxb (by decide))
              have kk : Keep (fun b => b = g') wz (wz.setCell ⟨g', 0, none⟩ (.int .u8 ((x0 ^^^ 9 : Nat) : Int))).drew := ((Keep.refl (fun b => b = g') wz).setCell (fun _ => rfl) _).drew
              have HST5 := hide (st4.below (Below.refl _ _).drew)
              have BL5 : Below w.heap.size w (wz.setCell ⟨g', 0, none⟩ (.int .u8 ((x0 ^^^ 9 : Nat) : Int))).drew := (BLz.trans (b4.mono (Nat.le_refl _))).drew
              have hbl : bl' < wz.heap.size := HSTz.out.rl.lt bl' rfl |>.2
              have q3 := (kk.cell (p := ⟨bl', j, none⟩) hbl nlg).trans q2
              have ol := (HSTz.out.el j (by omega)).1
              rw [hlj] at ol
              have hbal := (World.ownsRow.lt ol ba rfl).2
              have fba := (kk.frozen (p := ⟨ba, 0, none⟩) hbal (fun q => n3 q.symm)).trans (Owns.frozen ol 0)
              have r3 : wz.cell? ⟨ba, 0, none⟩ = some (.int .u8 (x0 : Int)) := by
                obtain ⟨b, off, e, _, hc⟩ := Bytes.at HQBz.out (i := 0) h0
                cases e
                rw [Nat.zero_add, ← HX0.out] at hc
                exact hc
              have r4 := (kk.cell (p := ⟨ba, 0, none⟩) hbal (fun q => n3 q.symm)).trans r3
              generalize (wz.setCell ⟨g', 0, none⟩ (.int .u8 ((x0 ^^^ 9 : Nat) : Int))).drew = wy at *
              clear st4 b4 kk HSTz HQz HQBz ol r1 r3 q1 q2 hfz hgz BLz
              go_upto_region 20 with fail
              go_region
              have hlj' : ls3[j].1 = .slice (some ⟨ba, 0, none⟩) l.length cc := by rw [hlj]
              obtain ⟨st6, b6⟩ := HST5.out.setL j (by omega) hlj' 0 (x0 ^^^ 9) (by rw [hlj]; exact h0) (Nat.xor_lt_two_pow (n := 8) hxb (by decide))
              have st7 := st6.below (Below.refl _ _).drew
              have BL7 := (BL5.trans (b6.mono (Nat.le_refl _))).drew
              have HST7 := hide st7
              have HBL7 := hide BL7
              have HSN : Hid ((os3.set j (os3[j].1, os3[j].2.set 0 (x0 ^^^ 9))).map Prod.snd = (ls3.set j (ls3[j].1, ls3[j].2.set 0 (x0 ^^^ 9))).map Prod.snd ++ [spare]) := by
                unfold Hid
                rw [List.map_set, List.map_set, hsn3, he, List.set_append_left _ _ (by simp; omega)]
              clear st6 st7 BL7 b6 HST5 BL5
              go_wp2_with fail
              go_roundw
              case rel => exact ⟨j + 1, lab3, _, _, rfl, by go_num, by omega, by simp [hos3], by simp [hls3], HSN.out, HST7.out, HBL7.out⟩
              case measure => simp [intOf]; omega
            · have d0 : decide ((l.length : Int) > 0) = false := decide_eq_false (by omega)
              go_wp2_with fail
              go_roundw
              case rel => exact ⟨j + 1, lab3, os3, ls3, rfl, by go_num, by omega, hos3, hls3, hsn3, HSTz.out, BLz⟩
              case measure => simp [intOf]; omega
          · have d1 : decide ((j : Int) < (k : Int)) = false := decide_eq_false (by omega)
            have d2 : (k : Int) < (k : Int) + 1 := by omega
            obtain ⟨a1, c1, e1, _, _, f1, hpo⟩ := HST3.out.formO
            obtain ⟨a2, c2, e2, _, _, _, hpl⟩ := HST3.out.formL
            simp only [Value.slice.injEq] at e1 e2
            obtain ⟨rfl, -, rfl⟩ := e1
            obtain ⟨rfl, -, rfl⟩ := e2
            have hko : k < os3.length := by omega
            obtain ⟨bo, rfl, hbo, hcell⟩ := f1 k hko
            have hsp3 : os3[k].2 = spare := by
              have q1 : (os3.map Prod.snd)[k]? = some os3[k].2 := by simp [hko]
              have q2 : (ls3.map Prod.snd ++ [spare])[k]? = some spare := by rw [List.getElem?_append_right (by simp; omega)]; simp [hls3]
              rw [hsn3, q2] at q1
              exact (Option.some.inj q1).symm
            obtain ⟨ai, ci, v1, v2, v3, _⟩ := (HST3.out.eo k hko).part
            rw [hsp3] at v1 v2 v3
            rw [v1] at hcell
            have hsp : spare.length = 5 := rfl
            rw [hsp] at hcell
            have hpo1 := hpo k (by omega)
            have jb : AllB (joined ls3) := joined_b _ (fun p hp => by
              obtain ⟨j, hj, rfl⟩ := List.getElem_of_mem hp
              exact (HST3.out.el j hj).2.2.1)
            have je : joined (os3.take k) = joined ls3 := joined_snd _ _ (by rw [List.map_take, hsn3, List.take_left' (by simp [hls3])])
            have tl : (os3.take k).length = k := by simp; omega
            have KA : ∀ wq, Below wr.heap.size wr wq → Calls Tryd.prog 20 #[.slice (some ⟨bo, 0, none⟩) k co] wq fun e w' => e = .returned (.int .u32 ((sumOf (joined ls3) : Nat) : Int)) ∧ w' = wq := by
              intro wq hq
              have := sum_any (os3.take k) (some ⟨bo, 0, none⟩) co wq (Tab.below (Tab.below HT.out bl3) hq) (Parts.below hpo1 hq) (by unfold maxLen; omega) (by rw [je]; exact jb)
              rw [tl, je] at this
              exact this
            have KB : ∀ wq, Below wr.heap.size wr wq → Calls Tryd.prog 51 #[.slice al k cl] wq fun e w' => e = .returned (.int .u32 ((sumOf (joined ls3) : Nat) : Int)) ∧ w' = wq := by
              intro wq hq
              have := rSum_any ls3 al cl wq (Parts.below hpl hq) (by unfold maxLen; omega) jb
              rw [hls3] at this
              exact this
            have A1 := marked_below wr #[.int .u8 115, .int .u8 112, .int .u8 97, .int .u8 114, .int .u8 101]
            have M1 : Bytes (marked wr #[.int .u8 115, .int .u8 112, .int .u8 97, .int .u8 114, .int .u8 101]) (some ⟨wr.heap.size, 0, none⟩) spare := marked_bytes wr spare
            have KC : Calls Tryd.prog 25 #[.slice ai 5 ci, .slice (some ⟨wr.heap.size, 0, none⟩) 5 5] (marked wr #[.int .u8 115, .int .u8 112, .int .u8 97, .int .u8 114, .int .u8 101]) fun e w' => e = .returned (.bool true) ∧ w' = marked wr #[.int .u8 115, .int .u8 112, .int .u8 97, .int .u8 114, .int .u8 101] := by
              have := same_any ai (some ⟨wr.heap.size, 0, none⟩) spare spare ci 5 _ (Seen.below v2 A1) M1 (allB_of rfl) (allB_of rfl)
              rw [decide_eq_true rfl] at this
              exact this
            have HKA := hide (KA _ A1)
            have HKB := hide (KB _ A1)
            have HKC := hide KC
            have BLm := bl3.trans (A1.mono bl3.size)
            have cv1 := fun w => conv_lit w #[.int .u8 115, .int .u8 112, .int .u8 97, .int .u8 114, .int .u8 101] 5
            clear KA KB KC HST3 hpo hpl hpo1 jb je v1 v2 v3 f1 A1 M1 hsp3 tl hos3 hls3 hsn3
            go_wp2_with (first | (go_at_call 25; refine (Hid.out HKC).mono ?_; rintro e w' ⟨rfl, rfl⟩) | (go_at_call 20; refine (Hid.out HKA).mono ?_; rintro e w' ⟨rfl, rfl⟩) | (go_at_call 51; refine (Hid.out HKB).mono ?_; rintro e w' ⟨rfl, rfl⟩))
            go_ret
            exact ⟨rfl, BLm⟩

end Go.Proofs.YtllpfojkbeloeaaDoor
