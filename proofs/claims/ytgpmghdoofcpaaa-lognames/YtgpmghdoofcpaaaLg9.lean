import Derived.Test.YtgpmghdoofcpaaaLg8
namespace Go.Proofs.Ytgpmghdoofcpaaa.Lg
open Go.RowKit Go.QK
open Dv (hide bnext alloc_below load_arr store_arr slice_arr wp_load_arr wp_store_arr neq_arr info91)

def wpE (p : Dev × Nat) : Nat := if p.2 ≠ 0 then p.2 else p.1.syncE
def wpD (p : Dev × Nat) : Dev := if p.2 ≠ 0 then p.1 else p.1.sync
/-- How write's loop stands. -/
structure PSt (w : World) (S : Nat → Prop) (d : Nat) (g : Dev) (first : Nat) (rs : List (List Nat)) (fr to_ : Nat) (p : Dev × Nat) (wr : World) (s : Nat) (S' : Nat → Prop) (g' : Dev) : Prop where
  lo : fr ≤ s
  hi : s ≤ to_ + 1
  eq : p = putM first rs (to_ + 1 - s) s g'
  dev : PDev wr S' d g'
  st : Step w S wr S'
  pl : g'.pend.length + fr ≤ g.pend.length + s
  cl : g'.calls + fr ≤ g.calls + s

set_option maxRecDepth 100000 in
set_option maxHeartbeats 2000000 in
theorem lwrite_any {w : World} {S T : Nat → Prop} {d : Nat} {g : Dev} (h : PDev w S d g) (l first count forced fr to_ : Nat) (ended : Bool) {rv : Value} {rs : List (List Nat)} {vs : List Value} (hr : Recs w T rv rs vs) (hh : Hd w l d first count rv forced ended)
    (hlS : ¬ S l) (hST : ∀ b, S b → ¬ T b) (h1 : 1 ≤ fr) (h2 : fr ≤ to_ + 1) (h3 : to_ ≤ rs.length) (hb : first + to_ ≤ 10000) (hpl : g.pend.length ≤ 900000) (hcl : g.calls ≤ 900000) :
    Calls Try.prog 27 #[.pointer (some ⟨l, 0, none⟩), .int .i64 (fr : Int), .int .i64 (to_ : Int)] w fun e w' => ∃ S', e = fin 0 (wpE (putM first rs (to_ + 1 - fr) fr g)) ∧ PDev w' S' d (wpD (putM first rs (to_ + 1 - fr) fr g)) ∧ Keep (fun b => S b ∨ b = l) w w' ∧ (∀ k, S' k → S k ∨ w.heap.size ≤ k) ∧
      Hd w' l d first count rv (if wpE (putM first rs (to_ + 1 - fr) fr g) = 0 then to_ else forced) ended := by
  have HI : PSt w S d g first rs fr to_ (putM first rs (to_ + 1 - fr) fr g) w fr S g := ⟨Nat.le_refl _, h2, rfl, h, Step.refl _ _, Nat.le_refl _, Nat.le_refl _⟩
  generalize putM first rs (to_ + 1 - fr) fr g = p at *
  have hl := hh.1
  have HH := hide hh
  have HR := hide hr
  obtain ⟨we, hwe⟩ : ∃ we, we = wpE p := ⟨_, rfl⟩
  obtain ⟨wd, hwd⟩ : ∃ wd, wd = wpD p := ⟨_, rfl⟩
  rw [← hwe, ← hwd]
  have HE := hide hwe
  have HD := hide hwd
  clear h hh hr hwe hwd
  go_enter Try.func27, Try.ntmps27
  go_wp2_with fail
  go_loopw [6] (fun i wr => ∃ (s : Nat) (S' : Nat → Prop) (g' : Dev), i = .int .i64 (s : Int) ∧ PSt w S d g first rs fr to_ p wr s S' g') (fun i _ => (to_ + 1 - (intOf i).toNat))
  case atStart => exact ⟨fr, S, g, rfl, HI⟩
  case round =>
    obtain ⟨s, S', g', rfl, hst⟩ := hrel
    have HH' := hide (HH.out.keep hst.st.1 hlS)
    have HR' := hide (HR.out.keep hst.st.1 hST)
    have hlr : l < wr.heap.size := Nat.lt_of_lt_of_le hl hst.st.1.size
    have hlS' : ¬ S' l := fun q => by
      rcases hst.st.2 l q with r | r
      · exact hlS r
      · omega
    have HST := hide hst
    have hlo := HST.out.lo
    have hhi := HST.out.hi
    have hpp := HST.out.pl
    have hcc := HST.out.cl
    obtain ⟨c0, _⟩ := HH'.out.get 0 _ rfl
    obtain ⟨c1, _⟩ := HH'.out.get 1 _ rfl
    obtain ⟨c3, _⟩ := HH'.out.get 3 _ rfl
    clear hst HI
    by_cases hlt : s ≤ to_
    · have hd : decide ((s : Int) ≤ (to_ : Int)) = true := by simp; omega
      obtain ⟨gb, cb, a, c', erv, hcell, hby, hle, hnil, hall, h502⟩ := HR'.out.get (s - 1) (by omega)
      have hidx : ((s : Int) - 1) = ((s - 1 : Nat) : Int) := by omega
      have hlt1 : s - 1 < rs.length := by omega
      rw [erv] at c3
      have HBY := hide hby
      have hfl := filledB_length (s := s) (b := rs.getD (s - 1) []) (by omega)
      have hfa := filledB_all (s := s) hall
      have eqn := HST.out.eq
      rw [show to_ + 1 - s = (to_ + 1 - (s + 1)) + 1 by omega] at eqn
      have KF := hide (filled_any s a (rs.getD (s - 1) []) c' wr (by omega) HBY.out (by omega))
      have KP := fun w2 (b2 : Below wr.heap.size wr w2) => lput_any (HST.out.dev.below b2) l first s (filledB s (rs.getD (s - 1) [])) (Nat.lt_of_lt_of_le hlr b2.size) hlS' ((World.cell?_of_block (a := ⟨l, 0, none⟩) (b2.block l hlr)).trans c0) ((World.cell?_of_block (a := ⟨l, 1, none⟩) (b2.block l hlr)).trans c1) (by omega) (by omega) hfl hfa (by omega) (by omega)
      have hs1 : s - 1 + 1 = s := by omega
      by_cases he : g'.writeE ((first + s - 1 : Nat) : Int) 512 = 0
      · have HM := hide (eqn.trans (putM_go he))
        have WL := hide (write_len (g := g') (i := ((first + s - 1 : Nat) : Int)) (b := filledB s (rs.getD (s - 1) [])))
        rw [he] at KP
        have KP := hide KP
        clear he hfl hfa eqn hall hby hs1
        generalize g'.write ((first + s - 1 : Nat) : Int) (filledB s (rs.getD (s - 1) [])) = g2 at *
        generalize filledB s (rs.getD (s - 1) []) = X at *
        generalize rs.getD (s - 1) [] = bb at *
        generalize s - 1 = s1 at *
        go_wp2_with fail
        refine KF.out.mono ?_
        rintro e w2 ⟨rfl, b2⟩
        have K2 := hide (KP.out w2 b2)
        have B2 := hide b2
        clear b2 KF KP c0 c1 c3 hcell hidx
        go_wp2_with fail
        refine K2.out.mono ?_
        rintro e w3 ⟨S3, he3, p3, s3⟩
        rw [fin_zero] at he3
        subst he3
        have P3 := hide p3
        have ST3 := hide ((HST.out.st.trans (Step.of_below B2.out)).trans s3)
        clear K2 B2 p3 s3
        go_wp2_with fail
        go_roundw
        case rel => exact ⟨s + 1, S3, g2, by go_num, by omega, by omega, HM.out, P3.out, ST3.out, by have := WL.out; omega, by have := WL.out; omega⟩
        case measure => simp [intOf]; omega
      · have HM := eqn.trans (putM_bad he)
        have hwe : g'.writeE ((first + s - 1 : Nat) : Int) 512 = we := by rw [HE.out, HM]; unfold wpE; rw [if_pos he]
        have hwd : g'.write ((first + s - 1 : Nat) : Int) (filledB s (rs.getD (s - 1) [])) = wd := by rw [HD.out, HM]; unfold wpD; rw [if_pos he]
        rw [hwe] at he
        rw [hwe, hwd] at KP
        have KP := hide KP
        have HNE := hide he
        clear he hfl hfa eqn hall hby hwe hwd HM hs1
        generalize filledB s (rs.getD (s - 1) []) = X at *
        generalize rs.getD (s - 1) [] = bb at *
        generalize s - 1 = s1 at *
        go_wp2_with fail
        refine KF.out.mono ?_
        rintro e w2 ⟨rfl, b2⟩
        have K2 := hide (KP.out w2 b2)
        have B2 := hide b2
        clear b2 KF KP c0 c1 c3 hcell hidx
        go_wp2_with fail
        refine K2.out.mono ?_
        rintro e w3 ⟨S3, he3, p3, s3⟩
        rw [fin_no HNE.out] at he3
        subst he3
        have ST3 := (HST.out.st.trans (Step.of_below B2.out)).trans s3
        refine ⟨rfl, S3, (fin_no HNE.out).symm, p3, ST3.1.mono (fun _ _ q => .inl q), ST3.2, ?_⟩
        rw [if_neg HNE.out]
        exact HH.out.keep ST3.1 hlS
    · have hd : decide ((s : Int) ≤ (to_ : Int)) = false := by simp; omega
      have hM : p = (g', 0) := by rw [HST.out.eq, show to_ + 1 - s = 0 by omega]; rfl
      have hwe : g'.syncE = we := by rw [HE.out, hM]; unfold wpE; simp
      have hwd : g'.sync = wd := by rw [HD.out, hM]; unfold wpD; simp
      have KS := Dv.sync_any HST.out.dev (by omega) (by omega)
      rw [hwe, hwd] at KS
      have KS := hide KS
      clear hM hwe hwd
      go_wp2_with fail
      refine KS.out.mono ?_
      rintro e w3 ⟨rfl, p3, k3⟩
      have st3 := HST.out.st.trans (Step.of_keep k3)
      have HH3 := hide (HH.out.keep st3.1 hlS)
      obtain ⟨c4, f4⟩ := HH3.out.get 4 _ rfl
      have P3 := hide p3
      have ST3 := hide st3
      clear KS p3 k3 c0 c1 c3 st3
      by_cases he : we = 0
      · subst he
        go_wp2_with fail
        refine (must_ok w3).mono ?_
        rintro e w5 ⟨rfl, rfl⟩
        go_wp2_with fail
        go_end0
        refine ⟨rfl, S', ?_, (ST3.out.1.mono (fun _ _ q => .inl q)).setCell (fun _ => .inr rfl) _, ST3.out.2, ?_⟩
        · exact P3.out.keep (T := fun b => b = l) ((Keep.refl (fun b => b = l) _).setCell (fun _ => rfl) _) (fun b q r => hlS' (q ▸ r))
        · exact HH3.out.stored (j := 4) (by simp [hdC]) _
      · have HNE := hide he
        clear he
        go_wp2_with fail
        refine (must_no we HNE.out w3).mono ?_
        rintro e w5 ⟨rfl, rfl⟩
        refine ⟨rfl, S', (fin_no HNE.out).symm, P3.out, ST3.out.1.mono (fun _ _ q => .inl q), ST3.out.2, ?_⟩
        rw [if_neg HNE.out]
        exact HH3.out
end Go.Proofs.Ytgpmghdoofcpaaa.Lg
