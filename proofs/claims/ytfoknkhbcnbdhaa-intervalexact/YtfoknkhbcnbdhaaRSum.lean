import Derived.Test.YtfoknkhbcnbdhaaSigned
namespace Go.Proofs.Ytfoknkhbcnbdhaa
open Go.RowKit Quota

/-- The length in a slice's slot. -/
def slen : Value → Nat | .slice _ n _ => n | _ => 0

def Neg (xs : List Int) : Prop := ∀ x ∈ xs, x < 0 ∧ I64 x
def Pos (xs : List Int) : Prop := ∀ x ∈ xs, 0 ≤ x ∧ I64 x
theorem neg_negs {xs : List Int} (h : All xs) : Neg (negs xs) ∧ Pos (poss xs) := by
  induction xs with
  | nil => exact ⟨nofun, nofun⟩
  | cons x r ih =>
    have hx := h x (by simp)
    obtain ⟨h1, h2⟩ := ih (fun y hy => h y (by simp [hy]))
    simp only [negs, poss]
    split
    · refine ⟨fun y hy => ?_, h2⟩
      rcases List.mem_cons.1 hy with e | e
      · rw [e]; exact ⟨by assumption, hx⟩
      · exact h1 y e
    · refine ⟨h1, fun y hy => ?_⟩
      rcases List.mem_cons.1 hy with e | e
      · rw [e]; exact ⟨by omega, hx⟩
      · exact h2 y e
theorem neg_sum {xs : List Int} (h : Neg xs) : isum xs ≤ 0 := by
  induction xs with
  | nil => simp [isum]
  | cons x r ih =>
    have := (h x (by simp)).1
    have := ih (fun y hy => h y (by simp [hy]))
    simp only [isum]; omega
theorem pos_sum {xs : List Int} (h : Pos xs) : 0 ≤ isum xs := by
  induction xs with
  | nil => simp [isum]
  | cons x r ih =>
    have := (h x (by simp)).1
    have := ih (fun y hy => h y (by simp [hy]))
    simp only [isum]; omega
theorem sum_parts (xs : List Int) : isum (negs xs) + isum (poss xs) = isum xs := by
  rw [isum_negs, isum_poss]
  induction xs with
  | nil => rfl
  | cons x r ih => simp only [lows, highs, isum]; split <;> omega

theorem slice_one (a : Option Addr) (n cap : Nat) (w : World) (h2 : n + 1 ≤ cap) :
    (Instr.slice 35 (.slice a (n + 1) cap) (some (.int .i64 1)) none none).run Try.prog w = .ok (.slice (dropA a cap 1) n (cap - 1)) w := by
  have := slice_from a (n + 1) cap 1 w (by omega) h2
  simpa using this
theorem Seen.tail {w : World} {a : Option Addr} {x : Int} {r : List Int} {cap : Nat} (h : Seen w a (x :: r)) (hc : r.length + 1 ≤ cap) : Seen w (dropA a cap 1) r := h.drop 1 (by simpa using hc)
theorem Seen.head {w : World} {a : Option Addr} {x : Int} {r : List Int} (h : Seen w a (x :: r)) : ∃ b off, a = some ⟨b, off, none⟩ ∧ w.cell? ⟨b, off, none⟩ = some (.int .i64 x) := by
  rcases h with h | ⟨b, off, h1, _, h3⟩
  · cases h
  · have := h3 0 (by simp)
    exact ⟨b, off, h1, by simpa using this⟩

/-- What the loop of the reference's Sum keeps. -/
def Left (w : World) (T : Int) (u v s : Value) : Prop :=
  ∃ (ms ps : List Int) (am ap : Option Addr) (cm cp : Nat) (t : Int), u = .slice am ms.length cm ∧ v = .slice ap ps.length cp ∧ s = .int .i64 t ∧ Seen w am ms ∧ Seen w ap ps ∧ ms.length ≤ cm ∧ ps.length ≤ cp ∧ ms.length ≤ 200000 ∧ ps.length ≤ 200000 ∧ Neg ms ∧ Pos ps ∧ I64 t ∧ t + isum ms + isum ps = T

set_option maxHeartbeats 1000000 in
theorem rsum_T (T : Int) (xs : List Int) (hT : isum xs = T) (a : Option Addr) (cap : Nat) (w : World) (hs : Seen w a xs) (hx : All xs) (hl : xs.length ≤ 100000) :
    Calls Try.prog 38 #[.slice a xs.length cap] w fun e w' => e = .returned (.tuple #[.int .i64 (fitV T), .int .i64 (fitE T)]) ∧ Below w.heap.size w w' := by
  have hng := neg_negs hx
  have hsp := sum_parts xs
  rw [hT] at hsp
  have HSP : Hid (isum (negs xs) + isum (poss xs) = T) := hsp
  clear hsp hT
  have hln := negs_len xs
  go_enter Try.func38, Try.ntmps38
  go_wp2_with fail
  refine (signed_true xs a cap _ hs hl).mono ?_
  rintro e w1 ⟨v1, rfl, o1, h1⟩
  obtain ⟨a1, c1, rfl, s1, _, k1⟩ := o1.seen
  have hs2 := hs.below h1
  clear o1
  go_wp2_with fail
  refine (signed_false xs a cap _ hs2 hl).mono ?_
  rintro e w2 ⟨v2, rfl, o2, h2⟩
  obtain ⟨a2, c2, rfl, s2, _, k2⟩ := o2.seen
  have s3 := s1.below h2
  have g2 := h1.trans (h2.mono h1.size)
  clear o2 h1 h2 hs hs2 s1
  have L0 : Left w2 T (.slice a1 (negs xs).length c1) (.slice a2 (poss xs).length c2) (.int .i64 0) :=
    ⟨negs xs, poss xs, a1, a2, c1, c2, 0, rfl, rfl, rfl, s3, s2, k1, k2, by omega, by omega, hng.1, hng.2, by unfold I64; omega, by have := HSP.out; omega⟩
  clear s2 s3 hng HSP k1 k2
  go_wp2_with fail
  go_loopw [4, 5, 6] (fun u v s wr => wr = w2 ∧ Left w2 T u v s) (fun u v _ _ => slen u + slen v)
  case atStart => exact ⟨rfl, L0⟩
  case round =>
    clear L0
    obtain ⟨rfl, ms, ps, am, ap, cm, cp, t, rfl, rfl, rfl, sm, sp, km, kp, lm, lp, nm, pp, ht, hsum⟩ := hrel
    have HS : Hid (t + isum ms + isum ps = T) := hsum
    clear hsum
    cases ms with
    | nil =>
      cases ps with
      | nil =>
        have et : fitV T = t ∧ fitE T = 0 := by
          have := HS.out
          simp only [isum] at this
          have e : t = T := by omega
          rw [← e]
          exact fit_yes ht
        have HF : Hid (fitV T = t ∧ fitE T = 0) := et
        clear et
        go_wp2_with fail
        go_ret2
        rw [HF.out.1, HF.out.2]
        exact ⟨rfl, g2⟩
      | cons y q =>
        have hy := (pp y (by simp)).2
        have hy0 := (pp y (by simp)).1
        have kp' : q.length + 1 ≤ cp := by simpa using kp
        have lp' : q.length + 1 ≤ 200000 := by simpa using lp
        have hq0 := pos_sum (xs := q) (fun z hz => pp z (by simp [hz]))
        by_cases qq : I64 (t + y)
        · clear hq0
          obtain ⟨b, off, rfl, hc0⟩ := sp.head
          have st := sp.tail kp'
          have sl := fun w => slice_one (some ⟨b, off, none⟩) q.length cp w kp'
          have K := fun w => radd_any t y w ht hy
          rw [(fit_yes qq).1, (fit_yes qq).2] at K
          go_wp2_with fail
          refine (K _).mono ?_
          rintro e w' ⟨rfl, rfl⟩
          clear K
          go_wp2_with fail
          go_roundw
          case rel =>
            refine ⟨by trivial, [], q, _, _, _, _, _, rfl, rfl, rfl, sm, st, km, by omega, lm, by omega, nm, fun z hz => pp z (by simp [hz]), qq, ?_⟩
            have := HS.out
            simp only [isum] at this ⊢
            omega
          case measure => simp [slen]; try omega
        · have hno : ¬ I64 T := by
            have := HS.out
            simp only [isum] at this
            unfold I64 at qq ht hy ⊢
            omega
          clear hq0
          obtain ⟨b, off, rfl, hc0⟩ := sp.head
          have st := sp.tail kp'
          have sl := fun w => slice_one (some ⟨b, off, none⟩) q.length cp w kp'
          have K := fun w => radd_any t y w ht hy
          rw [(fit_no qq).1, (fit_no qq).2] at K
          have HF : Hid (fitV T = 0 ∧ fitE T = 10) := fit_no hno
          go_wp2_with fail
          refine (K _).mono ?_
          rintro e w' ⟨rfl, rfl⟩
          clear K
          go_wp2_with fail
          go_ret2
          rw [HF.out.1, HF.out.2]
          exact ⟨rfl, g2⟩
    | cons x r =>
      have hx := (nm x (by simp)).2
      have hx0 := (nm x (by simp)).1
      have km' : r.length + 1 ≤ cm := by simpa using km
      have lm' : r.length + 1 ≤ 200000 := by simpa using lm
      have hr0 := neg_sum (xs := r) (fun z hz => nm z (by simp [hz]))
      by_cases ht0 : 0 ≤ t
      · have qq : I64 (t + x) := by unfold I64 at hx ht ⊢; omega
        have hd : decide (0 ≤ t) = true := by simpa using ht0
        clear hr0
        obtain ⟨b, off, rfl, hc0⟩ := sm.head
        have st := sm.tail km'
        have sl := fun w => slice_one (some ⟨b, off, none⟩) r.length cm w km'
        have K := fun w => radd_any t x w ht hx
        rw [(fit_yes qq).1, (fit_yes qq).2] at K
        go_wp2_with fail
        refine (K _).mono ?_
        rintro e w' ⟨rfl, rfl⟩
        clear K
        go_wp2_with fail
        go_roundw
        case rel =>
          refine ⟨by trivial, r, ps, _, _, _, _, _, rfl, rfl, rfl, st, sp, by omega, kp, by omega, lp, fun z hz => nm z (by simp [hz]), pp, qq, ?_⟩
          have := HS.out
          simp only [isum] at this ⊢
          omega
        case measure => simp [slen]; try omega
      · have hd : decide (0 ≤ t) = false := by simpa using ht0
        cases ps with
        | nil =>
          by_cases qq : I64 (t + x)
          · clear hr0
            obtain ⟨b, off, rfl, hc0⟩ := sm.head
            have st := sm.tail km'
            have sl := fun w => slice_one (some ⟨b, off, none⟩) r.length cm w km'
            have K := fun w => radd_any t x w ht hx
            rw [(fit_yes qq).1, (fit_yes qq).2] at K
            go_wp2_with fail
            refine (K _).mono ?_
            rintro e w' ⟨rfl, rfl⟩
            clear K
            go_wp2_with fail
            go_roundw
            case rel =>
              refine ⟨by trivial, r, [], _, _, _, _, _, rfl, rfl, rfl, st, sp, by omega, kp, by omega, lp, fun z hz => nm z (by simp [hz]), pp, qq, ?_⟩
              have := HS.out
              simp only [isum] at this ⊢
              omega
            case measure => simp [slen]; try omega
          · have hno : ¬ I64 T := by
              have := HS.out
              simp only [isum] at this
              unfold I64 at qq ht hx ⊢
              omega
            clear hr0
            obtain ⟨b, off, rfl, hc0⟩ := sm.head
            have st := sm.tail km'
            have sl := fun w => slice_one (some ⟨b, off, none⟩) r.length cm w km'
            have K := fun w => radd_any t x w ht hx
            rw [(fit_no qq).1, (fit_no qq).2] at K
            have HF : Hid (fitV T = 0 ∧ fitE T = 10) := fit_no hno
            go_wp2_with fail
            refine (K _).mono ?_
            rintro e w' ⟨rfl, rfl⟩
            clear K
            go_wp2_with fail
            go_ret2
            rw [HF.out.1, HF.out.2]
            exact ⟨rfl, g2⟩
        | cons y q =>
          have hy := (pp y (by simp)).2
          have hy0 := (pp y (by simp)).1
          have kp' : q.length + 1 ≤ cp := by simpa using kp
          have lp' : q.length + 1 ≤ 200000 := by simpa using lp
          have hne : ((q.length : Int) + 1 == 0) = false := by simp; omega
          have qq : I64 (t + y) := by unfold I64 at hy ht ⊢; omega
          clear hr0
          obtain ⟨b, off, rfl, hc0⟩ := sp.head
          have st := sp.tail kp'
          have sl := fun w => slice_one (some ⟨b, off, none⟩) q.length cp w kp'
          have K := fun w => radd_any t y w ht hy
          rw [(fit_yes qq).1, (fit_yes qq).2] at K
          go_wp2_with fail
          refine (K _).mono ?_
          rintro e w' ⟨rfl, rfl⟩
          clear K
          go_wp2_with fail
          go_roundw
          case rel =>
            refine ⟨by trivial, (x :: r), q, _, _, _, _, _, rfl, rfl, rfl, sm, st, km, by omega, lm, by omega, nm, fun z hz => pp z (by simp [hz]), qq, ?_⟩
            have := HS.out
            simp only [isum] at this ⊢
            omega
          case measure => simp [slen]; try omega

theorem rsum_any (xs : List Int) (a : Option Addr) (cap : Nat) (w : World) (hs : Seen w a xs) (hx : All xs) (hl : xs.length ≤ 100000) :
    Calls Try.prog 38 #[.slice a xs.length cap] w fun e w' => e = .returned (.tuple #[.int .i64 (fitV (isum xs)), .int .i64 (fitE (isum xs))]) ∧ Below w.heap.size w w' :=
  rsum_T _ xs rfl a cap w hs hx hl
end Go.Proofs.Ytfoknkhbcnbdhaa
