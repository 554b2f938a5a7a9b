import Derived.Test.YtadppakflbilcaaRm1
namespace Go.Proofs.Ytadppakflbilcaa
open Go.RowKit Go.QK Go.Maps Go.QM Go.QR
set_option maxRecDepth 100000
def metL (L : Prs Value) (left : Lit → Bool) : Prs Value := L.filter (fun p => !left (.int .i64 p.1))
theorem met_all (L : Prs Value) (left : Lit → Bool) (h : ∀ kl, left kl = false) : metL L left = L := by
  unfold metL
  rw [List.filter_eq_self]
  intro p _
  simp [h]
theorem met_none {L : Prs Value} : metL L (Maps.has (mapE (H := Value) .held L)) = [] := by
  unfold metL
  rw [List.filter_eq_nil_iff]
  intro p hp
  rw [mapE_has]
  unfold hasM
  simp
  exact ⟨p.2, hp⟩
abbrev idV (v : Value) : Value := v
def ofP (L : List Tx) (p : Int × Value) : Int := of L p.1
theorem of_nonneg (L : List Tx) (x : Int) : 0 ≤ of L x := by
  unfold of
  split
  · omega
  · rename_i t _; have := owes_pos t; omega
theorem sum_of {L : List Tx} (hp : L.Pairwise (fun a b => a.n ≠ b.n)) (hv : Int → Option Nat) : sumM (ofP L) (L.map (pr hv)) = prom L := by
  have key : ∀ l : List Tx, (∀ t ∈ l, t ∈ L) → sumM (ofP L) (l.map (pr hv)) = prom l := by
    intro l
    induction l with
    | nil => intro _; rfl
    | cons t r ih =>
      intro h
      have e : of L t.n = t.owes := by unfold of; rw [get_of_mem hp (h t (by simp))]
      have := ih (fun t ht => h t (by simp [ht]))
      simp only [List.map_cons, sumM, prom, this]
      show of L t.n + _ = _
      rw [e]
  exact key L (fun _ h => h)
theorem ranges_below {w w' : World} {m r n : Nat} {D : DataW Value} {left : Lit → Bool} {cnt : Nat} (h : w.ranges Try.prog 3 anyElem m r n D left cnt) (hb : Below w.heap.size w w') : w'.ranges Try.prog 3 anyElem m r n D left cnt := by
  have h1 := h.owns.lt
  have h2 := h.lt
  obtain ⟨es, clock, since, seen, c0, q1, F, hs, hD, q2, rest⟩ := h
  exact ⟨es, clock, since, seen, c0, (hb.block m h1).trans q1, F, hs, hD, (hb.block r h2).trans q2, rest⟩
set_option maxHeartbeats 4000000 in
theorem Promised_any (S : Nat → Prop) (b : Nat) (L : List Tx) (w : World) (h : Room w S b L) : Calls Try.prog 13 #[ptr b] w fun r w' => r = .returned (.int .i64 (prom L)) ∧ Below w.heap.size w w' := by
  obtain ⟨m, M, hv, h⟩ := h
  obtain ⟨k0, -⟩ := h.box.get 0 _ rfl
  have MW := hide (show w.ownsMap Try.prog 3 anyElem m _ (mapE .held M) from h.mp)
  have HP := hide h
  have HU := hide h.up
  have hok := h.ok
  have F0 : ∀ p : Int × Value, 0 ≤ ofP L p := fun p => of_nonneg L p.1
  have TOT : sumM (ofP L) M = prom L := by rw [sumM_perm _ h.perm, sum_of h.ok.nd]
  have hb := hok.prom
  have ml : m < w.heap.size := h.lt m h.sm
  clear h
  go_enter Try.func13, Try.ntmps13
  go_wp2_with (at_range; refine wpList_range_own _ rfl _ 60 rfl 3 68 lawK Try.underlying60 anyElem m _ _ rfl MW.out ?_; intro w0 hrg0 hg0 hs0)
  have K0 := hide (show Below w.heap.size w w0 from (Below.refl _ w).grown hg0 (Nat.le_refl _) (by nofun))
  have R0 := hide hrg0
  clear hrg0 hg0 MW k0
  go_frame
  go_loopw [3] (fun s wr => ∃ (left : Lit → Bool) (cnt : Nat), s = .int .i64 (sumM (ofP L) (metL M left)) ∧ wr.ranges Try.prog 3 anyElem m w.heap.size M.length (mapE .held M) left cnt ∧ Below w.heap.size w wr) (fun _ wr => wr.rangeLeft m w.heap.size)
  case atStart => exact ⟨_, _, by rw [met_none]; rfl, R0.out, K0.out⟩
  case round =>
    obtain ⟨left, cnt, hs3, hrg, hkk⟩ := hrel
    have KK := hide hkk
    clear hkk R0 K0
    subst hs3
    have sb := sumM_filter (ofP L) F0 (fun p => !left (.int .i64 p.1)) M
    change 0 ≤ sumM _ (metL M left) ∧ sumM _ (metL M left) ≤ _ at sb
    go_wp2_with (at_next; refine wpList_next_ranges _ rfl _ rfl 3 lawK anyElem (Value.int .i64) idV (fun key kl hkey => by obtain ⟨x, rfl, _⟩ := Maps.keyOf_int_inv Try.underlying3 hkey; exact ⟨x, rfl⟩) (fun v y _ => ⟨v, rfl⟩) m w.heap.size _ _ _ _ rfl hrg ?_ ?_)
    · intro _ hl0
      have E : sumM (ofP L) (metL M left) = prom L := by rw [met_all M left hl0, TOT]
      rw [E]
      clear sb TOT E
      go_wp2_with fail
      go_ret
      exact ⟨rfl, KK.out⟩
    · intro x c kl y ps w1 cnt1 hkey hlx hy hps hat hrg1 hlt hg1 hs1 hen
      obtain ⟨x', ex, rfl, hwx⟩ := Maps.keyOf_int_inv Try.underlying3 hkey
      cases ex
      obtain ⟨c', hg, hd, hperm⟩ := visitE HU.out left hlx (d := .held c) (fun zd => (hat zd).trans hy.symm)
      have ec : c = c' := by injection hd
      subst ec
      have SUM : sumM (ofP L) (metL M (fun z => left z && !z.sameKey (.int .i64 x))) = of L x + sumM (ofP L) (metL M left) := by
        have := sumM_perm (ofP L) hperm
        exact this
      have sb2 := sumM_filter (ofP L) F0 (fun p => !(left (.int .i64 p.1) && !(Lit.int .i64 p.1).sameKey (.int .i64 x))) M
      change 0 ≤ sumM _ (metL M (fun z => left z && !z.sameKey (.int .i64 x))) ∧ _ ≤ _ at sb2
      change _ ∧ sumM _ (metL M (fun z => left z && !z.sameKey (.int .i64 x))) ≤ _ at sb2
      obtain ⟨t, ht, hpt⟩ := List.mem_map.1 (HP.out.perm.mem_iff.1 (getM_mem hg))
      have ex2 : t.n = x := congrArg Prod.fst hpt
      have ec2 : c = .agg #[.int .i64 t.st, .map (hv t.n)] := (congrArg Prod.snd hpt).symm
      subst ec2
      have OW : of L x = t.owes := by unfold of; rw [← ex2, get_of_mem hok.nd ht]
      simp only [idV] at hen
      have lr : w.heap.size < w1.heap.size := hrg1.lt
      have B1 : Below w.heap.size w w1 := KK.out.grown hg1 KK.out.size (by rintro g ⟨⟩; omega)
      have I1 := (HP.out.keep (Keep.of_below (S := fun _ => False) B1) (fun _ _ => id)).inn t ht
      have A1 := alloc_below w1 (.cells #[.int .i64 t.st, .map (hv t.n)] 68)
      have K30 := promised_any S t (hv t.n) _ (I1.keep (Keep.of_below (S := fun _ => False) A1) (fun _ _ => id)) (hok.each t ht)
      rw [OW] at SUM
      obtain ⟨s0, hs0'⟩ : ∃ s0, s0 = sumM (ofP L) (metL M left) := ⟨_, rfl⟩
      obtain ⟨s1, hs1'⟩ : ∃ s1, s1 = sumM (ofP L) (metL M (fun z => left z && !z.sameKey (.int .i64 x))) := ⟨_, rfl⟩
      rw [← hs1', TOT] at sb2
      rw [← hs0', ← hs1'] at SUM
      rw [← hs0', TOT] at sb
      rw [← hs0']
      have hwr : wrap64 (s0 + t.owes) = s0 + t.owes := wrapI (by unfold I64; omega)
      have S1 := hide (show s0 + t.owes = sumM (ofP L) (metL M (fun z => left z && !z.sameKey (.int .i64 x))) by rw [← hs1', SUM]; omega)
      have R1 := hide hrg1
      have LT := hide hlt
      have BB := hide B1
      have SZ := hide lr
      clear hs0' hs1' hlt hrg1 B1 I1 hg1 hat hlx hy hd hg hperm SUM sb2 sb OW hpt ex2 A1 HP HU TOT F0 lr
      go_wp2_with (go_at_call 30; refine K30.mono ?_; rintro e w3 ⟨rfl, b3⟩)
      go_roundw
      case rel =>
        have A1 := alloc_below w1 (.cells #[.int .i64 t.st, .map (hv t.n)] 68)
        exact ⟨_, cnt1, by rw [hwr, S1.out], ranges_below (R1.out.alloc _) b3, (BB.out.trans (A1.mono (Nat.le_of_lt SZ.out))).trans (b3.mono (by simp; have := SZ.out; omega))⟩
      case measure => rw [(ranges_below (R1.out.alloc _) b3).left_eq, hrg.left_eq]; exact LT.out
theorem Room.lookE {S : Nat → Prop} {w : World} {b : Nat} {L : List Tx} (h : Room w S b L) : ∃ m M hv, PR w S b m M hv L := h
set_option maxHeartbeats 1000000 in
theorem Of_any (S : Nat → Prop) (b : Nat) (L : List Tx) (tx : Int) (w : World) (h : Room w S b L) (hx : I64 tx) : Calls Try.prog 14 #[ptr b, .int .i64 tx] w fun r w' => r = .returned (.int .i64 (of L tx)) ∧ Below w.heap.size w w' := by
  obtain ⟨m, M, hv, h⟩ := h
  obtain ⟨k0, -⟩ := h.box.get 0 _ rfl
  have hl := h.look hx
  unfold of
  cases hg : get L tx with
  | none =>
    rw [hg, h.gone hg] at hl
    simp only [Option.getD_none, Option.isSome_none] at hl
    clear h
    go_enter Try.func14, Try.ntmps14
    go_wp2
    go_ret
    exact ⟨rfl, alloc_below _ _⟩
  | some t =>
    rw [hg, h.got hg] at hl
    simp only [Option.getD_some, Option.isSome_some] at hl
    obtain ⟨h1, h2⟩ := get_mem hg
    have A1 := alloc_below w (.cells #[.int .i64 t.st, .map (hv tx)] 68)
    have I1 := h.inn t h1
    rw [h2] at I1
    have K30 := promised_any S t (hv tx) _ (I1.keep (Keep.of_below (S := fun _ => False) A1) (fun _ _ => id)) (h.ok.each t h1)
    have AA := hide A1
    clear h I1 A1 hg h1 h2
    go_enter Try.func14, Try.ntmps14
    go_wp2_with (go_at_call 30; refine K30.mono ?_; rintro e w3 ⟨rfl, b3⟩)
    go_ret
    exact ⟨rfl, AA.out.trans (b3.mono (by simp))⟩
set_option maxHeartbeats 2000000 in
theorem May_any (S : Nat → Prop) (b : Nat) (L : List Tx) (free parts more : Int) (w : World) (h : Room w S b L) (h1 : I64 free) (h2 : I64 parts) (h3 : I64 more) : Calls Try.prog 17 #[ptr b, .int .i64 free, .int .i64 parts, .int .i64 more] w fun r w' => r = .returned (.int .i64 (mayE L free parts more)) ∧ Below w.heap.size w w' := by
  have K13 := Promised_any S b L w h
  have hp := h.ok.prom
  clear h
  unfold mayE
  generalize prom L = p at *
  unfold I64 at h1 h2 h3
  by_cases c1 : free < 0
  · have e1 : decide (free < 0) = true := by simpa using c1
    rw [if_pos (.inl c1)]
    go_enter Try.func17, Try.ntmps17
    go_wp2
    go_ret
    exact ⟨rfl, Below.refl _ _⟩
  have e1 : decide (free < 0) = false := by simpa using c1
  by_cases c2 : parts < 0
  · have e2 : decide (parts < 0) = true := by simpa using c2
    rw [if_pos (.inr (.inl c2))]
    go_enter Try.func17, Try.ntmps17
    go_wp2
    go_ret
    exact ⟨rfl, Below.refl _ _⟩
  have e2 : decide (parts < 0) = false := by simpa using c2
  by_cases c3 : more < 0
  · have e3 : decide (more < 0) = true := by simpa using c3
    rw [if_pos (.inr (.inr c3))]
    go_enter Try.func17, Try.ntmps17
    go_wp2
    go_ret
    exact ⟨rfl, Below.refl _ _⟩
  have e3 : decide (more < 0) = false := by simpa using c3
  rw [if_neg (by omega)]
  obtain ⟨E, hE⟩ : ∃ E : Int, E = if free < parts ∨ free - parts < more ∨ free - parts - more < p then 6 else 0 := ⟨_, rfl⟩
  rw [← hE]
  have HE := hide hE
  clear hE
  have i0 : ∀ w, (Instr.index 70 (.agg #[.int .i64 parts, .int .i64 more, .int .i64 p]) (.int .i64 0)).run Try.prog w = .ok (.int .i64 parts) w := fun _ => by kernel_rfl
  have i1 : ∀ w, (Instr.index 70 (.agg #[.int .i64 parts, .int .i64 more, .int .i64 p]) (.int .i64 1)).run Try.prog w = .ok (.int .i64 more) w := fun _ => by kernel_rfl
  have i2 : ∀ w, (Instr.index 70 (.agg #[.int .i64 parts, .int .i64 more, .int .i64 p]) (.int .i64 2)).run Try.prog w = .ok (.int .i64 p) w := fun _ => by kernel_rfl
  go_enter Try.func17, Try.ntmps17
  go_upto_region 4 with (go_at_call 13; refine K13.mono ?_; rintro e w3 ⟨rfl, b3⟩)
  clear K13 e1 e2 e3
  go_loopw [1, 26] (fun f i wr => wr = w3 ∧ ((f = .int .i64 free ∧ i = .int .i64 0) ∨ (f = .int .i64 (free - parts) ∧ i = .int .i64 1 ∧ parts ≤ free) ∨ (f = .int .i64 (free - parts - more) ∧ i = .int .i64 2 ∧ parts ≤ free ∧ more ≤ free - parts) ∨ (f = .int .i64 (free - parts - more - p) ∧ i = .int .i64 3 ∧ parts ≤ free ∧ more ≤ free - parts ∧ p ≤ free - parts - more))) (fun f i wr => match i with | .int _ j => (3 - j).toNat | _ => 0)
  case atStart => exact ⟨rfl, .inl ⟨rfl, rfl⟩⟩
  case round =>
    obtain ⟨rfl, hc⟩ := hrel
    rcases hc with ⟨rfl, rfl⟩ | ⟨rfl, rfl, c4⟩ | ⟨rfl, rfl, c4, c5⟩ | ⟨rfl, rfl, c4, c5, c6⟩
    · by_cases q : free < parts
      · have e4 : decide (free < parts) = true := by simpa using q
        have E6 : E = 6 := by rw [HE.out, if_pos (.inl q)]
        subst E6
        go_wp2_with fail
        go_ret
        exact ⟨rfl, b3⟩
      · have e4 : decide (free < parts) = false := by simpa using q
        go_wp2_with fail
        go_roundw
        case rel => exact ⟨trivial, .inr (.inl ⟨rfl, rfl, by omega⟩)⟩
        case measure => decide
    · by_cases q : free - parts < more
      · have e4 : decide (free - parts < more) = true := by simpa using q
        have E6 : E = 6 := by rw [HE.out, if_pos (.inr (.inl q))]
        subst E6
        go_wp2_with fail
        go_ret
        exact ⟨rfl, b3⟩
      · have e4 : decide (free - parts < more) = false := by simpa using q
        go_wp2_with fail
        go_roundw
        case rel => exact ⟨trivial, .inr (.inr (.inl ⟨rfl, rfl, by omega, by omega⟩))⟩
        case measure => decide
    · by_cases q : free - parts - more < p
      · have e4 : decide (free - parts - more < p) = true := by simpa using q
        have E6 : E = 6 := by rw [HE.out, if_pos (.inr (.inr q))]
        subst E6
        go_wp2_with fail
        go_ret
        exact ⟨rfl, b3⟩
      · have e4 : decide (free - parts - more < p) = false := by simpa using q
        go_wp2_with fail
        go_roundw
        case rel => exact ⟨trivial, .inr (.inr (.inr ⟨rfl, rfl, by omega, by omega, by omega⟩))⟩
        case measure => decide
    · have E0 : E = 0 := by rw [HE.out, if_neg (by omega)]
      subst E0
      go_wp2_with fail
      go_ret
      exact ⟨rfl, b3⟩
end Go.Proofs.Ytadppakflbilcaa
