import Derived.Test.YtaohdmaenplbpaaGreatLdJ
set_option linter.all false
namespace Go.Proofs.YtaohdmaenplbpaaGreat
open Go.RowKit Quota
set_option maxRecDepth 100000

set_option maxHeartbeats 400000 in
theorem isum_any (xs : List Int) (a : Option Addr) (cap : Nat) (w : World) (hs : Seen w a xs) (hx : All xs) (hl : xs.length ≤ 2000000) :
    Calls Tryz.prog 143 #[.slice a xs.length cap] w fun e w' => e = .returned (.tuple #[.int .i64 (fitV (isum xs)), .int .i64 (fitE (isum xs))]) ∧ Below w.heap.size w w' := by
  have z0 : I64 0 := by unfold I64; omega
  have kk : I128 (isum xs) := by
    have := isum_bd xs hx
    unfold I128
    omega
  go_enter Tryz.func143, Tryz.ntmps143
  go_wp2_with fail
  refine (widen_any 0 _ z0).mono ?_
  rintro e w1 ⟨rfl, h1⟩
  go_wp2_with fail
  go_loopw [10, 6] (fun i n wr => ∃ k : Nat, k ≤ xs.length ∧ i = .int .i64 k ∧ Below w.heap.size w wr ∧ Box wr w1.heap.size (.int .u64 (hiOf (isum (xs.take k)))) (.int .u64 (loOf (isum (xs.take k))))) (fun i _ _ => xs.length - (intOf i).toNat)
  case atStart =>
    exact ⟨0, Nat.zero_le _, rfl, h1.alloc h1.size _, Box.new _ _ _ _⟩
  case round =>
    obtain ⟨k, hk, rfl, hb, hbox⟩ := hrel
    have HX : Hid _ := hbox
    obtain ⟨hz, c0, c1, f0, f1⟩ := hbox
    by_cases hlt : k < xs.length
    · have HS : Hid _ := isum_take xs k hlt
      have hi := all_get hx k hlt
      rcases hs.below hb with hn | ⟨b, off, rfl, hbl, hcell⟩
      · simp [hn] at hlt
      · have hck := hcell k hlt
        generalize xs[k] = x at *
        generalize hg : isum (xs.take k) = s at *
        have HG : Hid _ := hg
        clear hg hcell
        go_wp2_with fail
        refine (plus_any s x _ hi).mono ?_
        rintro e w2 ⟨rfl, h2⟩
        have hbox2 := Box.below HX.out h2
        have HX2 : Hid _ := hbox2
        obtain ⟨hz, c0, c1, f0, f1⟩ := hbox2
        go_wp2_with fail
        go_roundw
        case rel =>
          refine ⟨k + 1, by omega, by go_num, ?_, ?_⟩
          · exact (((hb.trans (h2.mono hb.size)).setCell h1.size _).setCell h1.size _)
          · rw [HS.out]; exact Box.set HX2.out _ _
        case measure => simp [intOf]; omega
    · have hek : k = xs.length := by omega
      subst hek
      rw [List.take_length] at c0 c1
      go_wp2_with fail
      refine (narrow_any (isum xs) _ kk).mono ?_
      rintro e w2 ⟨rfl, h2⟩
      go_wp2_with fail
      go_ret2
      exact ⟨rfl, hb.trans (h2.mono hb.size)⟩
set_option maxHeartbeats 1000000 in
/-- What a group comes to, of counters that nobody holds anything of. -/
theorem gathered_any (xs : List Int) (a : Option Addr) (cap : Nat) (w : World) (hs : Seen w a xs) (hx : All xs) (hl : xs.length ≤ 2000000) :
    Calls Tryz.prog 100 #[.slice a xs.length cap] w fun e w' => e = .returned (.tuple #[tot (fitV (isum xs)) (fitV (isum xs)) (fitV (isum xs)), .int .i64 (fitE (isum xs))]) ∧ Below w.heap.size w w' := by
  have K := isum_any xs a cap _ (hs.below (alloc_below w (.cells #[.int .i64 0, .int .i64 0, .int .i64 0] 125))) hx hl
  by_cases hf : fitB (isum xs) = true
  · obtain ⟨e1, e2⟩ := fit_yes hf
    rw [e1, e2] at K ⊢
    generalize isum xs = s at *
    generalize xs.length = n at *
    clear hs hx hl hf e1 e2
    go_enter Tryz.func100, Tryz.ntmps100
    go_wp2_with fail
    refine K.mono ?_
    rintro r w1 ⟨rfl, h1⟩
    have Z := hide ((Go.QK.Cells.new w #[.int .i64 0, .int .i64 0, .int .i64 0] 125).below h1)
    have B1 := hide (below1 h1)
    obtain ⟨z0, z0f⟩ := Z.out.get 0 _ rfl
    obtain ⟨z1, z1f⟩ := Z.out.get 1 _ rfl
    obtain ⟨z2, z2f⟩ := Z.out.get 2 _ rfl
    clear h1 K
    go_wp2_with fail
    refine bodyPost_ret (v := .tuple #[tot s s s, .int .i64 0]) (by simp [results, Tryz.results100, go_sem, z0, z1, z2]) rfl ⟨rfl, ?_⟩
    exact B1.out.trans (((((Go.QK.Keep.refl (fun z => z = w.heap.size) w1).setCell (g := w.heap.size) (j := 0) (fun _ => rfl) (.int .i64 s)).setCell (g := w.heap.size) (j := 1) (fun _ => rfl) (.int .i64 s)).setCell (g := w.heap.size) (j := 2) (fun _ => rfl) (.int .i64 s)).below B1.out.size (fun z hz q => by omega))
  · obtain ⟨e1, e2⟩ := fit_no (by simpa using hf)
    rw [e1, e2] at K ⊢
    generalize xs.length = n at *
    clear hs hx hl hf e1 e2
    go_enter Tryz.func100, Tryz.ntmps100
    go_wp2_with fail
    refine K.mono ?_
    rintro r w1 ⟨rfl, h1⟩
    have Z := hide ((Go.QK.Cells.new w #[.int .i64 0, .int .i64 0, .int .i64 0] 125).below h1)
    have B1 := hide (below1 h1)
    obtain ⟨z0, z0f⟩ := Z.out.get 0 _ rfl
    obtain ⟨z1, z1f⟩ := Z.out.get 1 _ rfl
    obtain ⟨z2, z2f⟩ := Z.out.get 2 _ rfl
    clear h1 K
    go_wp2_with fail
    refine bodyPost_ret (v := .tuple #[tot 0 0 0, .int .i64 10]) (by simp [results, Tryz.results100, go_sem, z0, z1, z2]) rfl ⟨rfl, ?_⟩
    exact B1.out.trans (((((Go.QK.Keep.refl (fun z => z = w.heap.size) w1).setCell (g := w.heap.size) (j := 0) (fun _ => rfl) (.int .i64 0)).setCell (g := w.heap.size) (j := 1) (fun _ => rfl) (.int .i64 0)).setCell (g := w.heap.size) (j := 2) (fun _ => rfl) (.int .i64 0)).below B1.out.size (fun z hz q => by omega))
end Go.Proofs.YtaohdmaenplbpaaGreat

set_option linter.all false
namespace Go.Proofs.YtaohdmaenplbpaaGreat
open Go.RowKit Go.QK Quota Go.Maps Go.QM
set_option maxRecDepth 100000

/-- What a way through a map has met. -/
def metL {α : Type} (L : Prs α) (left : Lit → Bool) : Prs α := L.filter (fun p => !left (.int .i64 p.1))
theorem getM_filter {α : Type} (L : Prs α) (q : Int → Bool) (k : Int) : getM (L.filter (fun p => q p.1)) k = if q k then getM L k else none := by
  induction L with
  | nil => simp [getM]
  | cons p r ih =>
    rw [List.filter_cons, getM_cons]
    by_cases h : p.1 = k
    · subst h
      cases hq : q p.1
      · rw [hq] at ih; simpa using ih
      · simp [getM_cons]
    · cases hq : q p.1
      · simp [ih, h]
      · simp [getM_cons, ih, h]
theorem met_put {α : Type} {L : Prs α} (hu : Up L) (left : Lit → Bool) {x : Int} {c : α} (hx : getM L x = some c) : putM x c (metL L left) = metL L (fun z => left z && !z.sameKey (.int .i64 x)) := by
  have u1 : Up (metL L left) := List.Pairwise.filter _ hu
  refine up_ext (u1.put _ _) (List.Pairwise.filter _ hu) (fun j => ?_)
  rw [getM_put u1]
  unfold metL
  rw [getM_filter L (fun k => !left (.int .i64 k)), getM_filter L (fun k => !(left (.int .i64 k) && !(Lit.int .i64 k).sameKey (.int .i64 x)))]
  by_cases e : j = x
  · subst e
    simp [Lit.sameKey, hx]
  · have : (Lit.int .i64 j).sameKey (.int .i64 x) = false := by simp [Lit.sameKey, e]
    simp [this, e]
theorem met_all {α : Type} (L : Prs α) (left : Lit → Bool) (h : ∀ kl, left kl = false) : metL L left = L := by
  unfold metL
  rw [List.filter_eq_self]
  intro p _
  simp [h]
theorem met_none {α : Type} {L : Prs α} {en : α → DataW Value} : metL L (Maps.has (mapE en L)) = [] := by
  unfold metL
  rw [List.filter_eq_nil_iff]
  intro p hp
  rw [mapE_has]
  unfold hasM
  simp
  exact ⟨p.2, hp⟩
abbrev idV (v : Value) : Value := v
set_option maxHeartbeats 4000000 in
/-- maps.Copy of the groups' totals into a map that has nothing. -/
theorem mcopy_any (d m : Nat) (G : Prs (Int × Int × Int)) (w : World) (hu : Up G) (hne : d ≠ m) (hd : AnyAt Tryz.prog 3 w d []) (hm : AnyAt Tryz.prog 3 w m (G.map (fun p => (p.1, totV p.2)))) (hl : G.length < 4000000000) :
    Calls Tryz.prog 58 #[.map (some d), .map (some m)] w fun r w' => r = .returned (.tuple #[]) ∧ AnyAt Tryz.prog 3 w' d (G.map (fun p => (p.1, totV p.2))) ∧ Keep (fun z => z = d) w w' := by
  have HM := hide hm
  have HD := hide hd
  have ld := World.ownsMap.lt hd
  have lm := World.ownsMap.lt hm
  have hu2 := (up_map totV).2 hu
  have hlL : (G.map (fun (p : Int × Int × Int × Int) => (p.1, totV p.2))).length < 4000000000 := by simpa using hl
  have hsh : ∀ x c, getM (G.map (fun (p : Int × Int × Int × Int) => (p.1, totV p.2))) x = some c → ∃ a b e, c = tot a b e := fun x c hc => by
    rw [getM_mapV totV] at hc
    cases q : getM G x with
    | none => rw [q] at hc; cases hc
    | some t => rw [q] at hc; cases hc; exact ⟨_, _, _, rfl⟩
  generalize G.map (fun (p : Int × Int × Int × Int) => (p.1, totV p.2)) = L at *
  clear hm hd hu hl
  go_enter Tryz.func58, Tryz.ntmps58
  go_wp2_with (at_range; refine wpList_range_own _ rfl _ 105 rfl 3 125 lawK Tryz.underlying105 anyElem m _ _ rfl HM.out ?_; intro w0 hrg0 hg0 hs0)
  have K0 : Keep (fun z => z = d) w w0 := (Keep.refl (fun z => z = d) w).grown hg0 (by nofun)
  have D0 := anyAt_keep HD.out ((Keep.refl (fun _ => False) w).grown hg0 (by nofun)) id
  have R0 := hide hrg0
  have D0 := hide D0
  have K0 := hide K0
  clear hrg0 hg0 HM HD
  go_frame
  go_loopw [8] (fun _ wr => ∃ (left : Lit → Bool) (cnt : Nat), wr.ranges Tryz.prog 3 anyElem m w.heap.size L.length (mapE .held L) left cnt ∧ AnyAt Tryz.prog 3 wr d (metL L left) ∧ Keep (fun z => z = d) w wr) (fun _ wr => wr.rangeLeft m w.heap.size)
  case atStart => exact ⟨_, _, R0.out, by rw [met_none]; exact D0.out, K0.out⟩
  case round =>
    obtain ⟨left, cnt, hrg, hdd, hkk⟩ := hrel
    have DD := hide hdd
    have KK := hide hkk
    clear hdd hkk R0 D0 K0
    go_wp2_with (at_next; refine wpList_next_ranges _ rfl _ rfl 3 lawK anyElem (Value.int .i64) idV (fun key kl hkey => by obtain ⟨x, rfl, _⟩ := Maps.keyOf_int_inv Tryz.underlying3 hkey; exact ⟨x, rfl⟩) (fun v y _ => ⟨v, rfl⟩) m w.heap.size _ _ _ _ rfl hrg ?_ ?_)
    · intro _ hl0
      have D1 := hide (show AnyAt Tryz.prog 3 wr d L from by have := DD.out; rw [met_all L left hl0] at this; exact this)
      go_wp2_with fail
      go_end0
      exact ⟨rfl, D1.out, KK.out⟩
    · intro x c kl y ps w1 cnt1 hkey hlx hy hps hat hrg1 hlt hg1 hs1 hen
      obtain ⟨x', ex, rfl, hwx⟩ := Maps.keyOf_int_inv Tryz.underlying3 hkey
      cases ex
      obtain ⟨c', hg, hd, _⟩ := visitE hu2 left hlx (d := .held c) (fun zd => (hat zd).trans hy.symm)
      have ec : c = c' := by injection hd
      subst ec
      obtain ⟨a, b, e, rfl⟩ := hsh x c hg
      simp only [idV] at hen
      have lr : w.heap.size < w1.heap.size := hrg1.lt
      have D1 := anyAt_keep DD.out ((Keep.refl (fun z => z = w.heap.size) wr).grown hg1 (by rintro g ⟨⟩ _; rfl)) (by omega)
      have K1 : Keep (fun z => z = d) w w1 := KK.out.grown hg1 (by rintro g ⟨⟩ q; omega)
      have a2 := alloc_below w1 (.cells #[.int .i64 a, .int .i64 b, .int .i64 e] 125)
      have hlen : (metL L left).length ≤ L.length := List.length_filter_le _ _
      obtain ⟨w3, hu, hm3, hg3⟩ := any_upd lawK Tryz.underlying105 (anyAt_below D1 a2) (List.Pairwise.filter _ hu2) hkey (by omega) (tot a b e)
      rw [met_put hu2 left hg] at hm3
      have R3 := hide ((hrg1.alloc (.cells #[.int .i64 a, .int .i64 b, .int .i64 e] 125)).kept hg3 (by intro q; cases q; exact hne rfl) (by intro q; cases q; omega))
      have K3 := hide ((K1.then_below a2).grown hg3 (by rintro g ⟨⟩ _; rfl))
      have M3 := hide hm3
      have LT := hide hlt
      clear hm3 hg3 a2 D1 K1 hg1 hat hlx hy hd hsh DD KK hg hlt hlen
      go_wp2_with fail
      go_roundw
      case rel => exact ⟨_, cnt1, R3.out, M3.out, K3.out⟩
      case measure => rw [R3.out.left_eq, hrg.left_eq]; exact LT.out
end Go.Proofs.YtaohdmaenplbpaaGreat
