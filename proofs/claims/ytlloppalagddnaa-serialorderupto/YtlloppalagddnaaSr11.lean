import Derived.Test.YtlloppalagddnaaSr10
import Derived.Test.YtlloppalagddnaaSr9
set_option linter.all false
namespace Go.Proofs.Ytlloppalagddnaa
open Go.RowKit Go.QK Quota Go.Maps Go.QM Go.QS
set_option maxRecDepth 100000
abbrev tot (a b c : Int) : Value := .agg #[.int .i64 a, .int .i64 b, .int .i64 c]
theorem fit_yes {z : Int} (h : fitB z = true) : fitV z = z ∧ fitE z = 0 := by unfold fitV fitE; rw [h]; exact ⟨rfl, rfl⟩
theorem fit_no {z : Int} (h : fitB z = false) : fitV z = 0 ∧ fitE z = 10 := by unfold fitV fitE; rw [h]; exact ⟨rfl, rfl⟩
/-- What a way through a map has met. -/
def metL {α : Type} (L : Prs α) (left : Lit → Bool) : Prs α := L.filter (fun p => !left (.int .i64 p.1))
theorem getM_filter {α : Type} (L : Prs α) (q : Int → Bool) (k : Int) : getM (L.filter (fun p => q p.1)) k = if q k then getM L k else none := by
  induction L with
  | nil => simp [getM]
  | cons p r ih =>
    rw [List.filter_cons, getM_cons]
    by_cases h : p.1 = k
    · subst h
      cases hq : q p.1
      · rw [hq] at ih; simpa using ih
      · simp [getM_cons]
    · cases hq : q p.1
      · simp [ih, h]
      · simp [getM_cons, ih, h]
theorem met_put {α : Type} {L : Prs α} (hu : Up L) (left : Lit → Bool) {x : Int} {c : α} (hx : getM L x = some c) : putM x c (metL L left) = metL L (fun z => left z && !z.sameKey (.int .i64 x)) := by
  have u1 : Up (metL L left) := List.Pairwise.filter _ hu
  refine up_ext (u1.put _ _) (List.Pairwise.filter _ hu) (fun j => ?_)
  rw [getM_put u1]
  unfold metL
  rw [getM_filter L (fun k => !left (.int .i64 k)), getM_filter L (fun k => !(left (.int .i64 k) && !(Lit.int .i64 k).sameKey (.int .i64 x)))]
  by_cases e : j = x
  · subst e
    simp [Lit.sameKey, hx]
  · have : (Lit.int .i64 j).sameKey (.int .i64 x) = false := by simp [Lit.sameKey, e]
    simp [this, e]
theorem met_all {α : Type} (L : Prs α) (left : Lit → Bool) (h : ∀ kl, left kl = false) : metL L left = L := by
  unfold metL
  rw [List.filter_eq_self]
  intro p _
  simp [h]
theorem met_none {α : Type} {L : Prs α} {en : α → DataW Value} : metL L (Maps.has (mapE en L)) = [] := by
  unfold metL
  rw [List.filter_eq_nil_iff]
  intro p hp
  rw [mapE_has]
  unfold hasM
  simp
  exact ⟨p.2, hp⟩
abbrev idV (v : Value) : Value := v
set_option maxHeartbeats 1000000 in
/-- What a group comes to, of counters that nobody holds anything of. -/
theorem gathered_any (xs : List Int) (a : Option Addr) (cap : Nat) (w : World) (hs : Seen w a xs) (hx : All xs) (hl : xs.length ≤ 17592186044416) :
    Calls Try.prog 65 #[.slice a xs.length cap] w fun e w' => e = .returned (.tuple #[tot (fitV (isum xs)) (fitV (isum xs)) (fitV (isum xs)), .int .i64 (fitE (isum xs))]) ∧ Below w.heap.size w w' := by
  have K := sum_any xs a cap _ (hs.below (alloc_below w (.cells #[.int .i64 0, .int .i64 0, .int .i64 0] 138))) hx hl
  by_cases hf : fitB (isum xs) = true
  · obtain ⟨e1, e2⟩ := fit_yes hf
    rw [e1, e2] at K ⊢
    generalize isum xs = s at *
    generalize xs.length = n at *
    clear hs hx hl hf e1 e2
    go_enter Try.func65, Try.ntmps65
    go_wp2_with fail
    refine K.mono ?_
    rintro r w1 ⟨rfl, h1⟩
    have Z := hide ((Go.QK.Cells.new w #[.int .i64 0, .int .i64 0, .int .i64 0] 138).below h1)
    have B1 := hide (below1 h1)
    obtain ⟨z0, z0f⟩ := Z.out.get 0 _ rfl
    obtain ⟨z1, z1f⟩ := Z.out.get 1 _ rfl
    obtain ⟨z2, z2f⟩ := Z.out.get 2 _ rfl
    clear h1 K
    go_wp2_with fail
    refine bodyPost_ret (v := .tuple #[tot s s s, .int .i64 0]) (by simp [results, Try.results65, go_sem, z0, z1, z2]) rfl ⟨rfl, ?_⟩
    exact B1.out.trans (((((Go.QK.Keep.refl (fun z => z = w.heap.size) w1).setCell (g := w.heap.size) (j := 0) (fun _ => rfl) (.int .i64 s)).setCell (g := w.heap.size) (j := 1) (fun _ => rfl) (.int .i64 s)).setCell (g := w.heap.size) (j := 2) (fun _ => rfl) (.int .i64 s)).below B1.out.size (fun z hz q => by omega))
  · obtain ⟨e1, e2⟩ := fit_no (by simpa using hf)
    rw [e1, e2] at K ⊢
    generalize xs.length = n at *
    clear hs hx hl hf e1 e2
    go_enter Try.func65, Try.ntmps65
    go_wp2_with fail
    refine K.mono ?_
    rintro r w1 ⟨rfl, h1⟩
    have Z := hide ((Go.QK.Cells.new w #[.int .i64 0, .int .i64 0, .int .i64 0] 138).below h1)
    have B1 := hide (below1 h1)
    obtain ⟨z0, z0f⟩ := Z.out.get 0 _ rfl
    obtain ⟨z1, z1f⟩ := Z.out.get 1 _ rfl
    obtain ⟨z2, z2f⟩ := Z.out.get 2 _ rfl
    clear h1 K
    go_wp2_with fail
    refine bodyPost_ret (v := .tuple #[tot 0 0 0, .int .i64 10]) (by simp [results, Try.results65, go_sem, z0, z1, z2]) rfl ⟨rfl, ?_⟩
    exact B1.out.trans (((((Go.QK.Keep.refl (fun z => z = w.heap.size) w1).setCell (g := w.heap.size) (j := 0) (fun _ => rfl) (.int .i64 0)).setCell (g := w.heap.size) (j := 1) (fun _ => rfl) (.int .i64 0)).setCell (g := w.heap.size) (j := 2) (fun _ => rfl) (.int .i64 0)).below B1.out.size (fun z hz q => by omega))

theorem isum_one (xs : List Int) (v : Int) : isum (xs ++ [v]) = isum xs + v := by rw [isum_append]; simp [isum]
set_option maxHeartbeats 4000000 in
/-- A counter with all of these added. -/
theorem behind_any (x : Cn) (B : Nat) (v : Value) (xs : List Int) (w : World) (h : Owns .i64 2 w B v xs) (hx : All xs) (hv : I64 x.val) (hl : (xs.length + 1) * 8 ≤ 140737488355328) (hB : B ≤ w.heap.size) :
    Calls Try.prog 32 #[cnV x, v] w fun r w' => r = .returned (.tuple #[cnV (x.set (fitV (isum xs + x.val))), .int .i64 (fitE (isum xs + x.val))]) ∧ Keep (fun z => v.ownBlock = some z) w w' := by
  obtain ⟨id, grp, lo, hi, val⟩ := x
  simp only [Cn.set] at *
  have b1 := alloc_below w (.cells #[.int .i64 id, .int .i64 grp, .int .i64 lo, .int .i64 hi, .int .i64 val] 65)
  have b2 := alloc_below (w.alloc (.cells #[.int .i64 id, .int .i64 grp, .int .i64 lo, .int .i64 hi, .int .i64 val] 65)) (.cells #[.int .i64 0, .int .i64 0, .int .i64 0, .int .i64 0, .int .i64 0] 65)
  have hlt := fun g (hg : v.ownBlock = some g) => World.ownsRow.lt h g hg
  have h2 := (h.below b1).below b2
  have C1 : Cells ((w.alloc (.cells #[.int .i64 id, .int .i64 grp, .int .i64 lo, .int .i64 hi, .int .i64 val] 65)).alloc (.cells #[.int .i64 0, .int .i64 0, .int .i64 0, .int .i64 0, .int .i64 0] 65)) w.heap.size [.int .i64 id, .int .i64 grp, .int .i64 lo, .int .i64 hi, .int .i64 val] := (Cells.new w #[.int .i64 id, .int .i64 grp, .int .i64 lo, .int .i64 hi, .int .i64 val] 65).below b2
  have C2 : Cells ((w.alloc (.cells #[.int .i64 id, .int .i64 grp, .int .i64 lo, .int .i64 hi, .int .i64 val] 65)).alloc (.cells #[.int .i64 0, .int .i64 0, .int .i64 0, .int .i64 0, .int .i64 0] 65)) (w.heap.size + 1) [.int .i64 0, .int .i64 0, .int .i64 0, .int .i64 0, .int .i64 0] := by
    have := Cells.new (w.alloc (.cells #[.int .i64 id, .int .i64 grp, .int .i64 lo, .int .i64 hi, .int .i64 val] 65)) #[.int .i64 0, .int .i64 0, .int .i64 0, .int .i64 0, .int .i64 0] 65
    simpa using this
  have bb := (Below.trans b1 (b2.mono b1.size))
  generalize hx2 : (w.alloc (.cells #[.int .i64 id, .int .i64 grp, .int .i64 lo, .int .i64 hi, .int .i64 val] 65)).alloc (.cells #[.int .i64 0, .int .i64 0, .int .i64 0, .int .i64 0, .int .i64 0] 65) = x2 at *
  have s2 : w.heap.size + 2 ≤ x2.heap.size := by have := C2.1; omega
  obtain ⟨v', x3, hr, hO, hK, hvb⟩ := run_del64 x2 B v xs h2 val hl (by omega)
  obtain ⟨va, vc, hve, hse, _, _, _⟩ := hO.seen
  subst hve
  have hall : All (xs ++ [val]) := fun y hy => by
    rcases List.mem_append.1 hy with q | q
    · exact hx y q
    · simp at q; rw [q]; exact hv
  have KS := fun w' (hs : Seen w' va (xs ++ [val])) => sum_any (xs ++ [val]) va vc w' hs hall (by simp; omega)
  rw [isum_one] at KS
  have D1 := hide (C1.keep hK (fun q => by have := (hlt _ q).2; omega))
  have D2 := hide (C2.keep hK (fun q => by have := (hlt _ q).2; omega))
  have HR := hide hr
  have HSE := hide hse
  have KK := hide ((Keep.of_below (S := fun z => v.ownBlock = some z) bb).trans hK (fun _ _ q => q))
  have s3 : w.heap.size + 2 ≤ x3.heap.size := by have := hK.size; omega
  obtain ⟨c4, _⟩ := C1.get 4 _ rfl
  have HX2 := hide hx2
  have HL := hide hlt
  clear hr hse hK hO hvb h2 h C1 C2 b1 b2 bb hx2 hlt hall hl
  generalize (xs ++ [val]).length = n at *
  generalize isum xs + val = s at *
  go_enter Try.func32, Try.ntmps32
  go_upto_region 1 with fail
  rw [show (w.alloc (.cells #[.int .i64 id, .int .i64 grp, .int .i64 lo, .int .i64 hi, .int .i64 val] 65)).alloc (.cells #[.int .i64 0, .int .i64 0, .int .i64 0, .int .i64 0, .int .i64 0] 65) = x2 from HX2.out]
  go_wp2_with (refine wpList_run rfl _ _ rfl rfl rfl HR.out ?_)
  refine (KS _ HSE.out).mono ?_
  rintro r x4 ⟨rfl, h4⟩
  have E1 := hide (D1.out.below h4)
  have E2 := hide (D2.out.below h4)
  have K4 := hide (KK.out.then_below h4)
  have s4 : w.heap.size + 2 ≤ x4.heap.size := by have := h4.size; omega
  clear h4 HSE D1 D2 KK c4 HR KS
  obtain ⟨a0, a0f⟩ := E1.out.get 0 _ rfl
  obtain ⟨a1, a1f⟩ := E1.out.get 1 _ rfl
  obtain ⟨a2, a2f⟩ := E1.out.get 2 _ rfl
  obtain ⟨a3, a3f⟩ := E1.out.get 3 _ rfl
  obtain ⟨a4, a4f⟩ := E1.out.get 4 _ rfl
  obtain ⟨z0, z0f⟩ := E2.out.get 0 _ rfl
  obtain ⟨z1, z1f⟩ := E2.out.get 1 _ rfl
  obtain ⟨z2, z2f⟩ := E2.out.get 2 _ rfl
  obtain ⟨z3, z3f⟩ := E2.out.get 3 _ rfl
  obtain ⟨z4, z4f⟩ := E2.out.get 4 _ rfl
  have hne : w.heap.size ≠ w.heap.size + 1 := by omega
  generalize hN : w.heap.size = N at *
  have HN := hide hN
  clear hN
  go_wp2_with fail
  refine bodyPost_ret (v := .tuple #[.agg #[.int .i64 id, .int .i64 grp, .int .i64 lo, .int .i64 hi, .int .i64 (fitV s)], .int .i64 (fitE s)]) (by simp [results, Try.results32, go_sem, z0, z1, z2, z3, z4, a0, a1, a2, a3, a4, a0f, a1f, a2f, a3f, a4f, z0f, z1f, z2f, z3f, z4f, hne]) rfl ⟨rfl, ?_⟩
  refine K4.out.trans (T := fun z => z = N ∨ z = N + 1) (((((((Keep.refl (fun z => z = N ∨ z = N + 1) x4).setCell (g := N) (j := 4) (fun _ => .inl rfl) _).setCell (g := N + 1) (j := 0) (fun _ => .inr rfl) _).setCell (g := N + 1) (j := 1) (fun _ => .inr rfl) _).setCell (g := N + 1) (j := 2) (fun _ => .inr rfl) _).setCell (g := N + 1) (j := 3) (fun _ => .inr rfl) _).setCell (g := N + 1) (j := 4) (fun _ => .inr rfl) _) (fun z hz q => ?_)
  have := HN.out
  omega
end Go.Proofs.Ytlloppalagddnaa
