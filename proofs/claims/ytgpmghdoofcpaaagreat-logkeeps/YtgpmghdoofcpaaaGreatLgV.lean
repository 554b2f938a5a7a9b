import Derived.Test.YtgpmghdoofcpaaaGreatG43
namespace Go.Proofs.YtgpmghdoofcpaaaGreat.Lg
open Go.RowKit Go.QK

/-! One write, one Sync of a device that runs: done, or the device gives up. -/
def Armed (g : Dev) : Prop := g.left = 0 ∨ ∃ l, g.loss = some l
def fell (g : Dev) (l : Loss) (ps : List (Nat × List Nat)) : Dev := ⟨fallFrom l 0 ps g.img, [], g.calls + 1, true, 0, none⟩
theorem write_cases {g : Dev} (hd : g.down = false) (ha : Armed g) (s : Nat) (hs : s < g.n) (b : List Nat) (hb : b.length = 512) :
    (g.writeE (s : Int) 512 = 0 ∧ g.write (s : Int) b = { g with pend := g.pend ++ [(s, b)], calls := g.calls + 1, left := g.left - 1 }) ∨ (g.writeE (s : Int) 512 = 40 ∧ g.left = 1 ∧ ∃ l, g.loss = some l ∧ g.write (s : Int) b = fell g l (g.pend ++ [(s, b)])) := by
  have hr : g.reach (s : Int) = 0 := by
    unfold Dev.reach
    rw [hd, if_neg (by simp), if_neg (by omega)]
  have eE : g.writeE (s : Int) 512 = if g.left = 1 then 40 else 0 := by unfold Dev.writeE; rw [hr]; simp
  have eW : g.write (s : Int) b = if g.left = 1 then ((g.push ((s : Int)).toNat b).strike).crashes else (g.push ((s : Int)).toNat b).strike := by unfold Dev.write; rw [hr, if_neg (by simp [hb])]
  by_cases h1 : g.left = 1
  · rw [if_pos h1] at eE eW
    rcases ha with q | ⟨l, q⟩
    · omega
    · refine .inr ⟨eE, h1, l, q, ?_⟩
      rw [eW]
      unfold Dev.crashes
      show (match g.loss with | some l => _ | none => _) = _
      rw [q]
      rfl
  · rw [if_neg h1] at eE eW
    exact .inl ⟨eE, eW⟩
theorem sync_cases {g : Dev} (hd : g.down = false) (ha : Armed g) :
    (g.syncE = 0 ∧ g.sync = { g with img := syncAll g.pend g.img, pend := [], calls := g.calls + 1, left := g.left - 1 }) ∨ (g.syncE = 40 ∧ g.left = 1 ∧ ∃ l, g.loss = some l ∧ g.sync = fell g l g.pend) := by
  have eE : g.syncE = if g.left = 1 then 40 else 0 := by unfold Dev.syncE; rw [hd]; simp
  have eW : g.sync = if g.left = 1 then g.strike.crashes else g.strike.settle := by unfold Dev.sync; rw [hd]; simp
  by_cases h1 : g.left = 1
  · rw [if_pos h1] at eE eW
    rcases ha with q | ⟨l, q⟩
    · omega
    · refine .inr ⟨eE, h1, l, q, ?_⟩
      rw [eW]
      unfold Dev.crashes
      show (match g.loss with | some l => _ | none => _) = _
      rw [q]
      rfl
  · rw [if_neg h1] at eE eW
    exact .inl ⟨eE, eW⟩
theorem Armed.less {g : Dev} (h : Armed g) (p : List (Nat × List Nat)) (im : List Nat) (c : Nat) : Armed { g with img := im, pend := p, calls := c, left := g.left - 1 } := by
  rcases h with h | h
  · left
    show g.left - 1 = 0
    omega
  · exact .inr h
theorem content_R (img : List Nat) (i : Nat) (R : List Nat → Prop) : (ps : List (Nat × List Nat)) → (x : List Nat) → R x → (∀ p ∈ ps, p.1 = i → R p.2) → R (ps.foldl (fun x p => if p.1 = i then p.2 else x) x)
  | [], _, h, _ => h
  | p :: ps, x, h, hp => by
    refine content_R img i R ps _ ?_ (fun q hq => hp q (by simp [hq]))
    show R (if p.1 = i then p.2 else x)
    by_cases e : p.1 = i
    · rw [if_pos e]; exact hp p (by simp) e
    · rw [if_neg e]; exact h

/-- A disk on which the first k records stand for good; what lies in its cache makes zeros behind them; X: the sectors beside the log. -/
structure Wip (g : Dev) (first count : Nat) (bs : List (List Nat)) (k : Nat) (X : Nat → List Nat) : Prop where
  st : Stands g.img first count bs k
  len : 512 * (first + count) ≤ g.img.length
  n : g.img.length = 512 * g.n
  pend : ∀ p ∈ g.pend, p.2 = zerosB ∧ first + k ≤ p.1 ∧ p.1 < first + count
  arm : Armed g
  side : ∀ i, (i < first ∨ first + count ≤ i) → i < g.n → sector g.img i = X i
section
variable {g : Dev} {first count k : Nat} {bs : List (List Nat)} {X : Nat → List Nat}
theorem Wip.fits (h : Wip g first count bs k X) {ps : List (Nat × List Nat)} (hp : ∀ p ∈ ps, p.2 = zerosB ∧ first + k ≤ p.1 ∧ p.1 < first + count) : ∀ p ∈ ps, FitsW g.img.length p := fun p q => by
  obtain ⟨a, b, c⟩ := hp p q
  have := h.len
  exact ⟨by omega, by rw [a]; exact zerosB_length⟩
theorem Wip.fell (h : Wip g first count bs k X) (l : Loss) {ps : List (Nat × List Nat)} (hp : ∀ p ∈ ps, p.2 = zerosB ∧ first + k ≤ p.1 ∧ p.1 < first + count) : Wip (fell g l ps) first count bs k X := by
  have hl : (fallFrom l 0 ps g.img).length = g.img.length := fall_len l ps 0 g.img rfl (h.fits hp)
  have hn : (Lg.fell g l ps).n = g.n := by show (fallFrom l 0 ps g.img).length / 512 = _; rw [hl]; rfl
  refine ⟨h.st.fall l ps h.len hp, ?_, ?_, nofun, .inl rfl, fun i hi hin => ?_⟩
  · show _ ≤ (fallFrom l 0 ps g.img).length
    rw [hl]; exact h.len
  · show (fallFrom l 0 ps g.img).length = _
    rw [hl, hn]; exact h.n
  · rw [hn] at hin
    have := h.n
    exact fall_sector l i (fun x => x = X i) (by omega) ps 0 g.img rfl (h.fits hp) (fun p q e => by have := (hp p q).2; omega) (h.side i hi hin)
theorem Wip.settled (h : Wip g first count bs k X) (c lf : Nat) (ha : Armed { g with img := syncAll g.pend g.img, pend := [], calls := c, left := lf }) : Wip { g with img := syncAll g.pend g.img, pend := [], calls := c, left := lf } first count bs k X := by
  have hf := h.fits h.pend
  have hl : (syncAll g.pend g.img).length = g.img.length := syncAll_len g.pend g.img rfl hf
  have hn : (syncAll g.pend g.img).length / 512 = g.n := by rw [hl]; rfl
  have hle := h.st.le
  have hlen := h.len
  have hgn := h.n
  refine ⟨⟨hle, fun j hj => ?_, fun hk => ?_⟩, ?_, ?_, nofun, ha, fun i hi hin => ?_⟩
  · show sector (syncAll g.pend g.img) (first + j) = _
    rw [sync_sector (first + j) (by omega) g.pend g.img rfl hf]
    exact content_R g.img (first + j) (fun x => x = filledB (j + 1) (bs.getD j [])) g.pend _ (h.st.yes j hj) (fun p q e => by have := (h.pend p q).2; omega)
  · show Dead (sector (syncAll g.pend g.img) (first + k))
    rw [sync_sector (first + k) (by omega) g.pend g.img rfl hf]
    exact content_R g.img (first + k) Dead g.pend _ (h.st.no hk) (fun p q e => by rw [(h.pend p q).1]; exact Dead.zeros)
  · show _ ≤ (syncAll g.pend g.img).length
    rw [hl]; exact hlen
  · show (syncAll g.pend g.img).length = 512 * ((syncAll g.pend g.img).length / 512)
    rw [hn, hl]; exact hgn
  · replace hin : i < g.n := by
      have : i < (syncAll g.pend g.img).length / 512 := hin
      omega
    show sector (syncAll g.pend g.img) i = _
    rw [sync_sector i (by omega) g.pend g.img rfl hf]
    exact content_R g.img i (fun x => x = X i) g.pend _ (h.side i hi hin) (fun p q e => by have := (h.pend p q).2; omega)
/-- The wiping: all that is not zeros is; or the device has given up. -/
theorem Wip.wipe : (c s : Nat) → (q : Bool) → (g : Dev) → Wip g first count bs k X → g.down = false → k + 1 ≤ s → s + c = count + 1 → (∀ i, k + 1 ≤ i → i < s → g.content (first + i - 1) = zerosB) → (q = false → g.pend = []) →
    ((wipeM first c s g q).2.2 = 0 ∧ Wip (wipeM first c s g q).1 first count bs k X ∧ (wipeM first c s g q).1.down = false ∧ (∀ i, k + 1 ≤ i → i ≤ count → (wipeM first c s g q).1.content (first + i - 1) = zerosB) ∧ ((wipeM first c s g q).2.1 = false → (wipeM first c s g q).1.pend = []) ∧ (wipeM first c s g q).1.left ≤ g.left) ∨ ((wipeM first c s g q).2.2 = 40 ∧ Wip (wipeM first c s g q).1 first count bs k X ∧ (wipeM first c s g q).1.down = true ∧ (wipeM first c s g q).1.pend = [] ∧ g.left ≠ 0)
  | 0, s, q, g, h, hd, h1, h2, h3, h4 => .inl ⟨rfl, h, hd, fun i a b => h3 i a (by omega), h4, Nat.le_refl _⟩
  | c + 1, s, q, g, h, hd, h1, h2, h3, h4 => by
    by_cases hz : g.content (first + s - 1) = zerosB
    · have e : wipeM first (c + 1) s g q = wipeM first c (s + 1) g q := by rw [wipeM, if_pos hz]
      rw [e]
      exact Wip.wipe c (s + 1) q g h hd (by omega) (by omega) (fun i a b => by
        by_cases r : i < s
        · exact h3 i a r
        · obtain rfl : i = s := by omega
          exact hz) h4
    · have hlen := h.len
      have hgn := h.n
      have hps : ∀ p ∈ g.pend ++ [(first + s - 1, zerosB)], p.2 = zerosB ∧ first + k ≤ p.1 ∧ p.1 < first + count := by
        intro p hp
        rcases List.mem_append.1 hp with r | r
        · exact h.pend p r
        · simp at r; subst r; exact ⟨rfl, by show _ ≤ first + s - 1; omega, by show first + s - 1 < _; omega⟩
      rcases write_cases hd h.arm (first + s - 1) (by omega) zerosB zerosB_length with ⟨e1, e2⟩ | ⟨e1, e9, l, e3, e2⟩
      · have e : wipeM first (c + 1) s g q = wipeM first c (s + 1) (g.write ((first + s - 1 : Nat) : Int) zerosB) true := by rw [wipeM, if_neg hz, if_neg (by rw [e1]; simp)]
        rw [e, e2]
        have ih := Wip.wipe c (s + 1) true { g with pend := g.pend ++ [(first + s - 1, zerosB)], calls := g.calls + 1, left := g.left - 1 } ⟨h.st, h.len, h.n, hps, h.arm.less _ _ _, h.side⟩ hd (by omega) (by omega) (fun i a b => ?_) nofun
        · rcases ih with ⟨i1, i2, i3, i4, i5, i6⟩ | ⟨i1, i2, i3, i4, i5⟩
          · exact .inl ⟨i1, i2, i3, i4, i5, Nat.le_trans i6 (Nat.sub_le _ _)⟩
          · exact .inr ⟨i1, i2, i3, i4, by have i5 : g.left - 1 ≠ 0 := i5; omega⟩
        show contentOf g.img (first + i - 1) (g.pend ++ [(first + s - 1, zerosB)]) = zerosB
        rw [content_snoc]
        by_cases r : i < s
        · rw [if_neg (by show ¬ first + s - 1 = _; omega)]
          exact h3 i a r
        · rw [if_pos (by show first + s - 1 = _; omega)]
      · right
        have e : wipeM first (c + 1) s g q = (g.write ((first + s - 1 : Nat) : Int) zerosB, true, g.writeE ((first + s - 1 : Nat) : Int) 512) := by rw [wipeM, if_neg hz, if_pos (by rw [e1]; simp)]
        rw [e, e2, e1]
        exact ⟨rfl, h.fell l hps, rfl, rfl, by omega⟩
/-- Open of a disk that runs and has nothing in its cache: the first k records, zeros behind them; or the device has given up, and the k records stand. -/
theorem Wip.open_ {rs : List RecM} (h : Wip g first count bs k X) (hh : Holds rs bs) (hk : k ≤ rs.length) (hd : g.down = false) (hp : g.pend = []) (hf : 1 ≤ first) :
    openR g first count = bs.take k ∧ openAt g first count = 0 ∧ ((openE g first count = 0 ∧ Wip (openD g first count) first count bs k X ∧ (openD g first count).down = false ∧ (openD g first count).pend = [] ∧ ∀ i, k ≤ i → i < count → sector (openD g first count).img (first + i) = zerosB) ∨ (openE g first count = 40 ∧ Wip (openD g first count) first count bs k X ∧ (openD g first count).down = true ∧ (openD g first count).pend = [] ∧ g.left ≠ 0)) := by
  have e1 : settleE g = 0 := by unfold settleE; rw [hd, if_neg (by simp), if_pos hp]
  have e2 : settleD g = g := by unfold settleD; rw [hd, if_neg (by simp), if_pos hp]
  have hc : ∀ i, g.content i = sector g.img i := fun i => by unfold Dev.content contentOf; rw [hp]; rfl
  have hle := h.st.le
  have e3 : fnd g first count = (bs.take k, 0) := by
    unfold fnd
    have := findM_holds (hh.take k hk) (fun s => g.content (first + s - 1)) count k 0 (by rw [List.length_take]; omega) hle (fun j _ hj => by
      rw [List.length_take] at hj
      show g.content (first + (j + 1) - 1) = _
      rw [hc, show first + (j + 1) - 1 = first + j by omega, h.st.yes j (by omega)]
      congr 1
      rw [List.getD_eq_getElem?_getD, List.getD_eq_getElem?_getD, List.getElem?_take, if_pos (by omega)]) (fun q => by
      rw [List.length_take, Nat.min_eq_left hk]
      show isRec (k + 1) (g.content (first + (k + 1) - 1)) = false
      rw [hc, show first + (k + 1) - 1 = first + k by omega]
      exact (h.st.no q).no _)
    rw [List.drop_zero] at this
    exact this
  have e4 : (bs.take k).length = k := by rw [List.length_take, hh.len]; omega
  have W := Wip.wipe (first := first) (count := count) (bs := bs) (k := k) (X := X) (count - k) (k + 1) false g h hd (Nat.le_refl _) (by omega) (fun i a b => by omega) (fun _ => hp)
  have eE : openE g first count = wipeE g first count k := by
    unfold openE
    rw [e1, if_neg (by simp), e2, e3, if_neg (by simp), e4]
  have eD : openD g first count = wipeD g first count k := by
    unfold openD
    rw [e1, if_neg (by simp), e2, e3, if_neg (by simp), e4]
  refine ⟨by unfold openR; rw [e2, e3], by unfold openAt; rw [e1, if_neg (by simp), e2, e3], ?_⟩
  rw [eE, eD]
  unfold wipeE wipeD wiped
  generalize wipeM first (count - k) (k + 1) g false = p at *
  obtain ⟨g1, q1, x1⟩ := p
  dsimp only at *
  rcases W with ⟨rfl, w2, w3, w4, w5, w9⟩ | ⟨rfl, w2, w3, w4, w9⟩
  · have z : ¬ ((0 : Nat) ≠ 0) := by simp
    simp only [if_neg z]
    have hlen := w2.len
    cases q1 with
    | false =>
      simp only [if_neg Bool.false_ne_true]
      have w6 := w5 rfl
      refine .inl ⟨trivial, w2, w3, w6, fun i a b => ?_⟩
      have := w4 (i + 1) (by omega) (by omega)
      unfold Dev.content contentOf at this
      rw [w6, show first + (i + 1) - 1 = first + i by omega] at this
      exact this
    | true =>
      simp only [if_pos]
      rcases sync_cases w3 w2.arm with ⟨a1, a2⟩ | ⟨a1, a9, l, a3, a2⟩
      · rw [a1, a2]
        refine .inl ⟨rfl, w2.settled _ _ (w2.arm.less _ _ _), w3, rfl, fun i a b => ?_⟩
        show sector (syncAll g1.pend g1.img) (first + i) = _
        rw [sync_sector (first + i) (by omega) g1.pend g1.img rfl (w2.fits w2.pend)]
        have := w4 (i + 1) (by omega) (by omega)
        rw [show first + (i + 1) - 1 = first + i by omega] at this
        exact this
      · rw [a1, a2]
        exact .inr ⟨rfl, w2.fell l w2.pend, rfl, rfl, by omega⟩
  · have z : (40 : Nat) ≠ 0 := by decide
    simp only [if_pos z]
    exact .inr ⟨trivial, w2, w3, w4, w9⟩
end
end Go.Proofs.YtgpmghdoofcpaaaGreat.Lg
