import Derived.Test.YtapjbgkmcplpbaaMade
namespace Go.QK
open Go.RowKit

/-- The master hangs on what stands in the sectors alone. -/
theorem master_congr {g g' : Dev} (h1 : g'.img = g.img) (h2 : g'.pend = g.pend) : g'.master = g.master := by
  have hn : g'.n = g.n := by unfold Dev.n; rw [h1]
  have hs : ∀ i, g'.slot i = g.slot i := by
    intro i
    unfold Dev.slot Dev.content
    rw [hn, h1, h2]
  unfold Dev.master
  rw [hs, hs]
/-- A disk with this image that runs. -/
def Dev.calm (g : Dev) (img : List Nat) (calls : Nat) : Dev := { g with img := img, pend := [], calls := calls, down := false, left := 0, loss := none }
/-- A crash of a disk with nothing in its cache, and Up. -/
theorem Still.crashUp {g : Dev} (h : Still g) (L : Loss) : (g.crash L).up = g.calm g.img g.calls := by
  unfold Dev.crash
  rw [h.down, if_neg (by decide)]
  simp [Dev.fall, Dev.up, Dev.calm, h.pend, fallFrom]
theorem Still.calm {g : Dev} (h : Still g) : Still (g.calm g.img g.calls) ∧ (g.calm g.img g.calls).master = g.master ∧ (g.calm g.img g.calls).n = g.n :=
  ⟨⟨rfl, rfl, rfl, ⟨h.ok.size, h.ok.bytes, nofun, by show 0 ≤ _; omega, fun q => absurd rfl q, nofun⟩⟩, master_congr rfl (by show [] = g.pend; rw [h.pend]), rfl⟩

theorem arm_still {g : Dev} (h : Still g) (st : Nat) (hst : 1 ≤ st) (L : Loss) : g.armE (st : Int) = 0 ∧ g.arm (st : Int) L = { g with left := st, loss := some L } := by
  unfold Dev.armE Dev.arm
  rw [h.down]
  refine ⟨by rw [if_neg (by decide), if_neg (by omega)], ?_⟩
  rw [if_neg (by simp), if_pos (by omega)]
  simp [Int.toNat_natCast]

/-- A Point on an armed disk, a crash, and Up. -/
theorem Made.cut {g : Dev} {p l f k last : Nat} (h : Made g p l f k last) (hk : k ≤ 1000) (x : Nat) (hx : x ≤ 2147483647) (st : Nat) (h1 : 1 ≤ st) (h3 : st ≤ 3) (L : Loss) :
    ∃ n, n ≤ 512 ∧ (((g.arm (st : Int) L).pointE (x : Int) = 0 ∧ n = 512) ∨ (g.arm (st : Int) L).pointE (x : Int) = 40) ∧
      (((g.arm (st : Int) L).pointD (x : Int)).crash L).up = g.calm (lay g.img ((k + 1) % 2) (slotB (g.master.next (x : Int))) n) ((((g.arm (st : Int) L).pointD (x : Int)).crash L).up).calls ∧
      ((((g.arm (st : Int) L).pointD (x : Int)).crash L).up).calls ≤ g.calls + 2 ∧ ((g.arm (st : Int) L).pointD (x : Int)).pend = [] := by
  have hl : lsnN (x : Int) := by unfold lsnN; omega
  have hs : g.master.stamp = k := by rw [h.mst]
  have sz := h.still.size
  have hn := h.n
  obtain ⟨_, ea⟩ := arm_still h.still st h1 L
  have ne := h.ne
  rw [ea]
  obtain ⟨g1, hg1⟩ : ∃ g1, g1 = ({ g with left := st, loss := some L } : Dev) := ⟨_, rfl⟩
  rw [← hg1]
  have i1 : g1.img = g.img := by rw [hg1]
  have i2 : g1.pend = [] := by rw [hg1]; exact h.still.pend
  have i3 : g1.down = false := by rw [hg1]; exact h.still.down
  have i4 : g1.left = st := by rw [hg1]
  have i5 : g1.loss = some L := by rw [hg1]
  have i6 : g1.calls = g.calls := by rw [hg1]
  have i7 : g1.n = g.n := by unfold Dev.n; rw [i1]
  have mm : g1.master = g.master := master_congr i1 (by rw [i2, h.still.pend])
  have he : g1.openE = 0 := by unfold Dev.openE; rw [i3, if_neg (by decide), mm, if_neg (fun q => ne ((Dev.master_zero_iff g).1 q))]
  have pe : g1.pointE (x : Int) = g1.putE (((k + 1) % 2 : Nat) : Int) (slotB (g.master.next (x : Int))) := by
    unfold Dev.pointE
    rw [if_neg (not_not_intro hl), he, if_neg (by decide), mm, if_neg (by omega)]
    show g1.putE (((g.master.stamp + 1) % 2 : Nat) : Int) _ = _
    rw [hs]
  have pd : g1.pointD (x : Int) = g1.putD (((k + 1) % 2 : Nat) : Int) (slotB (g.master.next (x : Int))) := by
    unfold Dev.pointD
    rw [if_neg (not_not_intro hl), he, if_neg (by decide), mm, if_neg (by omega)]
    show g1.putD (((g.master.stamp + 1) % 2 : Nat) : Int) _ = _
    rw [hs]
  rw [pe, pd]
  have hb := slotB_length (g.master.next (x : Int))
  generalize slotB (g.master.next (x : Int)) = b at *
  obtain ⟨s, hse⟩ : ∃ s, s = (k + 1) % 2 := ⟨_, rfl⟩
  have hs2 : s < g.n := by omega
  rw [← hse]
  have hr : g1.reach (s : Int) = 0 := by unfold Dev.reach; rw [i3, if_neg (by decide), i7, if_neg (by omega)]
  have cal : ∀ (g2 : Dev) (img : List Nat), g2.up.img = img → g2.up.pend = [] → g2.up = g.calm img g2.up.calls := by
    intro g2 img a1 a2
    simp only [Dev.up, Dev.calm] at *
    rw [← a1, a2]
  by_cases c1 : st = 1
  · subst c1
    have e1 : g1.writeE (s : Int) b.length = 40 := by
      unfold Dev.writeE
      rw [hr, if_neg (by decide), if_neg (by omega), if_pos i4]
    have e2 : g1.write (s : Int) b = ((g1.push s b).strike).crashes := by
      unfold Dev.write
      rw [hr, if_neg (by omega), if_pos i4]
      rfl
    have e3 : ((g1.push s b).strike).crashes = ((g1.push s b).strike).fall L := by
      unfold Dev.crashes
      show (match g1.loss with | some l => _ | none => _) = _
      rw [i5]
    have pE : g1.putE (s : Int) b = 40 := by unfold Dev.putE; rw [e1, if_pos (by decide)]
    have pD : g1.putD (s : Int) b = ((g1.push s b).strike).fall L := by unfold Dev.putD; rw [e1, if_pos (by decide), e2, e3]
    rw [pE, pD]
    have cr : (((g1.push s b).strike).fall L).crash L = ((g1.push s b).strike).fall L := by unfold Dev.crash; exact if_pos rfl
    rw [cr]
    refine ⟨leavesN L 0, leavesN_le L 0, .inr rfl, cal _ _ ?_ rfl, by show g1.calls + 1 ≤ _; omega, rfl⟩
    show fallFrom L 0 (g1.pend ++ [(s, b)]) g1.img = _
    rw [i2, i1]
    rfl
  · have e1 : g1.writeE (s : Int) b.length = 0 := by
      unfold Dev.writeE
      rw [hr, if_neg (by decide), if_neg (by omega), if_neg (by omega)]
    have e2 : g1.write (s : Int) b = (g1.push s b).strike := by
      unfold Dev.write
      rw [hr, if_neg (by omega), if_neg (by omega)]
      rfl
    have hl2 : ((g1.push s b).strike).left = st - 1 := by show g1.left - 1 = _; rw [i4]
    have pE : g1.putE (s : Int) b = ((g1.push s b).strike).syncE := by unfold Dev.putE; rw [e1, if_neg (by decide), e2]
    have pD : g1.putD (s : Int) b = ((g1.push s b).strike).sync := by unfold Dev.putD; rw [e1, if_neg (by decide), e2]
    rw [pE, pD]
    by_cases c2 : st = 2
    · subst c2
      have e3 : ((g1.push s b).strike).syncE = 40 := by unfold Dev.syncE; rw [if_pos (.inr hl2)]
      have e4 : ((g1.push s b).strike).sync = ((g1.push s b).strike.strike).fall L := by
        unfold Dev.sync
        rw [if_neg (by show ¬ g1.down = true; rw [i3]; decide), if_pos hl2]
        unfold Dev.crashes
        show (match g1.loss with | some l => _ | none => _) = _
        rw [i5]
      rw [e3, e4]
      have cr : (((g1.push s b).strike.strike).fall L).crash L = ((g1.push s b).strike.strike).fall L := by unfold Dev.crash; exact if_pos rfl
      rw [cr]
      refine ⟨leavesN L 0, leavesN_le L 0, .inr rfl, cal _ _ ?_ rfl, by show g1.calls + 1 + 1 ≤ _; omega, rfl⟩
      show fallFrom L 0 (g1.pend ++ [(s, b)]) g1.img = _
      rw [i2, i1]
      rfl
    · obtain rfl : st = 3 := by omega
      have e3 : ((g1.push s b).strike).syncE = 0 := by
        unfold Dev.syncE
        rw [if_neg]
        rintro (q | q)
        · have : g1.down = true := q
          rw [i3] at this
          simp at this
        · omega
      have e4 : ((g1.push s b).strike).sync = ((g1.push s b).strike.strike).settle := by
        unfold Dev.sync
        rw [if_neg (by show ¬ g1.down = true; rw [i3]; decide), if_neg (by omega)]
      rw [e3, e4]
      have cr : (((g1.push s b).strike.strike).settle).crash L = (((g1.push s b).strike.strike).settle).fall L := by
        unfold Dev.crash
        rw [if_neg (by show ¬ g1.down = true; rw [i3]; decide)]
      rw [cr]
      refine ⟨512, Nat.le_refl _, .inl ⟨rfl, rfl⟩, cal _ _ ?_ rfl, by show g1.calls + 1 + 1 ≤ _; omega, rfl⟩
      show fallFrom L 0 [] (syncAll (g1.pend ++ [(s, b)]) g1.img) = _
      rw [i2, i1]
      rfl

/-- One of both. -/
theorem Made.one {g : Dev} {p l f k last : Nat} (h : Made g p l f k last) (hk : k ≤ 1000) (x : Nat) (hx : x ≤ 2147483647) (n calls : Nat) (hn : n ≤ 512) :
    ∃ k' q, Still (g.calm (lay g.img ((k + 1) % 2) (slotB (g.master.next (x : Int))) n) calls) ∧ (g.calm (lay g.img ((k + 1) % 2) (slotB (g.master.next (x : Int))) n) calls).n = 5 + 2 * p + l ∧
      (g.calm (lay g.img ((k + 1) % 2) (slotB (g.master.next (x : Int))) n) calls).master = ⟨k', p, l, f, q⟩ ∧ 1 ≤ k' ∧ k' ≤ k + 1 ∧ (q = x ∨ (q = last ∧ n ≠ 512)) := by
  have hl : lsnN (x : Int) := by unfold lsnN; omega
  have hs : g.master.stamp = k := by rw [h.mst]
  have C := h.still.cut h.ne (by omega) (by have := h.n; omega) (by rw [hs]; exact h.old) hl n hn
  rw [hs] at C
  obtain ⟨c1, c2, c3⟩ := C
  have S1 : Still (g.calm (lay g.img ((k + 1) % 2) (slotB (g.master.next (x : Int))) n) calls) := ⟨rfl, rfl, rfl, ⟨c1.ok.size, c1.ok.bytes, nofun, by show 0 ≤ _; omega, fun q => absurd rfl q, nofun⟩⟩
  have M1 : (g.calm (lay g.img ((k + 1) % 2) (slotB (g.master.next (x : Int))) n) calls).master = (g.laid ((k + 1) % 2) (slotB (g.master.next (x : Int))) n).master := master_congr rfl (by show [] = g.pend; rw [h.still.pend])
  have N1 : (g.calm (lay g.img ((k + 1) % 2) (slotB (g.master.next (x : Int))) n) calls).n = g.n := c3
  rw [M1, N1, h.n]
  have hk1 := h.k1
  rcases c2 with q | ⟨q, q2⟩
  · rw [q]
    refine ⟨k + 1, x, S1, rfl, ?_, by omega, by omega, .inl rfl⟩
    rw [h.mst]
    simp [Slot.next]
  · rw [q]
    exact ⟨k, last, S1, rfl, h.mst, hk1, by omega, .inr ⟨rfl, q2⟩⟩
/-- A disk that runs, with this master. -/
structure Has (g : Dev) (p l f k q : Nat) : Prop where
  still : Still g
  n : g.n = 5 + 2 * p + l
  mst : g.master = ⟨k, p, l, f, q⟩
  k1 : 1 ≤ k
theorem Has.ne {g : Dev} {p l f k last : Nat} (h : Has g p l f k last) : g.master ≠ Slot.none := by
  intro q
  have := congrArg Slot.stamp q
  rw [h.mst] at this
  have := h.k1
  simp [Slot.none] at *
  omega
theorem Has.openE {g : Dev} {p l f k q : Nat} (h : Has g p l f k q) : g.openE = 0 ∧ g.openS = ⟨k, p, l, f, q⟩ := by
  unfold Dev.openE Dev.openS
  rw [h.still.down]
  exact ⟨by rw [if_neg (by decide), if_neg (fun q => h.ne ((Dev.master_zero_iff g).1 q))], by rw [if_neg (by decide)]; exact h.mst⟩
theorem Has.point {g : Dev} {p l f k q : Nat} (h : Has g p l f k q) (hk : k ≤ 1000) (x : Nat) (hx : x ≤ 2147483647) :
    g.pointE (x : Int) = 0 ∧ Has (g.pointD (x : Int)) p l f (k + 1) x ∧ (g.pointD (x : Int)).calls = g.calls + 2 := by
  have hl : lsnN (x : Int) := by unfold lsnN; omega
  obtain ⟨e1, e2, e3, e4, e5⟩ := h.still.point h.ne (by rw [h.mst]; show k < _; omega) (by rw [h.n]; omega) hl
  refine ⟨e1, ⟨e3, by rw [e5, h.n], ?_, by omega⟩, by rw [e2]; rfl⟩
  rw [e4, h.mst]
  simp [Slot.next]
theorem Has.crashUp {g : Dev} {p l f k q : Nat} (h : Has g p l f k q) (L : Loss) : Has ((g.crash L).up) p l f k q ∧ ((g.crash L).up).calls = g.calls := by
  rw [h.still.crashUp L]
  obtain ⟨a, b, c⟩ := h.still.calm
  exact ⟨⟨a, by rw [c, h.n], by rw [b, h.mst], h.k1⟩, rfl⟩
end Go.QK
