import Derived.Test.YtapjbgkmcplpbaaGreatSlot
namespace Go.QK
open Go.RowKit

/-! What Format and Point make of a disk that runs, in plain numbers. -/
theorem splice_getD (L : List Nat) (o : Nat) (c : List Nat) (h : o + c.length ≤ L.length) (i : Nat) : (splice L o c).getD i 0 = if o ≤ i ∧ i < o + c.length then c.getD (i - o) 0 else L.getD i 0 := by
  unfold splice
  have e : (L.take o).length = o := by simp; omega
  by_cases h1 : i < o
  · rw [if_neg (by omega)]
    simp only [List.getD_eq_getElem?_getD]
    rw [List.getElem?_append_left (by omega), List.getElem?_take, if_pos h1]
  · by_cases h2 : i < o + c.length
    · rw [if_pos ⟨by omega, h2⟩]
      simp only [List.getD_eq_getElem?_getD]
      rw [List.getElem?_append_right (by omega), e, List.getElem?_append_left (by omega)]
    · rw [if_neg (by omega)]
      simp only [List.getD_eq_getElem?_getD]
      rw [List.getElem?_append_right (by omega), e, List.getElem?_append_right (by omega), List.getElem?_drop]
      congr 2
      omega

theorem sector_getD (img : List Nat) (i j : Nat) (hj : j < 512) : (sector img i).getD j 0 = img.getD (512 * i + j) 0 := by
  unfold sector
  simp [hj, List.getElem?_drop]
theorem sector_length (img : List Nat) (i : Nat) (h : 512 * i + 512 ≤ img.length) : (sector img i).length = 512 := by
  unfold sector
  simp
  omega
theorem ext512 {a b : List Nat} (ha : a.length = 512) (hb : b.length = 512) (h : ∀ j, j < 512 → a.getD j 0 = b.getD j 0) : a = b := by
  apply List.ext_getElem (by omega)
  intro j h1 h2
  have := h j (by omega)
  simpa [h1, h2] using this
def torn (b x : List Nat) (n : Nat) : List Nat := b.take n ++ x.drop n
theorem torn_length {b x : List Nat} (hb : b.length = 512) (hx : x.length = 512) (n : Nat) (hn : n ≤ 512) : (torn b x n).length = 512 := by
  unfold torn
  rw [List.length_append, List.length_take, List.length_drop]
  omega
theorem torn_getD {b x : List Nat} (hb : b.length = 512) (n j : Nat) (hn : n ≤ 512) : (torn b x n).getD j 0 = if j < n then b.getD j 0 else x.getD j 0 := by
  unfold torn
  split
  · rename_i h
    rw [List.getD_eq_getElem?_getD, List.getElem?_append_left (by simp; omega), List.getElem?_take, if_pos h, List.getD_eq_getElem?_getD]
  · rename_i h
    rw [List.getD_eq_getElem?_getD, List.getElem?_append_right (by simp; omega), List.getElem?_drop, List.getD_eq_getElem?_getD]
    congr 2
    simp
    omega
theorem sector_lay_same (img b : List Nat) (s n : Nat) (hi : 512 * s + 512 ≤ img.length) (hb : b.length = 512) (hn : n ≤ 512) : sector (lay img s b n) s = torn b (sector img s) n := by
  have hl : (lay img s b n).length = img.length := by unfold lay; rw [length_splice _ _ _ (by simp; omega)]
  refine ext512 (sector_length _ _ (by omega)) (torn_length hb (sector_length _ _ hi) n hn) (fun j hj => ?_)
  rw [sector_getD _ _ _ hj, torn_getD hb n j hn, sector_getD _ _ _ hj]
  unfold lay
  rw [splice_getD _ _ _ (by simp; omega)]
  by_cases q : j < n
  · rw [if_pos q, if_pos (by simp; omega), show 512 * s + j - 512 * s = j by omega]
    simp [q]
  · rw [if_neg q, if_neg (by simp; omega)]
theorem sector_lay_other (img b : List Nat) (s i n : Nat) (hi : 512 * s + 512 ≤ img.length) (h : 512 * i + 512 ≤ img.length) (hb : b.length = 512) (hn : n ≤ 512) (hne : i ≠ s) : sector (lay img s b n) i = sector img i := by
  have hl : (lay img s b n).length = img.length := by unfold lay; rw [length_splice _ _ _ (by simp; omega)]
  refine ext512 (sector_length _ _ (by omega)) (sector_length _ _ h) (fun j hj => ?_)
  rw [sector_getD _ _ _ hj, sector_getD _ _ _ hj]
  unfold lay
  rw [splice_getD _ _ _ (by simp; omega), if_neg (by simp; omega)]
theorem torn_all (b x : List Nat) (hb : b.length = 512) (hx : x.length = 512) : torn b x 512 = b := by
  unfold torn
  rw [List.take_of_length_le (by omega), List.drop_of_length_le (by omega), List.append_nil]

/-- A disk that runs, with nothing in its cache and not armed. -/
structure Still (g : Dev) : Prop where
  down : g.down = false
  left : g.left = 0
  pend : g.pend = []
  ok : g.Ok
theorem Still.size {g : Dev} (h : Still g) : g.img.length = 512 * g.n := by
  obtain ⟨n, _, _, e⟩ := h.ok.size
  unfold Dev.n
  omega
theorem Still.content {g : Dev} (h : Still g) (i : Nat) : g.content i = sector g.img i := by
  unfold Dev.content
  rw [h.pend]
  rfl
/-- What a write and a Sync leave. -/
def Dev.laid (g : Dev) (s : Nat) (b : List Nat) (n : Nat) : Dev := { g with img := lay g.img s b n, calls := g.calls + 2 }
theorem Still.put {g : Dev} (h : Still g) (s : Nat) (b : List Nat) (hs : s < g.n) (hb : b.length = 512) : g.putE (s : Int) b = 0 ∧ g.putD (s : Int) b = g.laid s b 512 := by
  have hr : g.reach (s : Int) = 0 := by unfold Dev.reach; rw [h.down, if_neg (by decide), if_neg (by omega)]
  have hl : ¬ g.left = 1 := by rw [h.left]; decide
  have e1 : g.writeE (s : Int) b.length = 0 := by
    unfold Dev.writeE
    rw [hr, if_neg (by decide), if_neg (by omega), if_neg hl]
  have e2 : g.write (s : Int) b = (g.push s b).strike := by
    unfold Dev.write
    rw [hr, if_neg (by omega), if_neg hl]
    rfl
  have e3 : ((g.push s b).strike).syncE = 0 := by
    unfold Dev.syncE
    rw [if_neg]
    simp [Dev.strike, Dev.push, h.down, h.left]
  have e4 : ((g.push s b).strike).sync = g.laid s b 512 := by
    unfold Dev.sync
    rw [if_neg (by simp [Dev.strike, Dev.push, h.down]), if_neg (by simp [Dev.strike, Dev.push, h.left])]
    simp [Dev.strike, Dev.push, Dev.settle, Dev.laid, h.pend, h.left, syncAll]
  unfold Dev.putE Dev.putD
  rw [e1, if_neg (by decide), if_neg (by decide), e2]
  exact ⟨e3, e4⟩
theorem laid_n (g : Dev) (s : Nat) (b : List Nat) (n : Nat) (hi : 512 * s + 512 ≤ g.img.length) (hb : b.length = 512) (hn : n ≤ 512) : (g.laid s b n).n = g.n ∧ (g.laid s b n).img.length = g.img.length := by
  have e : (lay g.img s b n).length = g.img.length := by unfold lay; rw [length_splice _ _ _ (by simp; omega)]
  exact ⟨by unfold Dev.n Dev.laid; rw [e], e⟩
theorem Still.laid {g : Dev} (h : Still g) (s : Nat) (b : List Nat) (n : Nat) (hs : s < g.n) (hb : b.length = 512) (ha : AllB b) (hn : n ≤ 512) : Still (g.laid s b n) := by
  have sz := h.size
  have e : (lay g.img s b n).length = g.img.length := by unfold lay; rw [length_splice _ _ _ (by simp; omega)]
  refine ⟨h.down, h.left, h.pend, ?_⟩
  obtain ⟨m, h1, h2, h3⟩ := h.ok.size
  refine ⟨⟨m, h1, h2, e.trans h3⟩, ?_, ?_, h.ok.left, h.ok.arm, h.ok.loss⟩
  · exact AllB.lay (p := (s, b)) h.ok.bytes (show Fits g.img.length (s, b) from ⟨by show 512 * s + 512 ≤ _; omega, hb, ha⟩) n
  · intro p hp
    have : p ∈ g.pend := hp
    rw [h.pend] at this
    simp at this
theorem zerosB_allB : AllB zerosB := fun x hx => by rw [List.eq_of_mem_replicate hx]; decide
theorem zerosB_length : zerosB.length = 512 := by unfold zerosB; exact List.length_replicate

theorem Still.slot {g : Dev} (h : Still g) (i : Nat) (hi : i < g.n) : g.slot i = readB (sector g.img i) i g.n := by
  unfold Dev.slot
  rw [if_pos hi, h.content]

/-- The stamp of a right slot is at most the master's. -/
theorem Dev.slot_le (g : Dev) (i : Nat) (hi : i < 2) : (g.slot i).stamp ≤ g.master.stamp := by
  unfold Dev.master
  split
  · rename_i q
    rcases (by omega : i = 0 ∨ i = 1) with rfl | rfl <;> omega
  · rename_i q
    rcases (by omega : i = 0 ∨ i = 1) with rfl | rfl <;> omega
theorem Dev.master_stands {g : Dev} (h : g.master ≠ Slot.none) : g.master.stands (g.master.stamp % 2) g.n ∧ g.slot (g.master.stamp % 2) = g.master ∧ g.content (g.master.stamp % 2) = slotB g.master ∧ g.master.stamp % 2 < g.n := by
  rcases g.master_or with q | ⟨i, hi, q1, q2⟩
  · exact absurd q h
  · have e : g.master.stamp % 2 = i := by rw [q1]; exact q2.2.2.1
    rw [e]
    rcases g.slot_or i with r | ⟨r1, r2, r3⟩
    · rw [r] at q1; exact absurd q1 h
    · exact ⟨by rw [q1]; exact q2, q1.symm, by rw [q1]; exact r2.symm, r3⟩
/-- The one of two whose stamp is greater. -/
theorem Dev.master_of {g : Dev} {i : Nat} (hi : i < 2) (h : (g.slot (1 - i)).stamp < (g.slot i).stamp) : g.master = g.slot i := by
  unfold Dev.master
  rcases (by omega : i = 0 ∨ i = 1) with rfl | rfl
  · have h' : (g.slot 1).stamp < (g.slot 0).stamp := h
    rw [if_neg (by omega)]
  · have h' : (g.slot 0).stamp < (g.slot 1).stamp := h
    rw [if_pos h']

theorem Slot.stands.next {m : Slot} {i n : Nat} (h : m.stands i n) (hs : m.stamp < 4611686018427387904) {lsn : Int} (hl : lsnN lsn) : (m.next lsn).stands ((m.stamp + 1) % 2) n := by
  unfold lsnN at hl
  obtain ⟨h1, h2, h3, h4, h5⟩ := h
  exact ⟨by simp [Slot.next], by simp [Slot.next]; omega, rfl, h4, by simp [Slot.next]; omega⟩

/-- A Point that is played to its end. -/
theorem Still.point {g : Dev} (h : Still g) (hm : g.master ≠ Slot.none) (hs : g.master.stamp < 4611686018427387904) (hn : 2 ≤ g.n) {lsn : Int} (hl : lsnN lsn) :
    g.pointE lsn = 0 ∧ g.pointD lsn = g.laid ((g.master.stamp + 1) % 2) (slotB (g.master.next lsn)) 512 ∧ Still (g.pointD lsn) ∧ (g.pointD lsn).master = g.master.next lsn ∧ (g.pointD lsn).n = g.n := by
  have st := Dev.master_stands hm
  have hi : (g.master.stamp + 1) % 2 < g.n := by omega
  have he : g.openE = 0 := by unfold Dev.openE; rw [h.down, if_neg (by decide), if_neg (fun q => hm ((Dev.master_zero_iff g).1 q))]
  have P := h.put ((g.master.stamp + 1) % 2) (slotB (g.master.next lsn)) hi (slotB_length _)
  have e1 : g.pointE lsn = 0 := by
    unfold Dev.pointE
    rw [if_neg (not_not_intro hl), he, if_neg (by decide), if_neg (by omega)]
    exact P.1
  have e2 : g.pointD lsn = g.laid ((g.master.stamp + 1) % 2) (slotB (g.master.next lsn)) 512 := by
    unfold Dev.pointD
    rw [if_neg (not_not_intro hl), he, if_neg (by decide), if_neg (by omega)]
    exact P.2
  have sz := h.size
  have C := h.laid ((g.master.stamp + 1) % 2) (slotB (g.master.next lsn)) 512 hi (slotB_length _) (slotB_allB _) (Nat.le_refl _)
  have N := laid_n g ((g.master.stamp + 1) % 2) (slotB (g.master.next lsn)) 512 (by omega) (slotB_length _) (Nat.le_refl _)
  refine ⟨e1, e2, by rw [e2]; exact C, ?_, by rw [e2]; exact N.1⟩
  rw [e2]
  have s1 : (g.laid ((g.master.stamp + 1) % 2) (slotB (g.master.next lsn)) 512).slot ((g.master.stamp + 1) % 2) = g.master.next lsn := by
    rw [C.slot _ (by rw [N.1]; exact hi), N.1]
    show readB (sector (lay g.img _ _ 512) _) _ _ = _
    rw [sector_lay_same _ _ _ _ (by omega) (slotB_length _) (Nat.le_refl _), torn_all _ _ (slotB_length _) (sector_length _ _ (by omega))]
    exact readB_slotB (st.1.next hs hl)
  have s2 : (g.laid ((g.master.stamp + 1) % 2) (slotB (g.master.next lsn)) 512).slot (1 - (g.master.stamp + 1) % 2) = g.slot (1 - (g.master.stamp + 1) % 2) := by
    rw [C.slot _ (by rw [N.1]; omega), N.1, h.slot _ (by omega)]
    show readB (sector (lay g.img _ _ 512) _) _ _ = _
    rw [sector_lay_other _ _ _ _ _ (by omega) (by omega) (slotB_length _) (Nat.le_refl _) (by omega)]
  rw [Dev.master_of (i := (g.master.stamp + 1) % 2) (by omega) ?_, s1]
  rw [s1, s2]
  have := g.slot_le (1 - (g.master.stamp + 1) % 2) (by omega)
  show _ < g.master.stamp + 1
  omega

/-- A Format that is played to its end. -/
theorem Still.format {g : Dev} (h : Still g) {p l f : Int} (hf : fitsN p l f g.n) :
    g.formatE p l f = 0 ∧ g.formatD p l f = (g.laid 0 zerosB 512).laid 1 (slotB (firstS p l f)) 512 ∧ Still (g.formatD p l f) ∧ (g.formatD p l f).master = firstS p l f ∧ (g.formatD p l f).n = g.n ∧ sector (g.formatD p l f).img 0 = zerosB := by
  have hm := hf.1
  have hq := hf.2
  unfold mayN at hm
  have sz := h.size
  have P1 := h.put 0 zerosB (by omega) zerosB_length
  have C1 := h.laid 0 zerosB 512 (by omega) zerosB_length zerosB_allB (Nat.le_refl _)
  have N1 := laid_n g 0 zerosB 512 (by omega) zerosB_length (Nat.le_refl _)
  have P2 := C1.put 1 (slotB (firstS p l f)) (by rw [N1.1]; omega) (slotB_length _)
  have C2 := C1.laid 1 (slotB (firstS p l f)) 512 (by rw [N1.1]; omega) (slotB_length _) (slotB_allB _) (Nat.le_refl _)
  have N2 := laid_n (g.laid 0 zerosB 512) 1 (slotB (firstS p l f)) 512 (by omega) (slotB_length _) (Nat.le_refl _)
  have p1 : g.putE 0 zerosB = 0 := P1.1
  have p2 : g.putD 0 zerosB = g.laid 0 zerosB 512 := P1.2
  have e1 : g.formatE p l f = 0 := by
    unfold Dev.formatE
    rw [if_neg (not_not_intro hf), p1, if_neg (by decide), p2]
    exact P2.1
  have e2 : g.formatD p l f = (g.laid 0 zerosB 512).laid 1 (slotB (firstS p l f)) 512 := by
    unfold Dev.formatD
    rw [if_neg (not_not_intro hf), p1, if_neg (by decide), p2]
    exact P2.2
  have st : (firstS p l f).stands 1 g.n := by
    refine ⟨by show 1 ≤ 1; decide, by show 1 ≤ 4611686018427387904; decide, by show 1 % 2 = 1; decide, ?_, by show 0 ≤ 2147483647; decide⟩
    show fitsN (p.toNat : Int) (l.toNat : Int) (f.toNat : Int) g.n
    rw [Int.toNat_of_nonneg (by omega), Int.toNat_of_nonneg (by omega), Int.toNat_of_nonneg (by omega)]
    exact hf
  have z0 : sector ((g.laid 0 zerosB 512).laid 1 (slotB (firstS p l f)) 512).img 0 = zerosB := by
    show sector (lay (lay g.img 0 zerosB 512) 1 _ 512) 0 = _
    have e : (lay g.img 0 zerosB 512).length = g.img.length := N1.2
    rw [sector_lay_other _ _ _ _ _ (by rw [e]; omega) (by rw [e]; omega) (slotB_length _) (Nat.le_refl _) (by decide), sector_lay_same _ _ _ _ (by omega) zerosB_length (Nat.le_refl _), torn_all _ _ zerosB_length (sector_length _ _ (by omega))]
  refine ⟨e1, e2, by rw [e2]; exact C2, ?_, by rw [e2, N2.1, N1.1], by rw [e2]; exact z0⟩
  rw [e2]
  have s1 : ((g.laid 0 zerosB 512).laid 1 (slotB (firstS p l f)) 512).slot 1 = firstS p l f := by
    rw [C2.slot _ (by rw [N2.1, N1.1]; omega), N2.1, N1.1]
    show readB (sector (lay (lay g.img 0 zerosB 512) 1 _ 512) 1) _ _ = _
    have e : (lay g.img 0 zerosB 512).length = g.img.length := N1.2
    rw [sector_lay_same _ _ _ _ (by rw [e]; omega) (slotB_length _) (Nat.le_refl _), torn_all _ _ (slotB_length _) (sector_length _ _ (by rw [e]; omega))]
    exact readB_slotB st
  have s0 : ((g.laid 0 zerosB 512).laid 1 (slotB (firstS p l f)) 512).slot 0 = Slot.none := by
    rw [C2.slot _ (by rw [N2.1, N1.1]; omega), z0]
    unfold readB
    rw [if_neg]
    intro q
    have := q.1.1
    revert this
    decide +kernel
  rw [Dev.master_of (i := 1) (by omega) ?_, s1]
  rw [s1, s0]
  show 0 < 1
  decide

/-! A Point that is cut off. -/
structure Old (x : List Nat) (k : Nat) : Prop where
  len : x.length = 512
  last : x.getD 511 0 ≠ (k + 1) % 256
  low : fromB ((x.drop 1).take 8) < k
theorem slotB_last (s : Slot) : (slotB s).getD 511 0 = s.stamp % 256 := by
  have h : (headB s ++ List.replicate 494 0).length = 511 := by rw [List.length_append, headB_length, List.length_replicate]
  unfold slotB
  rw [List.getD_eq_getElem?_getD, List.getElem?_append_right (by omega), h]
  rfl
theorem slotB_one (s : Slot) : (slotB s).getD 1 0 = s.stamp % 256 := by
  show byteOf s.stamp 0 = _
  simp [byteOf]
theorem Old.zeros : Old zerosB 1 := ⟨zerosB_length, by decide +kernel, by decide +kernel⟩
theorem Old.slot {m : Slot} (h : m.Fit) : Old (slotB m) (m.stamp + 1) := by
  refine ⟨slotB_length m, by rw [slotB_last]; omega, ?_⟩
  have := congrArg Slot.stamp (apartB_slotB h)
  have e : (apartB (slotB m)).stamp = fromB (((slotB m).drop 1).take 8) := rfl
  omega
theorem drop_eq_of {a b : List Nat} (ha : a.length = 512) (hb : b.length = 512) (h : ∀ j, 1 ≤ j → j < 512 → a.getD j 0 = b.getD j 0) : a.drop 1 = b.drop 1 := by
  apply List.ext_getElem (by simp; omega)
  intro j h1 h2
  simp at h1 h2
  have := h (j + 1) (by omega) (by omega)
  simp [show j + 1 < a.length by omega, show j + 1 < b.length by omega] at this
  simp [this]
/-- What a torn slot says: nothing, or something older. -/
theorem torn_read {x : List Nat} {m : Slot} (hx : Old x m.stamp) (lsn : Int) (n i k : Nat) (hn : n ≤ 511) : (readB (torn (slotB (m.next lsn)) x n) i k).stamp < m.stamp ∨ m.stamp = 0 := by
  have hl := slotB_length (m.next lsn)
  by_cases h2 : 2 ≤ n
  · left
    have hx0 := hx.low
    rcases readB_or (torn (slotB (m.next lsn)) x n) i k with h | ⟨h, e⟩
    · rw [h]; simp [Slot.none]; omega
    · exfalso
      have a1 := congrArg (fun l => l.getD 1 0) e
      have a2 := congrArg (fun l => l.getD 511 0) e
      simp only [slotB_one, slotB_last, torn_getD hl n 1 (by omega), torn_getD hl n 511 (by omega)] at a1 a2
      rw [if_pos (by omega)] at a1
      rw [if_neg (by omega)] at a2
      have e2 : (m.next lsn).stamp = m.stamp + 1 := rfl
      rw [e2] at a1
      exact hx.last (by omega)
  · have hd : (torn (slotB (m.next lsn)) x n).drop 1 = x.drop 1 := drop_eq_of (torn_length hl hx.len n (by omega)) hx.len (fun j h1 hj => by rw [torn_getD hl n j (by omega), if_neg (by omega)])
    left
    rcases readB_or (torn (slotB (m.next lsn)) x n) i k with h | ⟨h, e⟩
    · have := hx.low
      rw [h]; simp [Slot.none]; omega
    · have f := apartB_slotB h.fit
      rw [e] at f
      have : (apartB (torn (slotB (m.next lsn)) x n)).stamp = fromB ((x.drop 1).take 8) := by unfold apartB; rw [hd]
      rw [f] at this
      rw [this]
      exact hx.low

/-- The two sectors behind a Point that is cut off, or not. -/
theorem Still.cut {g : Dev} (h : Still g) (hm : g.master ≠ Slot.none) (hs : g.master.stamp < 4611686018427387904) (hn : 2 ≤ g.n) (hx : Old (sector g.img ((g.master.stamp + 1) % 2)) g.master.stamp) {lsn : Int} (hl : lsnN lsn) (n : Nat) (hn2 : n ≤ 512) :
    Still (g.laid ((g.master.stamp + 1) % 2) (slotB (g.master.next lsn)) n) ∧ ((g.laid ((g.master.stamp + 1) % 2) (slotB (g.master.next lsn)) n).master = g.master.next lsn ∨ ((g.laid ((g.master.stamp + 1) % 2) (slotB (g.master.next lsn)) n).master = g.master ∧ n ≠ 512)) ∧ (g.laid ((g.master.stamp + 1) % 2) (slotB (g.master.next lsn)) n).n = g.n := by
  have st := Dev.master_stands hm
  have hi : (g.master.stamp + 1) % 2 < g.n := by omega
  have sz := h.size
  have C := h.laid ((g.master.stamp + 1) % 2) (slotB (g.master.next lsn)) n hi (slotB_length _) (slotB_allB _) hn2
  have N := laid_n g ((g.master.stamp + 1) % 2) (slotB (g.master.next lsn)) n (by omega) (slotB_length _) hn2
  refine ⟨C, ?_, N.1⟩
  by_cases h5 : n = 512
  · subst h5
    left
    obtain ⟨_, e, _, e2, _⟩ := h.point hm hs hn hl
    rw [← e, e2]
  · right
    refine ⟨?_, h5⟩
    have s1 : (g.laid ((g.master.stamp + 1) % 2) (slotB (g.master.next lsn)) n).slot ((g.master.stamp + 1) % 2) = readB (torn (slotB (g.master.next lsn)) (sector g.img ((g.master.stamp + 1) % 2)) n) ((g.master.stamp + 1) % 2) g.n := by
      rw [C.slot _ (by rw [N.1]; exact hi), N.1]
      show readB (sector (lay g.img _ _ n) _) _ _ = _
      rw [sector_lay_same _ _ _ _ (by omega) (slotB_length _) hn2]
    have s2 : (g.laid ((g.master.stamp + 1) % 2) (slotB (g.master.next lsn)) n).slot (g.master.stamp % 2) = g.master := by
      rw [C.slot _ (by rw [N.1]; omega), N.1]
      show readB (sector (lay g.img _ _ n) _) _ _ = _
      rw [sector_lay_other _ _ _ _ _ (by omega) (by omega) (slotB_length _) hn2 (by omega), ← h.slot _ (by omega)]
      exact st.2.1
    rw [Dev.master_of (i := g.master.stamp % 2) (by omega) ?_, s2]
    rw [show 1 - g.master.stamp % 2 = (g.master.stamp + 1) % 2 by omega, s1, s2]
    rcases torn_read hx lsn n ((g.master.stamp + 1) % 2) g.n (by omega) with q | q
    · exact q
    · exact absurd ((g.master_zero_iff).1 q) hm
end Go.QK
