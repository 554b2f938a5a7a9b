import Derived.Test.YtgpmghdoofcpaaaGreatG42
namespace Go.Proofs.YtgpmghdoofcpaaaGreat.Lg
open Go.RowKit Go.QK

/-! A record's sector, read again. -/
theorem splice_getD (L : List Nat) (off : Nat) (c : List Nat) (i : Nat) (h : off + c.length ≤ L.length) : (splice L off c).getD i 0 = if off ≤ i ∧ i < off + c.length then c.getD (i - off) 0 else L.getD i 0 := by
  unfold splice
  simp only [List.getD_eq_getElem?_getD]
  by_cases h1 : i < off
  · rw [if_neg (by omega), List.getElem?_append_left (by rw [List.length_take]; omega), List.getElem?_take, if_pos h1]
  · by_cases h2 : i < off + c.length
    · rw [if_pos ⟨by omega, h2⟩, List.getElem?_append_right (by rw [List.length_take]; omega), List.length_take, Nat.min_eq_left (by omega), List.getElem?_append_left (by omega)]
    · rw [if_neg (by omega), List.getElem?_append_right (by rw [List.length_take]; omega), List.length_take, Nat.min_eq_left (by omega), List.getElem?_append_right (by omega), List.getElem?_drop]
      congr 2
      omega
theorem set_getD (L : List Nat) (j y i : Nat) (hj : j < L.length) : (L.set j y).getD i 0 = if i = j then y else L.getD i 0 := by
  simp only [List.getD_eq_getElem?_getD]
  rw [List.getElem?_set]
  by_cases h : j = i
  · subst h
    rw [if_pos rfl, if_pos hj, if_pos rfl]
    rfl
  · rw [if_neg h, if_neg (by omega)]
theorem numB_getD (n k i : Nat) (h : i < k) : (numB n k).getD i 0 = n / 256 ^ i % 256 := by
  unfold numB
  simp [List.getD_eq_getElem?_getD, h]
theorem frameB_getD (s n i : Nat) : (frameB s n).getD i 0 = if i = 511 then 165 else if 5 ≤ i ∧ i < 7 then n / 256 ^ (i - 5) % 256 else if 1 ≤ i ∧ i < 5 then s / 256 ^ (i - 1) % 256 else if i = 0 then 108 else 0 := by
  have l1 : (zerosB.set 0 108).length = 512 := by rw [List.length_set, zerosB_length]
  have l2 : (splice (zerosB.set 0 108) 1 (numB s 4)).length = 512 := by rw [length_splice _ _ _ (by rw [numB_length, l1]; omega), l1]
  have l3 : (splice (splice (zerosB.set 0 108) 1 (numB s 4)) 5 (numB n 2)).length = 512 := by rw [length_splice _ _ _ (by rw [numB_length, l2]; omega), l2]
  unfold frameB
  rw [set_getD _ _ _ _ (by rw [l3]; decide)]
  by_cases h0 : i = 511
  · rw [if_pos h0, if_pos h0]
  rw [if_neg h0, if_neg h0, splice_getD _ _ _ _ (by rw [numB_length, l2]; omega), numB_length]
  by_cases h1 : 5 ≤ i ∧ i < 7
  · rw [if_pos (by omega), if_pos h1, numB_getD _ _ _ (by omega)]
  rw [if_neg (by omega), if_neg h1, splice_getD _ _ _ _ (by rw [numB_length, l1]; omega), numB_length]
  by_cases h2 : 1 ≤ i ∧ i < 5
  · rw [if_pos (by omega), if_pos h2, numB_getD _ _ _ (by omega)]
  rw [if_neg (by omega), if_neg h2, set_getD _ _ _ _ (by rw [zerosB_length]; decide)]
  by_cases h3 : i = 0
  · rw [if_pos h3, if_pos h3]
  rw [if_neg h3, if_neg h3]
  show (List.replicate 512 0).getD i 0 = 0
  rw [List.getD_eq_getElem?_getD, List.getElem?_replicate]
  split <;> rfl
theorem filledB_getD (s : Nat) (b : List Nat) (i : Nat) (hb : b.length ≤ 502) : (filledB s b).getD i 0 = if 7 ≤ i ∧ i < 7 + b.length then b.getD (i - 7) 0 else (frameB s b.length).getD i 0 := splice_getD _ _ _ _ (by rw [frameB_length]; omega)
theorem szB_filled (s : Nat) (b : List Nat) (hb : b.length ≤ 502) : szB (filledB s b) = b.length := by
  unfold szB
  rw [filledB_getD s b 5 hb, filledB_getD s b 6 hb, if_neg (by omega), if_neg (by omega), frameB_getD, frameB_getD]
  simp
  omega
theorem isRec_filled (s : Nat) (b : List Nat) (h1 : 1 ≤ b.length) (hb : b.length ≤ 502) : isRec s (filledB s b) = true := by
  unfold isRec
  rw [szB_filled s b hb]
  simp only [Bool.and_eq_true, decide_eq_true_eq, List.all_eq_true]
  refine ⟨⟨h1, hb⟩, fun i _ => ?_⟩
  rw [filledB_getD s b i hb]
  by_cases h : 7 ≤ i ∧ i < 7 + b.length
  · unfold itsB
    simp [h.1, h.2]
  · rw [if_neg h]
    simp
theorem bytesAt_filled (s : Nat) (b : List Nat) (hb : b.length ≤ 502) : bytesAt (filledB s b) = b := by
  unfold bytesAt
  rw [szB_filled s b hb]
  unfold filledB splice
  have e : ((frameB s b.length).take 7).length = 7 := by rw [List.length_take, frameB_length]; decide
  rw [List.drop_append_of_le_length (by omega), List.drop_of_length_le (by omega), List.nil_append, List.take_append_of_le_length (by omega), List.take_length]

/-! A record that was appended is there. -/
theorem wl_wl (s t : Nat) (r : RecM) : wl s (wl t r) = wl s r := rfl
theorem wl_noLsn (s : Nat) (r : RecM) : wl s (noLsn r) = wl s r := rfl
theorem fits_wl {s : Nat} {r : RecM} (h : Fits r) : Fits (wl s r) := h
theorem apE_made {s : Nat} {r : RecM} (h : chkE (wl s r) = 0) (hf : Fits r) : apE s (bytesR (wl s r)) = 0 := by
  unfold apE
  rw [back h (fits_wl hf), if_neg (by simp)]
  rw [wl_noLsn, wl_wl]
  exact h
theorem apR_made {s : Nat} {r : RecM} (h : chkE (wl s r) = 0) (hf : Fits r) : apR s (bytesR (wl s r)) = wl s r := by
  unfold apR
  rw [if_pos (apE_made h hf), back h (fits_wl hf), wl_noLsn, wl_wl]
/-- The log's records are the bytes of these. -/
structure Holds (rs : List RecM) (bs : List (List Nat)) : Prop where
  len : bs.length = rs.length
  at_ : ∀ i, i < rs.length → ∃ r, rs[i]? = some r ∧ chkE r = 0 ∧ Fits r ∧ r.lsn = ((i + 1 : Nat) : Int) ∧ bs.getD i [] = bytesR r
theorem wl_self {s : Nat} {r : RecM} (h : r.lsn = (s : Int)) : wl s r = r := by
  cases r
  simp only [wl] at *
  subst h
  rfl
theorem Holds.nil : Holds [] [] := ⟨rfl, fun i h => absurd h (by simp)⟩
theorem Holds.push {rs : List RecM} {bs : List (List Nat)} (h : Holds rs bs) {r : RecM} (hc : chkE (wl (bs.length + 1) r) = 0) (hf : Fits r) : Holds (rs ++ [wl (bs.length + 1) r]) (bs ++ [bytesR (wl (bs.length + 1) r)]) := by
  refine ⟨by simp [h.len], fun i hi => ?_⟩
  rw [List.length_append, List.length_singleton] at hi
  by_cases hq : i < rs.length
  · obtain ⟨x, h1, h2, h3, h4, h5⟩ := h.at_ i hq
    refine ⟨x, by rw [List.getElem?_append_left hq]; exact h1, h2, h3, h4, ?_⟩
    rw [List.getD_eq_getElem?_getD, List.getElem?_append_left (by rw [h.len]; exact hq), ← List.getD_eq_getElem?_getD]
    exact h5
  · obtain rfl : i = rs.length := by omega
    refine ⟨wl (bs.length + 1) r, ?_, hc, fits_wl hf, by rw [h.len]; rfl, ?_⟩
    · rw [List.getElem?_append_right (Nat.le_refl _), Nat.sub_self]; rfl
    · rw [List.getD_eq_getElem?_getD, List.getElem?_append_right (by rw [h.len]; exact Nat.le_refl _), h.len, Nat.sub_self]; rfl
theorem Holds.take {rs : List RecM} {bs : List (List Nat)} (h : Holds rs bs) (k : Nat) (hk : k ≤ rs.length) : Holds (rs.take k) (bs.take k) := by
  refine ⟨by rw [List.length_take, List.length_take, h.len], fun i hi => ?_⟩
  rw [List.length_take] at hi
  obtain ⟨x, h1, h2, h3, h4, h5⟩ := h.at_ i (by omega)
  refine ⟨x, by rw [List.getElem?_take, if_pos (by omega)]; exact h1, h2, h3, h4, ?_⟩
  rw [List.getD_eq_getElem?_getD, List.getElem?_take, if_pos (by omega), ← List.getD_eq_getElem?_getD]
  exact h5
theorem Holds.get {rs : List RecM} {m : LogM} (h : Holds rs m.recs) (he : m.ended = false) (i : Nat) (hi : i < rs.length) : m.getE ((i + 1 : Nat) : Int) = 0 ∧ rs[i]? = some (m.getR ((i + 1 : Nat) : Int)) := by
  obtain ⟨x, h1, h2, h3, h4, h5⟩ := h.at_ i hi
  have e1 : (((i + 1 : Nat) : Int)).toNat = i + 1 := by omega
  have hx := wl_self (s := i + 1) h4
  have e2 : apE (i + 1) (m.recs.getD i []) = 0 := by rw [h5, ← hx]; exact apE_made (by rw [hx]; exact h2) h3
  have e3 : apR (i + 1) (m.recs.getD i []) = x := by
    rw [h5, ← hx]
    exact apR_made (by rw [hx]; exact h2) h3
  have e4 : m.getE ((i + 1 : Nat) : Int) = 0 := by
    unfold LogM.getE
    rw [he, if_neg (by simp), if_neg (by have := h.len; omega), e1]
    exact e2
  refine ⟨e4, ?_⟩
  unfold LogM.getR
  rw [if_pos e4, e1]
  show _ = some (apR (i + 1) (m.recs.getD i []))
  rw [e3, h1]

/-! A disk on which the first k sectors are the records', and the next is no record's: Open finds just these. -/
theorem findM_yes {f : Nat → List Nat} {k s : Nat} (h : isRec s (f s) = true) (h2 : apE s (bytesAt (f s)) = 0) : findM f (k + 1) s = (bytesAt (f s) :: (findM f k (s + 1)).1, (findM f k (s + 1)).2) := by
  rw [findM, if_pos h, if_pos h2]
theorem drop_getD (bs : List (List Nat)) (i : Nat) (h : i < bs.length) : bs.drop i = bs.getD i [] :: bs.drop (i + 1) := by
  rw [List.drop_eq_getElem_cons h, List.getD_eq_getElem?_getD, List.getElem?_eq_getElem h]
  rfl
theorem findM_holds {rs : List RecM} {bs : List (List Nat)} (h : Holds rs bs) (f : Nat → List Nat) : (k n i : Nat) → i + n = rs.length → n ≤ k → (∀ j, i ≤ j → j < rs.length → f (j + 1) = filledB (j + 1) (bs.getD j [])) → (n < k → isRec (rs.length + 1) (f (rs.length + 1)) = false) → findM f k (i + 1) = (bs.drop i, 0)
  | 0, n, i, h1, h2, _, _ => by
    rw [findM, List.drop_of_length_le (by rw [h.len]; omega)]
  | k + 1, 0, i, h1, h2, h3, h4 => by
    obtain rfl : i = rs.length := by omega
    rw [findM, h4 (by omega), if_neg (by simp), List.drop_of_length_le (by rw [h.len]; exact Nat.le_refl _)]
  | k + 1, n + 1, i, h1, h2, h3, h4 => by
    have hi : i < rs.length := by omega
    obtain ⟨x, g1, g2, g3, g4, g5⟩ := h.at_ i hi
    obtain ⟨l1, l2⟩ := bytes_502 g2 g3
    have hx := wl_self (s := i + 1) g4
    have e1 : f (i + 1) = filledB (i + 1) (bytesR x) := by rw [h3 i (Nat.le_refl _) hi, g5]
    have e2 : apE (i + 1) (bytesR x) = 0 := by rw [← hx]; exact apE_made (by rw [hx]; exact g2) g3
    have e0 : isRec (i + 1) (f (i + 1)) = true := by rw [e1]; exact isRec_filled _ _ (by omega) l2
    have e5 : bytesAt (f (i + 1)) = bs.getD i [] := by rw [e1, g5]; exact bytesAt_filled _ _ l2
    rw [← g5] at e2
    have ih := findM_holds h f k n (i + 1) (by omega) (by omega) (fun j a b => h3 j (by omega) b) (fun q => h4 (by omega))
    clear h4 h3 e1 hx g5 g4 g3 g2 g1 l1 l2
    rw [← e5] at e2
    have e6 : findM f (k + 1) (i + 1) = (bytesAt (f (i + 1)) :: (findM f k (i + 1 + 1)).1, (findM f k (i + 1 + 1)).2) := findM_yes e0 e2
    rw [e6, ih, e5]
    have e3 := drop_getD bs i (by rw [h.len]; exact hi)
    rw [e3]
end Go.Proofs.YtgpmghdoofcpaaaGreat.Lg

namespace Go.Proofs.YtgpmghdoofcpaaaGreat.Lg
open Go.RowKit Go.QK

/-! Sectors of an image: what a write, whole or torn, makes of them. -/
theorem sector_getD (img : List Nat) (i j : Nat) (hj : j < 512) : (sector img i).getD j 0 = img.getD (512 * i + j) 0 := by
  unfold sector
  simp [hj, List.getElem?_drop]
theorem sector_length (img : List Nat) (i : Nat) (h : 512 * i + 512 ≤ img.length) : (sector img i).length = 512 := by
  unfold sector
  simp
  omega
theorem ext512 {a b : List Nat} (ha : a.length = 512) (hb : b.length = 512) (h : ∀ j, j < 512 → a.getD j 0 = b.getD j 0) : a = b := by
  apply List.ext_getElem (by omega)
  intro j h1 h2
  have := h j (by omega)
  simpa [h1, h2] using this
def torn (b x : List Nat) (n : Nat) : List Nat := b.take n ++ x.drop n
theorem torn_length {b x : List Nat} (hb : b.length = 512) (hx : x.length = 512) (n : Nat) (hn : n ≤ 512) : (torn b x n).length = 512 := by
  unfold torn
  rw [List.length_append, List.length_take, List.length_drop]
  omega
theorem torn_getD {b x : List Nat} (hb : b.length = 512) (n j : Nat) (hn : n ≤ 512) : (torn b x n).getD j 0 = if j < n then b.getD j 0 else x.getD j 0 := by
  unfold torn
  split
  · rename_i h
    rw [List.getD_eq_getElem?_getD, List.getElem?_append_left (by simp; omega), List.getElem?_take, if_pos h, List.getD_eq_getElem?_getD]
  · rename_i h
    rw [List.getD_eq_getElem?_getD, List.getElem?_append_right (by simp; omega), List.getElem?_drop, List.getD_eq_getElem?_getD]
    congr 2
    simp
    omega
theorem sector_lay_same (img b : List Nat) (s n : Nat) (hi : 512 * s + 512 ≤ img.length) (hb : b.length = 512) (hn : n ≤ 512) : sector (lay img s b n) s = torn b (sector img s) n := by
  have hl : (lay img s b n).length = img.length := by unfold lay; rw [length_splice _ _ _ (by simp; omega)]
  refine ext512 (sector_length _ _ (by omega)) (torn_length hb (sector_length _ _ hi) n hn) (fun j hj => ?_)
  rw [sector_getD _ _ _ hj, torn_getD hb n j hn, sector_getD _ _ _ hj]
  unfold lay
  rw [splice_getD _ _ _ _ (by simp; omega)]
  by_cases q : j < n
  · rw [if_pos q, if_pos (by simp; omega), show 512 * s + j - 512 * s = j by omega]
    simp [q]
  · rw [if_neg q, if_neg (by simp; omega)]
theorem sector_lay_other (img b : List Nat) (s i n : Nat) (hi : 512 * s + 512 ≤ img.length) (h : 512 * i + 512 ≤ img.length) (hb : b.length = 512) (hn : n ≤ 512) (hne : i ≠ s) : sector (lay img s b n) i = sector img i := by
  have hl : (lay img s b n).length = img.length := by unfold lay; rw [length_splice _ _ _ (by simp; omega)]
  refine ext512 (sector_length _ _ (by omega)) (sector_length _ _ h) (fun j hj => ?_)
  rw [sector_getD _ _ _ hj, sector_getD _ _ _ hj]
  unfold lay
  rw [splice_getD _ _ _ _ (by simp; omega), if_neg (by simp; omega)]
theorem torn_all (b x : List Nat) (hb : b.length = 512) (hx : x.length = 512) : torn b x 512 = b := by
  unfold torn
  rw [List.take_of_length_le (by omega), List.drop_of_length_le (by omega), List.append_nil]


/-- A write that fits an image of m bytes. -/
def FitsW (m : Nat) (p : Nat × List Nat) : Prop := 512 * p.1 + 512 ≤ m ∧ p.2.length = 512
theorem lay_len {img : List Nat} {p : Nat × List Nat} {m : Nat} (h : FitsW m p) (hm : img.length = m) (n : Nat) : (lay img p.1 p.2 n).length = m := by
  obtain ⟨h1, h2⟩ := h
  unfold lay
  rw [length_splice _ _ _ (by simp; omega), hm]
/-- Whatever holds of a sector, and stays under the torn writes of it, holds behind a fall. -/
theorem fall_sector (l : Loss) {m : Nat} (i : Nat) (R : List Nat → Prop) (hi : 512 * i + 512 ≤ m) : (ps : List (Nat × List Nat)) → (k : Nat) → (img : List Nat) → img.length = m → (∀ p ∈ ps, FitsW m p) → (∀ p ∈ ps, p.1 = i → ∀ x n, R x → x.length = 512 → n ≤ 512 → R (torn p.2 x n)) → R (sector img i) → R (sector (fallFrom l k ps img) i)
  | [], _, _, _, _, _, h => h
  | p :: ps, k, img, hm, hf, hR, h => by
    have hp := hf p (by simp)
    refine fall_sector l i R hi ps (k + 1) _ (lay_len hp hm _) (fun q hq => hf q (by simp [hq])) (fun q hq => hR q (by simp [hq])) ?_
    by_cases e : p.1 = i
    · have := hR p (by simp) e (sector img i) _ h (sector_length _ _ (by omega)) (leavesN_le l k)
      rw [← sector_lay_same img p.2 i _ (by omega) hp.2 (leavesN_le l k)] at this
      rw [e]
      exact this
    · rw [sector_lay_other img p.2 p.1 i _ (by rw [hm]; exact hp.1) (by omega) hp.2 (leavesN_le l k) (fun q => e q.symm)]
      exact h
theorem fall_len (l : Loss) {m : Nat} : (ps : List (Nat × List Nat)) → (k : Nat) → (img : List Nat) → img.length = m → (∀ p ∈ ps, FitsW m p) → (fallFrom l k ps img).length = m
  | [], _, _, hm, _ => hm
  | p :: ps, k, img, hm, hf => fall_len l ps (k + 1) _ (lay_len (hf p (by simp)) hm _) (fun q hq => hf q (by simp [hq]))
theorem content_snoc (img : List Nat) (i : Nat) (ps : List (Nat × List Nat)) (p : Nat × List Nat) : contentOf img i (ps ++ [p]) = if p.1 = i then p.2 else contentOf img i ps := by
  unfold contentOf
  rw [List.foldl_append]
  rfl
/-- Behind a Sync the image holds what the sectors held. -/
theorem sync_sector {m : Nat} (i : Nat) (hi : 512 * i + 512 ≤ m) : (ps : List (Nat × List Nat)) → (img : List Nat) → img.length = m → (∀ p ∈ ps, FitsW m p) → sector (syncAll ps img) i = contentOf img i ps
  | [], _, _, _ => rfl
  | p :: ps, img, hm, hf => by
    have hp := hf p (by simp)
    show sector (syncAll ps (lay img p.1 p.2 512)) i = List.foldl (fun x p => if p.1 = i then p.2 else x) (if p.1 = i then p.2 else sector img i) ps
    rw [sync_sector i hi ps _ (lay_len hp hm _) (fun q hq => hf q (by simp [hq]))]
    unfold contentOf
    congr 1
    by_cases e : p.1 = i
    · rw [if_pos e, e, sector_lay_same img p.2 i 512 (by omega) hp.2 (Nat.le_refl _), torn_all _ _ hp.2 (sector_length _ _ (by omega))]
    · rw [if_neg e, sector_lay_other img p.2 p.1 i 512 (by rw [hm]; exact hp.1) (by omega) hp.2 (Nat.le_refl _) (fun q => e q.symm)]
theorem syncAll_len {m : Nat} : (ps : List (Nat × List Nat)) → (img : List Nat) → img.length = m → (∀ p ∈ ps, FitsW m p) → (syncAll ps img).length = m
  | [], _, hm, _ => hm
  | p :: ps, img, hm, hf => syncAll_len ps _ (lay_len (hf p (by simp)) hm _) (fun q hq => hf q (by simp [hq]))

/-! A sector that is no record's for good. -/
def Dead (x : List Nat) : Prop := x.getD 0 0 ≠ 108 ∨ x.getD 511 0 ≠ 165
theorem zeros_getD (i : Nat) : zerosB.getD i 0 = 0 := by
  show (List.replicate 512 0).getD i 0 = 0
  rw [List.getD_eq_getElem?_getD, List.getElem?_replicate]
  split <;> rfl
theorem Dead.no {x : List Nat} (h : Dead x) (s : Nat) : isRec s x = false := by
  apply Bool.eq_false_iff.2
  intro q
  unfold isRec at q
  simp only [Bool.and_eq_true, decide_eq_true_eq, List.all_eq_true] at q
  obtain ⟨⟨q1, q2⟩, q3⟩ := q
  have a0 := q3 0 (List.mem_range.2 (by decide))
  have a1 := q3 511 (List.mem_range.2 (by decide))
  rw [frameB_getD] at a0 a1
  have i0 : itsB (szB x) 0 = false := by simp [itsB]
  have i1 : itsB (szB x) 511 = false := by unfold itsB; rw [decide_eq_false (show ¬ 511 < 7 + szB x by omega), Bool.and_false]
  rw [i0] at a0
  rw [i1] at a1
  simp at a0 a1
  rcases h with h | h
  · exact h (by simpa using a0)
  · exact h (by simpa using a1)
theorem Dead.zeros : Dead zerosB := .inl (by rw [zeros_getD]; decide)
theorem Dead.wiped {x : List Nat} (h : Dead x) (n : Nat) (hn : n ≤ 512) : Dead (torn zerosB x n) := by
  by_cases q : n = 0
  · subst q
    exact h
  · left
    rw [torn_getD zerosB_length n 0 hn, if_pos (by omega), zeros_getD]
    decide
theorem filledB_first (s : Nat) (b : List Nat) (hb : b.length ≤ 502) : (filledB s b).getD 0 0 = 108 ∧ (filledB s b).getD 511 0 = 165 := by
  rw [filledB_getD s b 0 hb, filledB_getD s b 511 hb, if_neg (by omega), if_neg (by omega), frameB_getD, frameB_getD]
  exact ⟨rfl, rfl⟩
/-- While records are written: the record's own sector, or one whose last byte is not yet there. -/
def Young (y x : List Nat) : Prop := x = y ∨ x.getD 511 0 ≠ 165
theorem torn_self (y : List Nat) (n : Nat) : torn y y n = y := List.take_append_drop n y
theorem Young.torn {y x : List Nat} (hy : y.length = 512) (h : Young y x) (hx : x.length = 512) (n : Nat) (hn : n ≤ 512) : Young y (torn y x n) := by
  rcases h with h | h
  · left
    rw [h, torn_self]
  · by_cases q : n = 512
    · left
      rw [q, torn_all y x hy hx]
    · right
      rw [torn_getD hy n 511 hn, if_neg (by omega)]
      exact h
/-- A place where the first k sectors of the log are the records', and the next one no record's. -/
structure Stands (img : List Nat) (first count : Nat) (bs : List (List Nat)) (k : Nat) : Prop where
  le : k ≤ count
  yes : ∀ j, j < k → sector img (first + j) = filledB (j + 1) (bs.getD j [])
  no : k < count → Dead (sector img (first + k))
/-- Sectors that are each young have such a k. -/
theorem stands_of (img : List Nat) (first count : Nat) (bs : List (List Nat)) (hi : Nat) (h1 : hi ≤ count) (h : ∀ j, j < hi → Young (filledB (j + 1) (bs.getD j [])) (sector img (first + j))) (h2 : ∀ j, hi ≤ j → j < count → Dead (sector img (first + j))) :
    (n lo : Nat) → lo + n = hi → (∀ j, j < lo → sector img (first + j) = filledB (j + 1) (bs.getD j [])) → ∃ k, lo ≤ k ∧ k ≤ hi ∧ Stands img first count bs k
  | 0, lo, e, hl => ⟨lo, Nat.le_refl _, by omega, ⟨by omega, hl, fun q => h2 lo (by omega) q⟩⟩
  | n + 1, lo, e, hl => by
    rcases h lo (by omega) with q | q
    · obtain ⟨k, a, b, c⟩ := stands_of img first count bs hi h1 h h2 n (lo + 1) (by omega) (fun j hj => by
        by_cases r : j < lo
        · exact hl j r
        · obtain rfl : j = lo := by omega
          exact q)
      exact ⟨k, by omega, b, c⟩
    · exact ⟨lo, Nat.le_refl _, by omega, ⟨by omega, hl, fun _ => .inr q⟩⟩
/-- What stands stays under writes of zeros behind it, whole or torn. -/
theorem Stands.fall {img : List Nat} {first count k : Nat} {bs : List (List Nat)} (h : Stands img first count bs k) (l : Loss) (ps : List (Nat × List Nat)) (hm : 512 * (first + count) ≤ img.length) (hp : ∀ p ∈ ps, p.2 = zerosB ∧ first + k ≤ p.1 ∧ p.1 < first + count) : Stands (fallFrom l 0 ps img) first count bs k := by
  have hf : ∀ p ∈ ps, FitsW img.length p := fun p q => by
    obtain ⟨a, b, c⟩ := hp p q
    exact ⟨by omega, by rw [a]; exact zerosB_length⟩
  refine ⟨h.le, fun j hj => ?_, fun hk => ?_⟩
  · have hle := h.le
    exact fall_sector l (first + j) (fun x => x = filledB (j + 1) (bs.getD j [])) (by omega) ps 0 img rfl hf (fun p q e => by have := (hp p q).2.1; omega) (h.yes j hj)
  · exact fall_sector l (first + k) Dead (by omega) ps 0 img rfl hf (fun p q e x n hx _ hn => by rw [(hp p q).1]; exact hx.wiped n hn) (h.no hk)
end Go.Proofs.YtgpmghdoofcpaaaGreat.Lg
