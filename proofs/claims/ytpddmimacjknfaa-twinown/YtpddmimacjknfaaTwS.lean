import Derived.Test.YtpddmimacjknfaaTwM
namespace Go.QK
open Go.RowKit

/-! Sectors of an image: what a write, whole or torn, makes of them. -/
theorem splice_getD (L : List Nat) (o : Nat) (c : List Nat) (j : Nat) (h : o + c.length ≤ L.length) : (splice L o c).getD j 0 = if o ≤ j ∧ j < o + c.length then c.getD (j - o) 0 else L.getD j 0 := by
  unfold splice
  by_cases h1 : j < o
  · rw [if_neg (by omega), List.getD_eq_getElem?_getD, List.getElem?_append_left (by simp; omega), List.getElem?_take, if_pos h1, List.getD_eq_getElem?_getD]
  · rw [List.getD_eq_getElem?_getD, List.getElem?_append_right (by simp; omega)]
    have e : (L.take o).length = o := by simp; omega
    rw [e]
    by_cases h2 : j < o + c.length
    · rw [if_pos ⟨by omega, h2⟩, List.getElem?_append_left (by omega), List.getD_eq_getElem?_getD]
    · rw [if_neg (by omega), List.getElem?_append_right (by omega), List.getElem?_drop, List.getD_eq_getElem?_getD]
      congr 2
      omega
theorem sector_getD (img : List Nat) (i j : Nat) (hj : j < 512) : (sector img i).getD j 0 = img.getD (512 * i + j) 0 := by
  unfold sector
  simp [hj, List.getElem?_drop]
theorem sector_length (img : List Nat) (i : Nat) (h : 512 * i + 512 ≤ img.length) : (sector img i).length = 512 := by
  unfold sector
  simp
  omega
theorem ext512 {a b : List Nat} (ha : a.length = 512) (hb : b.length = 512) (h : ∀ j, j < 512 → a.getD j 0 = b.getD j 0) : a = b := by
  apply List.ext_getElem (by omega)
  intro j h1 h2
  have := h j (by omega)
  simpa [h1, h2] using this
def torn (b x : List Nat) (n : Nat) : List Nat := b.take n ++ x.drop n
theorem torn_length {b x : List Nat} (hb : b.length = 512) (hx : x.length = 512) (n : Nat) (hn : n ≤ 512) : (torn b x n).length = 512 := by
  unfold torn
  rw [List.length_append, List.length_take, List.length_drop]
  omega
theorem torn_getD {b x : List Nat} (hb : b.length = 512) (n j : Nat) (hn : n ≤ 512) : (torn b x n).getD j 0 = if j < n then b.getD j 0 else x.getD j 0 := by
  unfold torn
  split
  · rename_i h
    rw [List.getD_eq_getElem?_getD, List.getElem?_append_left (by simp; omega), List.getElem?_take, if_pos h, List.getD_eq_getElem?_getD]
  · rename_i h
    rw [List.getD_eq_getElem?_getD, List.getElem?_append_right (by simp; omega), List.getElem?_drop, List.getD_eq_getElem?_getD]
    congr 2
    simp
    omega
theorem sector_lay_same (img b : List Nat) (s n : Nat) (hi : 512 * s + 512 ≤ img.length) (hb : b.length = 512) (hn : n ≤ 512) : sector (lay img s b n) s = torn b (sector img s) n := by
  have hl : (lay img s b n).length = img.length := by unfold lay; rw [length_splice _ _ _ (by simp; omega)]
  refine ext512 (sector_length _ _ (by omega)) (torn_length hb (sector_length _ _ hi) n hn) (fun j hj => ?_)
  rw [sector_getD _ _ _ hj, torn_getD hb n j hn, sector_getD _ _ _ hj]
  unfold lay
  rw [splice_getD _ _ _ _ (by simp; omega)]
  by_cases q : j < n
  · rw [if_pos q, if_pos (by simp; omega), show 512 * s + j - 512 * s = j by omega]
    simp [q]
  · rw [if_neg q, if_neg (by simp; omega)]
theorem sector_lay_other (img b : List Nat) (s i n : Nat) (hi : 512 * s + 512 ≤ img.length) (h : 512 * i + 512 ≤ img.length) (hb : b.length = 512) (hn : n ≤ 512) (hne : i ≠ s) : sector (lay img s b n) i = sector img i := by
  have hl : (lay img s b n).length = img.length := by unfold lay; rw [length_splice _ _ _ (by simp; omega)]
  refine ext512 (sector_length _ _ (by omega)) (sector_length _ _ h) (fun j hj => ?_)
  rw [sector_getD _ _ _ hj, sector_getD _ _ _ hj]
  unfold lay
  rw [splice_getD _ _ _ _ (by simp; omega), if_neg (by simp; omega)]
theorem torn_all (b x : List Nat) (hb : b.length = 512) (hx : x.length = 512) : torn b x 512 = b := by
  unfold torn
  rw [List.take_of_length_le (by omega), List.drop_of_length_le (by omega), List.append_nil]
theorem torn_self (y : List Nat) (n : Nat) : torn y y n = y := List.take_append_drop n y

/-- A write that fits an image of m bytes. -/
def FitsW (m : Nat) (p : Nat × List Nat) : Prop := 512 * p.1 + 512 ≤ m ∧ p.2.length = 512
theorem lay_len {img : List Nat} {p : Nat × List Nat} {m : Nat} (h : FitsW m p) (hm : img.length = m) (n : Nat) : (lay img p.1 p.2 n).length = m := by
  obtain ⟨h1, h2⟩ := h
  unfold lay
  rw [length_splice _ _ _ (by simp; omega), hm]
/-- Whatever holds of a sector, and stays under the torn writes of it, holds behind a fall. -/
theorem fall_sector (l : Loss) {m : Nat} (i : Nat) (R : List Nat → Prop) (hi : 512 * i + 512 ≤ m) : (ps : List (Nat × List Nat)) → (k : Nat) → (img : List Nat) → img.length = m → (∀ p ∈ ps, FitsW m p) → (∀ p ∈ ps, p.1 = i → ∀ x n, R x → x.length = 512 → n ≤ 512 → R (torn p.2 x n)) → R (sector img i) → R (sector (fallFrom l k ps img) i)
  | [], _, _, _, _, _, h => h
  | p :: ps, k, img, hm, hf, hR, h => by
    have hp := hf p (by simp)
    refine fall_sector l i R hi ps (k + 1) _ (lay_len hp hm _) (fun q hq => hf q (by simp [hq])) (fun q hq => hR q (by simp [hq])) ?_
    by_cases e : p.1 = i
    · have := hR p (by simp) e (sector img i) _ h (sector_length _ _ (by omega)) (leavesN_le l k)
      rw [← sector_lay_same img p.2 i _ (by omega) hp.2 (leavesN_le l k)] at this
      rw [e]
      exact this
    · rw [sector_lay_other img p.2 p.1 i _ (by rw [hm]; exact hp.1) (by omega) hp.2 (leavesN_le l k) (fun q => e q.symm)]
      exact h
theorem fall_len (l : Loss) {m : Nat} : (ps : List (Nat × List Nat)) → (k : Nat) → (img : List Nat) → img.length = m → (∀ p ∈ ps, FitsW m p) → (fallFrom l k ps img).length = m
  | [], _, _, hm, _ => hm
  | p :: ps, k, img, hm, hf => fall_len l ps (k + 1) _ (lay_len (hf p (by simp)) hm _) (fun q hq => hf q (by simp [hq]))
/-- Behind a Sync the image holds what the sectors held. -/
theorem sync_sector {m : Nat} (i : Nat) (hi : 512 * i + 512 ≤ m) : (ps : List (Nat × List Nat)) → (img : List Nat) → img.length = m → (∀ p ∈ ps, FitsW m p) → sector (syncAll ps img) i = contentOf img i ps
  | [], _, _, _ => rfl
  | p :: ps, img, hm, hf => by
    have hp := hf p (by simp)
    show sector (syncAll ps (lay img p.1 p.2 512)) i = List.foldl (fun x p => if p.1 = i then p.2 else x) (if p.1 = i then p.2 else sector img i) ps
    rw [sync_sector i hi ps _ (lay_len hp hm _) (fun q hq => hf q (by simp [hq]))]
    unfold contentOf
    congr 1
    by_cases e : p.1 = i
    · rw [if_pos e, e, sector_lay_same img p.2 i 512 (by omega) hp.2 (Nat.le_refl _), torn_all _ _ hp.2 (sector_length _ _ (by omega))]
    · rw [if_neg e, sector_lay_other img p.2 p.1 i 512 (by rw [hm]; exact hp.1) (by omega) hp.2 (Nat.le_refl _) (fun q => e q.symm)]
theorem syncAll_len {m : Nat} : (ps : List (Nat × List Nat)) → (img : List Nat) → img.length = m → (∀ p ∈ ps, FitsW m p) → (syncAll ps img).length = m
  | [], _, hm, _ => hm
  | p :: ps, img, hm, hf => syncAll_len ps _ (lay_len (hf p (by simp)) hm _) (fun q hq => hf q (by simp [hq]))

/-! Old or new. -/
/-- A running disk of n sectors with nothing in its cache. -/
structure Run (g : Dev) (n : Nat) : Prop where
  ok : g.Ok
  len : g.img.length = 512 * n
  pend : g.pend = []
  up : g.down = false
theorem Run.content {g : Dev} {n : Nat} (h : Run g n) (i : Nat) : g.content i = sector g.img i := by
  unfold Dev.content contentOf
  rw [h.pend]
  rfl
theorem Run.n_eq {g : Dev} {n : Nat} (h : Run g n) : g.n = n := by
  unfold Dev.n
  rw [h.len]
  omega
/-- A row of writes that fit, then a Sync: no fall. -/
theorem Run.puts {g : Dev} {n : Nat} (h : Run g n) (ws : List (Nat × List Nat)) (hw : ∀ p ∈ ws, p.1 < n ∧ p.2.length = 512 ∧ AllB p.2) (hl : ¬ (1 ≤ g.left ∧ g.left ≤ ws.length + 1)) :
    putsE ws g = 0 ∧ Run (putsD ws g) n ∧ (putsD ws g).calls = g.calls + ws.length + 1 ∧ (putsD ws g).left = g.left - (ws.length + 1) ∧ ∀ i, i < n → sector (putsD ws g).img i = ws.foldl (fun x p => if p.1 = i then p.2 else x) (sector g.img i) := by
  obtain ⟨q1, q2⟩ := (puts_run ws g h.ok h.up (fun p hp => ⟨by rw [h.len]; have := (hw p hp).1; omega, (hw p hp).2⟩)).1 hl
  rw [h.pend, List.nil_append] at q2
  have hf : ∀ p ∈ ws, FitsW (512 * n) p := fun p hp => ⟨by have := (hw p hp).1; omega, (hw p hp).2.1⟩
  have ok' := putsD_ok ws g h.ok (fun p hp => (hw p hp).2.2)
  refine ⟨q1, ⟨ok', ?_, by rw [q2], by rw [q2]⟩, by rw [q2], by rw [q2], fun i hi => ?_⟩
  · rw [q2]; exact syncAll_len ws _ h.len hf
  · rw [q2]; exact sync_sector i (by omega) ws _ h.len hf
/-- The same: it falls. -/
theorem Run.fell {g : Dev} {n : Nat} (h : Run g n) (ws : List (Nat × List Nat)) (hw : ∀ p ∈ ws, p.1 < n ∧ p.2.length = 512 ∧ AllB p.2) (hl : 1 ≤ g.left ∧ g.left ≤ ws.length + 1) :
    putsE ws g = 40 ∧ Run (putsD ws g).up n ∧ (putsD ws g).down = true ∧ (putsD ws g).calls ≤ g.calls + ws.length + 1 ∧ ∀ i, i < n → ∀ R : List Nat → Prop, (∀ p ∈ ws, p.1 = i → ∀ x m, R x → x.length = 512 → m ≤ 512 → R (torn p.2 x m)) → R (sector g.img i) → R (sector (putsD ws g).img i) := by
  obtain ⟨l, _, q1, q2⟩ := (puts_run ws g h.ok h.up (fun p hp => ⟨by rw [h.len]; have := (hw p hp).1; omega, (hw p hp).2⟩)).2 hl
  rw [h.pend, List.nil_append] at q2
  have hf : ∀ p ∈ ws.take g.left, FitsW (512 * n) p := fun p hp => ⟨by have := (hw p (List.mem_of_mem_take hp)).1; omega, (hw p (List.mem_of_mem_take hp)).2.1⟩
  have ok' := (putsD_ok ws g h.ok (fun p hp => (hw p hp).2.2)).up
  refine ⟨q1, ⟨ok', ?_, by rw [q2]; rfl, rfl⟩, by rw [q2], by rw [q2]; show g.calls + g.left ≤ _; omega, fun i hi R hR h0 => ?_⟩
  · show (putsD ws g).img.length = _
    rw [q2]; exact fall_len l _ 0 _ h.len hf
  · rw [q2]; exact fall_sector l i R (by omega) _ 0 _ h.len hf (fun p hp => hR p (List.mem_of_mem_take hp)) h0
end Go.QK
