import Derived.Test.YtpddmimacjknfaaTArr
namespace Go.QK
open Go.RowKit

/-! The twin of chapter 8, in plain numbers. -/

/-- Writes one behind the other, then a Sync: up to the first error. -/
def putsE : List (Nat × List Nat) → Dev → Nat
  | [], g => g.syncE
  | p :: ps, g => if g.writeE (p.1 : Int) p.2.length ≠ 0 then g.writeE (p.1 : Int) p.2.length else putsE ps (g.write (p.1 : Int) p.2)
def putsD : List (Nat × List Nat) → Dev → Dev
  | [], g => g.sync
  | p :: ps, g => if g.writeE (p.1 : Int) p.2.length ≠ 0 then g.write (p.1 : Int) p.2 else putsD ps (g.write (p.1 : Int) p.2)
theorem putsD_ok : (ws : List (Nat × List Nat)) → (g : Dev) → g.Ok → (∀ p ∈ ws, AllB p.2) → (putsD ws g).Ok
  | [], _, h, _ => h.sync
  | p :: ps, g, h, hb => by
    unfold putsD
    split
    · exact h.write _ _ (hb p (by simp))
    · exact putsD_ok ps _ (h.write _ _ (hb p (by simp))) (fun q hq => hb q (by simp [hq]))

/-- Such rows one behind the other. -/
def segsE : List (List (Nat × List Nat)) → Dev → Nat
  | [], _ => 0
  | s :: ss, g => if putsE s g ≠ 0 then putsE s g else segsE ss (putsD s g)
def segsD : List (List (Nat × List Nat)) → Dev → Dev
  | [], g => g
  | s :: ss, g => if putsE s g ≠ 0 then putsD s g else segsD ss (putsD s g)
theorem segsD_ok : (ss : List (List (Nat × List Nat))) → (g : Dev) → g.Ok → (∀ s ∈ ss, ∀ p ∈ s, AllB p.2) → (segsD ss g).Ok
  | [], _, h, _ => h
  | s :: ss, g, h, hb => by
    unfold segsD
    split
    · exact putsD_ok s g h (hb s (by simp))
    · exact segsD_ok ss _ (putsD_ok s g h (hb s (by simp))) (fun q hq => hb q (by simp [hq]))

/-- A running disk that a row of writes meets: what comes of it. -/
theorem puts_run : (ws : List (Nat × List Nat)) → (g : Dev) → g.Ok → g.down = false → (∀ p ∈ ws, Fits g.img.length p) →
    (¬ (1 ≤ g.left ∧ g.left ≤ ws.length + 1) → putsE ws g = 0 ∧ putsD ws g = ⟨syncAll (g.pend ++ ws) g.img, [], g.calls + ws.length + 1, false, g.left - (ws.length + 1), g.loss⟩) ∧
    (1 ≤ g.left ∧ g.left ≤ ws.length + 1 → ∃ l, g.loss = some l ∧ putsE ws g = 40 ∧ putsD ws g = ⟨fallFrom l 0 (g.pend ++ ws.take g.left) g.img, [], g.calls + g.left, true, 0, none⟩)
  | [], g, ok, hd, _ => by
    refine ⟨fun h => ?_, fun h => ?_⟩
    · have h1 : g.left ≠ 1 := by simp at h; omega
      have hs : g.syncE = 0 := by unfold Dev.syncE; rw [if_neg (by rw [hd]; simp [h1])]
      refine ⟨hs, ?_⟩
      show g.sync = _
      unfold Dev.sync
      rw [if_neg (by rw [hd]; simp), if_neg h1]
      simp [Dev.settle, Dev.strike, hd]
    · have h1 : g.left = 1 := by simp at h; omega
      obtain ⟨l, hl⟩ := ok.arm (by omega)
      refine ⟨l, hl, by show g.syncE = 40; unfold Dev.syncE; rw [if_pos (.inr h1)], ?_⟩
      show g.sync = _
      unfold Dev.sync
      rw [if_neg (by rw [hd]; simp), if_pos h1]
      unfold Dev.crashes
      have : g.strike.loss = some l := hl
      rw [this]
      simp [Dev.fall, Dev.strike, h1]
  | p :: ps, g, ok, hd, hf => by
    have hp := hf p (by simp)
    obtain ⟨n, n1, n2, n3⟩ := ok.size
    have hr : g.reach (p.1 : Int) = 0 := by
      unfold Dev.reach Dev.n
      rw [if_neg (by rw [hd]; simp), if_neg]
      have := hp.1
      omega
    have hb : p.2.length = 512 := hp.2.1
    refine ⟨fun h => ?_, fun h => ?_⟩
    · have h1 : g.left ≠ 1 := by simp at h; omega
      have he : g.writeE (p.1 : Int) p.2.length = 0 := by unfold Dev.writeE; rw [hr, if_neg (by simp), if_neg (by simp [hb]), if_neg h1]
      have hw : g.write (p.1 : Int) p.2 = (g.push p.1 p.2).strike := by
        unfold Dev.write
        rw [if_neg (by rw [hr, hb]; simp), if_neg h1]
        simp
      have ih := (puts_run ps (g.push p.1 p.2).strike (ok.push hp).strike hd (fun q hq => hf q (by simp [hq]))).1 (by
        show ¬ (1 ≤ g.left - 1 ∧ g.left - 1 ≤ ps.length + 1)
        simp at h
        omega)
      refine ⟨?_, ?_⟩
      · unfold putsE
        rw [if_neg (by rw [he]; simp), hw]
        exact ih.1
      · unfold putsD
        rw [if_neg (by rw [he]; simp), hw, ih.2]
        simp [Dev.push, Dev.strike]
        omega
    · by_cases h1 : g.left = 1
      · obtain ⟨l, hl⟩ := ok.arm (by omega)
        have he : g.writeE (p.1 : Int) p.2.length = 40 := by unfold Dev.writeE; rw [hr, if_neg (by simp), if_neg (by simp [hb]), if_pos h1]
        refine ⟨l, hl, ?_, ?_⟩
        · unfold putsE
          rw [if_pos (by rw [he]; simp), he]
        · unfold putsD
          rw [if_pos (by rw [he]; simp)]
          unfold Dev.write
          rw [if_neg (by rw [hr, hb]; simp), if_pos h1]
          unfold Dev.crashes
          have : (g.push (p.1 : Int).toNat p.2).strike.loss = some l := hl
          rw [this]
          simp [Dev.fall, Dev.strike, Dev.push, h1]
      · have he : g.writeE (p.1 : Int) p.2.length = 0 := by unfold Dev.writeE; rw [hr, if_neg (by simp), if_neg (by simp [hb]), if_neg h1]
        have hw : g.write (p.1 : Int) p.2 = (g.push p.1 p.2).strike := by
          unfold Dev.write
          rw [if_neg (by rw [hr, hb]; simp), if_neg h1]
          simp
        obtain ⟨l, hl, ih1, ih2⟩ := (puts_run ps (g.push p.1 p.2).strike (ok.push hp).strike hd (fun q hq => hf q (by simp [hq]))).2 (by
          show 1 ≤ g.left - 1 ∧ g.left - 1 ≤ ps.length + 1
          simp at h
          omega)
        refine ⟨l, hl, ?_, ?_⟩
        · unfold putsE
          rw [if_neg (by rw [he]; simp), hw]
          exact ih1
        · unfold putsD
          rw [if_neg (by rw [he]; simp), hw, ih2]
          obtain ⟨k, hk⟩ : ∃ k, g.left = k + 1 := ⟨g.left - 1, by omega⟩
          simp [Dev.push, Dev.strike, hk]
          omega

/-- A marker's bytes. -/
def mkB (h st : Nat) : List Nat := ((((zerosB.set 0 (h % 256)).set 1 (h / 256 % 256)).set 2 (h / 65536 % 256)).set 3 (h / 16777216 % 256)).set 511 st
theorem zerosB_length : zerosB.length = 512 := by unfold zerosB; rw [List.length_replicate]
theorem zerosB_mem {x : Nat} (h : x ∈ zerosB) : x = 0 := by unfold zerosB at h; exact List.eq_of_mem_replicate h
theorem mkB_length (h st : Nat) : (mkB h st).length = 512 := by unfold mkB; rw [List.length_set, List.length_set, List.length_set, List.length_set, List.length_set, zerosB_length]
theorem AllB.set {l : List Nat} (h : AllB l) (i x : Nat) (hx : x < 256) : AllB (l.set i x) := by
  intro y hy
  rcases List.mem_or_eq_of_mem_set hy with q | q
  · exact h y q
  · omega
theorem zerosB_allB : AllB zerosB := fun x hx => by have := zerosB_mem hx; omega
theorem mkB_allB (h st : Nat) (hs : st < 256) : AllB (mkB h st) := by
  unfold mkB
  exact ((((zerosB_allB.set _ _ (by omega)).set _ _ (by omega)).set _ _ (by omega)).set _ _ (by omega)).set _ _ hs
theorem set_getD (l : List Nat) (i j x : Nat) (hi : i < l.length) : (l.set i x).getD j 0 = if i = j then x else l.getD j 0 := by
  rw [List.getD_eq_getElem?_getD, List.getElem?_set]
  split
  · rfl
  · rw [List.getD_eq_getElem?_getD]
theorem zerosB_getD (j : Nat) : zerosB.getD j 0 = 0 := by
  unfold zerosB
  rw [List.getD_eq_getElem?_getD, List.getElem?_replicate]
  split <;> rfl
theorem mkB_getD (h st j : Nat) : (mkB h st).getD j 0 = if 511 = j then st else if 3 = j then h / 16777216 % 256 else if 2 = j then h / 65536 % 256 else if 1 = j then h / 256 % 256 else if 0 = j then h % 256 else 0 := by
  unfold mkB
  have z := zerosB_length
  rw [set_getD _ _ _ _ (by rw [List.length_set, List.length_set, List.length_set, List.length_set, z]; decide), set_getD _ _ _ _ (by rw [List.length_set, List.length_set, List.length_set, z]; decide), set_getD _ _ _ _ (by rw [List.length_set, List.length_set, z]; decide), set_getD _ _ _ _ (by rw [List.length_set, z]; decide), set_getD _ _ _ _ (by rw [z]; decide), zerosB_getD]
theorem mkB_last (h st : Nat) : (mkB h st).getD 511 0 = st := by rw [mkB_getD, if_pos rfl]
def homeN (x : List Nat) : Nat := x.getD 0 0 + 256 * x.getD 1 0 + 65536 * x.getD 2 0 + 16777216 * x.getD 3 0
theorem homeN_mkB (h st : Nat) (hh : h < 4294967296) : homeN (mkB h st) = h := by
  unfold homeN
  rw [mkB_getD, mkB_getD, mkB_getD, mkB_getD]
  simp
  omega

def Dev.has (g : Dev) (first : Int) (count : Nat) : Bool := decide (0 ≤ first) && decide (first ≤ (g.n : Int) - (count : Int))
def Dev.homeB (g : Dev) (at_ h : Int) : Bool := g.has h 2 && (decide (h + 2 ≤ at_) || decide (at_ + 3 ≤ h))
def twSegs (at_ h : Nat) (b : List Nat) : List (List (Nat × List Nat)) := [[(at_ + 1, b.take 512), (at_ + 2, b.drop 512)], [(at_, mkB h 165)], [(h, b.take 512), (h + 1, b.drop 512)], [(at_, mkB h 0)]]
def fnSegs (at_ h : Nat) (one two : List Nat) : List (List (Nat × List Nat)) := [[(h, one), (h + 1, two)], [(at_, mkB h 0)]]
/-- Write: its answer and the disk behind it. -/
def Dev.twE (g : Dev) (at_ h : Int) (b : List Nat) : Nat := if g.down = true then 40 else if (g.has at_ 3 && g.homeB at_ h) = false then 4 else if b.length ≠ 1024 then 42 else segsE (twSegs at_.toNat h.toNat b) g
def Dev.twD (g : Dev) (at_ h : Int) (b : List Nat) : Dev := if g.down = true then g else if (g.has at_ 3 && g.homeB at_ h) = false then g else if b.length ≠ 1024 then g else segsD (twSegs at_.toNat h.toNat b) g
/-- Finish. -/
def Dev.mark (g : Dev) (at_ : Int) : List Nat := g.content at_.toNat
def Dev.sense (g : Dev) (at_ : Int) : Bool := decide (g.mark at_ = mkB (homeN (g.mark at_)) 165) && g.homeB at_ (homeN (g.mark at_) : Int)
def Dev.fnSg (g : Dev) (at_ : Int) : List (List (Nat × List Nat)) := fnSegs at_.toNat (homeN (g.mark at_)) (g.content (at_.toNat + 1)) (g.content (at_.toNat + 2))
def Dev.fnE (g : Dev) (at_ : Int) : Nat := if g.down = true then 40 else if g.has at_ 3 = false then 4 else if (g.mark at_).getD 511 0 = 0 then 0 else if g.sense at_ = false then 84 else segsE (g.fnSg at_) g
def Dev.fnD (g : Dev) (at_ : Int) : Dev := if g.down = true then g else if g.has at_ 3 = false then g else if (g.mark at_).getD 511 0 = 0 then g else if g.sense at_ = false then g else segsD (g.fnSg at_) g
def Dev.fnB (g : Dev) (at_ : Int) : Bool := decide (g.fnE at_ = 0) && decide ((g.mark at_).getD 511 0 ≠ 0)
/-- Read. -/
def Dev.rdE (g : Dev) (h : Int) : Nat := if g.down = true then 40 else if g.has h 2 = false then 4 else 0
def Dev.rdB (g : Dev) (h : Int) : List Nat := if g.rdE h = 0 then g.content h.toNat ++ g.content (h.toNat + 1) else []
end Go.QK
