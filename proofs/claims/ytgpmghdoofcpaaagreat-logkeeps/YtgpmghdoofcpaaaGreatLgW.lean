import Derived.Test.YtgpmghdoofcpaaaGreatLgV
namespace Go.Proofs.YtgpmghdoofcpaaaGreat.Lg
open Go.RowKit Go.QK

/-! A log that grows: what Force makes of the disk. -/
/-- The image while the first fo records are forced. -/
structure Gi (img : List Nat) (n first count : Nat) (rs : List (List Nat)) (fo : Nat) (X : Nat → List Nat) : Prop where
  len : 512 * (first + count) ≤ img.length
  nn : img.length = 512 * n
  hfo : fo ≤ count
  yes : ∀ j, j < fo → sector img (first + j) = filledB (j + 1) (rs.getD j [])
  zer : ∀ j, fo ≤ j → j < count → sector img (first + j) = zerosB
  side : ∀ i, (i < first ∨ first + count ≤ i) → i < n → sector img i = X i
/-- Writes of the records fo .. hi - 1. -/
def Puts (first : Nat) (rs : List (List Nat)) (fo hi : Nat) (ps : List (Nat × List Nat)) : Prop := ∀ p ∈ ps, ∃ j, fo ≤ j ∧ j < hi ∧ p = (first + j, filledB (j + 1) (rs.getD j []))
def Short (rs : List (List Nat)) : Prop := ∀ j, (rs.getD j []).length ≤ 502
theorem Holds.short {rs : List RecM} {bs : List (List Nat)} (h : Holds rs bs) : Short bs := by
  intro j
  by_cases hj : j < rs.length
  · obtain ⟨x, _, g2, g3, _, g5⟩ := h.at_ j hj
    rw [g5]
    exact (bytes_502 g2 g3).2
  · rw [List.getD_eq_getElem?_getD, List.getElem?_eq_none (by rw [h.len]; omega)]
    show 0 ≤ 502
    omega
section
variable {img : List Nat} {n first count fo hi : Nat} {rs : List (List Nat)} {X : Nat → List Nat} {ps : List (Nat × List Nat)}
theorem Gi.fits (h : Gi img n first count rs fo X) (hs : Short rs) (hp : Puts first rs fo hi ps) (hc : hi ≤ count) : ∀ p ∈ ps, FitsW img.length p := fun p q => by
  obtain ⟨j, a, b, rfl⟩ := hp p q
  have := h.len
  exact ⟨by show 512 * (first + j) + 512 ≤ _; omega, filledB_length (by have := hs j; omega)⟩
theorem Gi.fell (h : Gi img n first count rs fo X) (hs : Short rs) (l : Loss) (hp : Puts first rs fo hi ps) (hc : hi ≤ count) (hf : fo ≤ hi) (c : Nat) : ∃ k, fo ≤ k ∧ k ≤ hi ∧ Wip ⟨fallFrom l 0 ps img, [], c, true, 0, none⟩ first count rs k X := by
  have hft := h.fits hs hp hc
  have hl : (fallFrom l 0 ps img).length = img.length := fall_len l ps 0 img rfl hft
  have hlen := h.len
  have hn := h.nn
  have hnn : (Dev.n ⟨fallFrom l 0 ps img, [], c, true, 0, none⟩) = n := by show (fallFrom l 0 ps img).length / 512 = _; omega
  have y1 : ∀ j, j < fo → sector (fallFrom l 0 ps img) (first + j) = filledB (j + 1) (rs.getD j []) := fun j hj =>
    fall_sector l (first + j) (fun x => x = filledB (j + 1) (rs.getD j [])) (by omega) ps 0 img rfl hft (fun p q e => by
      obtain ⟨i, a, b, rfl⟩ := hp p q
      have e : first + i = first + j := e
      omega) (h.yes j hj)
  have y2 : ∀ j, j < hi → Young (filledB (j + 1) (rs.getD j [])) (sector (fallFrom l 0 ps img) (first + j)) := fun j hj => by
    by_cases q : j < fo
    · exact .inl (y1 j q)
    · refine fall_sector l (first + j) (Young (filledB (j + 1) (rs.getD j []))) (by omega) ps 0 img rfl hft (fun p q e x m hx hxl hm => ?_) (.inr (by rw [h.zer j (by omega) (by omega), zeros_getD]; decide))
      obtain ⟨i, a, b, rfl⟩ := hp p q
      have e : first + i = first + j := e
      obtain rfl : i = j := by omega
      exact hx.torn (filledB_length (by have := hs i; omega)) hxl m hm
  have y3 : ∀ j, hi ≤ j → j < count → Dead (sector (fallFrom l 0 ps img) (first + j)) := fun j h1 h2 => by
    have : sector (fallFrom l 0 ps img) (first + j) = zerosB := fall_sector l (first + j) (fun x => x = zerosB) (by omega) ps 0 img rfl hft (fun p q e => by
      obtain ⟨i, a, b, rfl⟩ := hp p q
      have e : first + i = first + j := e
      omega) (h.zer j (by omega) h2)
    rw [this]
    exact Dead.zeros
  obtain ⟨k, k1, k2, k3⟩ := stands_of (fallFrom l 0 ps img) first count rs hi hc y2 y3 (hi - fo) fo (by omega) y1
  refine ⟨k, k1, k2, k3, ?_, ?_, nofun, .inl rfl, fun i hi2 hin => ?_⟩
  · show _ ≤ (fallFrom l 0 ps img).length
    rw [hl]; exact hlen
  · show (fallFrom l 0 ps img).length = _
    rw [hnn, hl]; exact hn
  · rw [hnn] at hin
    exact fall_sector l i (fun x => x = X i) (by omega) ps 0 img rfl hft (fun p q e => by
      obtain ⟨j, a, b, rfl⟩ := hp p q
      have e : first + j = i := e
      omega) (h.side i hi2 hin)
theorem Gi.sync (h : Gi img n first count rs fo X) (hs : Short rs) (hp : Puts first rs fo hi ps) (hc : hi ≤ count) (hf : fo ≤ hi) (hall : ∀ j, fo ≤ j → j < hi → contentOf img (first + j) ps = filledB (j + 1) (rs.getD j [])) : Gi (syncAll ps img) n first count rs hi X := by
  have hft := h.fits hs hp hc
  have hl : (syncAll ps img).length = img.length := syncAll_len ps img rfl hft
  have hlen := h.len
  have hn := h.nn
  refine ⟨by rw [hl]; exact hlen, by rw [hl]; exact hn, hc, fun j hj => ?_, fun j h1 h2 => ?_, fun i hi2 hin => ?_⟩
  · rw [sync_sector (first + j) (by omega) ps img rfl hft]
    by_cases q : j < fo
    · exact content_R img (first + j) (fun x => x = filledB (j + 1) (rs.getD j [])) ps _ (h.yes j q) (fun p r e => by
        obtain ⟨i, a, b, rfl⟩ := hp p r
        have e : first + i = first + j := e
        omega)
    · exact hall j (by omega) hj
  · rw [sync_sector (first + j) (by omega) ps img rfl hft]
    exact content_R img (first + j) (fun x => x = zerosB) ps _ (h.zer j (by omega) h2) (fun p r e => by
      obtain ⟨i, a, b, rfl⟩ := hp p r
      have e : first + i = first + j := e
      omega)
  · rw [sync_sector i (by omega) ps img rfl hft]
    exact content_R img i (fun x => x = X i) ps _ (h.side i hi2 hin) (fun p r e => by
      obtain ⟨j, a, b, rfl⟩ := hp p r
      have e : first + j = i := e
      omega)
/-- How the writes of a Force stand. -/
structure Pt (img : List Nat) (L : Nat) (g : Dev) (first : Nat) (rs : List (List Nat)) (fo s : Nat) : Prop where
  le : g.left ≤ L
  im : g.img = img
  down : g.down = false
  arm : Armed g
  puts : Puts first rs fo s g.pend
  all : ∀ j, fo ≤ j → j < s → contentOf img (first + j) g.pend = filledB (j + 1) (rs.getD j [])
theorem Gi.puts {L : Nat} (h : Gi img n first count rs fo X) (hs : Short rs) (hc : hi ≤ count) : (c s : Nat) → (g : Dev) → Pt img L g first rs fo s → fo ≤ s → s + c = hi →
    ((putM first rs c (s + 1) g).2 = 0 ∧ Pt img L (putM first rs c (s + 1) g).1 first rs fo hi) ∨ ((putM first rs c (s + 1) g).2 = 40 ∧ ∃ k, fo ≤ k ∧ k ≤ hi ∧ Wip (putM first rs c (s + 1) g).1 first count rs k X ∧ (putM first rs c (s + 1) g).1.down = true ∧ (putM first rs c (s + 1) g).1.pend = [] ∧ L ≠ 0)
  | 0, s, g, hg, h1, h2 => .inl ⟨rfl, by obtain rfl : s = hi := by omega
                                         exact hg⟩
  | c + 1, s, g, hg, h1, h2 => by
    have hlen := h.len
    have hn := h.nn
    have e0 : first + (s + 1) - 1 = first + s := by omega
    have hgn : g.n = n := by show g.img.length / 512 = n; rw [hg.im]; omega
    have hb : (filledB (s + 1) (rs.getD s [])).length = 512 := filledB_length (by have := hs s; omega)
    have hps : Puts first rs fo (s + 1) (g.pend ++ [(first + s, filledB (s + 1) (rs.getD s []))]) := by
      intro p hp
      rcases List.mem_append.1 hp with r | r
      · obtain ⟨j, a, b, e⟩ := hg.puts p r
        exact ⟨j, a, by omega, e⟩
      · simp at r
        exact ⟨s, h1, by omega, r⟩
    rcases write_cases hg.down hg.arm (first + s) (by omega) _ hb with ⟨e1, e2⟩ | ⟨e1, e9, l, e3, e2⟩
    · have e : putM first rs (c + 1) (s + 1) g = putM first rs c (s + 1 + 1) (g.write ((first + s : Nat) : Int) (filledB (s + 1) (rs.getD s []))) := by
        rw [putM, e0, if_neg (by rw [e1]; simp)]
        rfl
      rw [e, e2]
      refine Gi.puts h hs hc c (s + 1) _ ⟨Nat.le_trans (Nat.sub_le _ _) hg.le, hg.im, hg.down, hg.arm.less _ _ _, hps, fun j a b => ?_⟩ (by omega) (by omega)
      show contentOf img (first + j) (g.pend ++ [(first + s, filledB (s + 1) (rs.getD s []))]) = _
      rw [content_snoc]
      by_cases r : j < s
      · rw [if_neg (by show ¬ first + s = first + j; omega)]
        exact hg.all j a r
      · obtain rfl : j = s := by omega
        rw [if_pos rfl]
    · right
      have e : putM first rs (c + 1) (s + 1) g = (g.write ((first + s : Nat) : Int) (filledB (s + 1) (rs.getD s [])), g.writeE ((first + s : Nat) : Int) 512) := by
        rw [putM, e0, if_pos (by rw [e1]; simp)]
        rfl
      rw [e, e2, e1]
      obtain ⟨k, k1, k2, k3⟩ := h.fell hs l hps (by omega) (by omega) (g.calls + 1)
      refine ⟨rfl, k, k1, by omega, ?_, rfl, rfl, by have := hg.le; omega⟩
      unfold Lg.fell
      rw [hg.im]
      exact k3
end
/-- The log and its disk, between its calls. -/
structure Grw (g : Dev) (m : LogM) (X : Nat → List Nat) : Prop where
  gi : Gi g.img g.n m.first m.count m.recs m.forced X
  down : g.down = false
  pend : g.pend = []
  arm : Armed g
  ended : m.ended = false
  ok : m.Ok
theorem Grw.app {g : Dev} {m : LogM} {X : Nat → List Nat} (h : Grw g m X) (b : List Nat) (hc : m.recs.length < m.count) : Grw g { m with recs := m.recs ++ [b] } X := by
  have ho := h.ok
  refine ⟨⟨h.gi.len, h.gi.nn, h.gi.hfo, fun j hj => ?_, h.gi.zer, h.gi.side⟩, h.down, h.pend, h.arm, h.ended, ⟨?_, ho.place, ?_⟩⟩
  · have := h.gi.yes j hj
    have hj2 : j < m.forced := hj
    have := ho.fo
    rw [h.gi.yes j hj]
    show _ = filledB (j + 1) ((m.recs ++ [b]).getD j [])
    congr 1
    rw [List.getD_eq_getElem?_getD, List.getD_eq_getElem?_getD, List.getElem?_append_left (by omega)]
  · show (m.recs ++ [b]).length ≤ m.count
    simp; omega
  · show m.forced ≤ (m.recs ++ [b]).length
    have := ho.fo
    simp; omega
/-- Force: done, or the device has given up and some k records stand. -/
theorem Grw.force {g : Dev} {m : LogM} {X : Nat → List Nat} (h : Grw g m X) (hs : Short m.recs) (n : Nat) (hn : n ≤ m.recs.length) :
    (m.forE g (n : Int) = 0 ∧ Grw (m.forD g (n : Int)) (m.forM g (n : Int)) X ∧ (m.forM g (n : Int)).recs = m.recs ∧ (m.forM g (n : Int)).forced = max m.forced n ∧ (m.forM g (n : Int)).first = m.first ∧ (m.forM g (n : Int)).count = m.count ∧ (m.forD g (n : Int)).left ≤ g.left) ∨ (m.forE g (n : Int) = 40 ∧ m.forM g (n : Int) = { m with ended := true } ∧ ∃ k, m.forced ≤ k ∧ k ≤ n ∧ Wip (m.forD g (n : Int)) m.first m.count m.recs k X ∧ (m.forD g (n : Int)).down = true ∧ (m.forD g (n : Int)).pend = [] ∧ g.left ≠ 0) := by
  have ho := h.ok
  have hol := ho.len
  have z1 : ¬ (m.ended = true) := by rw [h.ended]; simp
  have z2 : ¬ ((n : Int) < 0 ∨ (m.recs.length : Int) < (n : Int)) := by omega
  unfold LogM.forE LogM.forD LogM.forM
  simp only [if_neg z1, if_neg z2]
  by_cases h1 : (n : Int) ≤ (m.forced : Int)
  · simp only [if_pos h1]
    exact .inl ⟨trivial, h, trivial, by omega, trivial, trivial, Nat.le_refl _⟩
  simp only [if_neg h1]
  have en : ((n : Int)).toNat = n := by omega
  rw [en]
  unfold wrM
  have P := h.gi.puts hs (hi := n) (by omega) (n - m.forced) m.forced g ⟨Nat.le_refl _, rfl, h.down, h.arm, by rw [h.pend]; exact nofun, fun j a b => by omega⟩ (Nat.le_refl _) (by omega)
  generalize putM m.first m.recs (n - m.forced) (m.forced + 1) g = p at *
  obtain ⟨g1, x1⟩ := p
  dsimp only at P
  rcases P with ⟨rfl, P⟩ | ⟨rfl, k, k1, k2, k3, k4, k5, k6⟩
  · have z : ¬ ((0 : Nat) ≠ 0) := by simp
    simp only [wpE, wpD, if_neg z]
    rcases sync_cases P.down P.arm with ⟨a1, a2⟩ | ⟨a1, a9, l, a3, a2⟩
    · left
      rw [a1, a2, if_pos rfl]
      have G := h.gi.sync hs P.puts (by omega) (by omega) P.all
      have e2 : syncAll g1.pend g1.img = syncAll g1.pend g.img := by rw [P.im]
      refine ⟨rfl, ⟨?_, P.down, rfl, P.arm.less _ _ _, h.ended, ⟨hol, ho.place, hn⟩⟩, rfl, by show n = _; omega, rfl, rfl, Nat.le_trans (Nat.sub_le _ _) P.le⟩
      have e3 : Dev.n { g1 with img := syncAll g1.pend g1.img, pend := [], calls := g1.calls + 1, left := g1.left - 1 } = g.n := by
        show (syncAll g1.pend g1.img).length / 512 = _
        rw [e2, G.nn]
        omega
      rw [e3]
      show Gi (syncAll g1.pend g1.img) _ _ _ _ n X
      rw [e2]
      exact G
    · right
      rw [a1, a2, if_neg (by decide)]
      obtain ⟨k, k1, k2, k3⟩ := h.gi.fell hs l P.puts (by omega) (by omega) (g1.calls + 1)
      refine ⟨rfl, rfl, k, k1, k2, ?_, rfl, rfl, by have := P.le; omega⟩
      unfold fell
      rw [P.im]
      exact k3
  · right
    have z : (40 : Nat) ≠ 0 := by decide
    simp only [wpE, wpD, if_pos z, if_neg z]
    exact ⟨trivial, trivial, k, k1, k2, k3, k4, k5, k6⟩
/-- A crash between the calls. -/
theorem Grw.crash {g : Dev} {m : LogM} {X : Nat → List Nat} (h : Grw g m X) (l : Loss) : Wip (g.crash l) m.first m.count m.recs m.forced X ∧ (g.crash l).down = true ∧ (g.crash l).pend = [] := by
  have e : g.crash l = { g with down := true, left := 0, loss := none } := by
    unfold Dev.crash Dev.fall
    rw [h.down, if_neg (by simp), h.pend]
    rfl
  rw [e]
  refine ⟨⟨⟨h.gi.hfo, h.gi.yes, fun q => ?_⟩, h.gi.len, h.gi.nn, ?_, .inl rfl, h.gi.side⟩, rfl, h.pend⟩
  · show Dead (sector g.img (m.first + m.forced))
    rw [h.gi.zer m.forced (Nat.le_refl _) q]
    exact Dead.zeros
  · show ∀ p ∈ g.pend, _
    rw [h.pend]
    exact nofun

/-! How many calls there are. -/
theorem crashes_calls (g : Dev) : g.crashes.calls = g.calls := by
  unfold Dev.crashes
  split <;> rfl
theorem write_calls (g : Dev) (i : Int) (b : List Nat) : (g.write i b).calls ≤ g.calls + 1 := by
  unfold Dev.write
  split
  · omega
  · split
    · rw [crashes_calls]
      exact Nat.le_refl _
    · exact Nat.le_refl _
theorem sync_calls (g : Dev) : g.sync.calls ≤ g.calls + 1 := by
  unfold Dev.sync
  split
  · omega
  · split
    · rw [crashes_calls]
      exact Nat.le_refl _
    · exact Nat.le_refl _
theorem wipeM_calls (first : Nat) : (c s : Nat) → (g : Dev) → (q : Bool) → (wipeM first c s g q).1.calls ≤ g.calls + c
  | 0, _, g, _ => Nat.le_refl _
  | c + 1, s, g, q => by
    rw [wipeM]
    split
    · have := wipeM_calls first c (s + 1) g q
      omega
    · split
      · have := write_calls g ((first + s - 1 : Nat) : Int) zerosB
        dsimp only
        omega
      · have h1 := wipeM_calls first c (s + 1) (g.write ((first + s - 1 : Nat) : Int) zerosB) true
        have h2 := write_calls g ((first + s - 1 : Nat) : Int) zerosB
        omega
theorem putM_calls (first : Nat) (rs : List (List Nat)) : (c s : Nat) → (g : Dev) → (putM first rs c s g).1.calls ≤ g.calls + c
  | 0, _, g => Nat.le_refl _
  | c + 1, s, g => by
    rw [putM]
    split
    · have := write_calls g ((first + s - 1 : Nat) : Int) (filledB s (rs.getD (s - 1) []))
      dsimp only
      omega
    · have h1 := putM_calls first rs c (s + 1) (g.write ((first + s - 1 : Nat) : Int) (filledB s (rs.getD (s - 1) [])))
      have h2 := write_calls g ((first + s - 1 : Nat) : Int) (filledB s (rs.getD (s - 1) []))
      omega
theorem settleD_calls (g : Dev) : (settleD g).calls ≤ g.calls + 1 := by
  unfold settleD
  split
  · omega
  · split
    · omega
    · exact sync_calls g
theorem openD_calls (g : Dev) (f c : Nat) : (openD g f c).calls ≤ g.calls + c + 2 := by
  have h0 := settleD_calls g
  unfold openD
  split
  · omega
  · split
    · omega
    · unfold wipeD wiped
      have h1 := wipeM_calls f (c - (fnd (settleD g) f c).1.length) ((fnd (settleD g) f c).1.length + 1) (settleD g) false
      split
      · omega
      · split
        · have h2 := sync_calls (wipeM f (c - (fnd (settleD g) f c).1.length) ((fnd (settleD g) f c).1.length + 1) (settleD g) false).1
          omega
        · omega
theorem forD_calls (m : LogM) (g : Dev) (n : Int) (hn : n ≤ (m.recs.length : Int)) : (m.forD g n).calls ≤ g.calls + m.recs.length + 1 := by
  unfold LogM.forD
  split
  · omega
  · split
    · omega
    · split
      · omega
      · unfold wpD wrM
        have h1 := putM_calls m.first m.recs (n.toNat - m.forced) (m.forced + 1) g
        split
        · omega
        · have h2 := sync_calls (putM m.first m.recs (n.toNat - m.forced) (m.forced + 1) g).1
          omega
end Go.Proofs.YtgpmghdoofcpaaaGreat.Lg
