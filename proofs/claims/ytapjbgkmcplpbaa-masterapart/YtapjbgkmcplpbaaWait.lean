import Derived.Test.YtapjbgkmcplpbaaOne
namespace Go.QK
open Go.RowKit

theorem lay_behind (img b : List Nat) (s : Nat) (hs : s < 2) (hi : 1024 ≤ img.length) (hb : b.length = 512) : (lay img s b 512).drop 1024 = img.drop 1024 := by
  unfold lay splice
  rw [List.take_of_length_le (show b.length ≤ 512 by omega), hb]
  rcases (by omega : s = 0 ∨ s = 1) with rfl | rfl
  · rw [show 512 * 0 = 0 from rfl, List.take_zero, List.nil_append, show 1024 = b.length + 512 by omega, ← List.drop_drop, List.drop_left, List.drop_drop, hb]
  · have e : (img.take (512 * 1) ++ b).length = 1024 := by rw [List.length_append, List.length_take]; omega
    rw [← List.append_assoc, show (img.take (512 * 1) ++ b ++ img.drop (512 * 1 + 512)).drop 1024 = img.drop (512 * 1 + 512) from by rw [← e]; exact List.drop_left]
/-- Writes that wait, and nothing else. -/
structure Waits (g0 g : Dev) (m : Nat) : Prop where
  img : g.img = g0.img
  down : g.down = false
  left : g.left = 0
  pend : g.pend.length = m
  calls : g.calls = g0.calls + m
theorem Waits.first {g : Dev} (h : Still g) : Waits g g 0 := ⟨rfl, h.down, h.left, by rw [h.pend]; rfl, rfl⟩
theorem Waits.write {g0 g : Dev} {m : Nat} (h : Waits g0 g m) (i : Nat) (hi : i < g0.n) (b : List Nat) (hb : b.length = 512) : g.writeE (i : Int) 512 = 0 ∧ Waits g0 (g.write (i : Int) b) (m + 1) := by
  have hn : g.n = g0.n := by unfold Dev.n; rw [h.img]
  have hr : g.reach (i : Int) = 0 := by unfold Dev.reach; rw [h.down, if_neg (by decide), if_neg (by omega)]
  have hl : ¬ g.left = 1 := by rw [h.left]; decide
  have e2 : g.write (i : Int) b = (g.push i b).strike := by
    unfold Dev.write
    rw [hr, if_neg (by omega), if_neg hl]
    rfl
  refine ⟨by unfold Dev.writeE; rw [hr, if_neg (by decide), if_neg (by decide), if_neg hl], ?_⟩
  rw [e2]
  refine ⟨h.img, h.down, by show g.left - 1 = 0; rw [h.left], ?_, ?_⟩
  · show (g.pend ++ [(i, b)]).length = _
    simp [h.pend]
  · show g.calls + 1 = _
    have := h.calls
    omega
theorem Waits.sync {g0 g : Dev} {m : Nat} (h : Waits g0 g m) (ok : g.Ok) : g.syncE = 0 ∧ Still g.sync ∧ g.sync.n = g0.n ∧ g.sync.calls = g0.calls + m + 1 := by
  have e1 : g.syncE = 0 := by unfold Dev.syncE; rw [if_neg]; simp [h.down, h.left]
  have e2 : g.sync = g.strike.settle := by unfold Dev.sync; rw [if_neg (by simp [h.down]), if_neg (by simp [h.left])]
  have hk := (ok.strike).settle
  refine ⟨e1, ?_, ?_, ?_⟩
  · rw [e2]
    exact ⟨h.down, by show g.left - 1 = 0; rw [h.left], rfl, hk⟩
  · rw [e2]
    have := (syncAll_ok g.pend g.img ok.pend rfl ok.bytes).1
    show (syncAll g.pend g.img).length / 512 = g0.img.length / 512
    rw [this, h.img]
  · rw [e2]
    show g.calls + 1 = _
    have := h.calls
    omega
/-- A disk that runs, with this master, and this behind its slots. -/
structure Keeps (g : Dev) (p l f k : Nat) (rest : List Nat) : Prop where
  has : ∃ q, Has g p l f k q
  rest : g.img.drop 1024 = rest
theorem Keeps.point {g : Dev} {p l f k : Nat} {rest : List Nat} (h : Keeps g p l f k rest) (hk : k ≤ 1000) (lsn : Int) : ∃ k', k' ≤ k + 1 ∧ Keeps (g.pointD lsn) p l f k' rest ∧ (g.pointD lsn).calls ≤ g.calls + 2 := by
  obtain ⟨q, hh⟩ := h.has
  by_cases hl : lsnN lsn
  · obtain ⟨x, rfl⟩ : ∃ x : Nat, lsn = (x : Int) := ⟨lsn.toNat, by unfold lsnN at hl; omega⟩
    have hx : x ≤ 2147483647 := by unfold lsnN at hl; omega
    obtain ⟨_, h2, h3⟩ := hh.point hk x hx
    refine ⟨k + 1, by omega, ⟨⟨x, h2⟩, ?_⟩, by omega⟩
    obtain ⟨_, e2, _⟩ := hh.still.point hh.ne (by rw [hh.mst]; show k < _; omega) (by rw [hh.n]; omega) hl
    rw [e2]
    show (lay g.img _ _ 512).drop 1024 = _
    rw [lay_behind _ _ _ (by omega) (by rw [hh.still.size, hh.n]; omega) (slotB_length _), h.rest]
  · have e : g.pointD lsn = g := by unfold Dev.pointD; rw [if_pos hl]
    rw [e]
    exact ⟨k, by omega, h, by omega⟩
theorem Keeps.format {g : Dev} (h : Still g) {p l f : Nat} (hf : fitsN p l f g.n) : g.formatE p l f = 0 ∧ Keeps (g.formatD p l f) p l f 1 (g.img.drop 1024) ∧ (g.formatD p l f).calls = g.calls + 4 := by
  obtain ⟨e1, e2, e3, e4, e5, e6⟩ := h.format hf
  have hn := hf.2
  have hm := hf.1
  unfold mayN at hm
  have sz := h.size
  refine ⟨e1, ⟨⟨0, ⟨e3, by rw [e5]; omega, by rw [e4]; simp [firstS], by omega⟩⟩, ?_⟩, by rw [e2]; rfl⟩
  rw [e2]
  show (lay (lay g.img 0 zerosB 512) 1 _ 512).drop 1024 = _
  have e : (lay g.img 0 zerosB 512).length = g.img.length := (laid_n g 0 zerosB 512 (by omega) zerosB_length (Nat.le_refl _)).2
  rw [lay_behind _ _ _ (by omega) (by rw [e]; omega) (slotB_length _), lay_behind _ _ _ (by omega) (by omega) zerosB_length]
end Go.QK
