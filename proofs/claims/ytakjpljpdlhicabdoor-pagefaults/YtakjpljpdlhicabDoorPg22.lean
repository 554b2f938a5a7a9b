import Derived.Test.YtakjpljpdlhicabDoorPg21
namespace Go.Proofs.YtakjpljpdlhicabDoor
open Go.RowKit Go.QK Go.Pg
set_option maxRecDepth 100000
theorem ref_any (p : PageM) (t : At) (w : World) : Calls Tryd.prog 6 #[pageV p t] w fun e w' => e = .returned (pageV p t) ∧ Below w.heap.size w w' := by
  obtain ⟨num, lsn, cs, gs⟩ := p
  obtain ⟨ta, tc, tb, td⟩ := t
  simp only [pageV]
  generalize cs.length = n
  generalize gs.length = m
  go_enter Tryd.func6, Tryd.ntmps6
  go_wp2_with fail
  exact bodyPost_ret (v := .agg #[.int .i64 num, .int .i64 lsn, .slice ta n tc, .slice tb m td]) (by simp [results, Tryd.results6, go_sem]) rfl ⟨rfl, bnext (alloc_below _ _) (alloc_below _ _) (Nat.le_refl _)⟩
theorem back_any (p : PageM) (t : At) (w : World) : Calls Tryd.prog 16 #[pageV p t] w fun e w' => e = .returned (pageV p t) ∧ Below w.heap.size w w' := by
  obtain ⟨num, lsn, cs, gs⟩ := p
  obtain ⟨ta, tc, tb, td⟩ := t
  simp only [pageV]
  generalize cs.length = n
  generalize gs.length = m
  go_enter Tryd.func16, Tryd.ntmps16
  go_wp2_with fail
  exact bodyPost_ret (v := .agg #[.int .i64 num, .int .i64 lsn, .slice ta n tc, .slice tb m td]) (by simp [results, Tryd.results16, go_sem]) rfl ⟨rfl, bnext (alloc_below _ _) (alloc_below _ _) (Nat.le_refl _)⟩
theorem PageOut.keep {S : Nat → Prop} {w w' : World} {B : Nat} {v : Value} {p : PageM} (h : PageOut w B v p) (b : Keep S w w') (hS : ∀ g, B ≤ g → ¬ S g) : PageOut w' B v p := by
  obtain ⟨v1, v2, h1, h2, h3⟩ := h
  exact ⟨v1, v2, h1, h2.keep b (fun g hg => hS g (World.ownsRow.lt h2 g hg).1), h3.keep b (fun g hg => hS g (World.ownsRow.lt h3 g hg).1)⟩
theorem PageOut.mono {w : World} {B B' : Nat} {v : Value} {p : PageM} (h : PageOut w B v p) (hb : B' ≤ B) : PageOut w B' v p := by
  obtain ⟨v1, v2, h1, h2, h3⟩ := h
  exact ⟨v1, v2, h1, h2.mono hb, h3.mono hb⟩
end Go.Proofs.YtakjpljpdlhicabDoor
