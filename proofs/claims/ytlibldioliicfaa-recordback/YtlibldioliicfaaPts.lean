import Derived.Test.YtlibldioliicfaaMk
import Derived.Test.YtlibldioliicfaaRow
import Derived.Test.YtlibldioliicfaaTake
import Derived.Deep.DeepCutAuto
namespace Go.Proofs.Ytlibldioliicfaa
open Go.RowKit Go.QK
set_option maxRecDepth 100000

/-! Lists that may be a checkpoint's, from their front on. -/
def leastL : Int → List LiveM → Int
  | m, [] => m
  | _, l :: ls => leastL (l.tx + 1) ls
def leastD : Int → List DirtyM → Int
  | m, [] => m
  | _, l :: ls => leastD (l.page + 1) ls
theorem liveB_snoc (next lsn : Int) (x : LiveM) : (ls : List LiveM) → (m : Int) → liveB next lsn m (ls ++ [x]) = (liveB next lsn m ls && (fromB (leastL m ls) x.tx (next - 1) && recB x.last lsn && !(x.com && x.und)))
  | [], m => by simp [liveB, leastL]
  | l :: ls, m => by simp only [List.cons_append, liveB, liveB_snoc next lsn x ls, leastL, Bool.and_assoc]
theorem dirtyB_snoc (lsn : Int) (x : DirtyM) : (ls : List DirtyM) → (m : Int) → dirtyB lsn m (ls ++ [x]) = (dirtyB lsn m ls && (fromB (leastD m ls) x.page 63 && recB x.since lsn))
  | [], m => by simp [dirtyB, leastD]
  | l :: ls, m => by simp only [List.cons_append, dirtyB, dirtyB_snoc lsn x ls, leastD, Bool.and_assoc]
theorem leastL_snoc (x : LiveM) : (ls : List LiveM) → (m : Int) → leastL m (ls ++ [x]) = x.tx + 1
  | [], _ => rfl
  | l :: ls, m => by simp only [List.cons_append, leastL, leastL_snoc x ls]
theorem leastD_snoc (x : DirtyM) : (ls : List DirtyM) → (m : Int) → leastD m (ls ++ [x]) = x.page + 1
  | [], _ => rfl
  | l :: ls, m => by simp only [List.cons_append, leastD, leastD_snoc x ls]
theorem recB_of {n lsn : Int} (h1 : 1 ≤ n) (h2 : n ≤ lsn - 1) (h3 : lsn ≤ 2147483647) : recB n lsn = true := by
  unfold recB fromB aheadB
  simp
  omega

/-- What points holds: its argument, the result's block, its own block, the two rows. -/
structure QB (w : World) (pv : List Value) (wi : World) (nx : Int) (vL : Value) (ls : List LiveM) (vD : Value) (ds : List DirtyM) : Prop where
  bel : Below w.heap.size w wi
  c2 : Cells wi w.heap.size pv
  c4 : Cells wi (w.heap.size + 1) [.slice none 0 0, .slice none 0 0, .int .i64 0]
  c5 : Cells wi (w.heap.size + 2) [vL, vD, .int .i64 nx]
  rl : LRow wi w.heap.size vL ls
  rd : DRow wi w.heap.size vD ds
  lne : ∀ g, vL.ownBlock = some g → w.heap.size + 2 < g
  dne : ∀ g, vD.ownBlock = some g → w.heap.size + 2 < g
  ld : ∀ g, vL.ownBlock = some g → vD.ownBlock ≠ some g
section
variable {w wi w' : World} {pv : List Value} {nx : Int} {vL vD : Value} {ls : List LiveM} {ds : List DirtyM}
theorem QB.below (h : QB w pv wi nx vL ls vD ds) (b : Below wi.heap.size wi w') : QB w pv w' nx vL ls vD ds :=
  { h with bel := bnext h.bel b (Nat.le_refl _), c2 := h.c2.below b, c4 := h.c4.below b, c5 := h.c5.below b, rl := GRow.below h.rl b, rd := GRow.below h.rd b }
theorem QB.putL (h : QB w pv wi nx vL ls vD ds) {v' : Value} {ls' : List LiveM} (hr : LRow w' w.heap.size v' ls') (hg : wi.grownBy w' vL.ownBlock) (hv : v'.ownBlock = vL.ownBlock ∨ v'.ownBlock = some wi.heap.size) :
    QB w pv (w'.setCell ⟨w.heap.size + 2, 0, none⟩ v') nx v' ls' vD ds := by
  have hk := (Keep.refl (fun k => vL.ownBlock = some k) wi).grown hg (fun _ q _ => q)
  have hlt := h.c5.1
  have hne : ∀ g, v'.ownBlock = some g → w.heap.size + 2 < g := by
    intro g q
    rcases hv with e | e
    · exact h.lne g (e ▸ q)
    · rw [e] at q; cases q; omega
  have k3 : Keep (fun k => k = w.heap.size + 2) w' (w'.setCell ⟨w.heap.size + 2, 0, none⟩ v') := (Keep.refl (fun k => k = w.heap.size + 2) w').setCell (fun _ => rfl) v'
  refine ⟨?_, ?_, ?_, ?_, ?_, ?_, hne, h.dne, ?_⟩
  · exact (h.bel.trans (hk.below h.bel.size (fun k hk q => by have := h.lne k q; omega))).trans (k3.below (by have := h.bel.size; have := hk.size; omega) (fun k hk q => by omega))
  · exact (h.c2.keep hk (fun q => by have := h.lne _ q; omega)).keep k3 (by omega)
  · exact (h.c4.keep hk (fun q => by have := h.lne _ q; omega)).keep k3 (by omega)
  · exact (h.c5.keep hk (fun q => by have := h.lne _ q; omega)).stored (j := 0) (by simp) v'
  · exact GRow.keep hr k3 (fun g q e => by have := hne g q; omega)
  · exact GRow.keep (GRow.keep h.rd hk (fun g q e => h.ld g e q)) k3 (fun g q e => by have := h.dne g q; omega)
  · intro g q e
    rcases hv with v | v
    · exact h.ld g (v ▸ q) e
    · rw [v] at q
      cases q
      have := (World.ownsRow.lt h.rd _ e).2
      omega
theorem QB.putD (h : QB w pv wi nx vL ls vD ds) {v' : Value} {ds' : List DirtyM} (hr : DRow w' w.heap.size v' ds') (hg : wi.grownBy w' vD.ownBlock) (hv : v'.ownBlock = vD.ownBlock ∨ v'.ownBlock = some wi.heap.size) :
    QB w pv (w'.setCell ⟨w.heap.size + 2, 1, none⟩ v') nx vL ls v' ds' := by
  have hk := (Keep.refl (fun k => vD.ownBlock = some k) wi).grown hg (fun _ q _ => q)
  have hlt := h.c5.1
  have hne : ∀ g, v'.ownBlock = some g → w.heap.size + 2 < g := by
    intro g q
    rcases hv with e | e
    · exact h.dne g (e ▸ q)
    · rw [e] at q; cases q; omega
  have k3 : Keep (fun k => k = w.heap.size + 2) w' (w'.setCell ⟨w.heap.size + 2, 1, none⟩ v') := (Keep.refl (fun k => k = w.heap.size + 2) w').setCell (fun _ => rfl) v'
  refine ⟨?_, ?_, ?_, ?_, ?_, ?_, h.lne, hne, ?_⟩
  · exact (h.bel.trans (hk.below h.bel.size (fun k hk q => by have := h.dne k q; omega))).trans (k3.below (by have := h.bel.size; have := hk.size; omega) (fun k hk q => by omega))
  · exact (h.c2.keep hk (fun q => by have := h.dne _ q; omega)).keep k3 (by omega)
  · exact (h.c4.keep hk (fun q => by have := h.dne _ q; omega)).keep k3 (by omega)
  · exact (h.c5.keep hk (fun q => by have := h.dne _ q; omega)).stored (j := 1) (by simp) v'
  · exact GRow.keep (GRow.keep h.rl hk (fun g q e => h.ld g q e)) k3 (fun g q e => by have := h.lne g q; omega)
  · exact GRow.keep hr k3 (fun g q e => by have := hne g q; omega)
  · intro g q e
    rcases hv with v | v
    · exact h.ld g q (v ▸ e)
    · rw [v] at e
      cases e
      have := (World.ownsRow.lt h.rl _ q).2
      omega
theorem QB.next (h : QB w pv wi nx vL ls vD ds) (n : Int) : QB w pv (wi.setCell ⟨w.heap.size + 2, 2, none⟩ (.int .i64 n)) n vL ls vD ds := by
  have k3 : Keep (fun k => k = w.heap.size + 2) wi (wi.setCell ⟨w.heap.size + 2, 2, none⟩ (.int .i64 n)) := (Keep.refl (fun k => k = w.heap.size + 2) wi).setCell (fun _ => rfl) _
  refine ⟨h.bel.trans (k3.below h.bel.size (fun k hk q => by omega)), h.c2.keep k3 (by omega), h.c4.keep k3 (by omega), h.c5.stored (j := 2) (by simp) _, GRow.keep h.rl k3 (fun g q e => by have := h.lne g q; omega), GRow.keep h.rd k3 (fun g q e => by have := h.dne g q; omega), h.lne, h.dne, h.ld⟩
end
end Go.Proofs.Ytlibldioliicfaa
