import Derived.Test.YtfoknkhbcnbdhaaKept
namespace Go.Proofs.Ytfoknkhbcnbdhaa
open Go.RowKit Quota

/-- One call of a script, as the program lays it. -/
abbrev opC (k a b : Int) (al : Option Addr) (n c : Nat) (r0 r1 s0 s1 : Int) : Array Value := #[.int .i64 k, .int .i64 a, .int .i64 b, .slice al n c, .int .i64 r0, .int .i64 r1, .int .i64 s0, .int .i64 s1]

set_option maxHeartbeats 1000000 in
set_option maxRecDepth 100000 in
theorem lists_any (k a b : Int) (al : Option Addr) (n c : Nat) (r0 r1 s0 s1 : Int) (xs : List Int) (g cg : Nat) (a2 : Option Addr) (c2 : Nat) (w : World) (h0 : I64 a)
    (ho : Seen w (some ⟨g, 0, none⟩) (xs ++ [5921370])) (hc : xs.length + 1 ≤ cg) (hs : Seen w a2 xs) (hx : All xs) (hl : xs.length ≤ 50000) :
    Calls Try.prog 32 #[.agg (opC k a b al n c r0 r1 s0 s1), .slice (some ⟨g, 0, none⟩) xs.length cg, .slice a2 xs.length c2] w fun e w' => e = .returned (.bool true) ∧ Below w.heap.size w w' := by
  have hown : Seen w (some ⟨g, 0, none⟩) xs := by have := ho.take xs.length; simpa using this
  have gA : Below w.heap.size w (w.alloc (.cells (opC k a b al n c r0 r1 s0 s1) 48)) := (Below.refl _ _).alloc (Nat.le_refl _) _
  by_cases hk : k = 4
  · have hkb : (k == 4) = true := by simpa using hk
    clear hk
    go_enter Try.func32, Try.ntmps32
    go_wp2_with fail
    refine (sum_any xs _ cg _ (hown.below gA) hx (by omega)).mono ?_
    rintro e w1 ⟨rfl, h1⟩
    have g1 := below1 h1
    clear h1
    go_wp2_with fail
    refine (rsum_any xs a2 c2 _ (hs.below g1) hx (by omega)).mono ?_
    rintro e w2 ⟨rfl, h2⟩
    have g2 := g1.trans (h2.mono g1.size)
    clear h2 g1
    go_wp2_with (go_at_call 10; refine (num_any _ _).mono ?_; rintro e w' ⟨rfl, rfl⟩)
    refine (kept_any xs g cg a2 c2 _ (ho.below g2) hc (hs.below g2) hl).mono ?_
    rintro e w3 ⟨rfl, h3⟩
    go_wp2_with fail
    go_ret
    exact ⟨rfl, g2.trans (h3.mono g2.size)⟩
  · have hkb : (k == 4) = false := by simpa using hk
    clear hk
    go_enter Try.func32, Try.ntmps32
    go_wp2_with fail
    refine (worst_any a xs _ cg _ h0 (hown.below gA) hx (by omega)).mono ?_
    rintro e w1 ⟨rfl, h1⟩
    have g1 := below1 h1
    have z1 := h1.size
    have cA : w1.cell? ⟨w.heap.size, 1, none⟩ = some (.int .i64 a) := (h1.cell (p := ⟨w.heap.size, 1, none⟩) (by simp)).trans (by simp [go_sem])
    simp at z1
    have z1' : w.heap.size < w1.heap.size := by omega
    clear h1 z1
    have B1 := Box.new w1 (.int .i64 (loW a xs)) (.int .i64 (hiW a xs)) 24
    have g1' := g1.alloc g1.size (.cells #[.int .i64 (loW a xs), .int .i64 (hiW a xs)] 24)
    go_wp2_with fail
    refine (rworst_any a xs a2 c2 _ h0 (hs.below g1') hx (by omega)).mono ?_
    rintro e w2 ⟨rfl, h2⟩
    have g2 := g1'.trans (h2.mono g1'.size)
    have B2 := B1.below h2
    clear h2 g1 g1' B1 cA z1'
    obtain ⟨z2, p0, p1, _, _⟩ := B2
    have g3 := g2.alloc g2.size (.cells #[.int .i64 (loW a xs), .int .i64 (hiW a xs)] 24)
    go_wp2_with (go_at_call 10; refine (num_any _ _).mono ?_; rintro e w' ⟨rfl, rfl⟩)
    refine (kept_any xs g cg a2 c2 _ (ho.below g3) hc (hs.below g3) hl).mono ?_
    rintro e w4 ⟨rfl, h4⟩
    go_wp2_with fail
    go_ret
    exact ⟨rfl, g3.trans (h4.mono g3.size)⟩
end Go.Proofs.Ytfoknkhbcnbdhaa
