import Derived.Test.YtfoknkhbcnbdhaaPlays2
import Derived.Test.YtfoknkhbcnbdhaaPlays3
namespace Go.Proofs.Ytfoknkhbcnbdhaa
open Go.RowKit Quota

theorem plays_any (k a b : Int) (xs : List Int) (al : Option Addr) (c : Nat) (r0 r1 s0 s1 : Int) (w : World) (ha : I64 a) (hb : I64 b) (hs : Seen w al xs) (hn : al = none → c = 0) (hx : All xs) (hl : xs.length ≤ 2000) :
    Calls Try.prog 22 #[.agg (opC k a b al xs.length c r0 r1 s0 s1)] w fun e w' => e = .returned (.bool true) ∧ Below w.heap.size w w' := by
  by_cases h0 : k < 1 ∨ 8 < k
  · exact plays_none k a b al _ c r0 r1 s0 s1 w h0
  · have : k = 1 ∨ k = 2 ∨ k = 3 ∨ k = 4 ∨ k = 5 ∨ k = 6 ∨ k = 7 ∨ k = 8 := by omega
    rcases this with rfl | rfl | rfl | rfl | rfl | rfl | rfl | rfl
    · exact plays_1 a b al _ c r0 r1 s0 s1 w ha hb
    · exact plays_2 a b al _ c r0 r1 s0 s1 w ha hb
    · exact plays_3 a b al _ c r0 r1 s0 s1 w ha
    · exact plays_4 a b xs al c r0 r1 s0 s1 w ha hs hn hx hl
    · exact plays_5 a b xs al c r0 r1 s0 s1 w ha hs hn hx hl
    · exact plays_6 a b al _ c r0 r1 s0 s1 w
    · exact plays_7 a b al _ c r0 r1 s0 s1 w
    · exact plays_8 a b al _ c r0 r1 s0 s1 w

/-- A call of a script lies at block b from off on. -/
def OpAt (w : World) (b off : Nat) : Prop :=
  ∃ (k a p : Int) (xs : List Int) (al : Option Addr) (c : Nat) (r0 r1 s0 s1 : Int),
    w.cell? ⟨b, off, none⟩ = some (.int .i64 k) ∧ w.cell? ⟨b, off + 1, none⟩ = some (.int .i64 a) ∧ w.cell? ⟨b, off + 2, none⟩ = some (.int .i64 p) ∧ w.cell? ⟨b, off + 3, none⟩ = some (.slice al xs.length c) ∧
    w.cell? ⟨b, off + 4, none⟩ = some (.int .i64 r0) ∧ w.cell? ⟨b, off + 5, none⟩ = some (.int .i64 r1) ∧ w.cell? ⟨b, off + 6, none⟩ = some (.int .i64 s0) ∧ w.cell? ⟨b, off + 7, none⟩ = some (.int .i64 s1) ∧
    I64 a ∧ I64 p ∧ Seen w al xs ∧ All xs ∧ (al = none → c = 0) ∧ xs.length ≤ c ∧ c ≤ maxLen

theorem OpAt.below {w w' : World} {b off : Nat} (h : OpAt w b off) (hlt : b < w.heap.size) (hb : Below w.heap.size w w') : OpAt w' b off := by
  obtain ⟨k, a, p, xs, al, c, r0, r1, s0, s1, h0, h1, h2, h3, h4, h5, h6, h7, ha, hp, hs, rest⟩ := h
  exact ⟨k, a, p, xs, al, c, r0, r1, s0, s1, (hb.cell (p := ⟨b, off, none⟩) hlt).trans h0, (hb.cell (p := ⟨b, off + 1, none⟩) hlt).trans h1, (hb.cell (p := ⟨b, off + 2, none⟩) hlt).trans h2, (hb.cell (p := ⟨b, off + 3, none⟩) hlt).trans h3,
    (hb.cell (p := ⟨b, off + 4, none⟩) hlt).trans h4, (hb.cell (p := ⟨b, off + 5, none⟩) hlt).trans h5, (hb.cell (p := ⟨b, off + 6, none⟩) hlt).trans h6, (hb.cell (p := ⟨b, off + 7, none⟩) hlt).trans h7, ha, hp, hs.below hb, rest⟩

set_option maxHeartbeats 1000000 in
set_option maxRecDepth 100000 in
theorem exact_walk (a : Option Addr) (n cap : Nat) (w : World) (hnc : n ≤ maxLen) (hop : ∀ i, i < n → ∃ b off, a = some ⟨b, off, none⟩ ∧ b < w.heap.size ∧ OpAt w b (off + i * 8)) :
    Calls Try.prog 8 #[.slice a n cap] w fun e w' => e = .returned (.bool true) ∧ Below w.heap.size w w' := by
  unfold maxLen at hnc
  have HOP : Hid (∀ i, i < n → ∃ b off, a = some ⟨b, off, none⟩ ∧ b < w.heap.size ∧ OpAt w b (off + i * 8)) := hop
  clear hop
  go_enter Try.func8, Try.ntmps8
  go_wp2_with fail
  refine (awake_any _).mono ?_
  rintro e w1 ⟨rfl, h1⟩
  go_wp2_with fail
  go_loopw [3] (fun i wr => ∃ k : Nat, k ≤ 200 ∧ k ≤ n ∧ i = .int .i64 k ∧ Below w.heap.size w wr) (fun i _ => 200 - (intOf i).toNat)
  case atStart => exact ⟨0, by omega, by omega, rfl, h1⟩
  case round =>
    obtain ⟨k, hk, hkn, rfl, hb⟩ := hrel
    by_cases hlt : k < n
    · have d1 : decide ((k : Int) < (n : Int)) = true := by simp; omega
      by_cases h2 : k < 200
      · have d2 : decide ((k : Int) < 200) = true := by simp; omega
        obtain ⟨b, off, rfl, hbl, hopk⟩ := HOP.out k hlt
        have hop' := hopk.below hbl hb
        obtain ⟨kk, aa, pp, xs, al, c, r0, r1, s0, s1, q0, q1, q2, q3, q4, q5, q6, q7, ha, hp, hs, hx, hn, hc, hm⟩ := hop'
        clear hopk
        have hbr : b < wr.heap.size := Nat.lt_of_lt_of_le hbl hb.size
        go_wp2_with fail
        refine (cut_at al xs.length c 2000 2000 _ rfl hc (fun h => by have := hn h; omega) hm (by omega)).mono ?_
        rintro e w' ⟨rfl, rfl⟩
        obtain ⟨ys, hys⟩ : ∃ ys, ys = xs.take 2000 := ⟨_, rfl⟩
        rw [show min xs.length 2000 = ys.length by rw [hys]; simp; omega]
        have ls : Seen wr al ys := by rw [hys]; exact hs.take _
        have lx : All ys := by rw [hys]; exact all_take hx _
        have ll : ys.length ≤ 2000 := by rw [hys]; simp; omega
        have gb := (Below.refl wr.heap.size wr).alloc (Nat.le_refl _) (.cells (opC kk aa pp al ys.length c r0 r1 s0 s1) 48)
        have ls' := ls.below gb
        clear hys hs hx hc hm q0 q1 q2 q3 q4 q5 q6 q7 ls
        go_wp2_with fail
        refine (plays_any kk aa pp ys al c r0 r1 s0 s1 _ ha hp ls' hn lx ll).mono ?_
        rintro e w3 ⟨rfl, h3⟩
        have b3 := below1 h3
        have g3 := hb.trans (b3.mono hb.size)
        clear h3 b3 gb ls' lx
        go_wp2_with fail
        go_roundw
        case rel => exact ⟨k + 1, by omega, by omega, by go_num, g3⟩
        case measure => simp [intOf]; omega
      · obtain rfl : k = 200 := by omega
        go_wp2_with fail
        refine (awake_any _).mono ?_
        rintro e w3 ⟨rfl, h3⟩
        go_wp2_with fail
        go_ret
        exact ⟨rfl, hb.trans (h3.mono hb.size)⟩
    · obtain rfl : k = n := by omega
      go_wp2_with fail
      refine (awake_any _).mono ?_
      rintro e w3 ⟨rfl, h3⟩
      go_wp2_with fail
      go_ret
      exact ⟨rfl, hb.trans (h3.mono hb.size)⟩
end Go.Proofs.Ytfoknkhbcnbdhaa
