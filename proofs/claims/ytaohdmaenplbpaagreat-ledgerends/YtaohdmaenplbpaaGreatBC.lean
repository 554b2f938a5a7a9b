import Derived.Test.YtaohdmaenplbpaaGreatLdF
set_option linter.all false
namespace Go.Proofs.YtaohdmaenplbpaaGreat
open Go.RowKit Go.QK Quota Go.Maps Go.QM
set_option maxRecDepth 100000

/-- A transaction that has ended. -/
def Led.ended (one : Esc → Int → Esc) (l : Led) (tx : Int) : Led := { endK one tx l (idsOf l.helds tx) with D := delM l.D tx }
theorem ended_ctrs {lab : Nat → Nat} {B : Nat} {w : World} {l : Led} (h : PL lab B w l) (one : Esc → Int → Esc) (tx : Int) (h1 : ∀ e, holdB e.nets tx = false → one e tx = e) : (l.ended one tx).ctrs = endL one l.ctrs tx := by
  show (endK one tx l (idsOf l.helds tx)).ctrs = _
  rw [endK_ctrs]
  exact endIds_all one tx h1 h.ok.up (h.hok.nodup tx) (fun p hp hh => (h.hok.iff tx p.1).2 ⟨p.2, getM_of_mem h.ok.up hp, hh⟩)
theorem ended_helds (one : Esc → Int → Esc) (l : Led) (tx : Int) : (l.ended one tx).helds = delM l.helds tx := delM_map (fun (x : Value × List Int) => x.2) l.D tx
set_option maxHeartbeats 2000000 in
theorem settleL_any (lab : Nat → Nat) (B : Nat) (l : Led) (tx : Int) (w : World) (h : PL lab B w l) (hx : I64 tx) :
    Calls Tryz.prog 42 #[ptr l.lb, .int .i64 tx] w fun r w' => r = .returned (.int .i64 ((idsOf l.helds tx).length : Int)) ∧ PL lab B w' (l.ended setN tx) ∧ Keep (fun z => endS l z ∨ z = l.mh) w w' := by
  have K := end_settle lab B l tx w h hx
  unfold Led.ended
  generalize ((idsOf l.helds tx).length : Int) = n at *
  clear h
  go_enter Tryz.func42, Tryz.ntmps42
  go_wp2_with fail
  refine K.mono ?_
  rintro r w1 ⟨rfl, h1, h2⟩
  have H1 := hide h1
  have H2 := hide h2
  clear h1 h2 K
  go_wp2_with fail
  go_ret
  exact ⟨rfl, H1.out, H2.out⟩
set_option maxHeartbeats 2000000 in
theorem releaseL_any (lab : Nat → Nat) (B : Nat) (l : Led) (tx : Int) (w : World) (h : PL lab B w l) (hx : I64 tx) :
    Calls Tryz.prog 35 #[ptr l.lb, .int .i64 tx] w fun r w' => r = .returned (.int .i64 ((idsOf l.helds tx).length : Int)) ∧ PL lab B w' (l.ended relN tx) ∧ Keep (fun z => endS l z ∨ z = l.mh) w w' := by
  have K := end_release lab B l tx w h hx
  unfold Led.ended
  generalize ((idsOf l.helds tx).length : Int) = n at *
  clear h
  go_enter Tryz.func35, Tryz.ntmps35
  go_wp2_with fail
  refine K.mono ?_
  rintro r w1 ⟨rfl, h1, h2⟩
  have H1 := hide h1
  have H2 := hide h2
  clear h1 h2 K
  go_wp2_with fail
  go_ret
  exact ⟨rfl, H1.out, H2.out⟩
end Go.Proofs.YtaohdmaenplbpaaGreat

set_option linter.all false
namespace Go.Proofs.YtaohdmaenplbpaaGreat
open Go.RowKit Go.QK Quota Go.Maps Go.QM
set_option maxRecDepth 100000

theorem nilEqI (a : Option Addr) (l c : Nat) (w : World) : (binOp .eql 117 (.slice a l c) (.slice none 0 0)).run Tryz.prog w = .ok (.bool a.isNone) w := by
  cases a <;> rfl
set_option maxHeartbeats 2000000 in
theorem cloneI_any (a : Option Addr) (xs : List Int) (cap : Nat) (w : World) (hs : Go.QK.Seen .i64 w a xs) (hc : xs.length ≤ cap) (ha : a = none → cap = 0) (hl : xs.length ≤ 2000000) :
    Calls Tryz.prog 54 #[.slice a xs.length cap] w fun r w' => ∃ v, r = .returned v ∧ Owns .i64 3 w' w.heap.size v xs ∧ (a.isSome = v.ownBlock.isSome) ∧ Below w.heap.size w w' := by
  cases a with
  | none =>
    have h0 := ha rfl
    have hl0 : xs = [] := List.eq_nil_of_length_eq_zero (by omega)
    subst hl0 h0
    have E := fun w => nilEqI none 0 0 w
    simp only [Option.isNone_none] at E
    go_enter Tryz.func54, Tryz.ntmps54
    go_wp2_with fail
    go_ret
    exact ⟨_, rfl, Owns.nil _ _ _ _, rfl, Below.refl _ _⟩
  | some ad =>
    have E := fun w => nilEqI (some ad) xs.length cap w
    simp only [Option.isNone_some] at E
    have H0 : Owns .i64 3 (w.alloc (.cells #[] 3)) w.heap.size (.slice (some ⟨w.heap.size, 0, none⟩) 0 0) [] := by
      have := World.ownsRow_lit (base := w.heap.size) (e := 3) (size := 1) w #[] 0 (Nat.le_refl _) (by unfold maxLen; omega) rfl
      simpa [Owns] using this
    have HO := hide H0
    have HS := hide (Go.QK.Seen.below hs ((Below.refl w.heap.size w).alloc (Nat.le_refl _) (.cells #[] 3)))
    clear H0 hs
    go_enter Tryz.func54, Tryz.ntmps54
    go_wp2_with (at_builtin; refine append_own Tryz.underlying117 info3 rfl (.tmp 5) (.tmp 6) rfl w.heap.size _ [] rfl HO.out (some ad) xs.length cap xs rfl rfl HS.out nofun ?c1 ?c2 ?c3 ?_)
    case c1 => unfold maxLen; simp; omega
    case c2 => simp; omega
    case c3 => simp
    intro v' w1 hown hg hb
    have R1 := hide (((Below.refl w.heap.size w).alloc (Nat.le_refl _) (.cells #[] 3)).grown hg (by simp) (fun j hj => (World.ownsRow.lt HO.out j hj).1))
    have HO1 := hide (show Owns .i64 3 w1 w.heap.size v' xs from hown)
    have HB := hide (show v'.ownBlock.isSome = true from by rcases hb with q | q <;> rw [q] <;> rfl)
    clear hown hg HO HS hb
    go_wp2_with fail
    go_ret
    exact ⟨_, rfl, HO1.out, HB.out.symm, R1.out⟩
end Go.Proofs.YtaohdmaenplbpaaGreat

set_option linter.all false
namespace Go.Proofs.YtaohdmaenplbpaaGreat
open Go.RowKit Go.QK Quota Go.Maps Go.QM
set_option maxRecDepth 100000

set_option maxHeartbeats 1000000 in
theorem ins_nil (w : World) : Calls Tryz.prog 121 #[.slice none 0 0, .int .i64 0, .int .i64 0] w fun r w' => r = .returned (.tuple #[]) ∧ w' = w := by
  go_enter Tryz.func121, Tryz.ntmps121
  go_wp2_with fail
  go_loopw [6] (fun v wr => v = .int .i64 1 ∧ wr = w) (fun _ _ => 0)
  case atStart => exact ⟨rfl, rfl⟩
  case round =>
    obtain ⟨rfl, rfl⟩ := hrel
    go_wp2_with fail
    go_end0
    exact ⟨rfl, rfl⟩
set_option maxHeartbeats 1000000 in
theorem len64_nil (w : World) : Calls Tryz.prog 120 #[.int .u64 0] w fun r w' => r = .returned (.int .i64 0) ∧ w' = w := by
  go_enter Tryz.func120, Tryz.ntmps120
  go_wp2_with fail
  go_ret
  refine ⟨?_, rfl⟩
  show Ending.returned (Value.int .i64 (wrap64 (wrap64 (Lib.len8 0)))) = _
  rw [show wrap64 (wrap64 (Lib.len8 0)) = 0 by kernel_rfl]
set_option maxHeartbeats 1000000 in
theorem bitslen_nil (w : World) : Calls Tryz.prog 90 #[.int .u64 0] w fun r w' => r = .returned (.int .i64 0) ∧ w' = w := by
  have K := len64_nil w
  go_enter Tryz.func90, Tryz.ntmps90
  go_wp2_with fail
  refine K.mono ?_
  rintro r w1 ⟨rfl, rfl⟩
  clear K
  go_wp2_with fail
  go_ret
  exact ⟨rfl, rfl⟩
set_option maxHeartbeats 2000000 in
theorem pdq_nil (w : World) : Calls Tryz.prog 91 #[.slice none 0 0, .int .i64 0, .int .i64 0, .int .i64 0] w fun r w' => r = .returned (.tuple #[]) ∧ w' = w := by
  have K := ins_nil w
  go_enter Tryz.func91, Tryz.ntmps91
  go_wp2_with fail
  go_loopw [1, 2, 3, 8, 9] (fun a b c d e wr => a = .int .i64 0 ∧ b = .int .i64 0 ∧ c = .int .i64 0 ∧ wr = w) (fun _ _ _ _ _ _ => 0)
  case atStart => exact ⟨rfl, rfl, rfl, rfl⟩
  case round =>
    obtain ⟨rfl, rfl, rfl, rfl⟩ := hrel
    go_wp2_with fail
    refine K.mono ?_
    rintro r w1 ⟨rfl, rfl⟩
    clear K
    go_wp2_with fail
    refine bodyPost_ret (v := .tuple #[]) (by simp [results, Tryz.results91, go_sem]) rfl ⟨rfl, rfl⟩
set_option maxHeartbeats 1000000 in
theorem sort_nil (w : World) : Calls Tryz.prog 55 #[.slice none 0 0] w fun r w' => r = .returned (.tuple #[]) ∧ w' = w := by
  have K1 := bitslen_nil w
  have K2 := pdq_nil w
  go_enter Tryz.func55, Tryz.ntmps55
  go_wp2_with fail
  refine K1.mono ?_
  rintro r w1 ⟨rfl, rfl⟩
  clear K1
  go_wp2_with fail
  refine K2.mono ?_
  rintro r w1 ⟨rfl, rfl⟩
  clear K2
  go_wp2_with fail
  go_end0
  exact ⟨rfl, rfl⟩
end Go.Proofs.YtaohdmaenplbpaaGreat
