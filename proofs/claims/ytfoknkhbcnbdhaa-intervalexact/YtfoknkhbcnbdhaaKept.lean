import Derived.Test.YtfoknkhbcnbdhaaRWorst
import Derived.Deep.QuietTactic
import Derived.BigQuiet
namespace Go.Proofs.Ytfoknkhbcnbdhaa
open Go.RowKit Quota

theorem Owns.form {w : World} {B : Nat} {v : Value} {xs : List Int} (h : Owns w B v xs) (hn : 0 < xs.length) : ∃ g cap, v = .slice (some ⟨g, 0, none⟩) xs.length cap ∧ xs.length ≤ cap ∧ B ≤ g ∧ g < w.heap.size := by
  rcases h.2 with ⟨_, e⟩ | ⟨g, cap, cur, e, hbg, hg, hle, _⟩
  · omega
  · exact ⟨g, cap, e, hle, hbg, (World.ownsRow.lt h g (by rw [e]; rfl)).2⟩

set_option maxHeartbeats 400000 in
theorem lent_any (xs : List Int) (a : Option Addr) (cap : Nat) (w : World) (hs : Seen w a xs) (ha : a = none → cap = 0) (hl : xs.length ≤ 50000) :
    Calls Try.prog 31 #[.slice a xs.length cap] w fun e w' => ∃ g c, e = .returned (.slice (some ⟨g, 0, none⟩) xs.length c) ∧ Owns w' w.heap.size (.slice (some ⟨g, 0, none⟩) (xs.length + 1) c) (xs ++ [5921370]) ∧ xs.length + 1 ≤ c ∧ g < w'.heap.size ∧ Below w.heap.size w w' := by
  go_enter Try.func31, Try.ntmps31
  go_wp2_with (at_builtin; refine append_own rfl (.const (.slice none 0 0)) (.tmp 3) rfl w.heap.size _ [] rfl (Owns.nil _ _) a xs.length cap xs rfl rfl hs ha ?c1 (Nat.le_refl _) ?_)
  case c1 => first | omega | (simp; omega)
  intro v1 w1 o1 r1
  have b1 : Below w.heap.size w w1 := grown_below (Owns.nil _ _) (Nat.le_refl _) r1
  have P1 : Hid (Owns w1 w.heap.size v1 xs) := by simpa [Hid] using o1
  have z1 := b1.size
  clear o1 r1
  go_wp2_with (at_builtin; refine push_own rfl (.tmp 4) (.tmp 5) rfl w.heap.size _ xs rfl ⟨w1.heap.size, 0, none⟩ 5921370 rfl (P1.out.alloc _) (by simp [go_sem]) ?d1 ?d2 ?_)
  case d1 => first | omega | (simp; omega)
  case d2 => first | omega | (simp; omega)
  intro v2 w2 o2 r2 _
  have b2 : Below w.heap.size w w2 := (b1.alloc z1 _).trans (grown_below (P1.out.alloc _) (by simp; omega) r2)
  obtain ⟨g, c, hv, hc, hg1, hg2⟩ := o2.form (by simp)
  rw [List.length_append, List.length_singleton] at hv hc
  subst hv
  have P2 : Hid (Owns w2 w.heap.size (.slice (some ⟨g, 0, none⟩) (xs.length + 1) c) (xs ++ [5921370])) := o2
  clear o2 r2 P1 b1 z1
  go_wp2_with fail
  go_ret
  exact ⟨g, c, rfl, P2.out, hc, hg2, b2⟩

set_option maxHeartbeats 400000 in
theorem kept_any (xs : List Int) (g c : Nat) (al : Option Addr) (cl : Nat) (w : World) (ho : Seen w (some ⟨g, 0, none⟩) (xs ++ [5921370])) (hc : xs.length + 1 ≤ c) (hs : Seen w al xs) (hl : xs.length ≤ 50000) :
    Calls Try.prog 39 #[.slice (some ⟨g, 0, none⟩) xs.length c, .slice al xs.length cl] w fun e w' => e = .returned (.bool true) ∧ Below w.heap.size w w' := by
  go_enter Try.func39, Try.ntmps39
  go_wp2_with fail
  go_loopw [6] (fun i wr => ∃ k : Nat, k ≤ xs.length ∧ i = .int .i64 k ∧ Below w.heap.size w wr) (fun i _ => xs.length - (intOf i).toNat)
  case atStart => exact ⟨0, Nat.zero_le _, rfl, Below.refl _ _⟩
  case round =>
    obtain ⟨k, hk, rfl, hb⟩ := hrel
    rcases ho.below hb with hn | ⟨g', off', e', hg, hcell⟩
    · simp at hn
    · cases e'
      by_cases hlt : k < xs.length
      · have hc1 := hcell k (by simp; omega)
        rw [List.getElem_append_left hlt] at hc1
        rw [Nat.zero_add] at hc1
        have hck : ∃ b off, al = some ⟨b, off, none⟩ ∧ wr.cell? ⟨b, off + k, none⟩ = some (.int .i64 xs[k]) := by
          rcases hs.below hb with hn | ⟨b, off, ea, hbl, hcell⟩
          · simp [hn] at hlt
          · exact ⟨b, off, ea, hcell k hlt⟩
        obtain ⟨b, off, rfl, hck⟩ := hck
        generalize xs[k] = x at *
        have hk1 : (k : Int) < (xs.length : Int) + 1 := by omega
        have hk2 : (k : Int) < (xs.length : Int) := by omega
        clear hcell
        go_wp2_with fail
        go_quiet (fail)
        go_wp2_with fail
        go_roundw
        case rel => exact ⟨k + 1, by omega, by go_num, below_drewN hb _⟩
        case measure => simp [intOf]; omega
      · obtain rfl : k = xs.length := by omega
        have hc1 := hcell xs.length (by simp)
        rw [Nat.zero_add, List.getElem_append_right (Nat.le_refl _)] at hc1
        simp at hc1
        clear hcell
        go_wp2_with fail
        go_ret
        exact ⟨rfl, hb⟩
end Go.Proofs.Ytfoknkhbcnbdhaa
