import Derived.Test.YtlloppalagddnaaBox
namespace Go.Proofs.Ytlloppalagddnaa
open Go.RowKit Quota

set_option maxHeartbeats 400000 in
theorem sum_any (xs : List Int) (a : Option Addr) (cap : Nat) (w : World) (hs : Seen w a xs) (hx : All xs) (hl : xs.length ≤ 17592186044416) :
    Calls Try.prog 55 #[.slice a xs.length cap] w fun e w' => e = .returned (.tuple #[.int .i64 (fitV (isum xs)), .int .i64 (fitE (isum xs))]) ∧ Below w.heap.size w w' := by
  have z0 : I64 0 := by unfold I64; omega
  have kk := isum_128 xs hx hl
  go_enter Try.func55, Try.ntmps55
  go_wp2_with fail
  refine (widen_any 0 _ z0).mono ?_
  rintro e w1 ⟨rfl, h1⟩
  go_wp2_with fail
  go_loopw [10, 6] (fun i n wr => ∃ k : Nat, k ≤ xs.length ∧ i = .int .i64 k ∧ Below w.heap.size w wr ∧ Box wr w1.heap.size (.int .u64 (hiOf (isum (xs.take k)))) (.int .u64 (loOf (isum (xs.take k))))) (fun i _ _ => xs.length - (intOf i).toNat)
  case atStart =>
    exact ⟨0, Nat.zero_le _, rfl, h1.alloc h1.size _, Box.new _ _ _ _⟩
  case round =>
    obtain ⟨k, hk, rfl, hb, hbox⟩ := hrel
    have HX : Hid _ := hbox
    obtain ⟨hz, c0, c1, f0, f1⟩ := hbox
    by_cases hlt : k < xs.length
    · have HS : Hid _ := isum_take xs k hlt
      have hi := all_get hx k hlt
      rcases hs.below hb with hn | ⟨b, off, rfl, hbl, hcell⟩
      · simp [hn] at hlt
      · have hck := hcell k hlt
        generalize xs[k] = x at *
        generalize hg : isum (xs.take k) = s at *
        have HG : Hid _ := hg
        clear hg hcell
        go_wp2_with fail
        refine (plus_any s x _ hi).mono ?_
        rintro e w2 ⟨rfl, h2⟩
        have hbox2 := Box.below HX.out h2
        have HX2 : Hid _ := hbox2
        obtain ⟨hz, c0, c1, f0, f1⟩ := hbox2
        go_wp2_with fail
        go_roundw
        case rel =>
          refine ⟨k + 1, by omega, by go_num, ?_, ?_⟩
          · exact (((hb.trans (h2.mono hb.size)).setCell h1.size _).setCell h1.size _)
          · rw [HS.out]; exact Box.set HX2.out _ _
        case measure => simp [intOf]; omega
    · have hek : k = xs.length := by omega
      subst hek
      rw [List.take_length] at c0 c1
      go_wp2_with fail
      refine (narrow_any (isum xs) _ kk).mono ?_
      rintro e w2 ⟨rfl, h2⟩
      go_wp2_with fail
      go_ret2
      exact ⟨rfl, hb.trans (h2.mono hb.size)⟩
end Go.Proofs.Ytlloppalagddnaa
