import Derived.Test.YtpddmimacjknfaaTw7
namespace Go.Proofs.Ytpddmimacjknfaa
open Go.RowKit Go.QK
set_option maxRecDepth 100000

/-! The law's own helpers. -/
def pgAt (f j : Nat) : Nat := (f + j / 512 * 7 + j / 100) % 256
def fillP (f : Nat) : Nat → List Nat
  | 0 => List.replicate 1024 0
  | j + 1 => (fillP f j).set j (pgAt f j)
def pageB (f : Nat) : List Nat := fillP f 1024
theorem fillP_length (f : Nat) : (j : Nat) → (fillP f j).length = 1024
  | 0 => by show (List.replicate 1024 0).length = 1024; rw [List.length_replicate]
  | j + 1 => by unfold fillP; rw [List.length_set, fillP_length f j]
theorem fillP_allB (f : Nat) : (j : Nat) → AllB (fillP f j)
  | 0 => by intro x hx; have : x = 0 := List.eq_of_mem_replicate hx; omega
  | j + 1 => by unfold fillP; exact (fillP_allB f j).set _ _ (by unfold pgAt; omega)
theorem pageB_length (f : Nat) : (pageB f).length = 1024 := fillP_length f _
theorem pageB_allB (f : Nat) : AllB (pageB f) := fillP_allB f _
theorem quo100 (p : Nat) : (p : Int).tdiv 100 = ((p / 100 : Nat) : Int) := by rw [Int.tdiv_eq_ediv_of_nonneg (by omega)]; omega
set_option maxHeartbeats 4000000 in
theorem page_any (f : Nat) (w : World) : Calls Try.prog 9 #[.int .u8 (f : Int)] w fun e w' => ∃ gb, e = .returned (.slice (some ⟨gb, 0, none⟩) 1024 1024) ∧ w.heap.size ≤ gb ∧ OwnB w' w.heap.size (.slice (some ⟨gb, 0, none⟩) 1024 1024) (pageB f) ∧ Below w.heap.size w w' := by
  obtain ⟨w1, R1, O1, B1, Z1⟩ := makeB w 1024 (by omega)
  obtain ⟨P, hP⟩ : ∃ P, P = w.heap.size := ⟨_, rfl⟩
  rw [← hP] at R1 O1
  have R2 : (Instr.makeSlice 22 (.int .i64 1024) (.int .i64 1024)).run Try.prog w = .ok (.slice (some ⟨P, 0, none⟩) 1024 1024) w1 := R1
  have HP := hide hP
  have HO1 := hide (show OwnB w1 P (.slice (some ⟨P, 0, none⟩) 1024 1024) (fillP f 0) from O1)
  have HB1 := hide B1
  have hz : P < w1.heap.size := by omega
  clear O1 B1 hP R1
  go_enter Try.func9, Try.ntmps9
  go_wp2_with fail
  go_loopw [4] (fun i wr => ∃ j : Nat, i = .int .i64 (j : Int) ∧ j ≤ 1024 ∧ OwnB wr P (.slice (some ⟨P, 0, none⟩) 1024 1024) (fillP f j) ∧ Keep (fun b => b = P) w1 wr) (fun i _ => (1025 - (intOf i).toNat))
  case atStart => exact ⟨0, rfl, Nat.zero_le _, HO1.out, Keep.refl _ _⟩
  case round =>
    obtain ⟨j, rfl, hj, ho, hk⟩ := hrel
    have HO := hide ho
    have HK := hide hk
    have hzr := hk.size
    have hfl := fillP_length f j
    clear ho hk HO1
    by_cases hlt : j < 1024
    · have hdd : decide ((j : Int) < 1024) = true := by simp; omega
      have hcell := (Owns.seen_at HO.out)
      obtain ⟨b0, o0, e0, _, hc0⟩ := Bytes.at hcell (i := j) (by omega)
      cases e0
      rw [Nat.zero_add] at hc0
      have hfr := Owns.frozen HO.out j
      have q5 := quo512 j
      have q1 := quo100 j
      clear hcell
      go_wp2_with fail
      go_roundw
      case rel =>
        have ev : ((f : Int) + (j : Int) / 512 * 7 + (j : Int) / 100) % 256 = ((pgAt f j : Nat) : Int) := by unfold pgAt; omega
        rw [ev]
        refine ⟨j + 1, by go_num, by omega, ?_, HK.out.setCell (fun _ => rfl) _⟩
        have q := Owns.stored HO.out j ((pgAt f j : Nat) : Int)
        rw [← ints_set'] at q
        exact q
      case measure => simp [intOf]; omega
    · have hdd : decide ((j : Int) < 1024) = false := by simp; omega
      obtain rfl : j = 1024 := by omega
      have O5 := hide (show OwnB wr w.heap.size (.slice (some ⟨P, 0, none⟩) 1024 1024) (pageB f) by rw [← HP.out]; exact HO.out)
      have B5 := hide (HB1.out.trans (HK.out.below (by omega) (fun k hk q => by have := HP.out; omega)))
      clear HO HK HB1 hfl
      go_wp2_with fail
      go_ret
      exact ⟨P, rfl, by rw [HP.out]; omega, O5.out, B5.out⟩

/-- told: an error that is the call's own. -/
theorem told_yes (call : ByteArray) (e : Nat) (b : Nat) (w : World) (c : Cells w b [.string call, .int .i64 0, .iface 40 (.int .i64 (e : Int))]) (h0 : e ≠ 0) :
    Calls Try.prog 17 #[.iface 84 (.pointer (some ⟨b, 0, none⟩)), .string call, .int .i64 (e : Int)] w fun x w' => x = .returned (.bool true) ∧ w' = w := by
  obtain ⟨k0, _⟩ := c.get 0 _ rfl
  obtain ⟨k1, _⟩ := c.get 1 _ rfl
  obtain ⟨k2, _⟩ := c.get 2 _ rfl
  have he : ((e : Int) == 0) = false := by simpa using h0
  have T1 : ∀ w, (Instr.typeAssert (.iface 84 (.pointer (some ⟨b, 0, none⟩))) 32 84 true).run Try.prog w = .ok (.tuple #[.pointer (some ⟨b, 0, none⟩), .bool true]) w := by
    intro w
    unfold Instr.typeAssert
    simp [run_underlying Try.underlying84]
  have T2 : ∀ w, (Instr.typeAssert (.iface 40 (.int .i64 (e : Int))) 32 40 true).run Try.prog w = .ok (.tuple #[.int .i64 (e : Int), .bool true]) w := by
    intro w
    unfold Instr.typeAssert
    simp [run_underlying Try.underlying40]
  clear c h0
  go_enter Try.func17, Try.ntmps17
  go_wp2_with fail
  go_ret
  exact ⟨by simp, rfl⟩
theorem rem12 (x : Int) : (x.tmod 12 + 12).tmod 12 = ((bring x 12 : Nat) : Int) ∧ -12 < x.tmod 12 ∧ x.tmod 12 < 12 := by
  have h : x.tmod 12 = if 0 ≤ x ∨ (12 : Int) ∣ x then x % 12 else x % 12 - 12 := by rw [Int.tmod_eq_emod]; split <;> simp
  have h2 : -12 < x.tmod 12 ∧ x.tmod 12 < 12 := by split at h <;> omega
  refine ⟨?_, h2⟩
  rw [Int.tmod_eq_emod_of_nonneg (by omega)]
  unfold bring
  split at h <;> omega
theorem rem4 (x : Int) : (x.tmod 4 + 4).tmod 4 = ((bring x 4 : Nat) : Int) ∧ -4 < x.tmod 4 ∧ x.tmod 4 < 4 := by
  have h : x.tmod 4 = if 0 ≤ x ∨ (4 : Int) ∣ x then x % 4 else x % 4 - 4 := by rw [Int.tmod_eq_emod]; split <;> simp
  have h2 : -4 < x.tmod 4 ∧ x.tmod 4 < 4 := by split at h <;> omega
  refine ⟨?_, h2⟩
  rw [Int.tmod_eq_emod_of_nonneg (by omega)]
  unfold bring
  split at h <;> omega
theorem homeOf_any (k : Int) (w : World) : Calls Try.prog 10 #[.int .i64 k] w fun x w' => x = .returned (.int .i64 ((5 + 2 * bring k 4 : Nat) : Int)) ∧ w' = w := by
  obtain ⟨h1, h2, h3⟩ := rem4 k
  have hb := bring_lt k 4 (by omega)
  go_enter Try.func10, Try.ntmps10
  go_wp2_with fail
  go_ret
  exact ⟨by simp, rfl⟩
theorem step_any (s tn off : Int) (a : Option Addr) (n c : Nat) (w : World) : Calls Try.prog 14 #[.agg #[.int .i64 s, .slice a n c, .int .i64 tn, .int .i64 off]] w fun x w' => x = .returned (.int .i64 ((bring s 12 : Nat) : Int)) ∧ Below w.heap.size w w' := by
  obtain ⟨h1, h2, h3⟩ := rem12 s
  have hb := bring_lt s 12 (by omega)
  go_enter Try.func14, Try.ntmps14
  go_wp2_with fail
  go_ret
  exact ⟨by simp, alloc_below _ _⟩
end Go.Proofs.Ytpddmimacjknfaa
