import Derived.Test.YthaiagalndcndaaPo5
import Derived.Test.YthaiagalndcndaaChk3
import Derived.Test.YthaiagalndcndaaRChk2
namespace Go.Proofs.Ythaiagalndcndaa
open Go.RowKit Go.QK Go.Maps Go.QM Go.QP
set_option maxRecDepth 100000
theorem foldl_first (d : Dr) (r : List Dr) : (d :: r).foldl low d.2 = fromL (d :: r) := by
  simp only [List.foldl_cons, fromL]
  congr 1
  unfold low
  omega
abbrev ptsV (lv : Value) (a : Option Addr) (n c : Nat) (next : Int) : Value := .agg #[lv, .slice a n c, .int .i64 next]
theorem takeL_succ {l : List Dr} {k : Nat} (hk : k < l.length) (m : Int) : (l.take (k + 1)).foldl low m = low ((l.take k).foldl low m) l[k] := by
  rw [List.take_succ_eq_append_getElem hk, List.foldl_append]
  rfl
set_option maxHeartbeats 1000000 in
theorem from_any (la : Option Addr) (ln lc : Nat) (a : Option Addr) (c : Nat) (l : List Dr) (next : Int) (w : World) (h : Lies w a (drs l)) (hn : l.length ≤ 1000000) :
    Calls Try.prog 11 #[ptsV (.slice la ln lc) a l.length c next] w fun e w' => e = .returned (.int .i64 (fromL l)) ∧ Below w.heap.size w w' := by
  cases l with
  | nil =>
    go_enter Try.func11, Try.ntmps11
    go_wp2
    go_ret
    exact ⟨rfl, alloc_below _ _⟩
  | cons d0 r =>
    obtain ⟨b, off, rfl, hb, c0, c1⟩ := h.dr (k := 0) (by simp)
    simp only [List.getElem_cons_zero, Nat.zero_mul, Nat.add_zero] at c0 c1
    have HF := hide (foldl_first d0 r)
    obtain ⟨F, hF⟩ : ∃ F, F = fromL (d0 :: r) := ⟨_, rfl⟩
    rw [← hF] at HF ⊢
    obtain ⟨l, hl⟩ : ∃ l, l = d0 :: r := ⟨_, rfl⟩
    rw [← hl] at HF h hn ⊢
    have hne : 0 < l.length := by rw [hl]; simp
    obtain ⟨p0, s0⟩ := d0
    simp only at c0 c1 HF
    have HL := hide h
    clear h hl hF c0
    go_enter Try.func11, Try.ntmps11
    go_wp2
    go_loopw [3, 18] (fun v i wr => ∃ k : Nat, i = .int .i64 (k : Int) ∧ k ≤ l.length ∧ v = .int .i64 ((l.take k).foldl low s0) ∧ Below w.heap.size w wr) (fun _ i _ => l.length - (intOf i).toNat)
    case atStart => exact ⟨0, rfl, Nat.zero_le _, rfl, alloc_below _ _⟩
    case round =>
      obtain ⟨k, rfl, hk, rfl, hb'⟩ := hrel
      have HB := hide hb'
      clear hb' c1
      by_cases hlt : k < l.length
      · obtain ⟨b2, off2, e2, hb2, d0, d1⟩ := (HL.out.below HB.out).dr hlt
        cases e2
        have HT := hide (takeL_succ hlt s0)
        generalize l[k] = d at *
        obtain ⟨p, s⟩ := d
        simp only at d0 d1
        obtain ⟨m, hm⟩ : ∃ m, m = (l.take k).foldl low s0 := ⟨_, rfl⟩
        rw [← hm] at HT ⊢
        clear hm
        by_cases hms : m ≤ s
        · have HM := hide (show low m (p, s) = m by unfold low; simp only; omega)
          go_wp2
          go_roundw
          case rel => exact ⟨k + 1, by go_num, by omega, by rw [HT.out, HM.out]; (first | done | rfl | rw [if_pos (by omega)]), HB.out.alloc HB.out.size _⟩
          case measure => simp [intOf]; omega
        · have HM := hide (show low m (p, s) = s by unfold low; simp only; omega)
          go_wp2
          go_roundw
          case rel => exact ⟨k + 1, by go_num, by omega, by rw [HT.out, HM.out]; (first | done | rfl | rw [if_pos (by omega)]), HB.out.alloc HB.out.size _⟩
          case measure => simp [intOf]; omega
      · obtain rfl : k = l.length := by omega
        have HE := hide (show (l.take l.length).foldl low s0 = F by rw [List.take_length]; exact HF.out)
        generalize (l.take l.length).foldl low s0 = m at *
        go_wp2
        go_ret
        exact ⟨ret_int HE.out, HB.out⟩
set_option maxHeartbeats 1000000 in
theorem rfrom_any (la : Option Addr) (ln lc : Nat) (a : Option Addr) (c : Nat) (l : List Dr) (next : Int) (w : World) (h : Lies w a (drs l)) (hn : l.length ≤ 1000000) :
    Calls Try.prog 16 #[ptsV (.slice la ln lc) a l.length c next] w fun e w' => e = .returned (.int .i64 (fromL l)) ∧ Below w.heap.size w w' := by
  cases l with
  | nil =>
    go_enter Try.func16, Try.ntmps16
    go_wp2
    go_ret
    exact ⟨rfl, alloc_below _ _⟩
  | cons d0 r =>
    obtain ⟨b, off, rfl, hb, c0, c1⟩ := h.dr (k := 0) (by simp)
    simp only [List.getElem_cons_zero, Nat.zero_mul, Nat.add_zero] at c0 c1
    have HF := hide (foldl_first d0 r)
    have HS := hide (show ((d0 :: r).take 1).foldl low d0.2 = d0.2 by simp [low])
    obtain ⟨F, hF⟩ : ∃ F, F = fromL (d0 :: r) := ⟨_, rfl⟩
    rw [← hF] at HF ⊢
    obtain ⟨l, hl⟩ : ∃ l, l = d0 :: r := ⟨_, rfl⟩
    rw [← hl] at HF HS h hn ⊢
    have hne : 0 < l.length := by rw [hl]; simp
    obtain ⟨p0, s0⟩ := d0
    simp only at c0 c1 HF HS
    have HL := hide h
    clear h hl hF c0
    go_enter Try.func16, Try.ntmps16
    go_wp2
    go_loopw [3, 4] (fun v i wr => ∃ k : Nat, i = .int .i64 (k : Int) ∧ k ≤ l.length ∧ v = .int .i64 ((l.take k).foldl low s0) ∧ w.alloc (.cells #[.slice la ln lc, .slice (some ⟨b, off, none⟩) l.length c, .int .i64 next] 32) = wr) (fun _ i _ => l.length - (intOf i).toNat)
    case atStart => exact ⟨1, rfl, hne, by rw [HS.out], rfl⟩
    case round =>
      obtain ⟨k, rfl, hk, rfl, rfl⟩ := hrel
      clear c1
      by_cases hlt : k < l.length
      · obtain ⟨b2, off2, e2, hb2, d0, d1⟩ := (HL.out.below (alloc_below w (.cells #[.slice la ln lc, .slice (some ⟨b, off, none⟩) l.length c, .int .i64 next] 32))).dr hlt
        cases e2
        have HT := hide (takeL_succ hlt s0)
        generalize l[k] = d at *
        obtain ⟨p, s⟩ := d
        simp only at d0 d1
        obtain ⟨m, hm⟩ : ∃ m, m = (l.take k).foldl low s0 := ⟨_, rfl⟩
        rw [← hm] at HT ⊢
        clear hm
        by_cases hms : s < m
        · have HM := hide (show low m (p, s) = s by unfold low; simp only; omega)
          go_wp2
          go_roundw
          case rel => exact ⟨k + 1, by go_num, by omega, by rw [HT.out, HM.out], (by first | rfl | trivial)⟩
          case measure => simp [intOf]; omega
        · have HM := hide (show low m (p, s) = m by unfold low; simp only; omega)
          go_wp2
          go_roundw
          case rel => exact ⟨k + 1, by go_num, by omega, by rw [HT.out, HM.out], (by first | rfl | trivial)⟩
          case measure => simp [intOf]; omega
      · obtain rfl : k = l.length := by omega
        have HE := hide (show (l.take l.length).foldl low s0 = F by rw [List.take_length]; exact HF.out)
        generalize (l.take l.length).foldl low s0 = m at *
        go_wp2
        go_ret
        exact ⟨ret_int HE.out, alloc_below _ _⟩
/-! A checkpoint's check. -/
def ptsR (live : List LiveM) (dirty : List DirtyM) (next : Int) : RecM := RecM.mk 0 8 0 0 0 0 0 0 0 0 0 0 0 0 live dirty next
set_option maxHeartbeats 1000000 in
theorem pcheck_any (live : List LiveM) (dirty : List DirtyM) (la da : Option Addr) (lc dc : Nat) (next : Int) (w : World) (hl : Lies w la (liveCs live)) (hd : Lies w da (dirtyCs dirty)) :
    Calls Try.prog 14 #[ptsV (.slice la live.length lc) da dirty.length dc next] w fun e w' => e = .returned (.int .i64 (chkE (ptsR live dirty next) : Nat)) ∧ Below w.heap.size w w' := by
  have K := check_any (ptsR live dirty next) la da lc dc (w.alloc (.cells #[.slice la live.length lc, .slice da dirty.length dc, .int .i64 next] 32)) (hl.below (alloc_below _ _)) (hd.below (alloc_below _ _))
  generalize chkE (ptsR live dirty next) = E at *
  simp only [recC, ptsR] at K
  generalize live.length = n1 at *
  generalize dirty.length = n2 at *
  clear hl hd
  go_enter Try.func14, Try.ntmps14
  go_wp2_with fail
  refine K.mono ?_
  rintro e w1 ⟨rfl, b1⟩
  have B1 := hide (bnext (alloc_below w (.cells #[.slice la n1 lc, .slice da n2 dc, .int .i64 next] 32)) b1 (Nat.le_refl _))
  clear b1 K
  go_wp2_with fail
  go_ret
  exact ⟨rfl, B1.out⟩
set_option maxHeartbeats 1000000 in
theorem rpcheck_any (live : List LiveM) (dirty : List DirtyM) (la da : Option Addr) (lc dc : Nat) (next : Int) (w : World) (hl : Lies w la (liveCs live)) (hd : Lies w da (dirtyCs dirty)) :
    Calls Try.prog 15 #[ptsV (.slice la live.length lc) da dirty.length dc next] w fun e w' => e = .returned (.int .i64 (chkE (ptsR live dirty next) : Nat)) ∧ Below w.heap.size w w' := by
  have K := rCheck8_any 0 0 0 0 0 0 0 0 0 0 0 0 0 next live dirty la da lc dc (w.alloc (.cells #[.slice la live.length lc, .slice da dirty.length dc, .int .i64 next] 32)) (hl.below (alloc_below _ _)) (hd.below (alloc_below _ _))
  show Calls Try.prog 15 _ w fun e w' => e = .returned (.int .i64 (chkE (RecM.mk 0 8 0 0 0 0 0 0 0 0 0 0 0 0 live dirty next) : Nat)) ∧ Below w.heap.size w w'
  generalize chkE (RecM.mk 0 8 0 0 0 0 0 0 0 0 0 0 0 0 live dirty next) = E at *
  generalize live.length = n1 at *
  generalize dirty.length = n2 at *
  clear hl hd
  go_enter Try.func15, Try.ntmps15
  go_wp2_with fail
  refine K.mono ?_
  rintro e w1 ⟨rfl, b1⟩
  have B1 := hide (bnext (alloc_below w (.cells #[.slice la n1 lc, .slice da n2 dc, .int .i64 next] 32)) b1 (Nat.le_refl _))
  clear b1 K
  go_wp2_with fail
  go_ret
  exact ⟨rfl, B1.out⟩
set_option maxHeartbeats 1000000 in
theorem takeNil_any (w : World) : Calls Try.prog 22 #[.pointer none, .pointer none] w fun e w' => e = .returned (.tuple #[ptsV (.slice none 0 0) none 0 0 0, .int .i64 3]) ∧ Below w.heap.size w w' := by
  go_enter Try.func22, Try.ntmps22
  go_wp2
  exact bodyPost_ret (v := .tuple #[ptsV (.slice none 0 0) none 0 0 0, .int .i64 3]) (by simp [results, Try.results22, go_sem]) rfl ⟨rfl, by
    repeat (first | exact Below.refl _ _ | refine Below.alloc ?_ (by simp <;> omega) _ | refine Below.setCell ?_ (by simp <;> omega) _)⟩
end Go.Proofs.Ythaiagalndcndaa
