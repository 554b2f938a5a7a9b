import Derived.Test.YtcnlcmdppkdmmaaEc18
namespace Go.Proofs.Ytcnlcmdppkdmmaa
open Go.RowKit Go.QK Quota Go.Maps
set_option maxRecDepth 100000

/-! The document's escrow in memory. -/
def refC (e : Esc) (a : Option Addr) (c : Nat) : List Value := [.int .i64 e.lo, .int .i64 e.hi, .int .i64 e.base, .slice a e.nets.length c]
structure RE (w : World) (b : Nat) (e : Esc) (a : Option Addr) (c : Nat) : Prop where
  cells : Cells w b (refC e a c)
  row : Lies w a (rowsC netC e.nets)
  apart : ∀ ad, a = some ad → ad.block ≠ b
  ok : e.Ok
theorem RE.keep {S : Nat → Prop} {w w' : World} {b : Nat} {e : Esc} {a : Option Addr} {c : Nat} (h : RE w b e a c) (hk : Keep S w w') (h1 : ¬ S b) (h2 : ∀ ad, a = some ad → ¬ S ad.block) : RE w' b e a c := ⟨h.cells.keep hk h1, h.row.keep hk h2, h.apart, h.ok⟩
theorem RE.below {w w' : World} {b : Nat} {e : Esc} {a : Option Addr} {c : Nat} (h : RE w b e a c) (hk : Below w.heap.size w w') : RE w' b e a c := h.keep (Keep.of_below (S := fun _ => False) hk) id (fun _ _ => id)
theorem RE.c0 {w : World} {b : Nat} {e : Esc} {a : Option Addr} {c : Nat} (h : RE w b e a c) : w.cell? ⟨b, 0, none⟩ = some (.int .i64 e.lo) := (h.cells.get 0 _ rfl).1
theorem RE.c1 {w : World} {b : Nat} {e : Esc} {a : Option Addr} {c : Nat} (h : RE w b e a c) : w.cell? ⟨b, 1, none⟩ = some (.int .i64 e.hi) := (h.cells.get 1 _ rfl).1
theorem RE.c2 {w : World} {b : Nat} {e : Esc} {a : Option Addr} {c : Nat} (h : RE w b e a c) : w.cell? ⟨b, 2, none⟩ = some (.int .i64 e.base) := (h.cells.get 2 _ rfl).1
theorem RE.c3 {w : World} {b : Nat} {e : Esc} {a : Option Addr} {c : Nat} (h : RE w b e a c) : w.cell? ⟨b, 3, none⟩ = some (.slice a e.nets.length c) := (h.cells.get 3 _ rfl).1

set_option maxHeartbeats 1000000 in
theorem rNew_no (lo hi v : Int) (w : World) (h : newE lo hi v ≠ 0) :
    Calls Try.prog 32 #[rng lo hi, .int .i64 v] w fun r w' => r = .returned (.tuple #[.pointer none, .int .i64 (newE lo hi v)]) ∧ Below w.heap.size w w' := by
  by_cases h1 : hi < lo
  · have e1 : newE lo hi v = 11 := by unfold newE; rw [if_pos h1]
    rw [e1]
    clear h e1
    go_enter Try.func32, Try.ntmps32
    go_wp2_with fail
    go_ret2
    exact ⟨rfl, alloc_below _ _⟩
  · have h2 : ¬ (lo ≤ v ∧ v ≤ hi) := fun q => h (by unfold newE; rw [if_neg h1, if_pos q])
    have e1 : newE lo hi v = 110 := by unfold newE; rw [if_neg h1, if_neg h2]
    rw [e1]
    clear h e1
    by_cases h3 : v < lo
    · clear h2
      go_enter Try.func32, Try.ntmps32
      go_wp2_with fail
      go_ret2
      exact ⟨rfl, alloc_below _ _⟩
    · have h4 : hi < v := by omega
      clear h2
      go_enter Try.func32, Try.ntmps32
      go_wp2_with fail
      go_ret2
      exact ⟨rfl, alloc_below _ _⟩

set_option maxHeartbeats 1000000 in
theorem rNew_yes (lo hi v : Int) (w : World) (h : newE lo hi v = 0) (i1 : I64 lo) (i2 : I64 hi) :
    Calls Try.prog 32 #[rng lo hi, .int .i64 v] w fun r w' => ∃ b, r = .returned (.tuple #[ptr b, .int .i64 0]) ∧ Below w.heap.size w w' ∧ RE w' b ⟨lo, hi, v, []⟩ none 0 ∧ w.heap.size ≤ b := by
  have ok := hide (new_ok h i1 i2)
  have h1 : ¬ hi < lo := by intro q; simp [newE, q] at h
  have h2 : lo ≤ v ∧ v ≤ hi := by
    unfold newE at h
    rw [if_neg h1] at h
    split at h
    · assumption
    · cases h
  have h3 : ¬ v < lo := by omega
  have h4 : ¬ hi < v := by omega
  clear h h2 i1 i2
  go_enter Try.func32, Try.ntmps32
  go_wp2_with fail
  go_ret2
  refine ⟨w.heap.size + 1, by simp, (alloc_below _ _).alloc (by simp) _, ⟨?_, .inl rfl, nofun, ok.out⟩, by omega⟩
  have := Cells.new (w.alloc (.cells #[.int .i64 lo, .int .i64 hi] 23)) #[.int .i64 lo, .int .i64 hi, .int .i64 v, .slice none 0 0] 86
  simpa [refC] using this

set_option maxHeartbeats 2000000 in
theorem rNet_any (b : Nat) (e : Esc) (a : Option Addr) (c : Nat) (tx : Int) (w : World) (h : RE w b e a c) (hl : e.nets.length ≤ 1000000) :
    Calls Try.prog 43 #[ptr b, .int .i64 tx] w fun r w' => r = .returned (.tuple #[.int .i64 (netV e.nets tx), .bool (holdB e.nets tx)]) ∧ Below w.heap.size w w' := by
  have HR := hide h
  have k3 := h.c3
  clear h
  go_enter Try.func43, Try.ntmps43
  go_wp2_with fail
  go_loopw [6] (fun i wr => ∃ k : Nat, k ≤ e.nets.length ∧ i = .int .i64 k ∧ wr = w ∧ holdB (e.nets.take k) tx = false) (fun i _ => e.nets.length - (intOf i).toNat)
  case atStart => exact ⟨0, by omega, rfl, rfl, rfl⟩
  case round =>
    obtain ⟨k, hk, rfl, rfl, hh⟩ := hrel
    by_cases q : k < e.nets.length
    · obtain ⟨bl, off, rfl, hlt, hcell⟩ := Lies.rowAt netC 2 (fun _ => rfl) HR.out.row k q (by omega)
      have y0 := hcell 0 _ rfl
      have y1 := hcell 1 _ rfl
      rw [Nat.add_zero] at y0
      by_cases ht : e.nets[k].1 = tx
      · have ht2 : (e.nets[k].1 == tx) = true := by simpa using ht
        have hv := netV_of_mem HR.out.ok.rise (List.getElem_mem q)
        rw [ht] at hv
        have HV := hide hv
        clear hcell hh ht hv
        generalize e.nets[k].1 = px at *
        generalize e.nets[k].2 = pn at *
        go_wp2_with fail
        go_ret2
        rw [HV.out.1, HV.out.2]
        exact ⟨rfl, Below.refl _ _⟩
      · have ht2 : (e.nets[k].1 == tx) = false := by simpa using ht
        have hn : holdB (e.nets.take (k + 1)) tx = false := by
          rw [List.take_succ_eq_append_getElem q, holdB_append, hh, holdB_cons]
          simp [ht, holdB]
        have HN := hide hn
        clear hcell hh ht hn
        generalize e.nets[k].1 = px at *
        go_wp2_with fail
        go_roundw
        case rel => exact ⟨k + 1, by omega, by go_num, by trivial, HN.out⟩
        case measure => simp [intOf]; omega
    · have q3 : k = e.nets.length := by omega
      rw [q3, List.take_length] at hh
      have HH := hide hh
      clear hh
      go_wp2_with fail
      go_ret2
      rw [HH.out, netV_none (holdB_false HH.out)]
      exact ⟨rfl, Below.refl _ _⟩

theorem keysN_take (L : Nets) {k : Nat} (h : k < L.length) : keysN (L.take (k + 1)) = keysN (L.take k) ++ [L[k].1] := by
  show (L.take (k + 1)).map Prod.fst = (L.take k).map Prod.fst ++ [L[k].1]
  rw [List.take_succ_eq_append_getElem h, List.map_append]
  rfl

set_option maxHeartbeats 2000000 in
theorem rHolders_any (b : Nat) (e : Esc) (a : Option Addr) (c : Nat) (w : World) (h : RE w b e a c) (hl : e.nets.length ≤ 1000000) :
    Calls Try.prog 46 #[ptr b] w fun r w' => ∃ a' c', r = .returned (.slice a' e.nets.length c') ∧ Go.QK.Seen .i64 w' a' (keysN e.nets) ∧ Below w.heap.size w w' := by
  have HR := hide h
  clear h
  go_enter Try.func46, Try.ntmps46
  go_wp2_with fail
  go_loopw [4, 3] (fun i o wr => ∃ (k : Nat) (ao : Option Addr) (co : Nat), k ≤ e.nets.length ∧ i = .int .i64 k ∧ o = .slice ao k co ∧ GRow wr w.heap.size 3 1 (.slice ao k co) k ((keysN (e.nets.take k)).map (Value.int .i64)) ∧ Below w.heap.size w wr) (fun i _ _ => e.nets.length - (intOf i).toNat)
  case atStart => exact ⟨0, none, 0, by omega, rfl, rfl, World.ownsRow_nil _ _ _ _, Below.refl _ _⟩
  case round =>
    obtain ⟨k, ao, co, hk, rfl, rfl, hrow, hb⟩ := hrel
    have k3 := (HR.out.below hb).c3
    by_cases q : k < e.nets.length
    · obtain ⟨bl, off, rfl, hlt, hcell⟩ := Lies.rowAt netC 2 (fun _ => rfl) (HR.out.below hb).row k q (by omega)
      have y0 := hcell 0 _ rfl
      rw [Nat.add_zero] at y0
      have HK := hide (keysN_take e.nets q)
      have HB := hide hb
      have sz := hb.size
      clear hcell hb
      generalize e.nets[k].1 = px at *
      have R2 := hide (GRow.below hrow (alloc_below wr (.cells #[.int .i64 px] 3)))
      have LI := hide (lit_lies wr #[.int .i64 px] 3)
      clear hrow
      go_wp2_with (at_builtin; refine wpList_appR Try.underlying36 info3 rfl (by decide) (by decide) rfl (.tmp _) (.tmp _) rfl w.heap.size _ k _ rfl R2.out (some ⟨wr.heap.size, 0, none⟩) 1 1 [.int .i64 px] rfl rfl LI.out (by simp [Value.oneCell']) (by nofun) (by omega) (by simp; omega) ?_; intro v' w5 q1 q2 q3; obtain ⟨av, cv, rfl, -, -, -, -, -⟩ := GRow.lies q1)
      go_roundw
      case rel =>
        refine ⟨k + 1, av, cv, by omega, by go_num, rfl, ?_, ?_⟩
        · rw [HK.out, List.map_append]; exact q1
        · exact (HB.out.alloc sz _).grown q2 (by simp; omega) (fun j hj => (World.ownsRow.lt R2.out j hj).1)
      case measure => simp [intOf]; omega
    · obtain rfl : k = e.nets.length := by omega
      rw [List.take_length] at hrow
      have HRW := hide hrow
      have HB := hide hb
      clear hrow hb
      go_wp2_with fail
      go_ret
      refine ⟨ao, co, rfl, ?_, HB.out⟩
      have o : Owns .i64 3 wr w.heap.size (.slice ao e.nets.length co) (keysN e.nets) := by unfold Owns; rw [List.length_map]; exact HRW.out
      obtain ⟨a', c', q1, hse, _⟩ := Owns.seen o
      rw [show (keysN e.nets).length = e.nets.length from by simp] at q1
      cases q1
      exact hse
end Go.Proofs.Ytcnlcmdppkdmmaa
