import Derived.Test.YtcnlcmdppkdmmaaEc26
namespace Go.Proofs.Ytcnlcmdppkdmmaa
open Go.RowKit Go.QK Quota Go.Maps
set_option maxRecDepth 100000

structure RX (w : World) (b : Nat) (e : Esc) (a : Option Addr) (c : Nat) : Prop where
  cells : Cells w b (refC e a c)
  row : Lies w a (rowsC netC e.nets)
  apart : ∀ ad, a = some ad → ad.block ≠ b
theorem RX.below {w w' : World} {b : Nat} {e : Esc} {a : Option Addr} {c : Nat} (h : RX w b e a c) (hk : Below w.heap.size w w') : RX w' b e a c := ⟨h.cells.below hk, h.row.below hk, h.apart⟩
theorem RX.c3 {w : World} {b : Nat} {e : Esc} {a : Option Addr} {c : Nat} (h : RX w b e a c) : w.cell? ⟨b, 3, none⟩ = some (.slice a e.nets.length c) := (h.cells.get 3 _ rfl).1
theorem RE.rx {w : World} {b : Nat} {e : Esc} {a : Option Addr} {c : Nat} (h : RE w b e a c) : RX w b e a c := ⟨h.cells, h.row, h.apart⟩
theorem RX.set {w : World} {b : Nat} {e f : Esc} {a a' : Option Addr} {c c' : Nat} {B : Nat} (h : RX w b e a c) (hr : GRow w B 44 2 (.slice a' f.nets.length c') f.nets.length (rowsC netC f.nets)) (hB : b < B) (h1 : f.lo = e.lo) (h2 : f.hi = e.hi) (h3 : f.base = e.base) (ok : f.Ok) :
    RE (w.setCell ⟨b, 3, none⟩ (.slice a' f.nets.length c')) b f a' c' := by
  have hlo := World.ownsRow.lt hr
  obtain ⟨a2, c2, q, hli, _, _, _, hz⟩ := GRow.lies hr
  cases q
  refine ⟨?_, ?_, ?_, ok⟩
  · have := h.cells.stored (j := 3) (by simp [refC]) (.slice a' f.nets.length c')
    unfold refC at this ⊢
    rw [h1, h2, h3]
    simpa using this
  · refine hli.keep ((Keep.refl (fun x => x = b) w).setCell (g := b) (j := 3) (fun _ => rfl) _) (fun ad hd q => ?_)
    subst hd
    have := (hlo ad.block rfl).1
    omega
  · intro ad hd q
    subst hd
    have := (hlo ad.block rfl).1
    omega

set_option maxHeartbeats 4000000 in
theorem out_any (b : Nat) (e : Esc) (a : Option Addr) (c : Nat) (tx : Int) (w : World) (h : RX w b e a c) (hrs : Rise e.nets) (hl : e.nets.length ≤ 1500) (ok : Esc.Ok { e with nets := delN e.nets tx }) :
    Calls Try.prog 62 #[ptr b, .int .i64 tx] w fun r w' => ∃ a' c', r = .returned (.tuple #[]) ∧ RE w' b { e with nets := delN e.nets tx } a' c' ∧ (∀ ad, a' = some ad → w.heap.size ≤ ad.block) ∧ Keep (fun x => x = b) w w' := by
  have HR := hide h
  have hbl := h.cells.1
  have HOK := hide ok
  have HRS := hide hrs
  clear h ok hrs
  go_enter Try.func62, Try.ntmps62
  go_wp2_with fail
  go_loopw [5, 4] (fun i o wr => ∃ (k : Nat) (ao : Option Addr) (co : Nat), k ≤ e.nets.length ∧ i = .int .i64 k ∧ o = .slice ao (delN (e.nets.take k) tx).length co ∧ GRow wr w.heap.size 44 2 (.slice ao (delN (e.nets.take k) tx).length co) (delN (e.nets.take k) tx).length (rowsC netC (delN (e.nets.take k) tx)) ∧ Below w.heap.size w wr) (fun i _ _ => e.nets.length - (intOf i).toNat)
  case atStart => exact ⟨0, none, 0, by omega, rfl, rfl, World.ownsRow_nil _ _ _ _, Below.refl _ _⟩
  case round =>
    obtain ⟨k, ao, co, hk, rfl, rfl, hrow, hb⟩ := hrel
    have hre := HR.out.below hb
    have k3 := hre.c3
    by_cases q : k < e.nets.length
    · obtain ⟨bl, off, rfl, hlt, hcell⟩ := Lies.rowAt netC 2 (fun _ => rfl) hre.row k q (by omega)
      have y0 := hcell 0 _ rfl
      have y1 := hcell 1 _ rfl
      rw [Nat.add_zero] at y0
      have HB := hide hb
      have HROW := hide hrow
      have hdl : (delN (e.nets.take k) tx).length ≤ 1500 := by
        have := List.length_filter_le (fun p : Int × Int => !(p.1 == tx)) (e.nets.take k)
        simp at this
        unfold delN
        omega
      by_cases ht : e.nets[k].1 = tx
      · have HH := hide (netV_hit HRS.out q ht).2
        have ht2 : (e.nets[k].1 == tx) = true := by simpa using ht
        clear ht hcell hb hrow hre
        generalize e.nets[k].1 = px at *
        generalize e.nets[k].2 = pn at *
        generalize delN (e.nets.take k) tx = U at *
        go_wp2_with fail
        go_roundw
        case rel =>
          refine ⟨k + 1, ao, co, by omega, by go_num, ?_, ?_, HB.out⟩
          · rw [HH.out]
          · rw [HH.out]; exact HROW.out
        case measure => simp [intOf]; omega
      · have HH := hide (netV_miss q ht).2
        have ht2 : (e.nets[k].1 == tx) = false := by simpa using ht
        have hpe : e.nets[k] = (e.nets[k].1, e.nets[k].2) := rfl
        rw [hpe] at HH
        clear ht hcell hb hrow hre hpe
        generalize e.nets[k].1 = px at *
        generalize e.nets[k].2 = pn at *
        generalize delN (e.nets.take k) tx = U at *
        have R2 := hide (GRow.below HROW.out (alloc_below wr (.cells #[.int .i64 px, .int .i64 pn] 44)))
        have LI := hide (lit_lies wr #[.int .i64 px, .int .i64 pn] 44)
        have sz := HB.out.size
        clear HROW
        go_wp2_with (at_builtin; refine wpList_appR Try.underlying41 info44 rfl (by decide) (by decide) rfl (.tmp _) (.tmp _) rfl w.heap.size _ U.length (rowsC netC U) rfl R2.out (some ⟨wr.heap.size, 0, none⟩) 1 1 (netC (px, pn)) rfl rfl LI.out (netC_one _) (by nofun) (by omega) (by simp; omega) ?_; intro v' w5 q1 q2 q3; obtain ⟨av, cv, rfl, -, -, -, -, -⟩ := GRow.lies q1)
        go_roundw
        case rel =>
          refine ⟨k + 1, av, cv, by omega, by go_num, ?_, ?_, ?_⟩
          · rw [HH.out]; simp
          · rw [HH.out, rowsC_snoc, List.length_append]; exact q1
          · exact (HB.out.alloc sz _).grown q2 (by simp; omega) (fun j hj => (World.ownsRow.lt R2.out j hj).1)
        case measure => simp [intOf]; omega
    · obtain rfl : k = e.nets.length := by omega
      rw [List.take_length] at hrow ⊢
      have HROW := hide hrow
      have HB := hide hb
      obtain ⟨x3, f3⟩ := hre.cells.get 3 _ rfl
      have HE := hide hre
      clear hrow hb hre
      go_wp2_with fail
      go_end0
      refine ⟨ao, co, rfl, RX.set (f := { e with nets := delN e.nets tx }) HE.out HROW.out hbl rfl rfl rfl HOK.out, ?_, (Keep.of_below (S := fun x => x = b) HB.out).setCell (fun _ => rfl) _⟩
      intro ad hd
      subst hd
      exact (World.ownsRow.lt HROW.out ad.block rfl).1

theorem relN_alt {e : Esc} {tx : Int} (h : holdB e.nets tx = true) : relN e tx = { e with nets := delN e.nets tx } := relN_yes h

set_option maxHeartbeats 4000000 in
theorem rRelease_any (b : Nat) (e : Esc) (a : Option Addr) (c : Nat) (tx : Int) (w : World) (h : RE w b e a c) (hl : e.nets.length ≤ 1500) :
    Calls Try.prog 50 #[ptr b, .int .i64 tx] w fun r w' => ∃ a' c', r = .returned (.bool (holdB e.nets tx)) ∧ RE w' b (relN e tx) a' c' ∧ (∀ ad, a' = some ad → a = some ad ∨ w.heap.size ≤ ad.block) ∧ Keep (fun x => x = b) w w' := by
  have K1 := fun w' (h : RE w' b e a c) => rNet_any b e a c tx w' h (by omega)
  have HR := hide h
  cases hh : holdB e.nets tx
  · rw [relN_no hh]
    rw [hh] at K1
    generalize netV e.nets tx = nv at *
    clear h
    go_enter Try.func50, Try.ntmps50
    go_wp2_with fail
    refine (K1 _ HR.out).mono ?_
    rintro r w1 ⟨rfl, h1⟩
    go_wp2_with fail
    go_ret
    exact ⟨a, c, rfl, HR.out.below h1, fun ad hd => .inl hd, Keep.of_below h1⟩
  · have ok := relN_ok h.ok tx
    rw [relN_yes hh] at ok ⊢
    have K2 := fun w' (h : RE w' b e a c) => out_any b e a c tx w' h.rx h.ok.rise hl ok
    rw [hh] at K1
    generalize netV e.nets tx = nv at *
    clear h ok
    go_enter Try.func50, Try.ntmps50
    go_wp2_with fail
    refine (K1 _ HR.out).mono ?_
    rintro r w1 ⟨rfl, h1⟩
    have H1 := hide h1
    clear h1 K1
    go_wp2_with fail
    refine (K2 _ (HR.out.below H1.out)).mono ?_
    rintro r w2 ⟨a2, c2, rfl, R2, f2, h2⟩
    go_wp2_with fail
    go_ret
    exact ⟨a2, c2, rfl, R2, fun ad hd => .inr (Nat.le_trans H1.out.size (f2 ad hd)), (Keep.of_below H1.out).trans h2 (fun _ _ q => q)⟩

set_option maxHeartbeats 4000000 in
theorem rSettle_any (b : Nat) (e : Esc) (a : Option Addr) (c : Nat) (tx : Int) (w : World) (h : RE w b e a c) (hl : e.nets.length ≤ 1500) :
    Calls Try.prog 49 #[ptr b, .int .i64 tx] w fun r w' => ∃ a' c', r = .returned (.bool (holdB e.nets tx)) ∧ RE w' b (setN e tx) a' c' ∧ (∀ ad, a' = some ad → a = some ad ∨ w.heap.size ≤ ad.block) ∧ Keep (fun x => x = b) w w' := by
  have K1 := fun w' (h : RE w' b e a c) => rNet_any b e a c tx w' h (by omega)
  have HR := hide h
  cases hh : holdB e.nets tx
  · rw [setN_no hh]
    rw [hh] at K1
    generalize netV e.nets tx = nv at *
    clear h
    go_enter Try.func49, Try.ntmps49
    go_wp2_with fail
    refine (K1 _ HR.out).mono ?_
    rintro r w1 ⟨rfl, h1⟩
    go_wp2_with fail
    go_ret
    exact ⟨a, c, rfl, HR.out.below h1, fun ad hd => .inl hd, Keep.of_below h1⟩
  · have ok := setN_ok h.ok tx
    have hnb : I64 (e.base + netV e.nets tx) := by have := ok.rng.2.2.2; rw [setN_yes hh] at this; exact this
    have hw := wrapI hnb
    rw [setN_yes hh] at ok ⊢
    have K2 := fun w' (h : RX w' b { e with base := e.base + netV e.nets tx } a c) => out_any b { e with base := e.base + netV e.nets tx } a c tx w' h HR.out.ok.rise hl ok
    rw [hh] at K1
    generalize netV e.nets tx = nv at *
    clear h ok hnb
    go_enter Try.func49, Try.ntmps49
    go_wp2_with fail
    refine (K1 _ HR.out).mono ?_
    rintro r w1 ⟨rfl, h1⟩
    have H1 := hide h1
    have R1 := hide (HR.out.below h1)
    obtain ⟨c2, f2⟩ := R1.out.cells.get 2 _ rfl
    have hb1 := R1.out.cells.1
    clear h1 K1
    have R2 := hide (show RX (w1.setCell ⟨b, 2, none⟩ (.int .i64 (e.base + nv))) b { e with base := e.base + nv } a c from by
      refine ⟨?_, ?_, R1.out.apart⟩
      · have := R1.out.cells.stored (j := 2) (by simp [refC]) (.int .i64 (e.base + nv))
        unfold refC at this ⊢
        simpa using this
      · exact R1.out.row.keep ((Keep.refl (fun x => x = b) w1).setCell (g := b) (j := 2) (fun _ => rfl) _) (fun ad hd q => R1.out.apart ad hd q))
    go_wp2_with fail
    refine (K2 _ R2.out).mono ?_
    rintro r w2 ⟨a2, c2', rfl, R3, f3, h2⟩
    go_wp2_with fail
    go_ret
    refine ⟨a2, c2', rfl, R3, fun ad hd => .inr ?_, ((Keep.of_below (S := fun x => x = b) H1.out).setCell (fun _ => rfl) _).trans h2 (fun _ _ q => q)⟩
    have q1 := f3 ad hd
    simp at q1
    exact Nat.le_trans H1.out.size q1
end Go.Proofs.Ytcnlcmdppkdmmaa
