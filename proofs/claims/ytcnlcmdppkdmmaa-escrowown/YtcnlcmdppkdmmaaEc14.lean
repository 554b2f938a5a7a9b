import Derived.Test.YtcnlcmdppkdmmaaEc13
namespace Go.Proofs.Ytcnlcmdppkdmmaa
open Go.RowKit Go.QK Quota Go.Maps
set_option maxRecDepth 100000

theorem rowsC_snoc {α : Type} (f : α → List Value) (l : List α) (x : α) : rowsC f (l ++ [x]) = rowsC f l ++ f x := by simp [rowsC]
theorem lit_lies (w : World) (cs : Array Value) (t : TypeId) : Lies (w.alloc (.cells cs t)) (some ⟨w.heap.size, 0, none⟩) cs.toList :=
  .inr ⟨w.heap.size, 0, rfl, by simp, fun i hx => by rw [Nat.zero_add]; exact ((Cells.new w cs t).get i _ (List.getElem?_eq_getElem hx)).1⟩
theorem alloc_below (w : World) (o : Obj) : Below w.heap.size w (w.alloc o) := (Below.refl _ _).alloc (Nat.le_refl _) _

def netC (p : Int × Int) : List Value := [.int .i64 p.1, .int .i64 p.2]
theorem info44 : (Try.prog.info? 44).map (fun i => (i.zero, i.size, i.bytes)) = some (some (.agg #[.int .i64 0, .int .i64 0]), 2, 16) := by kernel_rfl
theorem netC_one (p : Int × Int) : ∀ u ∈ netC p, u.oneCell' = true := by intro u hu; simp [netC] at hu; rcases hu with rfl | rfl <;> rfl

def upto (L : Nets) (t : Int) : Nets := L.filter (fun p => decide (p.1 < t))
theorem upto_cons (p : Int × Int) (r : Nets) (t : Int) : upto (p :: r) t = if p.1 < t then p :: upto r t else upto r t := by
  unfold upto
  simp only [List.filter_cons]
  by_cases h : p.1 < t <;> simp [h]
theorem upto_none {L : Nets} {t : Int} (h : ∀ p ∈ L, t ≤ p.1) : upto L t = [] := by
  unfold upto
  rw [List.filter_eq_nil_iff]
  intro p hp
  have := h p hp
  simp; omega
theorem upto_all {L : Nets} {t : Int} (h : ∀ p ∈ L, p.1 < t) : upto L t = L := by
  unfold upto
  rw [List.filter_eq_self]
  intro p hp
  simpa using h p hp
theorem upto_not {L : Nets} {t : Int} (h : holdB L t = false) : upto L (t + 1) = upto L t := by
  have := holdB_false h
  unfold upto
  apply List.filter_congr
  intro p hp
  have := this p hp
  rw [decide_eq_decide]
  omega
theorem upto_hold {L : Nets} (hr : Rise L) {t : Int} (h : holdB L t = true) : upto L (t + 1) = upto L t ++ [(t, netV L t)] := by
  induction L with
  | nil => simp [holdB] at h
  | cons p r ih =>
    rw [upto_cons, upto_cons, netV_cons]
    by_cases e : p.1 = t
    · have h1 : upto r (t + 1) = [] := upto_none (fun q hq => by have := hr.head q hq; omega)
      have h2 : upto r t = [] := upto_none (fun q hq => by have := hr.head q hq; omega)
      rw [if_pos (by omega), if_neg (by omega), if_pos e, h1, h2, ← e]
      rfl
    · rw [holdB_cons] at h
      simp [e] at h
      have ih := ih hr.tail h
      have hm := netV_mem h
      have := hr.head _ hm
      simp at this
      rw [if_pos (by omega), if_pos (by omega), if_neg e, ih]
      rfl
def Eight (e : Esc) : Prop := ∀ p ∈ e.nets, p.1 ≤ 8
theorem addN_eight {e : Esc} (h : Eight e) {tx : Int} (d : Int) (ht : tx ≤ 8) : Eight (addN e tx d) := by
  by_cases q : mayE e tx d = 0
  · rw [addN_yes q]
    intro p hp
    rcases mem_putN hp with rfl | hp
    · exact ht
    · exact h p hp
  · rw [addN_no q]; exact h
theorem runD_eight {e : Esc} (h : Eight e) (ds : List Deed) : Eight (runD e ds) := by
  induction ds generalizing e with
  | nil => exact h
  | cons d l ih => exact ih (addN_eight h _ (txF_bd d.1).2)
theorem madeM_eight (lo hi v : Int) (ds : List Deed) : Eight (madeM lo hi v ds) := by
  unfold madeM
  exact runD_eight (fun p hp => by cases hp) _
theorem madeM_len (lo hi v : Int) (ds : List Deed) : (madeM lo hi v ds).nets.length ≤ 40 := by
  have := runD_len ⟨loN lo hi, hiN lo hi, vN lo hi v, []⟩ (ds.take 40)
  unfold madeM
  simp at this ⊢
  omega

set_option maxHeartbeats 4000000 in
theorem nets_any (b m : Nat) (e : Esc) (w : World) (h : PE w b m e) (h8 : Eight e) (hl : e.nets.length ≤ 1000000) :
    Calls Try.prog 18 #[ptr b] w fun r w' => ∃ a c, r = .returned (.slice a e.nets.length c) ∧ GRow w' w.heap.size 44 2 (.slice a e.nets.length c) e.nets.length (rowsC netC e.nets) ∧ Below w.heap.size w w' := by
  have HP := hide h
  have HR := hide h.ok.rise
  have H8 := hide h8
  have HL := hide hl
  have hk1 := hide (fun p hp => (h.ok.keys p hp).1)
  clear h h8 hl
  go_enter Try.func18, Try.ntmps18
  go_wp2_with fail
  go_loopw [4, 3] (fun i s wr => ∃ (k : Nat) (a : Option Addr) (c : Nat), k ≤ 8 ∧ i = .int .i64 ((k : Int) + 1) ∧ s = .slice a (upto e.nets ((k : Int) + 1)).length c ∧ GRow wr w.heap.size 44 2 (.slice a (upto e.nets ((k : Int) + 1)).length c) (upto e.nets ((k : Int) + 1)).length (rowsC netC (upto e.nets ((k : Int) + 1))) ∧ Below w.heap.size w wr) (fun i _ _ => 10 - (intOf i).toNat)
  case atStart =>
    have e0 : upto e.nets (((0 : Nat) : Int) + 1) = [] := upto_none (fun p hp => by have := hk1.out p hp; simpa using this)
    refine ⟨0, none, 0, by omega, rfl, ?_, ?_, Below.refl _ _⟩
    · rw [e0]; rfl
    · rw [e0]; exact World.ownsRow_nil _ _ _ _
  case round =>
    obtain ⟨k, a, c, hk, rfl, rfl, hrow, hb⟩ := hrel
    by_cases q : k < 8
    · have q1 : ((k : Int) + 1 ≤ 8) := by omega
      have KN := net_any b m e ((k : Int) + 1) wr (HP.out.below hb) (by unfold I64; omega)
      have HROW := hide hrow
      have HB := hide hb
      clear hrow hb
      cases hh : holdB e.nets ((k : Int) + 1)
      · have HU := hide (upto_not hh)
        rw [hh] at KN
        generalize upto e.nets ((k : Int) + 1) = U at *
        go_wp2_with fail
        refine KN.mono ?_
        rintro r w2 ⟨rfl, h2⟩
        go_wp2_with fail
        go_roundw
        case rel =>
          have e1 : upto e.nets (((k + 1 : Nat) : Int) + 1) = U := by rw [← HU.out]; congr 1
          refine ⟨k + 1, a, c, by omega, by go_num, ?_, ?_, HB.out.trans (h2.mono HB.out.size)⟩
          · rw [e1]
          · rw [e1]; exact HROW.out.below h2
        case measure => simp [intOf]; omega
      · have HU := hide (upto_hold HR.out hh)
        rw [hh] at KN
        have hul : (upto e.nets ((k : Int) + 1)).length ≤ 1000000 := by
          have := List.length_filter_le (fun p : Int × Int => decide (p.1 < (k : Int) + 1)) e.nets
          have := HL.out
          unfold upto
          omega
        generalize upto e.nets ((k : Int) + 1) = U at *
        generalize netV e.nets ((k : Int) + 1) = nv at *
        go_wp2_with fail
        refine KN.mono ?_
        rintro r w2 ⟨rfl, h2⟩
        have B2 := hide (HB.out.trans (h2.mono HB.out.size))
        have R2 := hide ((HROW.out.below h2).below (alloc_below w2 (.cells #[.int .i64 ((k : Int) + 1), .int .i64 nv] 44)))
        have LI := hide (lit_lies w2 #[.int .i64 ((k : Int) + 1), .int .i64 nv] 44)
        have sz := B2.out.size
        clear h2 KN HROW HB
        go_wp2_with (at_builtin; refine wpList_appR Try.underlying41 info44 rfl (by decide) (by decide) rfl (.tmp _) (.tmp _) rfl w.heap.size _ U.length (rowsC netC U) rfl R2.out (some ⟨w2.heap.size, 0, none⟩) 1 1 (netC ((k : Int) + 1, nv)) rfl rfl LI.out (netC_one _) (by nofun) (by omega) (by simp; omega) ?_; intro v' w3 q1 q2 q3; obtain ⟨av, cv, rfl, -, -, -, -, -⟩ := GRow.lies q1)
        go_roundw
        case rel =>
          have e1 : upto e.nets (((k + 1 : Nat) : Int) + 1) = U ++ [((k : Int) + 1, nv)] := by rw [← HU.out]; congr 1
          refine ⟨k + 1, av, cv, by omega, by go_num, ?_, ?_, ?_⟩
          · rw [e1]; simp
          · rw [e1, rowsC_snoc, List.length_append]; exact q1
          · exact (B2.out.alloc sz _).grown q2 (by simp; omega) (fun j hj => (World.ownsRow.lt R2.out j hj).1)
        case measure => simp [intOf]; omega
    · obtain rfl : k = 8 := by omega
      have e1 : upto e.nets (((8 : Nat) : Int) + 1) = e.nets := upto_all (fun p hp => by have := H8.out p hp; omega)
      rw [e1] at hrow ⊢
      have HROW := hide hrow
      have HB := hide hb
      clear hrow hb e1
      go_wp2_with fail
      go_ret
      exact ⟨a, c, rfl, HROW.out, HB.out⟩
end Go.Proofs.Ytcnlcmdppkdmmaa
