import Derived.Test.YtimakfnlcgedkaaRg13
namespace Go.Proofs.Ytimakfnlcgedkaa
open Go.RowKit Go.QK Go.Maps Go.QM Go.QR
set_option maxRecDepth 100000
/-! The document's registry in memory. -/
structure RR (w : World) (B b : Nat) (vC vG : Value) (r : Reg) : Prop where
  box : Cells w b [.int .i64 (r.P : Int), vC, vG]
  rc : GRow w B 92 2 vC r.C.length (rowsC c2 r.C)
  rg : GRow w B 3 1 vG r.G.length (r.G.map (Value.int .i64))
  cg : ∀ x, vC.ownBlock = some x → vG.ownBlock ≠ some x
  oc : vC.ownBlock ≠ some b
  og : vG.ownBlock ≠ some b
  low : B ≤ b
theorem RR.keep {S : Nat → Prop} {w w' : World} {B b : Nat} {vC vG : Value} {r : Reg} (h : RR w B b vC vG r) (hk : Keep S w w') (hb : ¬ S b) (hc : ∀ x, vC.ownBlock = some x → ¬ S x) (hg : ∀ x, vG.ownBlock = some x → ¬ S x) : RR w' B b vC vG r :=
  ⟨h.box.keep hk hb, GRow.keep h.rc hk hc, GRow.keep h.rg hk hg, h.cg, h.oc, h.og, h.low⟩
theorem RR.below {w w' : World} {B b : Nat} {vC vG : Value} {r : Reg} (h : RR w B b vC vG r) (hk : Below w.heap.size w w') : RR w' B b vC vG r := h.keep (Keep.of_below (S := fun _ => False) hk) id (fun _ _ => id) (fun _ _ => id)
theorem RR.c {w : World} {B b : Nat} {vC vG : Value} {r : Reg} (h : RR w B b vC vG r) : ∃ aC cC aG cG, vC = .slice aC r.C.length cC ∧ vG = .slice aG r.G.length cG ∧ Lies w aC (rowsC c2 r.C) ∧ Lies w aG (r.G.map (Value.int .i64)) := by
  obtain ⟨a, c, e1, l1, -⟩ := GRow.lies h.rc
  obtain ⟨a', c', e2, l2, -⟩ := GRow.lies h.rg
  exact ⟨a, c, a', c', e1, e2, l1, l2⟩
def plI (o : Option Nat) : Int := match o with | some k => (k : Int) | none => -1
theorem place_take (l : List Int) (n : Int) (k : Nat) (hk : k < l.length) (h : place (l.take k) n = none) : (l[k] = n → place l n = some k) ∧ (l[k] ≠ n → place (l.take (k + 1)) n = none) := by
  have e : l = l.take k ++ l[k] :: l.drop (k + 1) := by rw [← List.drop_eq_getElem_cons hk]; exact (List.take_append_drop k l).symm
  constructor
  · intro q
    have hgen : ∀ (a b : List Int), place a n = none → place (a ++ n :: b) n = some a.length := by
      intro a
      induction a with
      | nil => intro b _; simp [place]
      | cons y r ih =>
        intro b hb
        simp only [place] at hb
        by_cases hy : y = n
        · rw [if_pos hy] at hb; cases hb
        · rw [if_neg hy] at hb
          have hb' : place r n = none := by cases hp : place r n with | none => rfl | some j => rw [hp] at hb; cases hb
          simp only [List.cons_append, place]
          rw [if_neg hy, ih b hb']
          rfl
    rw [e, q, hgen _ _ h]
    simp
    omega
  · intro q
    rw [List.take_succ_eq_append_getElem hk, place_push, h, if_neg q]
    rfl
set_option maxHeartbeats 1000000 in
theorem rcounter_any (B b : Nat) (vC vG : Value) (r : Reg) (n : Int) (w : World) (h : RR w B b vC vG r) (hl : r.C.length ≤ 1000000) : Calls Try.prog 45 #[ptr b, .int .i64 n] w fun e w' => e = .returned (.int .i64 (plI (place r.nums n))) ∧ w = w' := by
  obtain ⟨aC, cC, aG, cG, rfl, rfl, l1, -⟩ := h.c
  obtain ⟨k1, -⟩ := h.box.get 1 _ rfl
  have hlen : r.nums.length = r.C.length := by simp [Reg.nums]
  have HLN := hide hlen
  have HL1 := hide l1
  clear h l1 hlen
  go_enter Try.func45, Try.ntmps45
  go_wp2
  go_loop [5] (fun v => ∃ k : Nat, v = .int .i64 (k : Int) ∧ k ≤ r.C.length ∧ place (r.nums.take k) n = none) (fun v => r.C.length - (intOf v).toNat)
  case atStart => exact ⟨0, rfl, Nat.zero_le _, by simp [place]⟩
  case round =>
    obtain ⟨k, rfl, hk, hn⟩ := hrel
    by_cases hlt : k < r.C.length
    · obtain ⟨bl, off, ha, -, hc⟩ := Lies.rowAt c2 2 (fun _ => rfl) HL1.out k hlt (by omega)
      subst ha
      have c0 := hc 0 _ rfl
      rw [Nat.add_zero] at c0
      have hnk : r.nums[k]'(by rw [HLN.out]; exact hlt) = r.C[k].1 := by simp [Reg.nums]
      have PT := place_take r.nums n k (by rw [HLN.out]; exact hlt) hn
      rw [hnk] at PT
      have HPT := hide PT
      clear PT hnk hc hn
      by_cases he : r.C[k].1 = n
      · have hq := hide (HPT.out.1 he)
        go_wp2
        go_ret
        exact ⟨by rw [hq.out]; rfl, rfl⟩
      · have hq := hide (HPT.out.2 he)
        go_wp2
        go_round
        case rel => exact ⟨k + 1, by go_num, by omega, hq.out⟩
        case measure => simp [intOf]; omega
    · obtain rfl : k = r.C.length := by omega
      have hq := hide (show place r.nums n = none by rw [← HLN.out, List.take_length] at hn; exact hn)
      clear hn
      go_wp2
      go_ret
      exact ⟨by rw [hq.out]; rfl, rfl⟩
theorem lies_int {w : World} {a : Option Addr} {xs : List Int} (h : Lies w a (xs.map (Value.int .i64))) {i : Nat} (hi : i < xs.length) : ∃ bl off, a = some ⟨bl, off, none⟩ ∧ bl < w.heap.size ∧ w.cell? ⟨bl, off + i, none⟩ = some (.int .i64 xs[i]) :=
  h.cellAt i _ (by rw [List.getElem?_map, List.getElem?_eq_getElem hi]; rfl)
set_option maxHeartbeats 1000000 in
theorem rgroup_any (B b : Nat) (vC vG : Value) (r : Reg) (n : Int) (w : World) (h : RR w B b vC vG r) (hl : r.G.length ≤ 1000000) : Calls Try.prog 37 #[ptr b, .int .i64 n] w fun e w' => e = .returned (.int .i64 (plI (place r.G n))) ∧ w = w' := by
  obtain ⟨aC, cC, aG, cG, rfl, rfl, -, l1⟩ := h.c
  obtain ⟨k1, -⟩ := h.box.get 2 _ rfl
  have HL1 := hide l1
  clear h l1
  go_enter Try.func37, Try.ntmps37
  go_wp2
  go_loop [5] (fun v => ∃ k : Nat, v = .int .i64 (k : Int) ∧ k ≤ r.G.length ∧ place (r.G.take k) n = none) (fun v => r.G.length - (intOf v).toNat)
  case atStart => exact ⟨0, rfl, Nat.zero_le _, by simp [place]⟩
  case round =>
    obtain ⟨k, rfl, hk, hn⟩ := hrel
    by_cases hlt : k < r.G.length
    · obtain ⟨bl, off, ha, -, c0⟩ := lies_int HL1.out hlt
      subst ha
      have HPT := hide (place_take r.G n k hlt hn)
      clear hn
      by_cases he : r.G[k] = n
      · have hq := hide (HPT.out.1 he)
        go_wp2
        go_ret
        exact ⟨by rw [hq.out]; rfl, rfl⟩
      · have hq := hide (HPT.out.2 he)
        go_wp2
        go_round
        case rel => exact ⟨k + 1, by go_num, by omega, hq.out⟩
        case measure => simp [intOf]; omega
    · obtain rfl : k = r.G.length := by omega
      have hq := hide (show place r.G n = none by rw [List.take_length] at hn; exact hn)
      clear hn
      go_wp2
      go_ret
      exact ⟨by rw [hq.out]; rfl, rfl⟩
set_option maxHeartbeats 400000 in
theorem rneeds_any (n each : Nat) (w : World) (hn : n ≤ 1000000) (h1 : 1 ≤ each) (he : each ≤ 1000) : Calls Try.prog 46 #[.int .i64 (n : Int), .int .i64 (each : Int)] w fun r w' => r = .returned (.int .i64 (needs n each : Nat)) ∧ w = w' := by
  go_enter Try.func46, Try.ntmps46
  go_wp2
  go_ret
  refine ⟨ret_int ?_, rfl⟩
  unfold needs
  have : ((n : Int) + each - 1) = ((n + each - 1 : Nat) : Int) := by omega
  rw [this]
  rfl
set_option maxHeartbeats 400000 in
theorem rlow_any (k : Nat) (w : World) (hn : k ≤ 1000000) : Calls Try.prog 47 #[.int .i64 (k : Int)] w fun r w' => r = .returned (slotV (low k)) ∧ Below w.heap.size w w' := by
  go_enter Try.func47, Try.ntmps47
  go_wp2
  exact bodyPost_ret (v := slotV (low k)) (by simp [results, Try.results47, go_sem, low]) rfl ⟨rfl, alloc_below _ _⟩
set_option maxHeartbeats 400000 in
theorem rhigh_any (B b : Nat) (vC vG : Value) (r : Reg) (k : Nat) (w : World) (h : RR w B b vC vG r) (hp : r.P ≤ 64) (hn : k ≤ 1000000) : Calls Try.prog 48 #[ptr b, .int .i64 (k : Int)] w fun e w' => e = .returned (slotV (high r.P k)) ∧ Below w.heap.size w w' := by
  have hb := (h.below (alloc_below w (.cells #[.int .i64 0, .int .i64 0] 30))).box
  obtain ⟨k1, -⟩ := hb.get 0 _ rfl
  clear h hb
  go_enter Try.func48, Try.ntmps48
  go_wp2
  exact bodyPost_ret (v := slotV (high r.P k)) (by simp [results, Try.results48, go_sem, high]) rfl ⟨rfl, alloc_below _ _⟩
set_option maxHeartbeats 400000 in
theorem rnew_no (p : Int) (w : World) (h : p < 2 ∨ 64 < p) : Calls Try.prog 27 #[.int .i64 p] w fun r w' => r = .returned (.tuple #[.pointer none, .int .i64 2]) ∧ w = w' := by
  by_cases h1 : p < 2
  · go_enter Try.func27, Try.ntmps27
    go_wp2
    go_ret2
    exact ⟨rfl, rfl⟩
  · have h2 : 64 < p := by omega
    go_enter Try.func27, Try.ntmps27
    go_wp2
    go_ret2
    exact ⟨rfl, rfl⟩
set_option maxHeartbeats 400000 in
theorem rnew_yes (p : Nat) (w : World) (h1 : 2 ≤ p) (h2 : p ≤ 64) : Calls Try.prog 27 #[.int .i64 (p : Int)] w fun r w' => r = .returned (.tuple #[ptr w.heap.size, .int .i64 0]) ∧ RR w' w.heap.size w.heap.size (.slice none 0 0) (.slice none 0 0) ⟨p, [], []⟩ ∧ Below w.heap.size w w' ∧ w'.heap.size = w.heap.size + 1 := by
  go_enter Try.func27, Try.ntmps27
  go_wp2
  go_ret2
  refine ⟨rfl, ⟨Cells.new _ _ _, World.ownsRow_nil _ _ _ _, World.ownsRow_nil _ _ _ _, ?_, ?_, ?_, Nat.le_refl _⟩, alloc_below _ _, by simp⟩
  · intro x hx; simp [Value.ownBlock] at hx
  · simp [Value.ownBlock]
  · simp [Value.ownBlock]
end Go.Proofs.Ytimakfnlcgedkaa
