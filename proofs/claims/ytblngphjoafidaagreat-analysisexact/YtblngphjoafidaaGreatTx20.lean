import Derived.Test.YtblngphjoafidaaGreatTxH
namespace Go.Proofs.YtblngphjoafidaaGreat
open Go.RowKit Go.QK Go.Maps Go.QM Go.QT
set_option maxRecDepth 100000
/-! The document's table: its block, its row. -/
structure RT (w : World) (B c : Nat) (v : Value) (t : TbM) : Prop where
  box : Cells w c [v, .int .i64 t.next]
  row : GRow w B 58 4 v t.L.length (rowsC lvC t.L)
  ap : ∀ g, v.ownBlock = some g → g ≠ c
  low : B ≤ c
  ok : t.Ok
theorem RT.keep {S : Nat → Prop} {w w' : World} {B c : Nat} {v : Value} {t : TbM} (h : RT w B c v t) (hk : Keep S w w') (h1 : ¬ S c) (h2 : ∀ g, v.ownBlock = some g → ¬ S g) : RT w' B c v t := ⟨h.box.keep hk h1, GRow.keep h.row hk h2, h.ap, h.low, h.ok⟩
theorem RT.below {w w' : World} {B c : Nat} {v : Value} {t : TbM} (h : RT w B c v t) (hk : Below w.heap.size w w') : RT w' B c v t := h.keep (Keep.of_below (S := fun _ => False) hk) id (fun _ _ => id)
theorem RT.mono {w : World} {B B' c : Nat} {v : Value} {t : TbM} (h : RT w B c v t) (hb : B' ≤ B) : RT w B' c v t := ⟨h.box, GRow.mono h.row hb, h.ap, Nat.le_trans hb h.low, h.ok⟩
theorem RT.lt {w : World} {B c : Nat} {v : Value} {t : TbM} (h : RT w B c v t) : c < w.heap.size ∧ ∀ g, v.ownBlock = some g → g < w.heap.size := ⟨h.box.1, fun g hg => (World.ownsRow.lt h.row g hg).2⟩
theorem RT.form {w : World} {B c : Nat} {v : Value} {t : TbM} (h : RT w B c v t) : ∃ a cap, v = .slice a t.L.length cap ∧ Lies w a (rowsC lvC t.L) ∧ (a = none → cap = 0 ∧ t.L.length = 0) ∧ t.L.length ≤ cap := by
  obtain ⟨a, cap, e, hl, h1, h2, h3, h4⟩ := GRow.lies h.row
  exact ⟨a, cap, e, hl, fun q => ⟨h3 q, by have := h3 q; omega⟩, h1⟩
set_option maxHeartbeats 400000 in
theorem rnew_no (n : Int) (w : World) (h : isNext n = false) : Calls Tryz.prog 20 #[.int .i64 n] w fun r w' => r = .returned (.tuple #[.pointer none, .int .i64 4]) ∧ w = w' := by
  unfold isNext at h
  by_cases h1 : n < 1
  · have d1 : decide (n < 1) = true := by simpa using h1
    clear h
    go_enter Tryz.func20, Tryz.ntmps20
    go_wp2
    go_ret2
    exact ⟨rfl, rfl⟩
  · have d1 : decide (n < 1) = false := by simpa using h1
    have d2 : decide (2147483648 < n) = true := by simp at h ⊢; omega
    clear h
    go_enter Tryz.func20, Tryz.ntmps20
    go_wp2
    go_ret2
    exact ⟨rfl, rfl⟩
set_option maxHeartbeats 400000 in
theorem rnew_yes (n : Int) (w : World) (h : isNext n = true) : Calls Tryz.prog 20 #[.int .i64 n] w fun r w' => r = .returned (.tuple #[ptr w.heap.size, .int .i64 0]) ∧ RT w' w.heap.size w.heap.size (.slice none 0 0) ⟨[], n⟩ ∧ Below w.heap.size w w' ∧ w'.heap.size = w.heap.size + 1 := by
  have hok := TbM.Ok.new h
  have d1 : decide (n < 1) = false := by unfold isNext at h; simp at h ⊢; omega
  have d2 : decide (2147483648 < n) = false := by unfold isNext at h; simp at h ⊢; omega
  clear h
  go_enter Tryz.func20, Tryz.ntmps20
  go_wp2
  go_ret2
  refine ⟨rfl, ⟨Cells.new _ _ _, World.ownsRow_nil _ _ _ _, ?_, Nat.le_refl _, hok⟩, alloc_below _ _, by simp⟩
  intro g hg
  simp [Value.ownBlock] at hg
set_option maxHeartbeats 400000 in
theorem rnext_any (B c : Nat) (v : Value) (t : TbM) (w : World) (h : RT w B c v t) : Calls Tryz.prog 25 #[ptr c] w fun r w' => r = .returned (.int .i64 t.next) ∧ w = w' := by
  obtain ⟨k1, _⟩ := h.box.get 1 _ rfl
  clear h
  go_enter Tryz.func25, Tryz.ntmps25
  go_wp2
  go_ret
  exact ⟨rfl, rfl⟩
theorem rows_one (l : List Lv) : ∀ u ∈ rowsC lvC l, u.oneCell' = true := by
  intro u hu
  unfold rowsC at hu
  obtain ⟨y, _, hy⟩ := List.mem_flatMap.1 hu
  exact lvC_one y u hy
set_option maxHeartbeats 1000000 in
theorem rlive_any (B c : Nat) (v : Value) (t : TbM) (w : World) (h : RT w B c v t) : Calls Tryz.prog 24 #[ptr c] w fun r w' => ∃ v', r = .returned v' ∧ GRow w' w.heap.size 58 4 v' t.L.length (rowsC lvC t.L) ∧ Below w.heap.size w w' := by
  obtain ⟨a, cap, rfl, hl, hn, hc⟩ := h.form
  obtain ⟨k0, _⟩ := h.box.get 0 _ rfl
  have few := h.ok.few
  have hlen := rowsC_len lvC 4 (fun _ => rfl) t.L
  clear h
  go_enter Tryz.func24, Tryz.ntmps24
  go_wp2_with (at_builtin; refine wpList_appR Tryz.underlying31 info26 rfl (by decide) (by decide) rfl _ _ rfl w.heap.size _ 0 [] rfl (World.ownsRow_nil _ _ _ _) a t.L.length cap (rowsC lvC t.L) rfl (by omega) hl (rows_one _) hn (by omega) (Nat.le_refl _) ?_; intro v' w1 hown hg hn1; go_frame)
  go_ret
  refine ⟨_, rfl, by simpa using hown, ?_⟩
  exact (Below.refl _ w).grown hg (Nat.le_refl _) (fun j hj => by cases hj)
theorem getT_none_of {L : List Lv} {tx : Int} (h : ∀ j (hj : j < L.length), L[j].tx ≠ tx) : getT L tx = none := by
  unfold getT
  rw [List.find?_eq_none]
  intro x hx
  obtain ⟨j, hj, rfl⟩ := List.getElem_of_mem hx
  simpa using h j hj
theorem getT_at {L : List Lv} (hr : Rise L) {k : Nat} (hk : k < L.length) : getT L L[k].tx = some L[k] := getT_of hr (List.getElem_mem hk)
def PlPost (L : List Lv) (tx : Int) (w : World) (e : Ending) (w' : World) : Prop := w = w' ∧ ((e = .returned (.int .i64 (-1)) ∧ getT L tx = none) ∨ ∃ k, ∃ h : k < L.length, e = .returned (.int .i64 (k : Int)) ∧ L[k].tx = tx)
set_option maxHeartbeats 1000000 in
theorem place_any (B c : Nat) (v : Value) (t : TbM) (tx : Int) (w : World) (h : RT w B c v t) : Calls Tryz.prog 52 #[ptr c, .int .i64 tx] w (PlPost t.L tx w) := by
  obtain ⟨a, cap, rfl, hl, hn, hc⟩ := h.form
  obtain ⟨k0, _⟩ := h.box.get 0 _ rfl
  have few := h.ok.few
  have HL := hide hl
  clear h hl
  go_enter Tryz.func52, Tryz.ntmps52
  go_wp2
  go_loop [5] (fun vi => ∃ k : Nat, vi = .int .i64 (k : Int) ∧ k ≤ t.L.length ∧ ∀ j (hj : j < t.L.length), j < k → t.L[j].tx ≠ tx) (fun vi => t.L.length - (intOf vi).toNat)
  case atStart => exact ⟨0, rfl, Nat.zero_le _, fun j _ q => by omega⟩
  case round =>
    obtain ⟨k, rfl, hk, hall⟩ := hrel
    have HA := hide hall
    clear hall
    by_cases hlt : k < t.L.length
    · obtain ⟨bl, off, ha, -, p0, -⟩ := row_at HL.out (Below.refl _ _) hlt
      subst ha
      by_cases he : t.L[k].tx = tx
      · have d : (t.L[k].tx == tx) = true := by simpa using he
        have HE := hide he
        clear he
        generalize hz : t.L[k].tx = z at *
        go_wp2
        go_ret
        exact ⟨rfl, .inr ⟨k, hlt, rfl, by rw [hz]; exact HE.out⟩⟩
      · have d : (t.L[k].tx == tx) = false := by simpa using he
        have HE := hide he
        clear he
        generalize hz : t.L[k].tx = z at *
        go_wp2
        go_round
        case rel =>
          have key : ∀ j (hj : j < t.L.length), j < k + 1 → t.L[j].tx ≠ tx := fun j hj q => by
            by_cases e : j = k
            · subst e; rw [hz]; exact HE.out
            · exact HA.out j hj (by omega)
          first | exact ⟨k + 1, by go_num, by omega, key⟩ | ((repeat apply Exists.intro); exact ⟨⟨k + 1, by go_num, by omega, key⟩, rfl⟩)
        case measure => simp [intOf]; omega
    · go_wp2
      go_ret
      exact ⟨rfl, .inl ⟨rfl, getT_none_of (fun j hj => HA.out j hj (by omega))⟩⟩
/-- What a Begin of the document's leaves. -/
def SameB (n : Nat) (v v' : Value) : Prop := ∀ g, v'.ownBlock = some g → v.ownBlock = some g ∨ n ≤ g
def RPost (B c : Nat) (v : Value) (t' : TbM) (w w' : World) : Prop := ∃ v', RT w' B c v' t' ∧ SameB w.heap.size v v' ∧ Keep (fun z => z = c ∨ v.ownBlock = some z) w w'
theorem RPost.stay {B c : Nat} {v : Value} {t : TbM} {w : World} (h : RT w B c v t) : RPost B c v t w w := ⟨v, h, fun _ q => .inl q, Keep.refl _ _⟩
theorem RPost.belowL {B c : Nat} {v : Value} {t : TbM} {w w0 w1 : World} (hb : Below w.heap.size w w0) (h : RPost B c v t w0 w1) : RPost B c v t w w1 := by
  obtain ⟨v', h1, h2, h3⟩ := h
  refine ⟨v', h1, fun g hg => ?_, (Keep.of_below hb).trans h3 (fun _ _ q => q)⟩
  rcases h2 g hg with q | q
  · exact .inl q
  · exact .inr (Nat.le_trans hb.size q)
theorem RPost.belowR {B c : Nat} {v : Value} {t : TbM} {w w1 w2 : World} (h : RPost B c v t w w1) (hb : Below w1.heap.size w1 w2) : RPost B c v t w w2 := by
  obtain ⟨v', h1, h2, h3⟩ := h
  exact ⟨v', h1.below hb, h2, h3.then_below hb⟩
theorem rbegun {w w0 w3 w4 : World} {B c : Nat} {v v' : Value} {t : TbM} {lsn : Int} (h : RT w B c v t) (hb0 : Below w.heap.size w w0) (hr : GRow w3 B 58 4 v' (t.L.length + 1) (rowsC lvC t.L ++ lvC ⟨t.next, lsn, false, false⟩)) (hg : w0.grownBy w3 v.ownBlock) (hn : v'.ownBlock = v.ownBlock ∨ v'.ownBlock = some w0.heap.size)
    (hw : w4 = (w3.setCell ⟨c, 0, none⟩ v').setCell ⟨c, 1, none⟩ (.int .i64 (t.next + 1))) (h1 : isLsn lsn = true) (h2 : t.full = false) : RPost B c v (t.begun lsn) w w4 := by
  have k1 : Keep (fun z => v.ownBlock = some z) w0 w3 := (Keep.refl _ w0).grown hg (fun _ e _ => e)
  have k2 : Keep (fun z => z = c) w3 w4 := by rw [hw]; exact ((Keep.refl (fun z => z = c) w3).setCell (g := c) (j := 0) (fun _ => rfl) v').setCell (g := c) (j := 1) (fun _ => rfl) _
  have hc0 := h.lt.1
  have ap' : ∀ g, v'.ownBlock = some g → g ≠ c := by
    intro g hg'
    rcases hn with e | e
    · rw [e] at hg'; exact h.ap g hg'
    · rw [e] at hg'; cases hg'; have := hb0.size; omega
  have b3 : Cells w3 c [v, .int .i64 t.next] := (h.box.below hb0).keep k1 (fun q => h.ap _ q rfl)
  refine ⟨v', ⟨?_, ?_, ap', h.low, h.ok.begun h1 h2⟩, ?_, ?_⟩
  · have := (b3.stored (j := 0) (by simp) v').stored (j := 1) (by simp) (.int .i64 (t.next + 1))
    rw [← hw] at this
    exact this
  · have hr' : GRow w3 B 58 4 v' (t.begun lsn).L.length (rowsC lvC (t.begun lsn).L) := by simpa [TbM.begun, rowsC] using hr
    exact GRow.keep hr' k2 (fun g hg' q => ap' g hg' q)
  · intro g hg'
    rcases hn with e | e
    · rw [e] at hg'; exact .inl hg'
    · rw [e] at hg'; cases hg'; exact .inr hb0.size
  · have ka : Keep (fun z => z = c ∨ v.ownBlock = some z) w w3 := (Keep.of_below hb0).trans k1 (fun _ _ q => .inr q)
    exact ka.trans k2 (fun _ _ q => .inl q)
set_option maxHeartbeats 4000000 in
theorem rBegin_any (B c : Nat) (v : Value) (t : TbM) (lsn : Int) (w : World) (h : RT w B c v t) : Calls Tryz.prog 38 #[ptr c, .int .i64 lsn] w fun r w' => r = .returned (.tuple #[.int .i64 (t.beginN lsn), .int .i64 (t.beginE lsn)]) ∧ RPost B c v (t.beginT lsn) w w' := by
  obtain ⟨a, cap, rfl, hl, hnn, hc⟩ := h.form
  obtain ⟨k0, -⟩ := h.box.get 0 _ rfl
  obtain ⟨k1, -⟩ := h.box.get 1 _ rfl
  have few := h.ok.few
  have HP := hide h
  unfold TbM.beginN TbM.beginT TbM.beginE
  cases h1 : isLsn lsn with
  | false =>
    clear h hl
    simp only [Bool.false_eq_true, if_false, show ¬ ((4 : Int) = 0) by decide]
    unfold isLsn at h1
    by_cases q1 : lsn < 1
    · have d1 : decide (lsn < 1) = true := by simpa using q1
      clear h1
      go_enter Tryz.func38, Tryz.ntmps38
      go_wp2
      go_ret2
      exact ⟨rfl, RPost.stay HP.out⟩
    · have d1 : decide (lsn < 1) = false := by simpa using q1
      have d2 : decide (2147483647 < lsn) = true := by simp at h1 ⊢; omega
      clear h1
      go_enter Tryz.func38, Tryz.ntmps38
      go_wp2
      go_ret2
      exact ⟨rfl, RPost.stay HP.out⟩
  | true =>
    have d1 : decide (lsn < 1) = false := by unfold isLsn at h1; simp at h1 ⊢; omega
    have d2 : decide (2147483647 < lsn) = false := by unfold isLsn at h1; simp at h1 ⊢; omega
    cases h2 : t.full with
    | true =>
      clear h hl
      simp only [if_true, show ¬ ((131 : Int) = 0) by decide, if_false]
      unfold TbM.full at h2
      by_cases q1 : 32 ≤ t.L.length
      · have d3 : decide ((32 : Int) ≤ (t.L.length : Int)) = true := by simp; omega
        clear h1 h2
        go_enter Tryz.func38, Tryz.ntmps38
        go_wp2
        go_ret2
        exact ⟨rfl, RPost.stay HP.out⟩
      · have d3 : decide ((32 : Int) ≤ (t.L.length : Int)) = false := by simp; omega
        have d4 : decide (2147483647 < t.next) = true := by simp at h2 ⊢; omega
        clear h1 h2
        go_enter Tryz.func38, Tryz.ntmps38
        go_wp2
        go_ret2
        exact ⟨rfl, RPost.stay HP.out⟩
    | false =>
      have d3 : decide ((32 : Int) ≤ (t.L.length : Int)) = false := by unfold TbM.full at h2; simp at h2 ⊢; omega
      have d4 : decide (2147483647 < t.next) = false := by unfold TbM.full at h2; simp at h2 ⊢; omega
      have n1 := h.ok.n1
      have n2 := h.ok.n2
      have hw1 : wrap64 (t.next + 1) = t.next + 1 := wrapI (by unfold I64; omega)
      have hw2 : wrap64 (t.next + 1 - 1) = t.next := by rw [Int.add_sub_cancel]; exact wrapI (by unfold I64; omega)
      have hw3 : t.next + 1 - 1 = t.next := by omega
      have H1 := hide h1
      have H2 := hide h2
      have HLI := hide hl
      have HBc := hide h.box.1
      simp only [if_true, Bool.false_eq_true, if_false]
      clear h hl h1 h2
      go_enter Tryz.func38, Tryz.ntmps38
      go_upto_region 5 with fail
      clear k0 k1
      refine wp_region_held_drew (S := fun wq => wq.cell? ⟨c, 1, none⟩ = some (.int .i64 t.next)) (by kernel_rfl) (HP.out.box.get 1 _ rfl).1 (fun hS => ?_)
      have D0 := hide ((Below.refl w.heap.size w).drew)
      have C0 := hide (HP.out.box.below D0.out)
      have R0 := hide (GRow.below HP.out.row D0.out)
      have BL := hide (show B ≤ w.heap.size by have := HP.out.low; have := HBc.out; omega)
      generalize w.drew = x0 at *
      refine take_at 0 (some 25) (v := ?_) rfl rfl (by kernel_rfl) (by kernel_rfl) (by kernel_rfl) (fun _ _ _ h => h) ⟨by rfl, ?_⟩ hS ?_
      rotate_left
      · intro wq hSw; go_simp; try rfl
      simp only [Act.put, List.setIfInBounds_toArray, List.set_cons_zero, List.set_cons_succ]
      refine take_at 1 (some 26) (v := ?_) rfl rfl (by kernel_rfl) (by kernel_rfl) (by kernel_rfl) (fun _ _ _ h => h) ⟨by rfl, ?_⟩ hS ?_
      rotate_left
      · intro wq hSw; go_simp; try rfl
      simp only [Act.put, List.setIfInBounds_toArray, List.set_cons_zero, List.set_cons_succ]
      refine take_at 2 (some 27) (v := ?_) rfl rfl (by kernel_rfl) (by kernel_rfl) (by kernel_rfl) (fun _ _ _ h => h) ⟨by rfl, ?_⟩ hS ?_
      rotate_left
      · intro wq hSw; go_simp; try rfl
      simp only [Act.put, List.setIfInBounds_toArray, List.set_cons_zero, List.set_cons_succ]
      refine take_at 3 (some 28) (v := ?_) rfl rfl (by kernel_rfl) (by kernel_rfl) (by kernel_rfl) (fun _ _ _ h => h) ⟨by rfl, ?_⟩ hS ?_
      rotate_left
      · intro wq hSw; go_simp; try rfl
      simp only [Act.put, List.setIfInBounds_toArray, List.set_cons_zero, List.set_cons_succ]
      refine take_at 5 (some 30) (v := ?_) rfl rfl (by kernel_rfl) (by kernel_rfl) (by kernel_rfl) (fun _ _ _ h => h) ⟨by rfl, ?_⟩ hS ?_
      rotate_left
      · intro wq hSw; go_simp; try rfl
      simp only [Act.put, List.setIfInBounds_toArray, List.set_cons_zero, List.set_cons_succ]
      refine take_at 6 (some 31) (v := ?_) rfl rfl (by kernel_rfl) (by kernel_rfl) (by kernel_rfl) (fun _ _ _ h => h) ⟨by rfl, ?_⟩ hS ?_
      rotate_left
      · intro wq hSw; go_simp; try rfl
      simp only [Act.put, List.setIfInBounds_toArray, List.set_cons_zero, List.set_cons_succ]
      refine take_at 7 (some 32) (v := ?_) rfl rfl (by kernel_rfl) (by kernel_rfl) (by kernel_rfl) (fun _ _ _ h => h) ⟨by rfl, ?_⟩ hS ?_
      rotate_left
      · intro wq hSw; go_simp; try rfl
      simp only [Act.put, List.setIfInBounds_toArray, List.set_cons_zero, List.set_cons_succ]
      refine take_at 8 (some 33) (v := ?_) rfl rfl (by kernel_rfl) (by kernel_rfl) (by kernel_rfl) (fun _ _ _ h => h) ⟨by rfl, ?_⟩ hS ?_
      rotate_left
      · intro wq hSw; go_simp; try rfl
      simp only [Act.put, List.setIfInBounds_toArray, List.set_cons_zero, List.set_cons_succ]
      refine take_at 9 (some 34) (v := ?_) rfl rfl (by kernel_rfl) (by kernel_rfl) (by kernel_rfl) (fun _ _ _ h => h) ⟨by rfl, ?_⟩ hS ?_
      rotate_left
      · intro wq hSw; go_simp; try rfl
      simp only [Act.put, List.setIfInBounds_toArray, List.set_cons_zero, List.set_cons_succ]
      refine take_at 10 (some 35) (v := ?_) rfl rfl (by kernel_rfl) (by kernel_rfl) (by kernel_rfl) (fun _ _ _ h => h) ⟨by rfl, ?_⟩ hS ?_
      rotate_left
      · intro wq hSw; go_simp; try rfl
      simp only [Act.put, List.setIfInBounds_toArray, List.set_cons_zero, List.set_cons_succ]
      have al := alloc_below x0 (.cells #[.int .i64 t.next, .int .i64 lsn, .bool false, .bool false] 58)
      obtain ⟨v3, x3, hr3, hO, hg3, hn3⟩ := run_pushR Tryz.underlying31 info26 rfl (by decide) (by decide) 31 (x0.alloc (.cells #[.int .i64 t.next, .int .i64 lsn, .bool false, .bool false] 58)) B (.slice a t.L.length cap) t.L.length (rowsC lvC t.L) (GRow.below R0.out al) ⟨x0.heap.size, 0, none⟩ 1 1 (lvC ⟨t.next, lsn, false, false⟩) rfl (lies_new4 x0 ⟨t.next, lsn, false, false⟩ 58) (lvC_one _) (by omega) (by have := BL.out; have := D0.out.size; simp; omega)
      have kg := (Keep.refl (fun z => (Value.slice a t.L.length cap).ownBlock = some z) (x0.alloc (.cells #[.int .i64 t.next, .int .i64 lsn, .bool false, .bool false] 58))).grown hg3 (fun _ e _ => e)
      have c3 := (C0.out.below al).keep kg (fun q => HP.out.ap _ q rfl)
      have HR3 := hide hr3
      have s0 : (fun wq : World => wq.cell? ⟨c, 1, none⟩ = some (.int .i64 t.next)) x0 := hS
      have s1 : (fun wq : World => wq.cell? ⟨c, 1, none⟩ = some (.int .i64 t.next)) (x0.alloc (.cells #[.int .i64 t.next, .int .i64 lsn, .bool false, .bool false] 58)) := ((C0.out.below al).get 1 _ rfl).1
      have s3 : (fun wq : World => wq.cell? ⟨c, 1, none⟩ = some (.int .i64 t.next)) x3 := (c3.get 1 _ rfl).1
      obtain ⟨f0c, f0f⟩ := c3.get 0 _ rfl
      have s4 : (fun wq : World => wq.cell? ⟨c, 1, none⟩ = some (.int .i64 t.next)) (x3.setCell ⟨c, 0, none⟩ v3) := ((c3.stored (j := 0) (by simp) v3).get 1 _ rfl).1
      obtain ⟨a3, cp3, e3, -⟩ := GRow.lies hO
      subst e3
      obtain ⟨g1c, g1f⟩ := (c3.stored (j := 0) (by simp) (.slice a3 (t.L.length + 1) cp3)).get 1 _ rfl
      have FIN := hide (fun w4 hw => rbegun (lsn := lsn) (w4 := w4) HP.out (D0.out.trans (al.mono D0.out.size)) hO hg3 hn3 hw H1.out H2.out)
      have cz0 := (C0.out.get 0 _ rfl).1
      have cz1 := ((C0.out.below al).get 0 _ rfl).1
      clear kg hr3 hO hg3 hn3 c3
      clear hS
      refine wpAnyH_ready (rs := [4, 11]) (by kernel_rfl) (by simp) ?_
      refine AllReadyH.cons rfl (fun K hK => ?_) (AllReadyH.cons rfl (fun K hK => ?_) AllReadyH.nil)
      · go_simp
        go_wp2_with fail
        refine hK.out _ _ s0 (fun hS => ?_)
        clear hK K hS
        (try simp only [Act.put, List.setIfInBounds_toArray, List.set_cons_zero, List.set_cons_succ])
        refine wpAnyH_ready (rs := [11]) (by kernel_rfl) (by simp) ?_
        refine AllReadyH.cons rfl (fun K hK => ?_) AllReadyH.nil
        go_simp
        go_wp2_with fail
        refine hK.out _ _ s1 (fun hS => ?_)
        clear hK K hS
        (try simp only [Act.put, List.setIfInBounds_toArray, List.set_cons_zero, List.set_cons_succ])
        refine wpAnyH_ready (rs := [12]) (by kernel_rfl) (by simp) ?_
        refine AllReadyH.cons rfl (fun K hK => ?_) AllReadyH.nil
        refine wp_run 37 (.tmp 29) (.tmp 36) rfl rfl rfl rfl rfl HR3.out ?_
        refine hK.out _ _ s3 (fun hS => ?_)
        clear hK K
        (try simp only [Act.put, List.setIfInBounds_toArray, List.set_cons_zero, List.set_cons_succ])
        refine take_at 13 (some 38) (v := ?_) rfl rfl (by kernel_rfl) (by kernel_rfl) (by kernel_rfl) (fun _ _ _ h => h) ⟨by rfl, ?_⟩ hS ?_
        rotate_left
        · intro wq hSw; go_simp; try rfl
        simp only [Act.put, List.setIfInBounds_toArray, List.set_cons_zero, List.set_cons_succ]
        refine take_at 14 (some 39) (v := ?_) rfl rfl (by kernel_rfl) (by kernel_rfl) (by kernel_rfl) (fun _ _ _ h => h) ⟨by rfl, ?_⟩ hS ?_
        rotate_left
        · intro wq hSw; go_simp; try rfl
        simp only [Act.put, List.setIfInBounds_toArray, List.set_cons_zero, List.set_cons_succ]
        clear hS
        refine wpAnyH_ready (rs := [15]) (by kernel_rfl) (by simp) ?_
        refine AllReadyH.cons rfl (fun K hK => ?_) AllReadyH.nil
        go_simp
        go_wp2_with fail
        refine hK.out _ _ s4 (fun hS => ?_)
        clear hK K hS
        (try simp only [Act.put])
        refine wpAnyH_done (by kernel_rfl) ?_ _
        clear cz0 cz1 s0 s1 s3 s4 f0c f0f al
        go_wp2_with fail
        go_ret2
        exact ⟨rfl, FIN.out _ rfl⟩
      · go_simp
        go_wp2_with fail
        refine hK.out _ _ s1 (fun hS => ?_)
        clear hK K hS
        (try simp only [Act.put, List.setIfInBounds_toArray, List.set_cons_zero, List.set_cons_succ])
        refine wpAnyH_ready (rs := [4]) (by kernel_rfl) (by simp) ?_
        refine AllReadyH.cons rfl (fun K hK => ?_) AllReadyH.nil
        go_simp
        go_wp2_with fail
        refine hK.out _ _ s1 (fun hS => ?_)
        clear hK K hS
        (try simp only [Act.put, List.setIfInBounds_toArray, List.set_cons_zero, List.set_cons_succ])
        refine wpAnyH_ready (rs := [12]) (by kernel_rfl) (by simp) ?_
        refine AllReadyH.cons rfl (fun K hK => ?_) AllReadyH.nil
        refine wp_run 37 (.tmp 29) (.tmp 36) rfl rfl rfl rfl rfl HR3.out ?_
        refine hK.out _ _ s3 (fun hS => ?_)
        clear hK K
        (try simp only [Act.put, List.setIfInBounds_toArray, List.set_cons_zero, List.set_cons_succ])
        refine take_at 13 (some 38) (v := ?_) rfl rfl (by kernel_rfl) (by kernel_rfl) (by kernel_rfl) (fun _ _ _ h => h) ⟨by rfl, ?_⟩ hS ?_
        rotate_left
        · intro wq hSw; go_simp; try rfl
        simp only [Act.put, List.setIfInBounds_toArray, List.set_cons_zero, List.set_cons_succ]
        refine take_at 14 (some 39) (v := ?_) rfl rfl (by kernel_rfl) (by kernel_rfl) (by kernel_rfl) (fun _ _ _ h => h) ⟨by rfl, ?_⟩ hS ?_
        rotate_left
        · intro wq hSw; go_simp; try rfl
        simp only [Act.put, List.setIfInBounds_toArray, List.set_cons_zero, List.set_cons_succ]
        clear hS
        refine wpAnyH_ready (rs := [15]) (by kernel_rfl) (by simp) ?_
        refine AllReadyH.cons rfl (fun K hK => ?_) AllReadyH.nil
        go_simp
        go_wp2_with fail
        refine hK.out _ _ s4 (fun hS => ?_)
        clear hK K hS
        (try simp only [Act.put])
        refine wpAnyH_done (by kernel_rfl) ?_ _
        clear cz0 cz1 s0 s1 s3 s4 f0c f0f al
        go_wp2_with fail
        go_ret2
        exact ⟨rfl, FIN.out _ rfl⟩
end Go.Proofs.YtblngphjoafidaaGreat
