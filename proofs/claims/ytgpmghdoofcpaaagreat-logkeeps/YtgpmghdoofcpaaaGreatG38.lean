import Derived.Test.YtgpmghdoofcpaaaGreatLg13
import Derived.Test.YtgpmghdoofcpaaaGreatG37
namespace Go.Proofs.YtgpmghdoofcpaaaGreat.Lg
open Go.RowKit Go.QK
open Dv (hide bnext alloc_below load_arr store_arr slice_arr wp_load_arr wp_store_arr neq_arr info91)

structure LogM.Ok (m : LogM) : Prop where
  len : m.recs.length ≤ m.count
  place : m.first + m.count ≤ 10000
  fo : m.forced ≤ m.recs.length
def LogM.appE (m : LogM) (r : RecM) : Nat := if m.ended = true then 40 else if chkE (wl (m.recs.length + 1) r) ≠ 0 then chkE (wl (m.recs.length + 1) r) else if m.count = m.recs.length then 6 else 0
def LogM.appM (m : LogM) (r : RecM) : LogM := if m.appE r = 0 then { m with recs := m.recs ++ [bytesR (wl (m.recs.length + 1) r)] } else m
def LogM.appN (m : LogM) (r : RecM) : Nat := if m.appE r = 0 then m.recs.length + 1 else 0
def LogM.getE (m : LogM) (n : Int) : Nat := if m.ended = true then 40 else if n < 1 ∨ (m.recs.length : Int) < n then 4 else apE n.toNat (m.recs.getD (n.toNat - 1) [])
def LogM.getR (m : LogM) (n : Int) : RecM := if m.getE n = 0 then apR n.toNat (m.recs.getD (n.toNat - 1) []) else zeroR

section
variable {w w' : World} {S S' T U : Nat → Prop} {l d : Nat} {g : Dev} {m : LogM}
theorem LD.keep (h : LD w S T l d g m) (hk : Keep U w w') (hS : ∀ b, U b → ¬ S b) (hT : ∀ b, U b → ¬ T b) (hl : ¬ U l) : LD w' S T l d g m := by
  obtain ⟨rv, vs, h1, h2⟩ := h.recs
  exact ⟨h.dev.keep hk hS, ⟨rv, vs, h1.keep hk hT, h2.keep hk hl⟩, h.nT, h.nS, h.ap⟩
theorem LD.below (h : LD w S T l d g m) (hk : Below w.heap.size w w') : LD w' S T l d g m :=
  h.keep (Keep.of_below (S := fun _ => False) hk) (fun _ q => q.elim) (fun _ q => q.elim) id
theorem LD.lt (h : LD w S T l d g m) : l < w.heap.size ∧ (∀ b, S b → b < w.heap.size) ∧ ∀ b, T b → b < w.heap.size := by
  obtain ⟨rv, vs, h1, h2⟩ := h.recs
  exact ⟨h2.1, h.dev.lt, h1.lt⟩
set_option maxRecDepth 100000 in
theorem forced_any (h : LD w S T l d g m) : Calls Tryz.prog 23 #[.pointer (some ⟨l, 0, none⟩)] w fun e w' => e = .returned (.int .i64 (m.forced : Int)) ∧ w' = w := by
  obtain ⟨rv, vs, -, h2⟩ := h.recs
  obtain ⟨c4, _⟩ := h2.get 4 _ rfl
  clear h h2
  go_enter Tryz.func23, Tryz.ntmps23
  go_wp2_with fail
  go_ret
  exact ⟨rfl, rfl⟩
theorem lastL_any (h : LD w S T l d g m) : Calls Tryz.prog 18 #[.pointer (some ⟨l, 0, none⟩)] w fun e w' => e = .returned (.int .i64 (m.recs.length : Int)) ∧ w' = w := by
  obtain ⟨rv, vs, h1, h2⟩ := h.recs
  obtain ⟨ra, rc, erv⟩ := h1.form
  obtain ⟨c3, _⟩ := h2.get 3 _ rfl
  rw [erv] at c3
  exact last_any l _ rc ra w c3
set_option maxRecDepth 100000 in
set_option maxHeartbeats 1000000 in
theorem free_any (h : LD w S T l d g m) (hm : m.Ok) : Calls Tryz.prog 10 #[.pointer (some ⟨l, 0, none⟩)] w fun e w' => e = .returned (.int .i64 ((m.count - m.recs.length : Nat) : Int)) ∧ Below w.heap.size w w' := by
  have KL := fun (w' : World) (hb : Below w.heap.size w w') => lastL_any (h.below hb)
  have KL := hide (KL w.drew (Below.refl _ w).drew)
  obtain ⟨rv, vs, h1, h2⟩ := h.recs
  obtain ⟨c2, _⟩ := h2.get 2 _ rfl
  have C2 := hide c2
  have hlen := hm.len
  have hpl := hm.place
  obtain ⟨mc, hmc⟩ : ∃ mc, mc = m.count := ⟨_, rfl⟩
  obtain ⟨mr, hmr⟩ : ∃ mr, mr = m.recs.length := ⟨_, rfl⟩
  rw [← hmc] at C2 hlen hpl ⊢
  rw [← hmr] at KL hlen ⊢
  have B1 := hide (show Below w.heap.size w w.drew from (Below.refl _ w).drew)
  clear h h1 h2 c2 hmc hmr
  go_enter Tryz.func10, Tryz.ntmps10
  go_upto_region 1 with fail
  refine wp_region_held_drew (S := fun wq => wq.cell? ⟨l, 2, none⟩ = some (.int .i64 (mc : Int))) (by kernel_rfl) C2.out (fun hS => ?_)
  generalize w.drew = w2 at *
  refine take_at 0 (some 3) (v := ?_) rfl rfl (by kernel_rfl) (by kernel_rfl) (by kernel_rfl) (fun _ _ _ h => h) ⟨by rfl, ?_⟩ hS ?_
  rotate_left
  · intro wq hSw; go_simp; try rfl
  simp only [Act.put, List.setIfInBounds_toArray, List.set_cons_zero, List.set_cons_succ]
  refine take_at 1 (some 4) (v := ?_) rfl rfl (by kernel_rfl) (by kernel_rfl) (by kernel_rfl) (fun _ _ _ h => h) ⟨by rfl, ?_⟩ hS ?_
  rotate_left
  · intro wq hSw; go_simp; try rfl
  simp only [Act.put, List.setIfInBounds_toArray, List.set_cons_zero, List.set_cons_succ]
  refine take_at 2 (some 5) (v := ?_) rfl rfl (by kernel_rfl) (by kernel_rfl) (by kernel_rfl) (fun _ _ _ h => h) ⟨by rfl, ?_⟩ hS ?_
  rotate_left
  · intro wq hSw; go_simp; try rfl
  simp only [Act.put, List.setIfInBounds_toArray, List.set_cons_zero, List.set_cons_succ]
  refine take_at 3 (some 6) (v := ?_) rfl rfl (by kernel_rfl) (by kernel_rfl) (by kernel_rfl) (fun _ _ _ h => h) ⟨by rfl, ?_⟩ hS ?_
  rotate_left
  · intro wq hSw; go_simp; try rfl
  simp only [Act.put, List.setIfInBounds_toArray, List.set_cons_zero, List.set_cons_succ]
  refine take_at 4 (some 7) (v := ?_) rfl rfl (by kernel_rfl) (by kernel_rfl) (by kernel_rfl) (fun _ _ _ h => h) ⟨by rfl, ?_⟩ hS ?_
  rotate_left
  · intro wq hSw; go_simp; try rfl
  simp only [Act.put, List.setIfInBounds_toArray, List.set_cons_zero, List.set_cons_succ]
  refine wpAnyH_ready (rs := [5]) (by kernel_rfl) (by simp) ?_
  refine AllReadyH.cons rfl (fun K hK => ?_) AllReadyH.nil
  go_simp
  go_wp2_with fail
  refine KL.out.mono ?_
  rintro e w3 ⟨rfl, rfl⟩
  go_wp2_with fail
  refine hK.out _ _ hS (fun hS => ?_)
  clear hK K
  (try simp only [Act.put, List.setIfInBounds_toArray, List.set_cons_zero, List.set_cons_succ])
  refine take_at 6 (some 9) (v := ?_) rfl rfl (by kernel_rfl) (by kernel_rfl) (by kernel_rfl) (fun _ _ _ h => h) ⟨by rfl, ?_⟩ hS ?_
  rotate_left
  · intro wq hSw; go_simp; try rfl
  simp only [Act.put, List.setIfInBounds_toArray, List.set_cons_zero, List.set_cons_succ]
  refine take_at 7 (some 2) (v := ?_) rfl rfl (by kernel_rfl) (by kernel_rfl) (by kernel_rfl) (fun _ _ _ h => h) ⟨by rfl, ?_⟩ hS ?_
  rotate_left
  · intro wq hSw; go_simp; try rfl
  simp only [Act.put, List.setIfInBounds_toArray, List.set_cons_zero, List.set_cons_succ]
  refine wpAnyH_done (by kernel_rfl) ?_ _
  go_wp2_with fail
  go_ret
  refine ⟨?_, B1.out⟩
  simp
  rw [IntKind.wrap_i64]
  omega
set_option maxRecDepth 100000 in
set_option maxHeartbeats 1000000 in
theorem err_any (h : LD w S T l d g m) : Calls Tryz.prog 46 #[.pointer (some ⟨l, 0, none⟩)] w fun e w' => ∃ v, e = .returned v ∧ ((m.ended = false ∧ v = .nilIface) ∨ (m.ended = true ∧ ErrNew w' w.heap.size v forceS 0 40)) ∧ Below w.heap.size w w' := by
  obtain ⟨rv, vs, h1, h2⟩ := h.recs
  obtain ⟨c5, _⟩ := h2.get 5 _ rfl
  have KF := hide (fault_new forceS 0 40 w)
  clear h h1 h2
  cases he : m.ended
  · rw [he] at c5
    clear he
    go_enter Tryz.func46, Tryz.ntmps46
    go_wp2_with fail
    go_ret
    exact ⟨_, rfl, .inl ⟨trivial, rfl⟩, Below.refl _ _⟩
  · rw [he] at c5
    clear he
    go_enter Tryz.func46, Tryz.ntmps46
    go_wp2_with fail
    refine KF.out.mono ?_
    rintro e w1 ⟨v, rfl, h1, h2⟩
    go_wp2_with fail
    go_ret
    exact ⟨_, rfl, .inr ⟨trivial, h1⟩, h2⟩

set_option maxRecDepth 100000 in
set_option maxHeartbeats 4000000 in
theorem get_any (h : LD w S T l d g m) (hm : m.Ok) (n : Int) (hn : -9223372036854775808 ≤ n ∧ n ≤ 9223372036854775807) :
    Calls Tryz.prog 16 #[.pointer (some ⟨l, 0, none⟩), .int .i64 n] w fun e w' => ∃ v, e = .returned (.tuple #[v, .int .i64 ((m.getE n : Nat) : Int)]) ∧ RecOut w.heap.size w' v (m.getR n) ∧ Below w.heap.size w w' := by
  obtain ⟨w1, hw1⟩ : ∃ w1, w1 = w.alloc (.cells #[.int .i64 0, .int .i64 0, .int .i64 0, .int .i64 0, .int .i64 0, .int .i64 0, .int .i64 0, .int .i64 0, .int .i64 0, .int .i64 0, .int .i64 0, .int .i64 0, .int .i64 0, .int .i64 0, .slice none 0 0, .slice none 0 0, .int .i64 0] 44) := ⟨_, rfl⟩
  have b1 : Below w.heap.size w w1 := by rw [hw1]; exact alloc_below _ _
  have X1 : RBox w1 w.heap.size 44 #[.int .i64 0, .int .i64 0, .int .i64 0, .int .i64 0, .int .i64 0, .int .i64 0, .int .i64 0, .int .i64 0, .int .i64 0, .int .i64 0, .int .i64 0, .int .i64 0, .int .i64 0, .int .i64 0, .slice none 0 0, .slice none 0 0, .int .i64 0] := by rw [hw1]; exact RBox.new w #[.int .i64 0, .int .i64 0, .int .i64 0, .int .i64 0, .int .i64 0, .int .i64 0, .int .i64 0, .int .i64 0, .int .i64 0, .int .i64 0, .int .i64 0, .int .i64 0, .int .i64 0, .int .i64 0, .slice none 0 0, .slice none 0 0, .int .i64 0] 44
  have h := h.below b1
  have hlen := hm.len
  have hpl := hm.place
  have KL := hide (lastL_any h)
  obtain ⟨rv, vs, h1, h2⟩ := h.recs
  obtain ⟨c5, _⟩ := h2.get 5 _ rfl
  obtain ⟨c3, _⟩ := h2.get 3 _ rfl
  have HW := hide hw1
  have HX := hide X1
  have HB := hide b1
  have lt1 := X1.lt
  obtain ⟨ge, hge⟩ : ∃ q, q = m.getE n := ⟨_, rfl⟩
  obtain ⟨gr, hgr⟩ : ∃ q, q = m.getR n := ⟨_, rfl⟩
  rw [← hge, ← hgr]
  unfold LogM.getR at hgr
  rw [← hge] at hgr
  unfold LogM.getE at hge
  cases he : m.ended
  · rw [he] at hge c5
    rw [if_neg (by simp)] at hge
    by_cases hp : n < 1 ∨ (m.recs.length : Int) < n
    · rw [if_pos hp] at hge
      subst hge
      rw [if_neg (by omega)] at hgr
      subst hgr
      by_cases q1 : n < 1
      · have d1 : decide (n < 1) = true := by simpa using q1
        clear he h1 h2 h X1 b1 hw1 hp
        go_enter Tryz.func16, Tryz.ntmps16
        go_upto_region 1 with fail
        rw [← HW.out]
        go_wp2_with (refine wpList_store36 HX.out rfl rfl rfl rfl rfl ?_; intro wf hbf hkf)
        exact bodyPost_ret (results_box2 rfl _ _ rfl hbf rfl) rfl ⟨_, rfl, RecOut.zero _ _, HB.out.trans (hkf.below HB.out.size (fun k hk q => by omega))⟩
      · have d1 : decide (n < 1) = false := by simpa using q1
        have d2 : decide ((m.recs.length : Int) < n) = true := by simp; omega
        have q2 : (m.recs.length : Int) < n := by omega
        clear he h1 h2 h X1 b1 hw1 hp
        go_enter Tryz.func16, Tryz.ntmps16
        go_upto_region 1 with fail
        rw [← HW.out]
        go_wp2_with fail
        refine KL.out.mono ?_
        rintro e w2 ⟨rfl, rfl⟩
        go_wp2_with (refine wpList_store36 HX.out rfl rfl rfl rfl rfl ?_; intro wf hbf hkf)
        exact bodyPost_ret (results_box2 rfl _ _ rfl hbf rfl) rfl ⟨_, rfl, RecOut.zero _ _, HB.out.trans (hkf.below HB.out.size (fun k hk q => by omega))⟩
    · rw [if_neg hp] at hge
      obtain ⟨k, rfl⟩ : ∃ k : Nat, n = (k : Int) := ⟨n.toNat, by omega⟩
      have d1 : decide ((k : Int) < 1) = false := by simp; omega
      have d2 : decide ((m.recs.length : Int) < (k : Int)) = false := by simp; omega
      have q2 : ¬ ((m.recs.length : Int) < (k : Int)) := by omega
      simp only [Int.toNat_natCast] at hge hgr
      obtain ⟨gb, cb, a, c', erv, hcell, hby, hle, hnil, hall, h502⟩ := h1.get (k - 1) (by omega)
      have KA := hide (apart_any k a (m.recs.getD (k - 1) []) c' w1 hby hle hnil (by omega) hall)
      rw [erv] at c3
      have hlt1 : k - 1 < m.recs.length := by omega
      have hidx : ((k : Int) - 1) = ((k - 1 : Nat) : Int) := by omega
      have HGE := hide hge
      have HGR := hide hgr
      clear he h1 h2 h X1 b1 hw1 hp hge hgr hby hnil hall
      generalize m.recs.getD (k - 1) [] = bb at *
      generalize k - 1 = k1 at *
      generalize m.recs.length = ml at *
      rw [← HGE.out] at KA
      have hgr2 : apR k bb = gr := by
        have := HGR.out
        by_cases q : ge = 0
        · rw [if_pos q] at this; exact this.symm
        · rw [if_neg q] at this
          rw [this]
          unfold apR
          rw [← HGE.out, if_neg q]
      rw [hgr2] at KA
      clear hgr2 HGR HGE
      go_enter Tryz.func16, Tryz.ntmps16
      go_upto_region 1 with fail
      rw [← HW.out]
      go_wp2_with fail
      refine KL.out.mono ?_
      rintro e w2 ⟨rfl, rfl⟩
      clear KL
      go_wp2_with fail
      refine KA.out.mono ?_
      rintro e w3 ⟨v3, rfl, o3, b3⟩
      have X3 := hide (HX.out.below b3)
      have B3 := hide (bnext HB.out b3 (Nat.le_refl _))
      have O3 := hide (o3.mono (B' := w.heap.size) (by omega))
      have O3n := hide o3
      obtain ⟨la, da, lc, dc, rfl, l1, d1', ld1⟩ := o3
      have LL := hide (show ∀ g, (Value.slice la gr.live.length lc).ownBlock = some g → ¬ g = w.heap.size from fun g q e => by have := (World.ownsRow.lt l1 g q).1; omega)
      have DL := hide (show ∀ g, (Value.slice da gr.dirty.length dc).ownBlock = some g → ¬ g = w.heap.size from fun g q e => by have := (World.ownsRow.lt d1' g q).1; omega)
      have L1 := hide (GRow.mono l1 (B' := w.heap.size) (by omega))
      have D1 := hide (GRow.mono d1' (B' := w.heap.size) (by omega))
      have LDD := hide ld1
      obtain ⟨q0, q1, q2', q3, q4, q5, q6, q7, q8, q9, q10, q11, q12, q13, q14, q15, q16⟩ := gr
      simp only [recC] at *
      clear KA l1 d1' ld1 O3 O3n HX HB b3 c3 c5 hcell
      go_wp2_with (refine wpList_store36 X3.out rfl rfl rfl rfl rfl ?_; intro wf hbf hkf)
      exact bodyPost_ret (results_box2 rfl _ _ rfl hbf rfl) rfl ⟨_, rfl, ⟨la, da, lc, dc, rfl, GRow.keep L1.out hkf LL.out, GRow.keep D1.out hkf DL.out, LDD.out⟩, B3.out.trans (hkf.below B3.out.size (fun k hk q => by omega))⟩
  · rw [he] at hge c5
    rw [if_pos rfl] at hge
    subst hge
    rw [if_neg (by omega)] at hgr
    subst hgr
    clear he h1 h2 h X1 b1 hw1
    go_enter Tryz.func16, Tryz.ntmps16
    go_upto_region 1 with fail
    rw [← HW.out]
    go_wp2_with (refine wpList_store36 HX.out rfl rfl rfl rfl rfl ?_; intro wf hbf hkf)
    exact bodyPost_ret (results_box2 rfl _ _ rfl hbf rfl) rfl ⟨_, rfl, RecOut.zero _ _, HB.out.trans (hkf.below HB.out.size (fun k hk q => by omega))⟩
end
end Go.Proofs.YtgpmghdoofcpaaaGreat.Lg

namespace Go.Proofs.YtgpmghdoofcpaaaGreat
open Go.RowKit Go.QK

/-! How long. -/
theorem form_le : (j n : Nat) → n < 128 ^ (j + 1) → (form n).length ≤ j + 1
  | 0, n, h => by rw [form_small (by simpa using h)]; simp
  | j + 1, n, h => by
    by_cases q : n < 128
    · rw [form_small q]; simp
    · rw [form_big q]
      have : n / 128 < 128 ^ (j + 1) := by
        rw [Nat.div_lt_iff_lt_mul (by decide), Nat.pow_succ] at *
        exact h
      have := form_le j (n / 128) this
      simp
      omega
theorem f1 {n : Nat} (h : n < 128) : (form n).length ≤ 1 := form_le 0 n (by simpa using h)
theorem f3 {n : Nat} (h : n ≤ 1048576) : (form n).length ≤ 3 := form_le 2 n (by omega)
theorem f5 {n : Nat} (h : n ≤ 2147483648) : (form n).length ≤ 5 := form_le 4 n (by omega)
theorem fm_len {α : Type} (g : α → List Nat) (c : Nat) (h : ∀ x, (g x).length ≤ c) (xs : List α) : (xs.flatMap g).length ≤ c * xs.length := by
  induction xs with
  | nil => simp
  | cons x xs ih =>
    rw [List.flatMap_cons, List.length_append, List.length_cons, Nat.mul_succ]
    have := h x
    omega
theorem fm_len_mem {α : Type} (g : α → List Nat) (c : Nat) : (xs : List α) → (∀ x ∈ xs, (g x).length ≤ c) → (xs.flatMap g).length ≤ c * xs.length
  | [], _ => by simp
  | x :: xs, h => by
    rw [List.flatMap_cons, List.length_append, List.length_cons, Nat.mul_succ]
    have := h x (by simp)
    have := fm_len_mem g c xs (fun y hy => h y (by simp [hy]))
    omega
theorem fm2 {α : Type} (g : α → List Nat) (xs : List α) : (xs.flatMap g).flatMap form = xs.flatMap (fun x => (g x).flatMap form) := by
  induction xs with
  | nil => rfl
  | cons x xs ih => rw [List.flatMap_cons, List.flatMap_append, List.flatMap_cons, ih]
theorem live_bytes {l : LiveM} (h : liveIn2 l) : ((liveNs l).flatMap form).length ≤ 11 := by
  unfold liveIn2 at h
  have a1 := f5 (n := l.tx.toNat) (by omega)
  have a2 := f5 (n := l.last.toNat) (by omega)
  have a3 := f1 (n := stateN l) (by have := stateN_le l; omega)
  simp [liveNs]
  omega
theorem dirty_bytes {l : DirtyM} (h : dirtyIn2 l) : ((dirtyNs l).flatMap form).length ≤ 6 := by
  unfold dirtyIn2 at h
  have a1 := f1 (n := l.page.toNat) (by omega)
  have a2 := f5 (n := l.since.toNat) (by omega)
  simp [dirtyNs]
  omega
theorem points_bytes {r : RecM} (h : InR r) : ((pointsNs r.live r.dirty r.next.toNat).flatMap form).length ≤ 455 := by
  have b := h.next
  have a1 := f5 (n := r.next.toNat) (by omega)
  have a2 := f1 (n := r.live.length) (by have := h.ll; omega)
  have a3 := f1 (n := r.dirty.length) (by have := h.dl; omega)
  have c1 := fm_len_mem (fun l => (liveNs l).flatMap form) 11 r.live (fun l q => live_bytes (h.li l q))
  have c2 := fm_len_mem (fun l => (dirtyNs l).flatMap form) 6 r.dirty (fun l q => dirty_bytes (h.di l q))
  have d1 := h.ll
  have d2 := h.dl
  unfold pointsNs
  rw [List.flatMap_append, List.flatMap_append, List.flatMap_append, fm2, fm2]
  simp only [List.length_append, List.flatMap_cons, List.flatMap_nil, List.append_nil]
  omega
theorem cond_bytes {b : Bool} {l : List Nat} {n : Nat} (h : b = true → (l.flatMap form).length ≤ n) : ((bif b then l else []).flatMap form).length ≤ n := by
  cases b
  · simp
  · exact h rfl
theorem bytes_502 {r : RecM} (h : chkE r = 0) (hf : Fits r) : 2 ≤ (bytesR r).length ∧ (bytesR r).length ≤ 502 := by
  obtain ⟨hk, ho⟩ := chkE_ok h
  have hi := okB_in ho
  obtain ⟨g1, g2, g3, g4⟩ := hf
  have b1 := hi.tx; have b2 := hi.prev; have b3 := hi.wp; have b4 := hi.wi; have b5 := hi.sp; have b6 := hi.si; have b7 := hi.id; have b8 := hi.grp
  have hb : bytesR r = form r.kind.toNat ++ (tailN r).flatMap form := by unfold bytesR; rw [nums_tail, List.flatMap_cons]
  have l0 := f1 (n := r.kind.toNat) (by omega)
  have l0' := (form_len (n := r.kind.toNat) (by omega)).1
  have c1 := cond_bytes (b := hTx r.kind) (l := [r.tx.toNat]) (n := 5) (fun _ => by have := f5 (n := r.tx.toNat) (by omega); simpa using this)
  have c2 := cond_bytes (b := hPrev r.kind) (l := [r.prev.toNat]) (n := 5) (fun _ => by have := f5 (n := r.prev.toNat) (by omega); simpa using this)
  have c3 := cond_bytes (b := hCtr r.kind) (l := [r.wp.toNat, r.wi.toNat, r.sp.toNat, r.si.toNat, r.id.toNat]) (n := 7) (fun _ => by
    have a1 := f1 (n := r.wp.toNat) (by omega)
    have a2 := f1 (n := r.wi.toNat) (by omega)
    have a3 := f1 (n := r.sp.toNat) (by omega)
    have a4 := f1 (n := r.si.toNat) (by omega)
    have a5 := f3 (n := r.id.toNat) (by omega)
    simp
    omega)
  have c4 := cond_bytes (b := hFirst r.kind) (l := firstNs r.grp.toNat r.lo r.hi r.val) (n := 40) (fun _ => by
    have := flatForm_len (firstNs r.grp.toNat r.lo r.hi r.val) (by
      have := sgn_lt g2.1 g2.2; have := sgn_lt g3.1 g3.2; have := sgn_lt g4.1 g4.2
      intro n hn; simp [firstNs] at hn; omega)
    simpa [firstNs] using this)
  have c5 := cond_bytes (b := hDelta r.kind) (l := [sgn r.delta]) (n := 10) (fun _ => by
    have := (form_len (sgn_lt g1.1 g1.2)).2
    simpa using this)
  have c6 := cond_bytes (b := hPts r.kind) (l := pointsNs r.live r.dirty r.next.toNat) (n := 455) (fun _ => points_bytes hi)
  have hpos : 0 < ((tailN r).flatMap form).length := by
    have hne : tailN r ≠ [] := by
      unfold tailN
      rcases kinds5 hk.1 hk.2 with q | q | q | q | q
      · rw [q]; simp [hTx]
      · rw [q]; simp [hTx, hPrev, hCtr]
      · rcases q with q | q <;> rw [q] <;> simp [hTx]
      · rcases q with q | q | q <;> rw [q] <;> simp [hTx]
      · rw [q]; simp [hTx, hPrev, hCtr, hFirst, hDelta, hPts, pointsNs]
    obtain ⟨n, ns, e⟩ := List.exists_cons_of_ne_nil hne
    rw [e, List.flatMap_cons, List.length_append]
    have := List.length_pos_iff.2 (form_ok n).ne
    omega
  rw [hb, List.length_append]
  refine ⟨by omega, ?_⟩
  unfold tailN
  simp only [List.flatMap_append, List.length_append]
  by_cases hp : hPts r.kind = true
  · have hk8 : r.kind = 8 := by simpa [hPts] using hp
    rw [hk8] at c1 c2 c3 c4 c5 c6 ⊢
    have e1 : hTx 8 = false := rfl
    have e2 : hPrev 8 = false := rfl
    have e3 : hCtr 8 = false := rfl
    have e4 : hFirst 8 = false := rfl
    have e5 : hDelta 8 = false := rfl
    rw [e1, e2, e3, e4, e5]
    simp only [cond_false, List.flatMap_nil, List.length_nil]
    rw [hk8] at l0
    omega
  · have hp' : hPts r.kind = false := by simpa using hp
    rw [hp'] at c6 ⊢
    simp only [cond_false, List.flatMap_nil, List.length_nil]
    omega
end Go.Proofs.YtgpmghdoofcpaaaGreat
