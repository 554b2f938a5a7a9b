import Derived.Test.YtimakfnlcgedkaaRg1
import Derived.Test.YtimakfnlcgedkaaTake
import Derived.Test.YtimakfnlcgedkaaHold
import Derived.Deep.QuietTactic
import Derived.BigQuiet
import Derived.Deep.DeepCutAuto
import Derived.WalkMore
namespace Go.Proofs.Ytimakfnlcgedkaa
open Go.RowKit Go.QK Go.Maps Go.QM Go.QR
set_option maxRecDepth 100000
theorem named {P : World → Prop} {W : World} (h : ∀ w3, w3 = W → P w3) : P W := h W rfl
theorem planE_place {r : Reg} {c d : Int} (h : inR c d = false) : r.planE c d = 4 ∧ r.planW c d = (0, 0) ∧ r.planS c d = (0, 0) := by
  have e : r.planE c d = 4 := by unfold Reg.planE; rw [if_pos h]
  refine ⟨e, ?_, ?_⟩
  · unfold Reg.planW; rw [e]; rfl
  · unfold Reg.planS; rw [e]; rfl
theorem planE_twice {r : Reg} {c d : Int} (h : inR c d = true) (k : (place r.nums c).isSome = true) : r.planE c d = 121 ∧ r.planW c d = (0, 0) ∧ r.planS c d = (0, 0) := by
  have e : r.planE c d = 121 := by unfold Reg.planE; rw [if_neg (by rw [h]; simp), if_pos k]
  refine ⟨e, ?_, ?_⟩
  · unfold Reg.planW; rw [e]; rfl
  · unfold Reg.planS; rw [e]; rfl
theorem planE_full {r : Reg} {c d : Int} (h : inR c d = true) (k : place r.nums c = none) (q : r.room d = false) : r.planE c d = 6 ∧ r.planW c d = (0, 0) ∧ r.planS c d = (0, 0) := by
  have e : r.planE c d = 6 := by unfold Reg.planE; rw [if_neg (by rw [h]; simp), if_neg (by rw [k]; simp), if_neg (by rw [q]; simp)]
  refine ⟨e, ?_, ?_⟩
  · unfold Reg.planW; rw [e]; rfl
  · unfold Reg.planS; rw [e]; rfl
theorem planE_ok {r : Reg} {c d : Int} (h : inR c d = true) (k : place r.nums c = none) (q : r.room d = true) : r.planE c d = 0 ∧ r.planW c d = low r.C.length ∧ r.planS c d = high r.P (r.gAt d) := by
  have e : r.planE c d = 0 := by unfold Reg.planE; rw [if_neg (by rw [h]; simp), if_neg (by rw [k]; simp), if_pos q]
  refine ⟨e, ?_, ?_⟩
  · unfold Reg.planW; rw [if_pos e]
  · unfold Reg.planS; rw [if_pos e]
abbrev PlanPost (w : World) (r : Reg) (c d : Int) (e : Ending) (w' : World) : Prop := e = .returned (.tuple #[slotV (r.planW c d), slotV (r.planS c d), .int .i64 (r.planE c d)]) ∧ Below w.heap.size w w'
set_option maxHeartbeats 2000000 in
theorem plan_place (b : Nat) (r : Reg) (c d : Int) (w : World) (hn : inR c d = false) : Calls Try.prog 11 #[ptr b, .int .i64 c, .int .i64 d] w (PlanPost w r c d) := by
  unfold PlanPost
  obtain ⟨e1, e2, e3⟩ := planE_place (r := r) hn
  rw [e1, e2, e3]
  unfold inR at hn
  simp at hn
  clear e1 e2 e3
  by_cases h1 : c < 1
  · clear hn
    go_enter Try.func11, Try.ntmps11
    go_wp2
    exact bodyPost_ret (v := .tuple #[slotV (0, 0), slotV (0, 0), .int .i64 4]) (by simp [results, Try.results11, go_sem]) rfl ⟨rfl, (alloc_below _ _).alloc (by simp) _⟩
  · by_cases h2 : 1048576 < c
    · clear hn
      go_enter Try.func11, Try.ntmps11
      go_wp2
      exact bodyPost_ret (v := .tuple #[slotV (0, 0), slotV (0, 0), .int .i64 4]) (by simp [results, Try.results11, go_sem]) rfl ⟨rfl, (alloc_below _ _).alloc (by simp) _⟩
    · by_cases h3 : d < 1
      · clear hn
        go_enter Try.func11, Try.ntmps11
        go_wp2
        exact bodyPost_ret (v := .tuple #[slotV (0, 0), slotV (0, 0), .int .i64 4]) (by simp [results, Try.results11, go_sem]) rfl ⟨rfl, (alloc_below _ _).alloc (by simp) _⟩
      · have h4 : 1048576 < d := by omega
        clear hn
        go_enter Try.func11, Try.ntmps11
        go_wp2
        exact bodyPost_ret (v := .tuple #[slotV (0, 0), slotV (0, 0), .int .i64 4]) (by simp [results, Try.results11, go_sem]) rfl ⟨rfl, (alloc_below _ _).alloc (by simp) _⟩
theorem zeroS (w : World) : (zeroValue 30).run Try.prog w = .ok (slotV (0, 0)) w := Try.zeroValue30 w
theorem zeroT (w : World) : (zeroValue 70).run Try.prog w = .ok (stV ((0, 0), 0)) w := Try.zeroValue70 w
set_option maxHeartbeats 2000000 in
theorem plan_twice (b m g : Nat) (r : Reg) (c d : Int) (w : World) (h : PR w b m g r) (hn : inR c d = true) (hp : (place r.nums c).isSome = true) : Calls Try.prog 11 #[ptr b, .int .i64 c, .int .i64 d] w (PlanPost w r c d) := by
  unfold PlanPost
  obtain ⟨e1, e2, e3⟩ := planE_twice (r := r) hn hp
  rw [e1, e2, e3]
  clear e1 e2 e3
  obtain ⟨h1, h2, h3, h4⟩ := inR_true hn
  have bb := (alloc_below w (.cells #[.int .i64 0, .int .i64 0] 30)).alloc (by simp) (.cells #[.int .i64 0, .int .i64 0] 30)
  have HP := hide (h.below bb)
  obtain ⟨k1, k1f⟩ := (h.below bb).box.get 1 _ rfl
  obtain ⟨k, hk⟩ := Option.isSome_iff_exists.1 hp
  obtain ⟨st, hst⟩ : ∃ st, r.entry c = some st := ⟨_, by unfold Reg.entry; rw [hk]; rfl⟩
  have HE := hide hst
  clear hn hp hk hst h k1f bb
  go_enter Try.func11, Try.ntmps11
  go_wp2_with (at_lookup; refine wpList_look_cm HP.out.cm Try.underlying66 zeroT (x := c) (by unfold I64; omega) rfl _ _ rfl rfl rfl ?_; simp only [HE.out, Option.map_some, Option.getD_some, Option.isSome_some])
  exact bodyPost_ret (v := .tuple #[slotV (0, 0), slotV (0, 0), .int .i64 121]) (by simp [results, Try.results11, go_sem]) rfl ⟨rfl, ((alloc_below _ _).alloc (by simp) _).alloc (by simp; omega) _⟩
end Go.Proofs.Ytimakfnlcgedkaa
