import Derived.Test.YtlloppalagddnaaSrW
set_option linter.all false
namespace Go.Proofs.Ytlloppalagddnaa
open Go.RowKit Go.QK Quota Go.Maps Go.QM Go.QS
set_option maxRecDepth 100000
/-! The order is nothing; Play is Values: the numbers. -/
theorem isum_perm {a b : List Int} (h : a.Perm b) : isum a = isum b := by
  induction h with
  | nil => rfl
  | cons x _ ih => simp only [isum, ih]
  | swap x y l => simp only [isum]; omega
  | trans _ _ h1 h2 => exact h1.trans h2
theorem dl_perm {a b : List Hn} (h : a.Perm b) (k : Int) : (dl a k).Perm (dl b k) := (h.filter _).map _
theorem there_perm {C : Cs} {a b : List Hn} (h : a.Perm b) : thereB C a = thereB C b := by
  unfold thereB
  rw [Bool.eq_iff_iff, List.all_eq_true, List.all_eq_true]
  exact ⟨fun q x hx => q x (h.mem_iff.2 hx), fun q x hx => q x (h.mem_iff.1 hx)⟩
theorem va_perm (l : List Cn) {a b : List (List Hn)} (h : a.flatten.Perm b.flatten) : vaErr l a = vaErr l b ∧ vaL l a = vaL l b := by
  have hs : ∀ k, isum (dl a.flatten k) = isum (dl b.flatten k) := fun k => isum_perm (dl_perm h k)
  have e1 : ∀ C, vaE C a = vaE C b := fun C => by
    unfold vaE
    rw [there_perm h]
    simp only [hs]
  have e2 : ∀ C, vaC C a = vaC C b := fun C => by
    unfold vaC
    simp only [hs]
  have e3 : vaErr l a = vaErr l b := by unfold vaErr; rw [e1]
  exact ⟨e3, by unfold vaL; rw [e3, e2]⟩
theorem addC_get (C : Cs) (f : Int → Int) (k : Int) : getM (addC C f) k = (getM C k).map (fun x => x.set (x.val + f k)) := getM_mapK (fun k (x : Cn) => x.set (x.val + f k)) C k
theorem there_add (C : Cs) (f : Int → Int) (l : List Hn) : thereB (addC C f) l = thereB C l := by
  unfold thereB
  congr 1
  funext x
  rw [addC_get]
  cases getM C x.2.1 <;> rfl
theorem addC_add (C : Cs) (f g : Int → Int) : addC (addC C f) g = addC C (fun k => f k + g k) := by
  unfold addC
  rw [List.map_map]
  refine List.map_congr_left (fun p _ => ?_)
  simp only [Function.comp, Cn.set]
  rw [Int.add_assoc]
theorem addC_zero (C : Cs) : addC C (fun _ => 0) = C := by
  unfold addC
  conv => rhs; rw [← List.map_id C]
  refine List.map_congr_left (fun p _ => ?_)
  obtain ⟨k, x⟩ := p
  simp [Cn.set]
theorem play_values {C : Cs} (hC : CsOk C) {rs : List (List Hn)} (h : pyE C rs = 0) : vaE C rs = 0 ∧ pyC C rs = vaC C rs := by
  induction rs generalizing C with
  | nil =>
    constructor
    · unfold vaE
      have e1 : thereB C ([] : List (List Hn)).flatten = true := rfl
      have e2 : C.all (fun p => fitB (p.2.val + isum (dl ([] : List (List Hn)).flatten p.1))) = true := by
        refine List.all_eq_true.2 (fun p hp => ?_)
        have := (hC.ok p hp).2.2.2.1
        have e3 : isum (dl ([] : List (List Hn)).flatten p.1) = 0 := rfl
        rw [e3, Int.add_zero]
        exact fitB_true.2 this
      rw [e1, e2]
      rfl
    · unfold vaC pyC
      exact (addC_zero C).symm
  | cons l r ih =>
    simp only [pyE] at h
    split at h
    · rename_i q
      obtain ⟨i1, i2⟩ := ih (CsOk.add hC (plyE_ok q)) h
      have hth : thereB C l = true := by
        unfold plyE at q
        split at q
        · assumption
        · cases q
      have e0 : ∀ k, isum (dl (l :: r).flatten k) = isum (dl l k) + isum (dl r.flatten k) := fun k => by
        rw [List.flatten_cons, dl_app, isum_append]
      constructor
      · unfold vaE at i1 ⊢
        split at i1
        · rename_i t
          split at i1
          · rename_i f
            rw [there_add] at t
            have t2 : thereB C (l :: r).flatten = true := by
              rw [List.flatten_cons]
              unfold thereB at *
              rw [List.all_append, hth, t]
              rfl
            have f2 : C.all (fun p => fitB (p.2.val + isum (dl (l :: r).flatten p.1))) = true := by
              refine List.all_eq_true.2 (fun p hp => ?_)
              have := List.all_eq_true.1 f (p.1, p.2.set (p.2.val + isum (dl l p.1))) (List.mem_map.2 ⟨p, hp, rfl⟩)
              simp only [Cn.set] at this
              rw [e0, ← Int.add_assoc]
              exact this
            rw [t2, f2]
            rfl
          · cases i1
        · cases i1
      · show pyC (addC C (fun k => isum (dl l k))) r = _
        rw [i2]
        unfold vaC
        rw [addC_add]
        congr 1
        funext k
        exact (e0 k).symm
    · rename_i q
      exact absurd h q
theorem py_va (l : List Cn) (hl : ∀ x ∈ l, x.Ok) (rs : List (List Hn)) (h : pyErr l rs = 0) : vaErr l rs = 0 ∧ pyL l rs = vaL l rs := by
  unfold pyErr at h
  split at h
  · rename_i q
    obtain ⟨h1, h2⟩ := play_values (CsOk.sta CsOk.nil hl q) h
    have e1 : vaErr l rs = 0 := by unfold vaErr; rw [if_pos q]; exact h1
    refine ⟨e1, ?_⟩
    unfold pyL vaL
    rw [if_pos e1, if_pos (by unfold pyErr; rw [if_pos q]; exact h), h2]
  · rename_i q
    exact absurd h q
theorem flat_perm {a b : List (List Hn)} (h : a.Perm b) : a.flatten.Perm b.flatten := by
  induction h with
  | nil => exact List.Perm.refl _
  | cons x _ ih => simp only [List.flatten_cons]; exact List.Perm.append_left _ ih
  | swap x y l =>
    simp only [List.flatten_cons]
    rw [← List.append_assoc, ← List.append_assoc]
    exact List.Perm.append_right _ List.perm_append_comm
  | trans _ _ h1 h2 => exact h1.trans h2
theorem flat_rev (a : List (List Hn)) : (a.map List.reverse).flatten.Perm a.flatten := by
  induction a with
  | nil => exact List.Perm.refl _
  | cons x r ih =>
    simp only [List.map_cons, List.flatten_cons]
    exact (List.Perm.append_left _ ih).trans (List.Perm.append_right _ (List.reverse_perm x))
end Go.Proofs.Ytlloppalagddnaa
