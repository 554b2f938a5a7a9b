import Derived.Test.YtllpfojkbeloeaaDoorSlices
namespace Go.Proofs.YtllpfojkbeloeaaDoor
open Go.RowKit Go.QK

/-! Two rows of lists side by side: what is lent (three marks behind each list) and plain copies. A label for each block: 0 and 1 the rows, 2j+2 what is lent as number j, 2j+3 its copy. -/

theorem own_mono {w : World} {B C : Nat} {v : Value} {l : List Nat} (h : OwnB w B v l) (q : C ≤ B) : OwnB w C v l := by
  refine ⟨h.1, ?_⟩
  rcases h.2 with r | ⟨g, cap, cur, r, hbg, rest⟩
  · exact .inl r
  · exact .inr ⟨g, cap, cur, r, Nat.le_trans q hbg, rest⟩
def OEnt (w : World) (lab : Nat → Nat) (B j : Nat) (v : Value) (l : List Nat) : Prop :=
  ∃ g c, v = .slice (some ⟨g, 0, none⟩) l.length c ∧ OwnB w B (.slice (some ⟨g, 0, none⟩) (l.length + 3) c) (l ++ marks) ∧ l.length + 3 ≤ c ∧ c ≤ maxLen ∧ lab g = j ∧ AllB l ∧ l.length ≤ 4000
def LEnt (w : World) (lab : Nat → Nat) (B j : Nat) (v : Value) (l : List Nat) : Prop :=
  OwnB w B v l ∧ (∀ b, v.ownBlock = some b → lab b = j) ∧ AllB l ∧ l.length ≤ 4000

section
variable {S : Nat → Prop} {w w' : World} {lab lab' : Nat → Nat} {B j : Nat} {v : Value} {l : List Nat}
theorem OEnt.keep (h : OEnt w lab B j v l) (hk : Keep S w w') (hl : ∀ b, b < w.heap.size → lab' b = lab b) (hn : ∀ b, S b → lab b ≠ j) : OEnt w' lab' B j v l := by
  obtain ⟨g, c, hv, ho, h1, h2, h3, h4⟩ := h
  refine ⟨g, c, hv, Owns.keep ho hk (fun b hb hs => ?_), h1, h2, ?_, h4⟩
  · have : g = b := Option.some.inj hb
    subst this
    exact hn _ hs h3
  · rw [hl g (World.ownsRow.lt ho g rfl).2, h3]
theorem LEnt.keep (h : LEnt w lab B j v l) (hk : Keep S w w') (hl : ∀ b, b < w.heap.size → lab' b = lab b) (hn : ∀ b, S b → lab b ≠ j) : LEnt w' lab' B j v l := by
  obtain ⟨ho, h1, h2⟩ := h
  refine ⟨Owns.keep ho hk (fun b hb hs => hn b hs (h1 b hb)), fun b hb => ?_, h2⟩
  rw [hl b (World.ownsRow.lt ho b hb).2, h1 b hb]
end

structure St (w : World) (lab : Nat → Nat) (B : Nat) (vo vl : Value) (os ls : List (Value × List Nat)) : Prop where
  base : B ≤ w.heap.size
  ro : SRow w B vo (os.map Prod.fst)
  lo : ∀ b, vo.ownBlock = some b → lab b = 0
  rl : SRow w B vl (ls.map Prod.fst)
  ll : ∀ b, vl.ownBlock = some b → lab b = 1
  eo : ∀ j (h : j < os.length), OEnt w lab B (2 * j + 2) os[j].1 os[j].2
  el : ∀ j (h : j < ls.length), LEnt w lab B (2 * j + 3) ls[j].1 ls[j].2

theorem St.below {w w' : World} {lab : Nat → Nat} {B : Nat} {vo vl : Value} {os ls : List (Value × List Nat)} (h : St w lab B vo vl os ls) (hk : Below w.heap.size w w') : St w' lab B vo vl os ls := by
  have k : Keep (fun _ => False) w w' := Keep.of_below hk
  exact ⟨Nat.le_trans h.base hk.size, h.ro.below hk, h.lo, h.rl.below hk, h.ll, fun j hj => (h.eo j hj).keep k (fun _ _ => rfl) (fun _ => False.elim), fun j hj => (h.el j hj).keep k (fun _ _ => rfl) (fun _ => False.elim)⟩
theorem St.nil (w : World) : St w (fun _ => 0) w.heap.size (.slice none 0 0) (.slice none 0 0) [] [] :=
  ⟨Nat.le_refl _, SRow.nil _ _, nofun, SRow.nil _ _, nofun, nofun, nofun⟩

/-- The row of what is lent grows by one. -/
theorem St.pushO {w w1 w3 : World} {lab : Nat → Nat} {B : Nat} {vo vl vo' : Value} {os ls : List (Value × List Nat)} (h : St w lab B vo vl os ls) {g c : Nat} {l : List Nat} {o : Obj}
    (b1 : Below w.heap.size w w1) (e : OwnB w1 w.heap.size (.slice (some ⟨g, 0, none⟩) (l.length + 3) c) (l ++ marks)) (hc : l.length + 3 ≤ c) (hm : c ≤ maxLen) (hb : AllB l) (hl : l.length ≤ 4000)
    (r : SRow w3 B vo' (os.map Prod.fst ++ [.slice (some ⟨g, 0, none⟩) l.length c])) (hg : (w1.alloc o).grownBy w3 vo.ownBlock) (hv : vo'.ownBlock = vo.ownBlock ∨ vo'.ownBlock = some (w1.heap.size + 1)) :
    (∃ lab', St w3 lab' B vo' vl (os ++ [(.slice (some ⟨g, 0, none⟩) l.length c, l)]) ls) ∧ Below B w w3 := by
  have hgl := World.ownsRow.lt e g rfl
  have k1 : Keep (fun b => vo.ownBlock = some b) w (w1.alloc o) := (Keep.of_below b1).alloc o
  have k3 : Keep (fun b => vo.ownBlock = some b) w w3 := k1.grown hg (fun b hb _ => hb)
  have ke : Keep (fun b => vo.ownBlock = some b) w1 w3 := ((Keep.refl _ w1).alloc o).grown hg (fun b hb _ => hb)
  have hvo := h.ro.lt
  refine ⟨⟨fun b => if b < w.heap.size then lab b else if vo'.ownBlock = some b then 0 else 2 * os.length + 2, ?_, ?_, ?_, ?_, ?_, ?_, ?_⟩, k3.below h.base (fun b hb q => by have := (hvo b q).1; omega)⟩
  · exact Nat.le_trans h.base k3.size
  · simpa using r
  · intro b hb
    by_cases hlt : b < w.heap.size
    · simp only [hlt, if_true]
      rcases hv with q | q
      · exact h.lo b (q ▸ hb)
      · rw [q] at hb
        have := Option.some.inj hb
        have := b1.size
        omega
    · simp [hlt, hb]
  · exact h.rl.keep k3 (fun b hb q => by have := h.ll b hb; rw [h.lo b q] at this; omega)
  · intro b hb
    simp only [(h.rl.lt b hb).2, if_true]
    exact h.ll b hb
  · intro j hj
    by_cases hjo : j < os.length
    · rw [List.getElem_append_left hjo]
      exact (h.eo j hjo).keep k3 (fun b hb => by simp only [hb, if_true]) (fun b hb => by rw [h.lo b hb]; omega)
    · have hje : j = os.length := by simp at hj; omega
      subst hje
      simp only [List.getElem_append_right (Nat.le_refl _), Nat.sub_self, List.getElem_cons_zero]
      refine ⟨g, c, rfl, own_mono ?_ h.base, hc, hm, ?_, hb, hl⟩
      · refine Owns.keep e ke (fun b hb q => ?_)
        have : g = b := Option.some.inj hb
        subst this
        have := (hvo g q).2
        omega
      · have n1 : ¬ g < w.heap.size := by omega
        have n2 : vo'.ownBlock ≠ some g := by
          rcases hv with q | q
          · rw [q]; intro q; have := (hvo g q).2; omega
          · rw [q]; intro q; have := Option.some.inj q; omega
        simp only [n1, n2, if_false]
  · intro j hj
    exact (h.el j hj).keep k3 (fun b hb => by simp only [hb, if_true]) (fun b hb => by rw [h.lo b hb]; omega)

/-- The row of copies grows by one. -/
theorem St.pushL {w w1 w3 : World} {lab : Nat → Nat} {B : Nat} {vo vl vl' v : Value} {os ls : List (Value × List Nat)} (h : St w lab B vo vl os ls) {l : List Nat} {o : Obj}
    (b1 : Below w.heap.size w w1) (e : OwnB w1 w.heap.size v l) (hb : AllB l) (hl : l.length ≤ 4000)
    (r : SRow w3 B vl' (ls.map Prod.fst ++ [v])) (hg : (w1.alloc o).grownBy w3 vl.ownBlock) (hv : vl'.ownBlock = vl.ownBlock ∨ vl'.ownBlock = some (w1.heap.size + 1)) :
    (∃ lab', St w3 lab' B vo vl' os (ls ++ [(v, l)])) ∧ Below B w w3 := by
  have k1 : Keep (fun b => vl.ownBlock = some b) w (w1.alloc o) := (Keep.of_below b1).alloc o
  have k3 : Keep (fun b => vl.ownBlock = some b) w w3 := k1.grown hg (fun b hb _ => hb)
  have ke : Keep (fun b => vl.ownBlock = some b) w1 w3 := ((Keep.refl _ w1).alloc o).grown hg (fun b hb _ => hb)
  have hvo := h.rl.lt
  refine ⟨⟨fun b => if b < w.heap.size then lab b else if vl'.ownBlock = some b then 1 else 2 * ls.length + 3, ?_, ?_, ?_, ?_, ?_, ?_, ?_⟩, k3.below h.base (fun b hb q => by have := (hvo b q).1; omega)⟩
  · exact Nat.le_trans h.base k3.size
  · exact h.ro.keep k3 (fun b hb q => by have := h.lo b hb; rw [h.ll b q] at this; omega)
  · intro b hb
    simp only [(h.ro.lt b hb).2, if_true]
    exact h.lo b hb
  · simpa using r
  · intro b hb
    by_cases hlt : b < w.heap.size
    · simp only [hlt, if_true]
      rcases hv with q | q
      · exact h.ll b (q ▸ hb)
      · rw [q] at hb
        have := Option.some.inj hb
        have := b1.size
        omega
    · simp [hlt, hb]
  · intro j hj
    exact (h.eo j hj).keep k3 (fun b hb => by simp only [hb, if_true]) (fun b hb => by rw [h.ll b hb]; omega)
  · intro j hj
    by_cases hjo : j < ls.length
    · rw [List.getElem_append_left hjo]
      exact (h.el j hjo).keep k3 (fun b hb => by simp only [hb, if_true]) (fun b hb => by rw [h.ll b hb]; omega)
    · have hje : j = ls.length := by simp at hj; omega
      subst hje
      simp only [List.getElem_append_right (Nat.le_refl _), Nat.sub_self, List.getElem_cons_zero]
      refine ⟨own_mono (Owns.keep e ke (fun b hb q => ?_)) h.base, fun b hb => ?_, hb, hl⟩
      · have := (World.ownsRow.lt e b hb).1
        have := (hvo b q).2
        omega
      · have hbl := World.ownsRow.lt e b hb
        have n1 : ¬ b < w.heap.size := by omega
        have n2 : vl'.ownBlock ≠ some b := by
          rcases hv with q | q
          · rw [q]; intro q; have := (hvo b q).2; omega
          · rw [q]; intro q; have := Option.some.inj q; omega
        simp only [n1, n2, if_false]

/-- A byte of what is lent as number k is written. -/
theorem St.setO {w : World} {lab : Nat → Nat} {B : Nat} {vo vl : Value} {os ls : List (Value × List Nat)} (h : St w lab B vo vl os ls) (k : Nat) (hk : k < os.length) {g c n : Nat} (hv : os[k].1 = .slice (some ⟨g, 0, none⟩) n c) (i y : Nat) (hi : i < os[k].2.length) (hy : y < 256) :
    St (w.setCell ⟨g, i, none⟩ (.int .u8 (y : Int))) lab B vo vl (os.set k (os[k].1, os[k].2.set i y)) ls ∧ Below B w (w.setCell ⟨g, i, none⟩ (.int .u8 (y : Int))) := by
  obtain ⟨g', c', hv', ho, h1, h2, h3, h4, h5⟩ := h.eo k hk
  rw [hv] at hv'
  simp only [Value.slice.injEq, Option.some.injEq, Addr.mk.injEq, and_true] at hv'
  obtain ⟨rfl, rfl, rfl⟩ := hv'
  have hgl := World.ownsRow.lt ho g rfl
  have kk : Keep (fun b => b = g) w (w.setCell ⟨g, i, none⟩ (.int .u8 (y : Int))) := (Keep.refl (fun b => b = g) w).setCell (fun _ => rfl) _
  have ne : ∀ {j}, j ≠ 2 * k + 2 → ∀ b, b = g → lab b ≠ j := by intro j hj b hb; subst hb; omega
  refine ⟨⟨Nat.le_trans h.base kk.size, ?_, h.lo, h.rl.keep kk ?_, h.ll, ?_, ?_⟩, kk.below h.base (fun b hb q => by omega)⟩
  · rw [List.map_set]
    have e : (os.map Prod.fst).set k os[k].1 = os.map Prod.fst := by
      apply List.ext_getElem
      · simp
      · intro j h1 h2
        rw [List.getElem_set]
        split
        · rename_i q; subst q; simp
        · rfl
    rw [e]
    exact h.ro.keep kk (fun b hb q => ne (by omega) b q (h.lo b hb))
  · exact fun b hb q => ne (by omega) b q (h.ll b hb)
  · intro j hj
    simp only [List.length_set] at hj
    rw [List.getElem_set]
    split
    · rename_i q
      subst q
      refine ⟨g, c, by simpa using hv, ?_, by simpa using h1, h2, h3, ?_, by simpa using h5⟩
      · have := Owns.stored ho i (y : Int)
        rw [← ints_set, List.set_append_left _ _ hi] at this
        simpa using this
      · intro x hx
        rcases List.mem_or_eq_of_mem_set hx with q | q
        · exact h4 x q
        · omega
    · exact (h.eo j hj).keep kk (fun _ _ => rfl) (ne (by omega))
  · intro j hj
    exact (h.el j hj).keep kk (fun _ _ => rfl) (ne (by omega))

/-- A byte of copy number k is written. -/
theorem St.setL {w : World} {lab : Nat → Nat} {B : Nat} {vo vl : Value} {os ls : List (Value × List Nat)} (h : St w lab B vo vl os ls) (k : Nat) (hk : k < ls.length) {g c n : Nat} (hv : ls[k].1 = .slice (some ⟨g, 0, none⟩) n c) (i y : Nat) (_hi : i < ls[k].2.length) (hy : y < 256) :
    St (w.setCell ⟨g, i, none⟩ (.int .u8 (y : Int))) lab B vo vl os (ls.set k (ls[k].1, ls[k].2.set i y)) ∧ Below B w (w.setCell ⟨g, i, none⟩ (.int .u8 (y : Int))) := by
  obtain ⟨ho, h3, h4, h5⟩ := h.el k hk
  rw [hv] at ho h3
  have h3 := h3 g rfl
  have hgl := World.ownsRow.lt ho g rfl
  have kk : Keep (fun b => b = g) w (w.setCell ⟨g, i, none⟩ (.int .u8 (y : Int))) := (Keep.refl (fun b => b = g) w).setCell (fun _ => rfl) _
  have ne : ∀ {j}, j ≠ 2 * k + 3 → ∀ b, b = g → lab b ≠ j := by intro j hj b hb; subst hb; omega
  refine ⟨⟨Nat.le_trans h.base kk.size, h.ro.keep kk ?_, h.lo, ?_, h.ll, ?_, ?_⟩, kk.below h.base (fun b hb q => by omega)⟩
  · exact fun b hb q => ne (by omega) b q (h.lo b hb)
  · rw [List.map_set]
    have e : (ls.map Prod.fst).set k ls[k].1 = ls.map Prod.fst := by
      apply List.ext_getElem
      · simp
      · intro j h1 h2
        rw [List.getElem_set]
        split
        · rename_i q; subst q; simp
        · rfl
    rw [e]
    exact h.rl.keep kk (fun b hb q => ne (by omega) b q (h.ll b hb))
  · intro j hj
    exact (h.eo j hj).keep kk (fun _ _ => rfl) (ne (by omega))
  · intro j hj
    simp only [List.length_set] at hj
    rw [List.getElem_set]
    split
    · rename_i q
      subst q
      refine ⟨?_, ?_, ?_, by simpa using h5⟩
      · rw [hv]
        have := Owns.stored ho i (y : Int)
        rw [← ints_set] at this
        exact this
      · intro b hb
        rw [hv] at hb
        have : g = b := Option.some.inj hb
        rw [← this, h3]
      · intro x hx
        rcases List.mem_or_eq_of_mem_set hx with q | q
        · exact h4 x q
        · omega
    · exact (h.el j hj).keep kk (fun _ _ => rfl) (ne (by omega))
end Go.Proofs.YtllpfojkbeloeaaDoor
