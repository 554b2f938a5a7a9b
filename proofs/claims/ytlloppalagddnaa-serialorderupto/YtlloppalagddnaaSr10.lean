import Derived.Test.YtlloppalagddnaaSr1
set_option linter.all false
namespace Go.Proofs.Ytlloppalagddnaa
open Go.RowKit Go.QK Quota Go.Maps Go.QM Go.QS
set_option maxRecDepth 100000
/-! Maps from numbers to lists of numbers of 64 bits. -/
structure RM (lab : Nat → Nat) (B : Nat) (w : World) (m : Nat) (D : Hd) : Prop where
  hm : AnyAt Try.prog 3 w m (mapD D)
  own : ∀ p ∈ D, Owns .i64 2 w B p.2.1 p.2.2
  up : Up D
  ids : ∀ p ∈ D, 1 ≤ p.1
  l0 : lab m = 1
  l6 : ∀ p ∈ D, ∀ g, p.2.1.ownBlock = some g → lab g = 10 + p.1.toNat
  low : B ≤ m
section
variable {lab : Nat → Nat} {B : Nat} {w w' : World} {m : Nat} {D : Hd}
theorem RM.below (h : RM lab B w m D) (k : Below w.heap.size w w') : RM lab B w' m D := ⟨anyAt_below h.hm k, fun p hp => (h.own p hp).below k, h.up, h.ids, h.l0, h.l6, h.low⟩
theorem RM.keep {S : Nat → Prop} (h : RM lab B w m D) (k : Keep S w w') (hn : ∀ z, z < w.heap.size → (lab z = 1 ∨ 10 ≤ lab z) → B ≤ z → ¬ S z) : RM lab B w' m D := by
  have hlt := World.ownsMap.lt h.hm
  refine ⟨anyAt_keep h.hm k (hn m hlt (.inl h.l0) h.low), fun p hp => (h.own p hp).keep k (fun g hg => ?_), h.up, h.ids, h.l0, h.l6, h.low⟩
  have h1 := World.ownsRow.lt (h.own p hp) g hg
  exact hn g h1.2 (.inr (by have := h.l6 p hp g hg; omega)) h1.1
theorem RM.lt (h : RM lab B w m D) : m < w.heap.size := World.ownsMap.lt h.hm
theorem RM.heldO (h : RM lab B w m D) (t : Int) : Owns .i64 2 w B (hldV D t) (idsD D t) := by
  unfold hldV idsD
  cases q : getM D t with
  | none => exact Owns.nil _ _ _ _
  | some u => exact h.own _ (getM_mem q)
theorem RM.heldL (h : RM lab B w m D) {t : Int} {g : Nat} (hg : (hldV D t).ownBlock = some g) : lab g = 10 + t.toNat ∧ B ≤ g ∧ g < w.heap.size := by
  have h0 := World.ownsRow.lt (h.heldO t) g hg
  refine ⟨?_, h0.1, h0.2⟩
  unfold hldV at hg
  cases q : getM D t with
  | none => rw [q] at hg; cases hg
  | some u => rw [q] at hg; exact h.l6 _ (getM_mem q) g hg
theorem RM.heldD (_ : RM lab B w m D) (t : Int) : (getM (mapD D) t).getD (.slice none 0 0) = hldV D t := by
  have : getM (mapD D) t = (getM D t).map Prod.fst := getM_map (fun (x : Value × List Int) => x.1) D t
  rw [this]
  rfl
theorem RM.made (w : World) : RM (fun _ => 1) w.heap.size (w.alloc (.map #[] 0)) w.heap.size [] := ⟨AnyAt.made Try.prog 3 w, (fun p hp => by cases hp), List.Pairwise.nil, (fun p hp => by cases hp), rfl, (fun p hp => by cases hp), Nat.le_refl _⟩
/-- One more in a list. -/
theorem run_del64 (x : World) (B : Nat) (v : Value) (xs : List Int) (hown : Owns .i64 2 x B v xs) (d : Int) (hl : (xs.length + 1) * 8 ≤ 140737488355328) (hB : B ≤ x.heap.size) :
    ∃ v' x', (Builtin.append_ #[89, 89] 89 #[v, .slice (some ⟨x.heap.size, 0, none⟩) 1 1]).run Try.prog (x.alloc (.cells #[.int .i64 d] 2)) = .ok v' x' ∧ Owns .i64 2 x' B v' (xs ++ [d]) ∧ Keep (fun z => v.ownBlock = some z) x x' ∧ (v'.ownBlock = v.ownBlock ∨ ∃ g, v'.ownBlock = some g ∧ x.heap.size ≤ g) := by
  obtain ⟨v', x', h1, h2, h3, h4⟩ := run_pushW Try.underlying89 info2 rfl (by decide) 89 (x.alloc (.cells #[.int .i64 d] 2)) B v xs.length (xs.map (Value.int .i64)) (hown.alloc _) ⟨x.heap.size, 0, none⟩ 1 1 [.int .i64 d] rfl (lies_val x _ 2) (by intro u hu; simp at hu; subst hu; rfl) hl (by decide) (by simp; omega)
  refine ⟨v', x', h1, ?_, ((Keep.refl (fun z => v.ownBlock = some z) x).alloc _).grown h3 (fun g hg _ => hg), ?_⟩
  · unfold Owns
    rw [List.length_append, List.map_append]
    exact h2
  · rcases h4 with h | h
    · exact .inl h
    · exact .inr ⟨_, h, by simp⟩
/-- 'm[k] = append(m[k], v)'. -/
theorem RM.app {x : World} (h : RM lab B x m D) {t : TypeId} (ht : Try.prog.underlying t = some (.map 3 89)) {k d : Int} (hk : 1 ≤ k) (hk64 : I64 k) (hl : ((idsD D k).length + 1) * 8 ≤ 140737488355328) (hD : D.length < 4611686018427387904) (hB : B ≤ x.heap.size) :
    ∃ u xc xd, (Instr.lookup t (.map (some m)) (.int .i64 k) false).run Try.prog x = .ok (hldV D k) x ∧
      (Instr.lookup t (.map (some m)) (.int .i64 k) false).run Try.prog (x.alloc (.cells #[.int .i64 d] 2)) = .ok (hldV D k) (x.alloc (.cells #[.int .i64 d] 2)) ∧
      (Builtin.append_ #[89, 89] 89 #[hldV D k, .slice (some ⟨x.heap.size, 0, none⟩) 1 1]).run Try.prog (x.alloc (.cells #[.int .i64 d] 2)) = .ok u xc ∧
      (Instr.mapUpdate t (.map (some m)) (.int .i64 k) u).run Try.prog xc = .ok () xd ∧
      RM (labT lab x.heap.size (10 + k.toNat)) B xd m (putM k (u, idsD D k ++ [d]) D) ∧
      Keep (fun z => (hldV D k).ownBlock = some z) x xc ∧ Keep (fun z => z = m ∨ (hldV D k).ownBlock = some z) x xd := by
  have ab := alloc_below x (.cells #[.int .i64 d] 2)
  have la := any_run lawK ht zeroS2 h.hm (keyI hk64)
  have lb := any_run lawK ht zeroS2 (h.below ab).hm (keyI hk64)
  rw [h.heldD] at la lb
  obtain ⟨u, xc, hr, hO, hkc, hvb⟩ := run_del64 x B (hldV D k) (idsD D k) (h.heldO k) d hl hB
  have nm : ¬ (hldV D k).ownBlock = some m := fun q => by have a := (h.heldL q).1; have := h.l0; omega
  have hmc := anyAt_keep h.hm hkc nm
  obtain ⟨xd, hu, hmd, hg⟩ := any_upd lawK ht hmc ((up_map Prod.fst).2 h.up) (keyI hk64) (by simpa using hD) u
  have kcd := grown_m hg
  have kk : Keep (fun z => z = m ∨ (hldV D k).ownBlock = some z) x xd := (hkc.mono (T := fun z => z = m ∨ (hldV D k).ownBlock = some z) (fun _ _ q => .inr q)).trans kcd (fun _ _ q => .inl q)
  have lk : ∀ z, z < x.heap.size → labT lab x.heap.size (10 + k.toNat) z = lab z := fun z hz => if_pos hz
  have hlt := h.lt
  refine ⟨u, xc, xd, la, lb, hr, hu, ⟨?_, fun p hp => ?_, h.up.put _ _, fun p hp => ?_, (lk _ hlt).trans h.l0, fun p hp g hg2 => ?_, h.low⟩, hkc, kk⟩
  · show AnyAt Try.prog 3 xd m ((putM k (u, idsD D k ++ [d]) D).map (fun (p : Int × Value × List Int) => (p.1, p.2.1)))
    rw [putM_map (fun (x : Value × List Int) => x.1)]
    exact hmd
  · by_cases e : p.1 = k
    · have := getM_of_mem (h.up.put k (u, idsD D k ++ [d])) hp
      rw [getM_put h.up, if_pos e] at this
      rw [← Option.some.inj this]
      exact hO.keep kcd (fun g hg q => by
        rcases hvb with r | ⟨g2, r, r2⟩
        · rw [r, q] at hg; exact nm hg
        · rw [r] at hg; cases hg; omega)
    · rcases mem_putM hp with q | q
      · exact absurd (by rw [q]) e
      · exact (h.own p q).keep kk (fun g hg r => by
          have a2 := h.l6 p q g hg
          have a3 := h.ids p q
          rcases r with r | r
          · rw [r] at a2; have := h.l0; omega
          · have := (h.heldL r).1; omega)
  · rcases mem_putM hp with q | q
    · rw [q]; exact hk
    · exact h.ids p q
  · by_cases e : p.1 = k
    · have := getM_of_mem (h.up.put k (u, idsD D k ++ [d])) hp
      rw [getM_put h.up, if_pos e] at this
      rw [← Option.some.inj this] at hg2
      rw [e]
      rcases hvb with r | ⟨g2, r, r2⟩
      · rw [r] at hg2
        have h9 := h.heldL hg2
        rw [lk g h9.2.2]
        exact h9.1
      · rw [r] at hg2
        cases hg2
        exact if_neg (by omega)
    · rcases mem_putM hp with q | q
      · exact absurd (by rw [q]) e
      · have h1 := World.ownsRow.lt (h.own p q) g hg2
        rw [lk g h1.2]
        exact h.l6 p q g hg2
end
end Go.Proofs.Ytlloppalagddnaa
