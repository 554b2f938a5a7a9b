import Derived.Test.YtadppakflbilcaaRm2
namespace Go.Proofs.Ytadppakflbilcaa
open Go.RowKit Go.QK Go.Maps Go.QM Go.QR
set_option maxRecDepth 100000
theorem any_upd {P : Program} {t k e : TypeId} (K : Keyed P k) (ht : P.underlying t = some (.map k e)) {w : World} {m : Nat} {L : Prs Value} (h : AnyAt P k w m L) (hu : Up L) {x : Int} (hk : keyOf P k (.int .i64 x) = some (.int .i64 x)) (hl : L.length < 4000000000) (v : Value) :
    ∃ w', (Instr.mapUpdate t (.map (some m)) (.int .i64 x) v).run P w = .ok () w' ∧ AnyAt P k w' m (putM x v L) ∧ w.grownBy w' (some m) := by
  obtain ⟨w', h1, h2, h3⟩ := World.ownsMap.update h K ht (by unfold maxLen; omega) hk (show anyElem v = some (.held v, []) from rfl)
  exact ⟨w', h1, AnyAt.put hu h2, h3⟩
theorem any_del {P : Program} {t k e : TypeId} (K : Keyed P k) (ht : P.underlying t = some (.map k e)) {w : World} {m : Nat} {L : Prs Value} (h : AnyAt P k w m L) {x : Int} (hk : keyOf P k (.int .i64 x) = some (.int .i64 x)) (ty : TypeId) :
    ∃ w', (Builtin.delete_ #[t, k] ty #[.map (some m), .int .i64 x]).run P w = .ok (.tuple #[]) w' ∧ AnyAt P k w' m (delM L x) ∧ w.grownBy w' (some m) := by
  obtain ⟨w', h1, h2, h3⟩ := World.ownsMap.drop h K ht hk ty
  exact ⟨w', h1, AnyAt.del h2, h3.grown⟩
theorem keepM {w w' : World} {m : Nat} (hg : w.grownBy w' (some m)) : Keep (fun z => z = m) w w' := (Keep.refl _ w).grown hg (fun _ e _ => by cases e; rfl)
theorem delM_map (hv : Int → Option Nat) (L : List Tx) (tx : Int) : delM (L.map (pr hv)) tx = (del L tx).map (pr hv) := by
  unfold delM del
  rw [List.filter_map]
  rfl
theorem del_none {L : List Tx} {tx : Int} (h : get L tx = none) : del L tx = L := by
  unfold del
  rw [List.filter_eq_self]
  intro t ht
  simpa using get_none h t ht
theorem mem_del {L : List Tx} {tx : Int} {t : Tx} (h : t ∈ del L tx) : t ∈ L ∧ t.n ≠ tx := by
  obtain ⟨h1, h2⟩ := List.mem_filter.1 h
  exact ⟨h1, by simpa using h2⟩
theorem pr_congr {hv hv' : Int → Option Nat} {l : List Tx} (h : ∀ t ∈ l, hv' t.n = hv t.n) : l.map (pr hv') = l.map (pr hv) := by
  apply List.map_congr_left
  intro t ht
  simp [pr, h t ht]
section
variable {S T : Nat → Prop} {w w1 : World} {b m : Nat} {M M' : Prs Value} {hv hv' : Int → Option Nat} {L L' : List Tx}
theorem PR.set (h : PR w S b m M hv L) (hA : AnyAt Try.prog 3 w1 m M') (hu : Up M') (hg : w.grownBy w1 (some m)) (hp : M'.Perm (L'.map (pr hv'))) (hi : ∀ t ∈ L', Inn w S (hv' t.n) t) (ho : ∀ t ∈ L', hv' t.n ≠ some m)
    (hj : ∀ t ∈ L', ∀ u ∈ L', ∀ h, hv' t.n = some h → hv' u.n = some h → t.n = u.n) (hk : Ok L') : PR w1 S b m M' hv' L' :=
  ⟨fun k q => Nat.lt_of_lt_of_le (h.lt k q) (keepM hg).size, h.sb, h.sm, h.box.keep (keepM hg) h.ne, hA, hu, hp, fun t ht => (hi t ht).keep (keepM hg) (fun x hx q => ho t ht (by rw [hx, q])), ho, hj, hk⟩
theorem PR.turned (h : PR w S b m M hv L) {t : Tx} (ht : t ∈ L) (f : Tx → Tx) (hf : ∀ t, (f t).n = t.n) (hoth : ∀ n, n ≠ t.n → hv' n = hv n) (hi : Inn w S (hv' t.n) (f t)) (ho : hv' t.n ≠ some m) (hj : ∀ u ∈ L, u.n ≠ t.n → ∀ x, hv u.n = some x → hv' t.n ≠ some x)
    (hok : (f t).Ok) {v : Value} (hv1 : v = .agg #[.int .i64 (f t).st, .map (hv' t.n)]) (hA : AnyAt Try.prog 3 w1 m (putM t.n v M)) (hg : w.grownBy w1 (some m)) : PR w1 S b m (putM t.n v M) hv' (upd L t.n f) := by
  have hmem : ∀ u ∈ upd L t.n f, u = f t ∨ (u ∈ L ∧ u.n ≠ t.n) := fun u hu => by
    rcases List.mem_cons.1 ((perm_upd h.ok.nd f hf ht).mem_iff.1 hu) with q | q
    · exact .inl q
    · exact .inr (mem_del q)
  refine h.set hA (h.up.put _ _) hg ?_ ?_ ?_ ?_ (h.ok.upd ht f hf hok)
  · refine (putM_perm h.up _ _).trans ?_
    refine (List.Perm.cons _ (delM_perm h.perm t.n)).trans ?_
    rw [delM_map]
    refine List.Perm.trans ?_ ((perm_upd h.ok.nd f hf ht).map (pr hv')).symm
    rw [List.map_cons, pr_congr (hv := hv) (hv' := hv') (l := del L t.n) (fun u hu => hoth _ (mem_del hu).2)]
    have : pr hv' (f t) = (t.n, v) := by unfold pr; rw [hf, hv1]
    rw [this]
  · intro u hu
    rcases hmem u hu with rfl | ⟨q1, q2⟩
    · rw [hf]; exact hi
    · rw [hoth _ q2]; exact h.inn u q1
  · intro u hu
    rcases hmem u hu with rfl | ⟨q1, q2⟩
    · rw [hf]; exact ho
    · rw [hoth _ q2]; exact h.off u q1
  · intro u hu s hs x hx hy
    rcases hmem u hu with rfl | ⟨q1, q2⟩
    · rcases hmem s hs with rfl | ⟨r1, r2⟩
      · rfl
      · rw [hf] at hx
        rw [hoth _ r2] at hy
        exact absurd hx (hj s r1 r2 x hy)
    · rcases hmem s hs with rfl | ⟨r1, r2⟩
      · rw [hf] at hy
        rw [hoth _ q2] at hx
        exact absurd hy (hj u q1 q2 x hx)
      · rw [hoth _ q2] at hx
        rw [hoth _ r2] at hy
        exact h.inj u q1 s r1 x hx hy
theorem PR.begun (h : PR w S b m M hv L) {tx : Int} {x : Nat} (hn : get L tx = none) (hi : Inner w S x []) (ho : x ≠ m) (hj : ∀ u ∈ L, hv u.n ≠ some x) (hok : Ok (L ++ [⟨tx, 0, []⟩])) (hA : AnyAt Try.prog 3 w1 m (putM tx (.agg #[.int .i64 0, .map (some x)]) M)) (hg : w.grownBy w1 (some m)) :
    Room w1 S b (L ++ [⟨tx, 0, []⟩]) := by
  have hoth : ∀ u ∈ L, (if u.n = tx then some x else hv u.n) = hv u.n := fun u hu => if_neg (get_none hn u hu)
  have hmem : ∀ u ∈ L ++ [⟨tx, 0, []⟩], u = ⟨tx, 0, []⟩ ∨ u ∈ L := fun u hu => by
    rcases List.mem_append.1 hu with q | q
    · exact .inr q
    · exact .inl (by simpa using q)
  refine ⟨m, _, fun n => if n = tx then some x else hv n, h.set hA (h.up.put _ _) hg ?_ ?_ ?_ ?_ hok⟩
  · refine (putM_perm h.up _ _).trans ?_
    refine (List.Perm.cons _ (delM_perm h.perm tx)).trans ?_
    rw [delM_map, del_none hn, List.map_append, pr_congr (hv := hv) (hv' := fun n => if n = tx then some x else hv n) (l := L) hoth]
    refine (List.perm_append_comm (l₁ := [_])).trans ?_
    simp [pr]
  · intro u hu
    rcases hmem u hu with rfl | q
    · refine ⟨nofun, fun _ => ⟨x, by simp, hi⟩⟩
    · show Inn w S (if u.n = tx then some x else hv u.n) u
      rw [hoth u q]; exact h.inn u q
  · intro u hu
    rcases hmem u hu with rfl | q
    · simpa using ho
    · show (if u.n = tx then some x else hv u.n) ≠ _
      rw [hoth u q]; exact h.off u q
  · intro u hu s hs y hx hy
    rcases hmem u hu with rfl | q
    · rcases hmem s hs with rfl | r
      · rfl
      · change (if s.n = tx then some x else hv s.n) = _ at hy
        rw [hoth s r] at hy
        simp at hx
        subst hx
        exact absurd hy (hj s r)
    · change (if u.n = tx then some x else hv u.n) = _ at hx
      rw [hoth u q] at hx
      rcases hmem s hs with rfl | r
      · simp at hy
        subst hy
        exact absurd hx (hj u q)
      · change (if s.n = tx then some x else hv s.n) = _ at hy
        rw [hoth s r] at hy
        exact h.inj u q s r y hx hy
theorem PR.ended (h : PR w S b m M hv L) (tx : Int) (hA : AnyAt Try.prog 3 w1 m (delM M tx)) (hg : w.grownBy w1 (some m)) : PR w1 S b m (delM M tx) hv (del L tx) := by
  refine h.set hA (h.up.del _) hg ?_ (fun t ht => h.inn t (mem_del ht).1) (fun t ht => h.off t (mem_del ht).1) (fun t ht u hu => h.inj t (mem_del ht).1 u (mem_del hu).1) (h.ok.del _)
  refine (delM_perm h.perm tx).trans ?_
  rw [delM_map]
theorem PR.inner (h : PR w S b m M hv L) {t : Tx} (ht : t ∈ L) {x : Nat} (hx : hv t.n = some x) (f : Tx → Tx) (hf : ∀ t, (f t).n = t.n) (hst : (f t).st = t.st) (hs1 : t.st ≠ 1) (hok : (f t).Ok) (hA : ∃ K, AnyAt Try.prog 3 w1 x K ∧ Up K ∧ K.Perm ((f t).hs.map hp)) (hg : w.grownBy w1 (some x)) :
    PR w1 S b m M hv (upd L t.n f) := by
  have hmem : ∀ u ∈ upd L t.n f, u = f t ∨ (u ∈ L ∧ u.n ≠ t.n) := fun u hu => by
    rcases List.mem_cons.1 ((perm_upd h.ok.nd f hf ht).mem_iff.1 hu) with q | q
    · exact .inl q
    · exact .inr (mem_del q)
  have hmn : ∀ u ∈ upd L t.n f, ∃ s ∈ L, s.n = u.n := fun u hu => by
    rcases hmem u hu with rfl | ⟨q1, _⟩
    · exact ⟨t, ht, (hf t).symm⟩
    · exact ⟨u, q1, rfl⟩
  have hsx : S x := by
    obtain ⟨y, hy, hi⟩ := (h.inn t ht).2 hs1
    rw [hx] at hy; cases hy
    exact hi.s
  refine ⟨fun k q => Nat.lt_of_lt_of_le (h.lt k q) (keepM hg).size, h.sb, h.sm, h.box.keep (keepM hg) (fun q => h.ne2 ht (by rw [hx, q])), anyAt_keep h.mp (keepM hg) (fun q => h.off t ht (by rw [hx, q])), h.up, ?_, ?_, ?_, ?_, h.ok.upd ht f hf hok⟩
  · have : (upd L t.n f).map (pr hv) = L.map (pr hv) := by
      unfold upd
      rw [List.map_map]
      apply List.map_congr_left
      intro s hs
      show pr hv (if s.n = t.n then f s else s) = pr hv s
      by_cases q : s.n = t.n
      · have e1 := get_of_mem h.ok.nd hs
        have e2 := get_of_mem h.ok.nd ht
        rw [q, e2] at e1
        cases e1
        rw [if_pos rfl]
        unfold pr
        rw [hf, hst]
      · rw [if_neg q]
    rw [this]
    exact h.perm
  · intro u hu
    rcases hmem u hu with rfl | ⟨q1, q2⟩
    · refine ⟨fun q => absurd (hst ▸ q) hs1, fun _ => ⟨x, by rw [hf]; exact hx, hsx, hA⟩⟩
    · exact (h.inn u q1).keep (keepM hg) (fun y hy q => q2 (h.inj u q1 t ht x (by rw [hy, q]) hx))
  · intro u hu
    obtain ⟨s, hs, e⟩ := hmn u hu
    rw [← e]
    exact h.off s hs
  · intro u hu v hv2 y h1 h2
    obtain ⟨s, hs, e⟩ := hmn u hu
    obtain ⟨r, hr, e'⟩ := hmn v hv2
    rw [← e] at h1 ⊢
    rw [← e'] at h2 ⊢
    exact h.inj s hs r hr y h1 h2
end
end Go.Proofs.Ytadppakflbilcaa
