import Derived.Test.YtlloppalagddnaaSr4
import Derived.Test.YtlloppalagddnaaSrT
set_option linter.all false
namespace Go.Proofs.Ytlloppalagddnaa
open Go.RowKit Go.QK Go.Maps Go.QM Go.QS Quota Go.Shelf Go.Lib Go.Sort
set_option maxRecDepth 100000
/-! A list of holdings, sorted. -/
def qh (t : Int) (p : Int × Int) : QH3 := (⟨p.1.toNat % 1048577, Nat.mod_lt _ (by decide)⟩, t, p.2)
def unqh (x : QH3) : Int × Int := ((x.1.val : Nat), x.2.2)
theorem qh_val {t : Int} {p : Int × Int} (h : 1 ≤ p.1 ∧ p.1 ≤ 1048576) : ((qh t p).1.val : Int) = p.1 := by
  show ((p.1.toNat % 1048577 : Nat) : Int) = p.1
  omega
theorem unqh_qh {t : Int} {p : Int × Int} (h : 1 ≤ p.1 ∧ p.1 ≤ 1048576) : unqh (qh t p) = p := by
  obtain ⟨a, b⟩ := p
  unfold unqh
  rw [qh_val h]
  rfl
theorem enc_qh {t : Int} {X : Prs Int} (h : ∀ p ∈ X, 1 ≤ p.1 ∧ p.1 ≤ 1048576) : rowsC encH3 (X.map (qh t)) = hns (ofT t X) := by
  induction X with
  | nil => rfl
  | cons p r ih =>
    have i := ih (fun q hq => h q (List.mem_cons_of_mem _ hq))
    unfold hns ofT rowsC at i ⊢
    simp only [List.map_cons, List.flatMap_cons]
    rw [i]
    congr 1
    show [Value.int .i64 t, .int .i64 ((qh t p).1.val : Int), .int .i64 p.2] = _
    rw [qh_val (h p List.mem_cons_self)]
    rfl
theorem unmap {t : Int} {X : Prs Int} (h : ∀ p ∈ X, 1 ≤ p.1 ∧ p.1 ≤ 1048576) {ds : List QH3} (hp : ds.Perm (X.map (qh t))) : ds = (ds.map unqh).map (qh t) ∧ (ds.map unqh).Perm X := by
  have h1 : ∀ x ∈ ds, qh t (unqh x) = x := fun x hx => by
    obtain ⟨p, hp2, rfl⟩ := List.mem_map.1 (hp.mem_iff.1 hx)
    rw [unqh_qh (h p hp2)]
  constructor
  · rw [List.map_map]
    have : ds.map (qh t ∘ unqh) = ds.map id := List.map_congr_left (fun x hx => h1 x hx)
    rw [this, List.map_id]
  · refine (hp.map unqh).trans ?_
    rw [List.map_map]
    have : X.map (unqh ∘ qh t) = X.map id := List.map_congr_left (fun p hp2 => unqh_qh (h p hp2))
    rw [this, List.map_id]
theorem sortH_any (B : Nat) (v : Value) (t : Int) (X L : Prs Int) (w : World) (h : HRow w B v (ofT t X)) (hu : Up L) (hp : X.Perm L) (hid : ∀ p ∈ L, 1 ≤ p.1 ∧ p.1 ≤ 1048576) (hB : B ≤ w.heap.size) :
    Calls Try.prog 61 #[v, .func (.func 62) #[] #[]] w fun r w' => r = .returned (.tuple #[]) ∧ HRow w' B v (ofT t L) ∧ Keep (fun x => v.ownBlock = some x) w w' := by
  have hX : ∀ p ∈ X, 1 ≤ p.1 ∧ p.1 ≤ 1048576 := fun p q => hid p (hp.mem_iff.1 q)
  have hlX : X.length ≤ 1048576 := by
    have := up_len' hu (a := 1) (b := 1048576) hid
    have := hp.length_eq
    omega
  cases hv : v.ownBlock with
  | none =>
    rcases h.2 with ⟨q1, q2⟩ | ⟨g, cap, cur, q, _⟩
    · subst q1
      have e0 : X = [] := List.eq_nil_of_length_eq_zero (by simpa [ofT] using q2)
      subst e0
      have e1 : L = [] := List.eq_nil_of_length_eq_zero (by have := hp.length_eq; simp at this; exact this.symm)
      subst e1
      refine (sort_nil w).mono ?_
      rintro r w' ⟨rfl, rfl⟩
      exact ⟨rfl, h, Keep.refl _ _⟩
    · rw [q] at hv; cases hv
  | some g0 =>
    have h' : GRow w B 74 3 v (X.map (qh t)).length (rowsC encH3 (X.map (qh t))) := by
      rw [enc_qh hX, List.length_map]
      have := h
      unfold HRow ofT at this
      rw [List.length_map] at this
      exact this
    refine (sortH3_any B v (X.map (qh t)) w h' (by rw [hv]; simp) (by rw [List.length_map]; omega)).mono ?_
    rintro r w' ⟨rfl, ds, p1, p2, p3, p4⟩
    obtain ⟨u1, u2⟩ := unmap hX p1
    have hA : ∀ p ∈ ds.map unqh, 1 ≤ p.1 ∧ p.1 ≤ 1048576 := fun p q => hX p (u2.mem_iff.1 q)
    have hs : (ds.map unqh).Pairwise (fun p q => p.1 ≤ q.1) := by
      rw [List.pairwise_map]
      exact p2.imp (fun q => by unfold unqh; simp only; omega)
    have e : ds.map unqh = L := up_perm (up_of_sorted hu (u2.trans hp) hs) hu (u2.trans hp)
    refine ⟨rfl, ?_, by rw [← hv]; exact p4⟩
    rw [u1, e, enc_qh hid, List.length_map, hp.length_eq] at p3
    unfold HRow ofT
    rw [List.length_map]
    exact p3
theorem netV_set (S : St) (t : Int) (L : Prs Int) (x y : Int) : netV (setS S t L) x y = if x = t then (getM L y).map (.int .i64) else netV S x y := by
  unfold netV setS
  split <;> rfl
theorem net_gone (S : St) (t c : Int) (L : Prs Int) (x y : Int) : (if x = t ∧ y = c then none else netV (setS S t L) x y) = netV (setS S t (delM L c)) x y := by
  rw [netV_set, netV_set, getM_del]
  by_cases q : x = t
  · by_cases q2 : y = c
    · simp [q, q2]
    · simp [q, q2]
  · simp [q]
theorem set_self (S : St) (t : Int) : setS S t (S t) = S := by
  funext x
  unfold setS
  split
  · rename_i q; rw [q]
  · rfl
/-- What is told of a transaction: its nets, in new memory. -/
structure Tk (lab : Nat → Nat) (B : Nat) (w w' : World) (hb mn mh : Nat) (rv : Value) (rs : List RV) (D : Hd) (S : St) (n : Nat) (t : Int) (v : Value) : Prop where
  row : HRow w' w.heap.size v (ofT t (S t))
  ph : PH (labT lab w.heap.size 5) B w' hb mn mh rv rs (delM D t) (setS S t []) n
  keep : Keep (fun z => z = mn ∨ z = mh) w w'
theorem hld_del {D : Hd} (t x : Int) : hldV (delM D t) x = (if x = t then .slice none 0 0 else hldV D x) ∧ idsD (delM D t) x = (if x = t then [] else idsD D x) := by
  unfold hldV idsD
  rw [getM_del]
  split <;> exact ⟨rfl, rfl⟩
theorem PH.taken {lab : Nat → Nat} {B : Nat} {w w' : World} {hb mn mh : Nat} {rv : Value} {rs : List RV} {D : Hd} {S : St} {n : Nat} {t : Int} (h : PH lab B w hb mn mh rv rs D S n) (hk : Keep (fun z => z = mn ∨ z = mh) w w') (h1 : NM w' mn (netV (setS S t [])) n) (h2 : AnyAt Try.prog 3 w' mh (delM (mapD D) t)) :
    PH (labT lab w.heap.size 5) B w' hb mn mh rv rs (delM D t) (setS S t []) n := by
  have hlt := h.lt.2.2.2.2
  have lk : ∀ z, z < w.heap.size → labT lab w.heap.size 5 z = lab z := fun z hz => if_pos hz
  refine h.turn lk hk (fun z _ q => by rcases q with q | q; left; rw [q]; exact h.l2; right; left; rw [q]; exact h.l3) (Nat.le_refl _) h1 ?_ (fun p hp => ?_) (h.up.del _) (fun x y hx => ?_) ?_ (fun p hp => h.rng p (List.mem_filter.1 hp).1) (fun p hp g hg => ?_)
  · have := delM_map (fun (x : Value × List Int) => x.1) t D
    show AnyAt Try.prog 3 w' mh ((delM D t).map (fun (p : Int × Value × List Int) => (p.1, p.2.1)))
    rw [this]
    exact h2
  · have hp := (List.mem_filter.1 hp).1
    exact (h.own p hp).keep hk (fun g hg q => by have a0 := h.l6 p hp g hg; have a1 := (h.rng p hp).1; have a2 := h.l2; have a3 := h.l3; rcases q with q | q <;> rw [q] at a0 <;> omega)
  · rw [(hld_del t x).2]
    unfold setS at hx
    split at hx
    · cases hx
    · rename_i q
      rw [if_neg q]
      exact h.cov x y hx
  · exact h.ok.set List.Pairwise.nil (fun p hp => by cases hp) (fun p hp => by cases hp)
  · have hp := (List.mem_filter.1 hp).1
    rw [lk g (hlt p hp g hg)]
    exact h.l6 p hp g hg
end Go.Proofs.Ytlloppalagddnaa
