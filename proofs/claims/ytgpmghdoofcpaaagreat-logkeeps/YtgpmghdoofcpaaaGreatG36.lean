import Derived.Test.YtgpmghdoofcpaaaGreatG31
import Derived.Test.YtgpmghdoofcpaaaGreatDec
namespace Go.Proofs.YtgpmghdoofcpaaaGreat
open Go.RowKit Go.QK

theorem rd_at {l : List Nat} {pos n : Nat} {r : List Nat} (h : l.drop pos = form n ++ r) (hn : n < 18446744073709551616) : rdE (l.drop pos) = 0 ∧ rdX (l.drop pos) = n ∧ rdN (l.drop pos) = (form n).length := by
  unfold rdE rdX rdN
  rw [h, rd_form r hn]
  exact ⟨rfl, rfl, rfl⟩
theorem u_form {l : List Nat} {pos n : Nat} {r : List Nat} (most : Nat) (h : l.drop pos = form n ++ r) (hn : n < 18446744073709551616) (hm : n ≤ most) : uM most l ⟨pos, 0⟩ = (n, ⟨pos + (form n).length, 0⟩) := by
  obtain ⟨h1, h2, h3⟩ := rd_at h hn
  unfold uM uV uP uE
  simp only
  rw [h1, h2, h3]
  have : ¬ most < n := by omega
  simp [this]
/-- Where it ends without a fault. -/
theorem u_good {most : Nat} {l : List Nat} {s : RS} (hb : AllB l) (he : s.e = 0) (hp : s.pos ≤ l.length) (h : (uM most l s).2.e = 0) :
    ∃ n, (uM most l s).1 = n ∧ n ≤ most ∧ n < 18446744073709551616 ∧ (uM most l s).2.pos = s.pos + (form n).length ∧ l.drop s.pos = form n ++ l.drop (s.pos + (form n).length) ∧ s.pos + (form n).length ≤ l.length := by
  obtain ⟨pos, e⟩ := s
  simp only at he hp h ⊢
  subst he
  have hE : rdE (l.drop pos) = 0 := by
    unfold uM uE at h
    simp only at h
    by_cases q : rdE (l.drop pos) = 0
    · exact q
    · simp [q] at h
  have hm : ¬ most < rdX (l.drop pos) := by
    intro q
    unfold uM uE at h
    simp [hE, q] at h
  obtain ⟨g1, g2, g3, g4, g5, g6, g7⟩ := rd_good (hb.drop pos) (by rw [rd_parts, hE] : rd (l.drop pos) = (0, rdX (l.drop pos), rdN (l.drop pos)))
  have hlen : (form (rdX (l.drop pos))).length = rdN (l.drop pos) := by
    rw [g6, List.length_take, Nat.min_eq_left g4]
  refine ⟨rdX (l.drop pos), ?_, by omega, g5, ?_, ?_, ?_⟩
  · unfold uM uV; simp [hE, hm]
  · unfold uM uP; simp [hE, hm, hlen]
  · rw [hlen]
    have := List.take_append_drop (rdN (l.drop pos)) (l.drop pos)
    rw [← g6, List.drop_drop] at this
    exact this.symm
  · rw [hlen]
    rw [List.length_drop] at g4
    omega
theorem u_abs {most : Nat} {l : List Nat} {s : RS} (h : s.e ≠ 0) : (uM most l s).2 = s := by
  obtain ⟨pos, e⟩ := s
  simp only at h
  unfold uM uP uE
  simp [h]

/-! Readers: what a fault does; what was there where there was none; back again; cut. -/
def Abs {α : Type} (f : RM α) : Prop := ∀ l s, s.e ≠ 0 → (f l s).2 = s
theorem Abs.u (most : Nat) : Abs (uM most) := fun _ _ h => u_abs h
theorem Abs.pure {α : Type} (a : α) : Abs (pureM a) := fun _ _ _ => rfl
theorem Abs.bind {α β : Type} {f : RM α} {g : α → RM β} (hf : Abs f) (hg : ∀ a, Abs (g a)) : Abs (bindM f g) := by
  intro l s h
  unfold bindM
  have e := hf l s h
  rw [hg _ l _ (by rw [e]; exact h), e]
theorem Abs.rep {α : Type} {f : RM α} (hf : Abs f) : ∀ n, Abs (repM f n)
  | 0 => Abs.pure _
  | n + 1 => (Abs.rep hf n).bind fun _ => hf.bind fun _ => Abs.pure _
theorem Abs.cond {b : Bool} {f : RecM → RM RecM} {r : RecM} (hf : ∀ r, Abs (f r)) : Abs (condM b f r) := by
  cases b
  · exact Abs.pure _
  · exact hf r

/-- Where f ends without a fault, what stood there is the forms of numbers that belong to its answer. -/
def Rdd {α : Type} (f : RM α) (P : List Nat → α → Prop) : Prop :=
  ∀ l s, AllB l → s.e = 0 → s.pos ≤ l.length → (f l s).2.e = 0 → ∃ ns, P ns (f l s).1 ∧ (f l s).2.pos = s.pos + (ns.flatMap form).length ∧ l.drop s.pos = ns.flatMap form ++ l.drop (s.pos + (ns.flatMap form).length) ∧ s.pos + (ns.flatMap form).length ≤ l.length
theorem Rdd.mono {α : Type} {f : RM α} {P P' : List Nat → α → Prop} (h : Rdd f P) (q : ∀ ns a, P ns a → P' ns a) : Rdd f P' := by
  intro l s h1 h2 h3 h4
  obtain ⟨ns, p1, p2⟩ := h l s h1 h2 h3 h4
  exact ⟨ns, q _ _ p1, p2⟩
theorem Rdd.u (most : Nat) : Rdd (uM most) (fun ns n => ns = [n] ∧ n ≤ most ∧ n < 18446744073709551616) := by
  intro l s h1 h2 h3 h4
  obtain ⟨n, e1, e2, e3, e4, e5, e6⟩ := u_good h1 h2 h3 h4
  refine ⟨[n], ⟨by rw [e1], by rw [e1]; exact e2, by rw [e1]; exact e3⟩, ?_, ?_, ?_⟩
  · simpa using e4
  · simpa using e5
  · simpa using e6
theorem Rdd.pure {α : Type} (a : α) : Rdd (pureM a) (fun ns b => ns = [] ∧ b = a) := by
  intro l s h1 h2 h3 h4
  exact ⟨[], ⟨rfl, rfl⟩, by simp [pureM], by simp, by simpa using h3⟩
theorem Rdd.bind {α β : Type} {f : RM α} {g : α → RM β} {P : List Nat → α → Prop} {R : α → List Nat → β → Prop} (hf : Rdd f P) (hg : ∀ a, Rdd (g a) (R a)) (ha : ∀ a, Abs (g a)) :
    Rdd (bindM f g) (fun ns b => ∃ a ns1 ns2, ns = ns1 ++ ns2 ∧ P ns1 a ∧ R a ns2 b) := by
  intro l s h1 h2 h3 h4
  unfold bindM at h4 ⊢
  have hfe : (f l s).2.e = 0 := by
    by_cases q : (f l s).2.e = 0
    · exact q
    · rw [ha _ l _ q] at h4; exact absurd h4 q
  obtain ⟨n1, p1, p2, p3, p4⟩ := hf l s h1 h2 h3 hfe
  obtain ⟨n2, q1, q2, q3, q4⟩ := hg _ l _ h1 hfe (by rw [p2]; exact p4) h4
  rw [p2] at q2 q3 q4
  refine ⟨n1 ++ n2, ⟨_, n1, n2, rfl, p1, q1⟩, ?_, ?_, ?_⟩
  · rw [q2, List.flatMap_append, List.length_append]; omega
  · rw [p3, q3, List.flatMap_append, List.length_append, List.append_assoc, Nat.add_assoc]
  · rw [List.flatMap_append, List.length_append]; omega

/-- These numbers' forms are read as that. -/
def Fw {α : Type} (f : RM α) (ns : List Nat) (a : α) : Prop :=
  ∀ l p r, l.drop p = ns.flatMap form ++ r → f l ⟨p, 0⟩ = (a, ⟨p + (ns.flatMap form).length, 0⟩)
theorem Fw.u {most n : Nat} (h1 : n ≤ most) (h2 : n < 18446744073709551616) : Fw (uM most) [n] n := by
  intro l p r h
  have h' : l.drop p = form n ++ r := by simpa using h
  simpa using u_form most h' h2 h1
theorem Fw.pure {α : Type} (a : α) : Fw (pureM a) [] a := fun l p r _ => by simp [pureM]
theorem Fw.bind {α β : Type} {f : RM α} {g : α → RM β} {n1 n2 : List Nat} {a : α} {b : β} (hf : Fw f n1 a) (hg : Fw (g a) n2 b) : Fw (bindM f g) (n1 ++ n2) b := by
  intro l p r h
  rw [List.flatMap_append, List.append_assoc] at h
  unfold bindM
  rw [hf l p _ h]
  simp only
  have h2 : l.drop (p + (n1.flatMap form).length) = n2.flatMap form ++ r := by
    rw [← List.drop_drop, h, List.drop_left]
  rw [hg l _ r h2, List.flatMap_append, List.length_append, Nat.add_assoc]
theorem Fw.rep_to {α : Type} {f : RM α} {enc : α → List Nat} {xs : List α} (h : ∀ x ∈ xs, Fw f (enc x) x) : ∀ k, k ≤ xs.length → Fw (repM f k) ((xs.take k).flatMap enc) (xs.take k)
  | 0, _ => by simpa [repM] using Fw.pure (α := List α) []
  | k + 1, hk => by
    have h1 := Fw.rep_to h k (by omega)
    have h2 := h xs[k] (List.getElem_mem _)
    have := h1.bind (g := fun xs => bindM f fun x => pureM (xs ++ [x])) (h2.bind (g := fun x => pureM (xs.take k ++ [x])) (Fw.pure (xs.take k ++ [xs[k]])))
    rw [← List.take_append_getElem (by omega : k < xs.length), List.flatMap_append]
    simpa [repM] using this
theorem Fw.rep {α : Type} {f : RM α} {enc : α → List Nat} {xs : List α} (h : ∀ x ∈ xs, Fw f (enc x) x) : Fw (repM f xs.length) (xs.flatMap enc) xs := by
  have := Fw.rep_to h xs.length (Nat.le_refl _)
  rwa [List.take_length] at this
theorem Fw.cond {b : Bool} {f : RecM → RM RecM} {r r' : RecM} {ns : List Nat} (h1 : b = true → Fw (f r) ns r') (h2 : b = false → r' = r) : Fw (condM b f r) (bif b then ns else []) r' := by
  cases b
  · rw [h2 rfl]; exact Fw.pure _
  · exact h1 rfl

/-- Cut anywhere: the same, if all that it reads is there; else a fault 20. -/
def Cu {α : Type} (f : RM α) : Prop :=
  ∀ x m s, AllB (x ++ m) → s.e = 0 → s.pos ≤ x.length → (f (x ++ m) s).2.e = 0 → (f x s = f (x ++ m) s ∧ (f x s).2.pos ≤ x.length) ∨ (f x s).2.e = 20
theorem lead_all : (l : List Nat) → (∀ b ∈ l, 128 ≤ b) → lead l = l.length
  | [], _ => rfl
  | b :: l, h => by
    rw [lead, if_pos (h b (by simp)), lead_all l (fun c hc => h c (by simp [hc]))]
    rfl
theorem form_take {n j : Nat} (hj : j < (form n).length) : ∀ b ∈ (form n).take j, 128 ≤ b := by
  have h1 := lead_cut _ (form_ok n)
  intro b hb
  obtain ⟨i, hi, rfl⟩ := List.getElem_of_mem hb
  rw [List.length_take] at hi
  have h2 := lead_before (form n).dropLast i (by omega)
  rw [List.getElem_take]
  have h3 : (form n).dropLast.getD i 0 = (form n)[i] := by
    rw [List.getD_eq_getElem?_getD, List.getElem?_dropLast]
    have : i < (form n).length - 1 := by omega
    rw [if_pos this, List.getElem?_eq_getElem (show i < (form n).length by omega)]
    rfl
  rw [h3] at h2
  exact h2
theorem Cu.u (most : Nat) : Cu (uM most) := by
  intro x m s hb he hp h
  obtain ⟨n, e1, e2, e3, e4, e5, e6⟩ := u_good hb he (by rw [List.length_append]; omega) h
  obtain ⟨pos, e⟩ := s
  simp only at he hp e5 e6 e4 h ⊢
  subst he
  have hfull := u_form most e5 e3 e2
  rw [List.drop_append_of_le_length hp] at e5
  by_cases hlt : pos + (form n).length ≤ x.length
  · left
    have hx : x.drop pos = form n ++ x.drop (pos + (form n).length) := by
      have : (x.drop pos).take (form n).length = form n := by
        have := congrArg (List.take (form n).length) e5
        rw [List.take_append_of_le_length (by rw [List.length_drop]; omega), List.take_left] at this
        exact this
      have h2 := List.take_append_drop (form n).length (x.drop pos)
      rw [this, List.drop_drop] at h2
      exact h2.symm
    have hx' := u_form most hx e3 e2
    rw [hfull, hx']
    exact ⟨rfl, hlt⟩
  · right
    have hx : x.drop pos = (form n).take (x.length - pos) := by
      have := congrArg (List.take (x.length - pos)) e5
      rw [List.take_append_of_le_length (by rw [List.length_drop]; omega), List.take_of_length_le (by rw [List.length_drop]; omega), List.take_append_of_le_length (by omega)] at this
      exact this
    have hl := form_len e3
    have hlead : lead (x.drop pos) = x.length - pos := by
      rw [hx, lead_all _ (form_take (by omega)), List.length_take]
      omega
    have hE : rdE (x.drop pos) = 20 := rd_end (by omega) (by rw [hlead, List.length_drop])
    unfold uM uE
    simp [hE]
theorem Cu.pure {α : Type} (a : α) : Cu (pureM a) := fun _ _ _ _ _ hp _ => .inl ⟨rfl, hp⟩
theorem Cu.bind {α β : Type} {f : RM α} {g : α → RM β} (hf : Cu f) (hg : ∀ a, Cu (g a)) (ha : ∀ a, Abs (g a)) : Cu (bindM f g) := by
  intro x m s hb he hp h
  unfold bindM at h ⊢
  have hfe : (f (x ++ m) s).2.e = 0 := by
    by_cases q : (f (x ++ m) s).2.e = 0
    · exact q
    · rw [ha _ _ _ q] at h; exact absurd h q
  rcases hf x m s hb he hp hfe with ⟨e1, e2⟩ | e1
  · rw [← e1] at h hfe ⊢
    exact hg _ x m _ hb hfe e2 h
  · right
    rw [ha _ x _ (by rw [e1]; decide)]
    exact e1
theorem Cu.rep {α : Type} {f : RM α} (hf : Cu f) (ha : Abs f) : ∀ n, Cu (repM f n)
  | 0 => Cu.pure _
  | n + 1 => (Cu.rep hf ha n).bind (fun _ => hf.bind (fun _ => Cu.pure _) (fun _ => Abs.pure _)) (fun _ => ha.bind fun _ => Abs.pure _)
theorem Cu.cond {b : Bool} {f : RecM → RM RecM} {r : RecM} (hf : ∀ r, Cu (f r)) : Cu (condM b f r) := by
  cases b
  · exact Cu.pure _
  · exact hf r
end Go.Proofs.YtgpmghdoofcpaaaGreat

namespace Go.Proofs.YtgpmghdoofcpaaaGreat
open Go.RowKit Go.QK

theorem Abs.sign : Abs signM := (Abs.u _).bind fun _ => Abs.pure _
theorem Abs.take : Abs takeM := Abs.u _
theorem Abs.slot : Abs slotM := Abs.take.bind fun _ => Abs.take.bind fun _ => Abs.pure _
theorem Abs.live : Abs liveM := Abs.take.bind fun _ => Abs.take.bind fun _ => (Abs.u _).bind fun _ => Abs.pure _
theorem Abs.dirty : Abs dirtyM := Abs.take.bind fun _ => Abs.take.bind fun _ => Abs.pure _
theorem Abs.points : Abs pointsM := (Abs.u _).bind fun _ => (Abs.u _).bind fun _ => (Abs.rep Abs.live _).bind fun _ => (Abs.u _).bind fun _ => (Abs.rep Abs.dirty _).bind fun _ => Abs.pure _
theorem Cu.sign : Cu signM := (Cu.u _).bind (fun _ => Cu.pure _) fun _ => Abs.pure _
theorem Cu.take : Cu takeM := Cu.u _
theorem Cu.slot : Cu slotM := Cu.take.bind (fun _ => Cu.take.bind (fun _ => Cu.pure _) fun _ => Abs.pure _) fun _ => Abs.take.bind fun _ => Abs.pure _
theorem Cu.live : Cu liveM := Cu.take.bind (fun _ => Cu.take.bind (fun _ => (Cu.u _).bind (fun _ => Cu.pure _) fun _ => Abs.pure _) fun _ => (Abs.u _).bind fun _ => Abs.pure _) fun _ => Abs.take.bind fun _ => (Abs.u _).bind fun _ => Abs.pure _
theorem Cu.dirty : Cu dirtyM := Cu.take.bind (fun _ => Cu.take.bind (fun _ => Cu.pure _) fun _ => Abs.pure _) fun _ => Abs.take.bind fun _ => Abs.pure _
theorem Cu.points : Cu pointsM :=
  (Cu.u _).bind (fun _ => (Cu.u _).bind (fun _ => (Cu.rep Cu.live Abs.live _).bind (fun _ => (Cu.u _).bind (fun _ => (Cu.rep Cu.dirty Abs.dirty _).bind (fun _ => Cu.pure _) fun _ => Abs.pure _)
    fun _ => (Abs.rep Abs.dirty _).bind fun _ => Abs.pure _) fun _ => (Abs.u _).bind fun _ => (Abs.rep Abs.dirty _).bind fun _ => Abs.pure _)
    fun _ => (Abs.rep Abs.live _).bind fun _ => (Abs.u _).bind fun _ => (Abs.rep Abs.dirty _).bind fun _ => Abs.pure _)
    fun _ => (Abs.u _).bind fun _ => (Abs.rep Abs.live _).bind fun _ => (Abs.u _).bind fun _ => (Abs.rep Abs.dirty _).bind fun _ => Abs.pure _
/-! The six parts of a record. -/
def part1 (k : Int) (r : RecM) : RM RecM := condM (hTx k) (fun r => bindM takeM fun n => pureM { r with tx := n }) r
def part2 (k : Int) (r : RecM) : RM RecM := condM (hPrev k) (fun r => bindM takeM fun n => pureM { r with prev := n }) r
def part3 (k : Int) (r : RecM) : RM RecM := condM (hCtr k) (fun r => bindM slotM fun a => bindM slotM fun b => bindM takeM fun n => pureM { r with wp := a.1, wi := a.2, sp := b.1, si := b.2, id := n }) r
def part4 (k : Int) (r : RecM) : RM RecM := condM (hFirst k) (fun r => bindM takeM fun n => bindM signM fun lo => bindM signM fun hi => bindM signM fun v => pureM { r with grp := n, lo := lo, hi := hi, val := v }) r
def part5 (k : Int) (r : RecM) : RM RecM := condM (hDelta k) (fun r => bindM signM fun n => pureM { r with delta := n }) r
def part6 (k : Int) (r : RecM) : RM RecM := condM (hPts k) (fun r => bindM pointsM fun p => pureM { r with next := p.1, live := p.2.1, dirty := p.2.2 }) r
theorem readM_eq (k : Int) : readM k = bindM (part1 k { zeroR with kind := k }) fun r => bindM (part2 k r) fun r => bindM (part3 k r) fun r => bindM (part4 k r) fun r => bindM (part5 k r) fun r => part6 k r := rfl
theorem abs1 (k : Int) (r : RecM) : Abs (part1 k r) := Abs.cond fun _ => Abs.take.bind fun _ => Abs.pure _
theorem abs2 (k : Int) (r : RecM) : Abs (part2 k r) := Abs.cond fun _ => Abs.take.bind fun _ => Abs.pure _
theorem abs3 (k : Int) (r : RecM) : Abs (part3 k r) := Abs.cond fun _ => Abs.slot.bind fun _ => Abs.slot.bind fun _ => Abs.take.bind fun _ => Abs.pure _
theorem abs4 (k : Int) (r : RecM) : Abs (part4 k r) := Abs.cond fun _ => Abs.take.bind fun _ => Abs.sign.bind fun _ => Abs.sign.bind fun _ => Abs.sign.bind fun _ => Abs.pure _
theorem abs5 (k : Int) (r : RecM) : Abs (part5 k r) := Abs.cond fun _ => Abs.sign.bind fun _ => Abs.pure _
theorem abs6 (k : Int) (r : RecM) : Abs (part6 k r) := Abs.cond fun _ => Abs.points.bind fun _ => Abs.pure _
theorem cu1 (k : Int) (r : RecM) : Cu (part1 k r) := Cu.cond fun _ => Cu.take.bind (fun _ => Cu.pure _) fun _ => Abs.pure _
theorem cu2 (k : Int) (r : RecM) : Cu (part2 k r) := Cu.cond fun _ => Cu.take.bind (fun _ => Cu.pure _) fun _ => Abs.pure _
theorem cu3 (k : Int) (r : RecM) : Cu (part3 k r) := Cu.cond fun _ => Cu.slot.bind (fun _ => Cu.slot.bind (fun _ => Cu.take.bind (fun _ => Cu.pure _) fun _ => Abs.pure _) fun _ => Abs.take.bind fun _ => Abs.pure _) fun _ => Abs.slot.bind fun _ => Abs.take.bind fun _ => Abs.pure _
theorem cu4 (k : Int) (r : RecM) : Cu (part4 k r) := Cu.cond fun _ => Cu.take.bind (fun _ => Cu.sign.bind (fun _ => Cu.sign.bind (fun _ => Cu.sign.bind (fun _ => Cu.pure _) fun _ => Abs.pure _) fun _ => Abs.sign.bind fun _ => Abs.pure _) fun _ => Abs.sign.bind fun _ => Abs.sign.bind fun _ => Abs.pure _) fun _ => Abs.sign.bind fun _ => Abs.sign.bind fun _ => Abs.sign.bind fun _ => Abs.pure _
theorem cu5 (k : Int) (r : RecM) : Cu (part5 k r) := Cu.cond fun _ => Cu.sign.bind (fun _ => Cu.pure _) fun _ => Abs.pure _
theorem cu6 (k : Int) (r : RecM) : Cu (part6 k r) := Cu.cond fun _ => Cu.points.bind (fun _ => Cu.pure _) fun _ => Abs.pure _
theorem abs_tail (k : Int) (r : RecM) : Abs (bindM (part2 k r) fun r => bindM (part3 k r) fun r => bindM (part4 k r) fun r => bindM (part5 k r) fun r => part6 k r) :=
  (abs2 k r).bind fun r => (abs3 k r).bind fun r => (abs4 k r).bind fun r => (abs5 k r).bind fun r => abs6 k r
theorem Abs.read (k : Int) : Abs (readM k) := by
  rw [readM_eq]
  exact (abs1 k _).bind fun r => abs_tail k r
theorem Cu.read (k : Int) : Cu (readM k) := by
  rw [readM_eq]
  exact (cu1 k _).bind (fun r => (cu2 k r).bind (fun r => (cu3 k r).bind (fun r => (cu4 k r).bind (fun r => (cu5 k r).bind (fun r => cu6 k r)
    fun r => abs6 k r) fun r => (abs5 k r).bind fun r => abs6 k r) fun r => (abs4 k r).bind fun r => (abs5 k r).bind fun r => abs6 k r)
    fun r => (abs3 k r).bind fun r => (abs4 k r).bind fun r => (abs5 k r).bind fun r => abs6 k r) fun r => abs_tail k r

/-! There and back. -/
theorem Fw.take {n : Int} (h : 0 ≤ n ∧ n ≤ 2147483647) : Fw takeM [n.toNat] n.toNat := Fw.u (by omega) (by omega)
theorem Fw.sign {n : Int} (h : -9223372036854775808 ≤ n ∧ n ≤ 9223372036854775807) : Fw signM [sgn n] n := by
  have := (Fw.u (most := 18446744073709551615) (by have := sgn_lt h.1 h.2; omega) (sgn_lt h.1 h.2)).bind (g := fun n => pureM (uns n)) (Fw.pure _)
  rw [uns_sgn] at this
  simpa [signM] using this
theorem Fw.slot {a b : Int} (ha : 0 ≤ a ∧ a ≤ 2147483647) (hb : 0 ≤ b ∧ b ≤ 2147483647) : Fw slotM [a.toNat, b.toNat] (a.toNat, b.toNat) :=
  (Fw.take ha).bind (g := fun a => bindM takeM fun b => pureM (a, b)) ((Fw.take hb).bind (g := fun b' => pureM (a.toNat, b')) (Fw.pure _))
theorem Fw.live {l : LiveM} (h : liveIn2 l) : Fw liveM (liveNs l) l := by
  obtain ⟨tx, last, com, und⟩ := l
  unfold liveIn2 at h
  simp only at h
  have hs := stateN_le ⟨tx, last, com, und⟩
  have := (Fw.take (n := tx) (by omega)).bind (g := fun a => bindM takeM fun b => bindM (uM 2) fun c => pureM (liveOf a b c)) ((Fw.take (n := last) (by omega)).bind (g := fun b => bindM (uM 2) fun c => pureM (liveOf tx.toNat b c)) ((Fw.u (most := 2) (n := stateN ⟨tx, last, com, und⟩) hs (by omega)).bind (g := fun c => pureM (liveOf tx.toNat last.toNat c)) (Fw.pure _)))
  have e : liveOf tx.toNat last.toNat (stateN ⟨tx, last, com, und⟩) = ⟨tx, last, com, und⟩ := by
    unfold liveOf stateN
    have e1 : ((tx.toNat : Nat) : Int) = tx := by omega
    have e2 : ((last.toNat : Nat) : Int) = last := by omega
    rw [e1, e2]
    cases com <;> cases und <;> simp at h ⊢
  rw [e] at this
  exact this
theorem Fw.dirty {d : DirtyM} (h : dirtyIn2 d) : Fw dirtyM (dirtyNs d) d := by
  obtain ⟨page, since⟩ := d
  unfold dirtyIn2 at h
  simp only at h
  have := (Fw.take (n := page) (by omega)).bind (g := fun (a : Nat) => bindM takeM fun (b : Nat) => pureM (⟨(a : Int), (b : Int)⟩ : DirtyM)) ((Fw.take (n := since) (by omega)).bind (g := fun (b : Nat) => pureM (⟨((page.toNat : Nat) : Int), (b : Int)⟩ : DirtyM)) (Fw.pure _))
  have e : (⟨(page.toNat : Nat), (since.toNat : Nat)⟩ : DirtyM) = ⟨page, since⟩ := by
    have e1 : ((page.toNat : Nat) : Int) = page := by omega
    have e2 : ((since.toNat : Nat) : Int) = since := by omega
    rw [e1, e2]
  rw [e] at this
  exact this
theorem Fw.points {ls : List LiveM} {ds : List DirtyM} {nx : Nat} (h1 : nx ≤ 2147483648) (h2 : ls.length ≤ 32) (h3 : ds.length ≤ 16) (h4 : ∀ l ∈ ls, liveIn2 l) (h5 : ∀ l ∈ ds, dirtyIn2 l) : Fw pointsM (pointsNs ls ds nx) (nx, ls, ds) := by
  have a1 := Fw.u (most := 2147483648) h1 (by omega)
  have a2 := Fw.u (most := 32) h2 (by omega)
  have a3 := Fw.rep (f := liveM) (enc := liveNs) (fun l q => Fw.live (h4 l q))
  have a4 := Fw.u (most := 16) h3 (by omega)
  have a5 := Fw.rep (f := dirtyM) (enc := dirtyNs) (fun l q => Fw.dirty (h5 l q))
  have b5 := a5.bind (g := fun ds => pureM (nx, ls, ds)) (Fw.pure _)
  have b4 := a4.bind (g := fun m => bindM (repM dirtyM m) fun ds => pureM (nx, ls, ds)) b5
  have b3 := a3.bind (g := fun ls => bindM (uM 16) fun m => bindM (repM dirtyM m) fun ds => pureM (nx, ls, ds)) b4
  have b2 := a2.bind (g := fun n => bindM (repM liveM n) fun ls => bindM (uM 16) fun m => bindM (repM dirtyM m) fun ds => pureM (nx, ls, ds)) b3
  have b1 := a1.bind (g := fun nx => bindM (uM 32) fun n => bindM (repM liveM n) fun ls => bindM (uM 16) fun m => bindM (repM dirtyM m) fun ds => pureM (nx, ls, ds)) b2
  have e : [nx] ++ ([ls.length] ++ (ls.flatMap liveNs ++ ([ds.length] ++ (ds.flatMap dirtyNs ++ [])))) = pointsNs ls ds nx := by simp [pointsNs]
  rw [e] at b1
  exact b1
end Go.Proofs.YtgpmghdoofcpaaaGreat
