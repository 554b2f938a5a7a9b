import Derived.Test.YtllpfojkbeloeaaDoorOps
import Derived.Deep.DeepCutAuto
namespace Go.Proofs.YtllpfojkbeloeaaDoor
open Go.RowKit Go.QK

set_option maxRecDepth 100000 in
theorem cut_any (a : Option Addr) (n c : Nat) (w : World) (h : n ≤ c) (hm : c ≤ maxLen) (ha : a = none → c = 0) : Calls Tryd.prog 19 #[.slice a n c] w fun e w' => e = .returned (.slice a (min n 4000) c) ∧ w' = w := by
  unfold maxLen at hm
  by_cases q : 4000 < n
  · have e : min n 4000 = 4000 := by omega
    rw [e]
    have q1 : (4000 : Int) < (n : Int) := by omega
    have q2 : (4000 : Int) ≤ (c : Int) := by omega
    have q3 : 4000 ≤ c := by omega
    cases a with
    | none => have := ha rfl; omega
    | some ad =>
      go_enter Tryd.func19, Tryd.ntmps19
      go_wp2_with fail
      go_ret
      exact ⟨rfl, rfl⟩
  · have e : min n 4000 = n := by omega
    rw [e]
    have q1 : ¬ (4000 : Int) < (n : Int) := by omega
    go_enter Tryd.func19, Tryd.ntmps19
    go_wp2_with fail
    go_ret
    exact ⟨rfl, rfl⟩

/-- 'append(v, y)', as one operation of a region. -/
theorem exec_push (o : Oper) (ev : Operand → Value) (s x : Operand) (ho : o.op = .call { callee := .builtin .append, args := #[s, x], argTypes := #[29, 29] }) (w : World)
    (B : Nat) (v : Value) (l : List Nat) (hs : ev s = v) (ad : Addr) (y : Nat) (hx : ev x = .slice (some ad) 1 1) (hown : OwnB w B v l) (hc : w.cell? ad = some (.int .u8 (y : Int))) (hl : l.length ≤ 2000000) (hB : B ≤ w.heap.size) :
    ∃ v' w', (execOp ev o).run Tryd.prog w = .ok (.value v') w' ∧ OwnB w' B v' (l ++ [y]) ∧ w.grownBy w' v.ownBlock ∧ (v'.ownBlock = v.ownBlock ∨ v'.ownBlock = some w.heap.size) := by
  obtain ⟨i0, hi, hz0, hz1, hz2⟩ := info_parts info5
  obtain ⟨v', w', hr, h2, h3, h4, h5⟩ := run_append_own_at (P := Tryd.prog) w B 29 o.type 5 i0 (.int .u8 0) 1 1 Tryd.underlying29 hi hz0 hz1 hz2 rfl (by decide) v l.length _ (by have h : w.ownsRow B 5 1 v (ints l).length ((ints l).map (Value.int .u8)) := hown; rw [ints_length] at h; exact h) ad 1 1 [.int .u8 (y : Int)] rfl
    (by
      intro j u hj
      match j, hj with
      | 0, hj =>
        simp at hj
        subst hj
        simpa [Addr.add] using hc)
    (by
      intro u hu
      simp at hu
      subst hu
      rfl) (by unfold maxLen; omega) (by omega) hB
  refine ⟨v', w', ?_, ?_, h3, h5⟩
  · unfold execOp
    simp only [ho, resolve, invoke, builtin, Sem.run_bind, Sem.run_pure, Result.andThen_ok, List.map_toArray, List.map_cons, List.map_nil, hs, hx, hr]
  · unfold OwnB Owns
    rw [ints_append]
    simpa [ints] using h2

theorem step_push {ops : Array Oper} {Q : Exit → Act → World → Prop} {md : Region.Mode} {G : World → Prop} {U : Nat → World → Prop} {R : Nat → Value → World → Prop} {i : Nat} {o : Oper} {a : Act} {x : World} (s t : Operand) (hop : ops[i]? = some o) (hgd : o.guard = none)
    (ho : o.op = .call { callee := .builtin .append, args := #[s, t], argTypes := #[29, 29] })
    (B : Nat) (v : Value) (l : List Nat) (hs : a.eval s = v) (ad : Addr) (y : Nat) (hx : a.eval t = .slice (some ad) 1 1) (hown : OwnB x B v l) (hc : x.cell? ad = some (.int .u8 (y : Int))) (hl : l.length ≤ 2000000) (hB : B ≤ x.heap.size)
    (h : ∀ v' x', OwnB x' B v' (l ++ [y]) → x.grownBy x' v.ownBlock → (v'.ownBlock = v.ownBlock ∨ v'.ownBlock = some x.heap.size) → G x' ∧ R i v' x' ∧ (∀ j u, j ≠ i → waits md ops j i = false → R j u x → R j u x') ∧ ∀ j, j ≠ i → waits md ops i j = false → U j x → U j x') :
    wpOp Tryd.prog ops Q i (fun a' x' => ∃ v, a' = a.put ((ops[i]?).bind (·.dst)) v ∧ G x' ∧ R i v x' ∧ (∀ j u, j ≠ i → waits md ops j i = false → R j u x → R j u x') ∧ ∀ j, j ≠ i → waits md ops i j = false → U j x → U j x') a x := by
  obtain ⟨v', x', hrun, h1, h2, h3⟩ := exec_push o a.eval s t ho x B v l hs ad y hx hown hc hl hB
  obtain ⟨g1, g2, g3, g4⟩ := h v' x' h1 h2 h3
  exact step_value hop hgd hrun g1 g2 g3 g4

/-- The three lists that the loop makes. -/
def xors (la lb : List Nat) (k : Nat) : List Nat := List.zipWith (· ^^^ ·) (la.take k) (lb.take k)
/-- Rows in blocks of their own. -/
def away (v u : Value) : Prop := ∀ g, v.ownBlock = some g → u.ownBlock ≠ some g

/-! 'x = append(x, a[i]^b[i])': its invariant. -/
def G9 (w' : World) (X Y Z : Value) (ys zs : List Nat) (x : World) : Prop := Below w'.heap.size w' x ∧ OwnB x w'.heap.size Y ys ∧ OwnB x w'.heap.size Z zs ∧ ∀ g, X.ownBlock = some g → g < x.heap.size
def U9 (w' : World) (X : Value) (xs : List Nat) (i : Nat) (x : World) : Prop := match i with | 11 => OwnB x w'.heap.size X xs | _ => True
def R9 (w' : World) (X Y Z A C : Value) (pa oa pb ob k xk yk z : Nat) (xs : List Nat) (i : Nat) (v : Value) (x : World) : Prop :=
  match i with
  | 0 => v = X
  | 1 => v = A
  | 2 => v = .int .i64 (k : Int)
  | 3 => v = .pointer (some ⟨pa, oa + k, none⟩)
  | 4 => v = .int .u8 (xk : Int)
  | 5 => v = C
  | 6 => v = .int .i64 (k : Int)
  | 7 => v = .pointer (some ⟨pb, ob + k, none⟩)
  | 8 => v = .int .u8 (yk : Int)
  | 9 => v = .int .u8 (z : Int)
  | 10 => ∃ g, v = .slice (some ⟨g, 0, none⟩) 1 1 ∧ x.cell? ⟨g, 0, none⟩ = some (.int .u8 (z : Int)) ∧ g < x.heap.size ∧ X.ownBlock ≠ some g
  | 11 => OwnB x w'.heap.size v (xs ++ [z]) ∧ away v Y ∧ away v Z ∧ away Y v ∧ away Z v
  | 12 => OwnB x w'.heap.size v (xs ++ [z]) ∧ away v Y ∧ away v Z ∧ away Y v ∧ away Z v
  | _ => True
theorem R9.alloc {w' X Y Z A C pa oa pb ob k xk yk z xs x} (o : Obj) {i : Nat} {v : Value} (h : R9 w' X Y Z A C pa oa pb ob k xk yk z xs i v x) : R9 w' X Y Z A C pa oa pb ob k xk yk z xs i v (x.alloc o) := by
  unfold R9 at *
  split at h <;> try exact h
  · obtain ⟨g, h1, h2, h3, h4⟩ := h
    exact ⟨g, h1, ((alloc_below x o).cell (p := ⟨g, 0, none⟩) h3).trans h2, by simp; omega, h4⟩
  · exact ⟨h.1.alloc _, h.2⟩
  · exact ⟨h.1.alloc _, h.2⟩
theorem U9.alloc {w' X xs x} (o : Obj) {i : Nat} (h : U9 w' X xs i x) : U9 w' X xs i (x.alloc o) := by
  unfold U9 at *
  split at h
  · exact h.alloc _
  · trivial
theorem away_new {w : World} {B m : Nat} {v v' u : Value} {l : List Nat} (hv : v'.ownBlock = v.ownBlock ∨ v'.ownBlock = some m) (hm : w.heap.size ≤ m) (h : away v u) (h' : away u v) (hu : OwnB w B u l) : away v' u ∧ away u v' := by
  constructor
  · intro g hg q
    rcases hv with e | e
    · rw [e] at hg; exact h g hg q
    · rw [e] at hg
      cases hg
      have := (World.ownsRow.lt hu _ q).2
      omega
  · intro g hg q
    rcases hv with e | e
    · rw [e] at q; exact h' g hg q
    · rw [e] at q
      cases q
      have := (World.ownsRow.lt hu _ hg).2
      omega
theorem Owns.grownAway {w w' : World} {B : Nat} {v u : Value} {l : List Nat} (h : OwnB w B u l) (hg : w.grownBy w' v.ownBlock) (ha : away u v) : OwnB w' B u l :=
  Owns.keep h ((Keep.refl (fun k => v.ownBlock = some k) w).grown hg (fun _ e _ => e)) (fun g hg' q => ha g hg' q)

/-! Sums of some lists. -/
theorem Parts.below {x x' : World} {a : Option Addr} {ps : List (Value × List Nat)} (h : Parts x a ps) (k : Below x.heap.size x x') : Parts x' a ps := by
  rcases h with h | ⟨b, off, h1, h2, h3⟩
  · exact .inl h
  · refine .inr ⟨b, off, h1, Nat.lt_of_lt_of_le h2 k.size, fun i hi => ?_⟩
    obtain ⟨q1, q2⟩ := h3 i hi
    exact ⟨(k.cell (p := ⟨b, off + i, none⟩) h2).trans q1, Part.below q2 k⟩
/-- A new list of lists. -/
def Fresh (x : World) (v : Value) (ps : List (Value × List Nat)) : Prop := ∃ g, v = .slice (some ⟨g, 0, none⟩) ps.length ps.length ∧ Parts x (some ⟨g, 0, none⟩) ps
theorem Fresh.below {x x' : World} {v : Value} {ps : List (Value × List Nat)} (h : Fresh x v ps) (k : Below x.heap.size x x') : Fresh x' v ps := by
  obtain ⟨g, h1, h2⟩ := h
  exact ⟨g, h1, h2.below k⟩
theorem tmod_bd (x n : Int) (h : 1 ≤ n) : -n < x.tmod n ∧ x.tmod n < n :=
  ⟨Int.lt_tmod_of_pos x (by omega), Int.tmod_lt_of_pos x (by omega)⟩
def G13 (w x : World) : Prop := Below w.heap.size w x
def noU (_ : Nat) (_ : World) : Prop := True
def R13 (X A Y Z Ac : Value) (k : Nat) (xs az ys zs : List Nat) (i : Nat) (v : Value) (x : World) : Prop :=
  match i with
  | 0 => v = X
  | 1 => Fresh x v [(X, xs)]
  | 2 => v = .int .u32 ((sumOf xs : Nat) : Int)
  | 3 => v = A
  | 4 => v = .int .i64 (k : Int)
  | 5 => v = Ac
  | 6 => Fresh x v [(Ac, az)]
  | 7 => v = .int .u32 ((sumOf az : Nat) : Int)
  | 8 => v = Y
  | 9 => Fresh x v [(Y, ys)]
  | 10 => v = .int .u32 ((sumOf ys : Nat) : Int)
  | 11 => v = .int .u32 ((sumOf az ^^^ sumOf ys : Nat) : Int)
  | 12 => v = Z
  | 13 => Fresh x v [(Z, zs)]
  | 14 => v = .int .u32 ((sumOf zs : Nat) : Int)
  | 15 => v = .int .u32 ((sumOf az ^^^ sumOf ys ^^^ sumOf zs : Nat) : Int)
  | _ => v = .bool false
theorem R13.below {X A Y Z Ac k xs az ys zs i v x x'} (h : R13 X A Y Z Ac k xs az ys zs i v x) (q : Below x.heap.size x x') : R13 X A Y Z Ac k xs az ys zs i v x' := by
  unfold R13 at *
  split at h <;> first | exact h | exact h.below q
/-! 't[p/8] = t[p/8] ^ 1<<(p%8)': its invariant. -/
def U30 (B gb k cT : Nat) (ts : List Nat) (i : Nat) (x : World) : Prop := match i with | 11 => OwnB x B (.slice (some ⟨gb, 0, none⟩) k cT) ts | 19 => OwnB x B (.slice (some ⟨gb, 0, none⟩) k cT) ts | _ => True
def R30 (B gb k cT at_ j old new : Nat) (ts' : List Nat) (i : Nat) (v : Value) (x : World) : Prop :=
  match i with
  | 0 => v = .slice (some ⟨gb, 0, none⟩) k cT
  | 1 => v = .int .i64 (at_ : Int)
  | 2 => v = .int .i64 (j : Int)
  | 3 => v = .int .i64 ((at_ + j : Nat) : Int)
  | 4 => v = .int .i64 (((at_ + j) / 8 : Nat) : Int)
  | 5 => v = .slice (some ⟨gb, 0, none⟩) k cT
  | 6 => v = .int .i64 (at_ : Int)
  | 7 => v = .int .i64 (j : Int)
  | 8 => v = .int .i64 ((at_ + j : Nat) : Int)
  | 9 => v = .int .i64 (((at_ + j) / 8 : Nat) : Int)
  | 10 => v = .pointer (some ⟨gb, 0 + (at_ + j) / 8, none⟩)
  | 11 => v = .int .u8 (old : Int)
  | 12 => v = .int .i64 (at_ : Int)
  | 13 => v = .int .i64 (j : Int)
  | 14 => v = .int .i64 ((at_ + j : Nat) : Int)
  | 15 => v = .int .i64 (((at_ + j) % 8 : Nat) : Int)
  | 16 => v = .int .u8 ((2 ^ ((at_ + j) % 8) : Nat) : Int)
  | 17 => v = .int .u8 (new : Int)
  | 18 => v = .pointer (some ⟨gb, 0 + (at_ + j) / 8, none⟩)
  | 19 => OwnB x B (.slice (some ⟨gb, 0, none⟩) k cT) ts'
  | _ => True
def G30 (gb : Nat) (y1 x : World) : Prop := Keep (fun b => b = gb) y1 x
theorem noneR30 {B gb k cT at_ j old new ts' ops} (h : ((List.range 19).all fun i => match (ops : Array Oper)[i]? with | some o => o.dst.isSome | none => true) = true) (hsz : ops.size = 20) :
    ∀ i o, ops[i]? = some o → o.dst = none → ∀ u u' : Value, ∀ x, R30 B gb k cT at_ j old new ts' i u x → R30 B gb k cT at_ j old new ts' i u' x := by
  intro i o ho hn u u' x hR
  by_cases q : i < 19
  · exfalso
    have := List.all_eq_true.1 h i (List.mem_range.2 q)
    rw [ho] at this
    simp [hn] at this
  · have hi : i < ops.size := (Array.getElem?_eq_some_iff.1 ho).1
    obtain rfl : i = 19 := by omega
    exact hR
def R18 (X Xt Xd : Value) (kk : Nat) (xs xt xd : List Nat) (i : Nat) (v : Value) (x : World) : Prop :=
  match i with
  | 0 => v = X
  | 1 => v = .int .i64 (kk : Int)
  | 2 => v = Xt
  | 3 => v = X
  | 4 => v = .int .i64 (kk : Int)
  | 5 => v = Xd
  | 6 => Fresh x v [(Xt, xt), (.slice none 0 0, []), (Xd, xd)]
  | 7 => v = .int .u32 ((sumOf xs : Nat) : Int)
  | 8 => v = X
  | 9 => Fresh x v [(X, xs)]
  | 10 => v = .int .u32 ((sumOf xs : Nat) : Int)
  | _ => v = .bool false
theorem R18.below {X Xt Xd kk xs xt xd i v x x'} (h : R18 X Xt Xd kk xs xt xd i v x) (q : Below x.heap.size x x') : R18 X Xt Xd kk xs xt xd i v x' := by
  unfold R18 at *
  split at h <;> first | exact h | exact h.below q
theorem fresh_one (x : World) (a : Option Addr) (n c : Nat) (l : List Nat) (hn : n = l.length) (hb : Bytes x a l) (ha : AllB l) (hm : l.length ≤ maxLen) :
    Fresh (x.alloc (.cells #[.slice a n c] 29)) (.slice (some ⟨x.heap.size, 0, none⟩) 1 1) [(.slice a n c, l)] := by
  refine ⟨x.heap.size, rfl, ?_⟩
  refine Parts.lit x [(.slice a n c, l)] ?_
  intro p hp
  simp at hp
  subst hp
  exact ⟨a, c, by rw [hn], hb, ha, hm⟩
theorem parts_one (x : World) (a : Option Addr) (n c : Nat) (l : List Nat) (hn : n = l.length) (hb : Bytes x a l) (ha : AllB l) (hm : l.length ≤ maxLen) :
    Parts (x.alloc (.cells #[.slice a n c] 29)) (some ⟨x.heap.size, 0, none⟩) [(.slice a n c, l)] := by
  refine Parts.lit x [(.slice a n c, l)] ?_
  intro p hp
  simp at hp
  subst hp
  exact ⟨a, c, by rw [hn], hb, ha, hm⟩
theorem fresh_three (x : World) (a b e : Option Addr) (n c m d q r : Nat) (l l2 l3 : List Nat) (h1 : n = l.length) (h2 : m = l2.length) (h3 : q = l3.length) (b1 : Bytes x a l) (b2 : Bytes x b l2) (b3 : Bytes x e l3) (a1 : AllB l) (a2 : AllB l2) (a3 : AllB l3) (m1 : l.length ≤ maxLen) (m2 : l2.length ≤ maxLen) (m3 : l3.length ≤ maxLen) :
    Fresh (x.alloc (.cells #[.slice a n c, .slice b m d, .slice e q r] 29)) (.slice (some ⟨x.heap.size, 0, none⟩) 3 3) [(.slice a n c, l), (.slice b m d, l2), (.slice e q r, l3)] := by
  refine ⟨x.heap.size, rfl, ?_⟩
  refine Parts.lit x [(.slice a n c, l), (.slice b m d, l2), (.slice e q r, l3)] ?_
  intro p hp
  simp at hp
  rcases hp with rfl | rfl | rfl
  · exact ⟨a, c, by rw [h1], b1, a1, m1⟩
  · exact ⟨b, d, by rw [h2], b2, a2, m2⟩
  · exact ⟨e, r, by rw [h3], b3, a3, m3⟩
/-- The call of Sum in a region. -/
theorem step_sum {ops : Array Oper} {Q : Exit → Act → World → Prop} {md : Region.Mode} {x0 : World} {U : Nat → World → Prop} {R : Nat → Value → World → Prop} {i : Nat} {o : Oper} {a : Act} {x : World} (s : Operand) (hop : ops[i]? = some o) (hgd : o.guard = none)
    (ho : o.op = .call { callee := .value (.func 20), args := #[s], argTypes := #[61] }) (ps : List (Value × List Nat)) (hf : Fresh x (a.eval s) ps) (ht : Tab x0) (hg : G13 x0 x) (hl : ps.length ≤ maxLen) (hall : AllB (joined ps)) (S : Nat) (hS : sumOf (joined ps) = S)
    (hR : R i (.int .u32 (S : Int)) x) :
    wpOp Tryd.prog ops Q i (fun a' x' => ∃ v, a' = a.put ((ops[i]?).bind (·.dst)) v ∧ G13 x0 x' ∧ R i v x' ∧ (∀ j u, j ≠ i → waits md ops j i = false → R j u x → R j u x') ∧ ∀ j, j ≠ i → waits md ops i j = false → U j x → U j x') a x := by
  obtain ⟨g, h1, h2⟩ := hf
  refine step_call (G := G13 x0) hop hgd (run_sum ho h1 rfl) ?_
  refine (sum_any ps _ _ x (Tab.below ht hg) h2 hl hall).mono ?_
  rintro e x' ⟨rfl, rfl⟩
  rw [hS]
  exact ⟨_, rfl, hg, hR, fun _ _ _ _ h => h, fun _ _ _ h => h⟩

set_option maxHeartbeats 4000000 in
set_option maxRecDepth 100000 in
theorem sums_any (xa xb : List Nat) (aa ab : Option Addr) (ca cb : Nat) (bit : Int) (mask : Nat) (w : World) (ht : Tab w) (ha : Bytes w aa xa) (hb : Bytes w ab xb) (hca : xa.length ≤ ca) (hcb : xb.length ≤ cb) (hma : ca ≤ maxLen) (hmb : cb ≤ maxLen)
    (hna : aa = none → ca = 0) (hnb : ab = none → cb = 0) (ba : AllB xa) (bb : AllB xb) (hmask : mask < 4294967296) :
    Calls Tryd.prog 4 #[.slice aa xa.length ca, .slice ab xb.length cb, .int .i64 bit, .int .u32 (mask : Int)] w fun e w' => e = .returned (.bool true) ∧ Below w.heap.size w w' := by
  have HT : Hid (Tab w) := ht
  go_enter Tryd.func4, Tryd.ntmps4
  go_wp2_with fail
  refine (awake_any _ HT.out).mono ?_
  rintro e w1 ⟨rfl, B1⟩
  have HA1 : Hid (Bytes w1 aa xa) := Seen.below ha B1
  have HB1 : Hid (Bytes w1 ab xb) := Seen.below hb B1
  clear ha hb ht
  go_wp2_with fail
  refine (cut_any aa xa.length ca _ hca hma hna).mono ?_
  rintro e w' ⟨rfl, rfl⟩
  go_wp2_with fail
  refine (cut_any ab xb.length cb _ hcb hmb hnb).mono ?_
  rintro e w' ⟨rfl, rfl⟩
  obtain ⟨la, hla⟩ : ∃ l, l = xa.take 4000 := ⟨_, rfl⟩
  obtain ⟨lb, hlb⟩ : ∃ l, l = xb.take 4000 := ⟨_, rfl⟩
  have e1 : min xa.length 4000 = la.length := by rw [hla]; simp; omega
  have e2 : min xb.length 4000 = lb.length := by rw [hlb]; simp; omega
  have HA : Hid (Bytes w' aa la) := by rw [hla]; exact HA1.out.take _
  have HB : Hid (Bytes w' ab lb) := by rw [hlb]; exact HB1.out.take _
  have al : AllB la := by rw [hla]; exact ba.take _
  have bl : AllB lb := by rw [hlb]; exact bb.take _
  have n1 : la.length ≤ 4000 := by rw [hla]; simp; omega
  have n2 : lb.length ≤ 4000 := by rw [hlb]; simp; omega
  have k1 : la.length ≤ ca := by omega
  have k2 : lb.length ≤ cb := by omega
  rw [e1, e2]
  unfold maxLen at hma hmb
  clear e1 e2 hla hlb HA1 HB1 ba bb hca hcb
  go_wp2_with fail
  go_loopw [9, 10, 11, 12] (fun X Y Z i wr => ∃ k : Nat, i = .int .i64 (k : Int) ∧ k ≤ la.length ∧ k ≤ lb.length ∧ OwnB wr w'.heap.size X (xors la lb k) ∧ OwnB wr w'.heap.size Y (lb.take k) ∧ OwnB wr w'.heap.size Z (List.replicate k 0) ∧ away X Y ∧ away X Z ∧ away Y X ∧ away Y Z ∧ away Z X ∧ away Z Y ∧ Below w'.heap.size w' wr) (fun _ _ _ i _ => 4000 - (intOf i).toNat)
  case atStart => exact ⟨0, rfl, Nat.zero_le _, Nat.zero_le _, by simp [xors]; exact Owns.nil _ _ _ _, by simp; exact Owns.nil _ _ _ _, by simp; exact Owns.nil _ _ _ _, nofun, nofun, nofun, nofun, nofun, nofun, Below.refl _ _⟩
  case round =>
    obtain ⟨k, rfl, ka, kb, oX, oY, oZ, a1, a2, a3, a4, a5, a6, hbl⟩ := hrel
    by_cases hlt : k < la.length ∧ k < lb.length
    · have h1 : (k : Int) < (la.length : Int) := by omega
      have h2 : (k : Int) < (lb.length : Int) := by omega
      obtain ⟨pa, oa, hpa, hpl, hca'⟩ := HA.out.at hlt.1
      obtain ⟨pb, ob, hpb, hpbl, hcb'⟩ := HB.out.at hlt.2
      have hz : xors la lb (k + 1) = xors la lb k ++ [la.getD k 0 ^^^ lb.getD k 0] := by
        unfold xors
        rw [List.take_succ_eq_append_getElem hlt.1, List.take_succ_eq_append_getElem hlt.2, List.zipWith_append (by simp; omega)]
        simp [hlt.1, hlt.2]
      have hy : lb.take (k + 1) = lb.take k ++ [lb.getD k 0] := by
        rw [List.take_succ_eq_append_getElem hlt.2]
        simp [hlt.2]
      have hxk := al.get k
      have hyk := bl.get k
      have hlx : (xors la lb k).length ≤ 2000000 := by unfold xors; simp; omega
      have hly : (lb.take k).length ≤ 2000000 := by simp; omega
      generalize la.getD k 0 = xk at *
      generalize lb.getD k 0 = yk at *
      generalize xors la lb k = xs at *
      generalize lb.take k = ys at *
      obtain ⟨z, hzd⟩ : ∃ z, z = xk ^^^ yk := ⟨_, rfl⟩
      have hbx : bits .xor .u8 (xk : Int) (yk : Int) = (z : Int) := by rw [xor_u8 xk yk hxk hyk, hzd]
      rw [← hzd] at hz
      subst hpa hpb
      have HZ : Hid (xors la lb (k + 1) = xs ++ [z]) := hz
      have HY : Hid (lb.take (k + 1) = ys ++ [yk]) := hy
      have HBX : Hid (bits .xor .u8 (xk : Int) (yk : Int) = (z : Int)) := hbx
      clear hz hy hzd hbx
      go_upto_region 9 with fail
      refine region_inv (G9 w' u9 u10 u11 ys (List.replicate k 0)) (U9 w' u9 xs) (R9 w' u9 u10 u11 (.slice (some ⟨pa, oa, none⟩) la.length ca) (.slice (some ⟨pb, ob, none⟩) lb.length cb) pa oa pb ob k xk yk z xs)
        (by kernel_rfl) (by kernel_rfl) (by kernel_rfl) (hd_of_all (by kernel_rfl)) ⟨hbl.drew, oY, oZ, fun g q => (World.ownsRow.lt oX g q).2⟩ ?hU ?hstep ?hQ
      case hU =>
        intro i hi
        unfold U9
        split
        · exact oX
        · trivial
      case hstep =>
        intro i hi
        have hi' : i < 13 := hi
        have hcase : i = 0 ∨ i = 1 ∨ i = 2 ∨ i = 3 ∨ i = 4 ∨ i = 5 ∨ i = 6 ∨ i = 7 ∨ i = 8 ∨ i = 9 ∨ i = 10 ∨ i = 11 ∨ i = 12 := by omega
        clear hi
        rcases hcase with rfl | rfl | rfl | rfl | rfl | rfl | rfl | rfl | rfl | rfl | rfl | rfl | rfl <;> intro a x hsz hdf hg hu hout hdeps hold
        · exact step_pure rfl rfl (v := a.tmps.getD 9 undef) rfl hg (hold 12 (by kernel_rfl))
        · exact step_pure rfl rfl (v := a.tmps.getD 0 undef) rfl hg (hout 0 (by kernel_rfl))
        · exact step_pure rfl rfl (v := a.tmps.getD 12 undef) rfl hg (hout 12 (by kernel_rfl))
        · have e1 : a.eval (.tmp 37) = .slice (some ⟨pa, oa, none⟩) la.length ca := hdeps 1 (by kernel_rfl)
          have e2 : a.eval (.tmp 38) = .int .i64 (k : Int) := hdeps 2 (by kernel_rfl)
          exact step_pure rfl rfl (run_index rfl e1 e2 hlt.1) hg rfl
        · have e1 : a.eval (.tmp 39) = .pointer (some ⟨pa, oa + k, none⟩) := hdeps 3 (by kernel_rfl)
          exact step_pure rfl rfl (run_load8 rfl e1 ((hg.1.cell (p := ⟨pa, oa + k, none⟩) hpl).trans hca')) hg rfl
        · exact step_pure rfl rfl (v := a.tmps.getD 1 undef) rfl hg (hout 1 (by kernel_rfl))
        · exact step_pure rfl rfl (v := a.tmps.getD 12 undef) rfl hg (hout 12 (by kernel_rfl))
        · have e1 : a.eval (.tmp 41) = .slice (some ⟨pb, ob, none⟩) lb.length cb := hdeps 5 (by kernel_rfl)
          have e2 : a.eval (.tmp 42) = .int .i64 (k : Int) := hdeps 6 (by kernel_rfl)
          exact step_pure rfl rfl (run_index rfl e1 e2 hlt.2) hg rfl
        · have e1 : a.eval (.tmp 43) = .pointer (some ⟨pb, ob + k, none⟩) := hdeps 7 (by kernel_rfl)
          exact step_pure rfl rfl (run_load8 rfl e1 ((hg.1.cell (p := ⟨pb, ob + k, none⟩) hpbl).trans hcb')) hg rfl
        · have e1 : a.eval (.tmp 40) = .int .u8 (xk : Int) := hdeps 4 (by kernel_rfl)
          have e2 : a.eval (.tmp 44) = .int .u8 (yk : Int) := hdeps 8 (by kernel_rfl)
          exact step_pure rfl rfl (run_xor8 rfl e1 e2 HBX.out) hg rfl
        · have e1 : a.eval (.tmp 45) = .int .u8 (z : Int) := hdeps 9 (by kernel_rfl)
          exact step_value rfl rfl (run_lit1 rfl e1) ⟨bnext hg.1 (alloc_below _ _) (Nat.le_refl _), hg.2.1.alloc _, hg.2.2.1.alloc _, fun g q => by have := hg.2.2.2 g q; simp; omega⟩
            ⟨x.heap.size, rfl, by simp [go_sem], by simp, fun q => by have := hg.2.2.2 _ q; omega⟩ (fun _ _ _ _ h => R9.alloc _ h) (fun _ _ _ h => U9.alloc _ h)
        · have e1 : a.eval (.tmp 36) = u9 := hdeps 0 (by kernel_rfl)
          obtain ⟨g, e2, e3, e4, e5⟩ : ∃ g, a.eval (.tmp 46) = .slice (some ⟨g, 0, none⟩) 1 1 ∧ x.cell? ⟨g, 0, none⟩ = some (.int .u8 (z : Int)) ∧ g < x.heap.size ∧ u9.ownBlock ≠ some g := hdeps 10 (by kernel_rfl)
          have hu' : OwnB x w'.heap.size u9 xs := hu
          refine step_push (.tmp 36) (.tmp 46) rfl rfl rfl w'.heap.size u9 xs e1 ⟨g, 0, none⟩ z e2 hu' e3 hlx hg.1.size ?_
          intro v' x' hown hgr hat
          obtain ⟨q1, q2⟩ := away_new hat (Nat.le_refl _) a1 a3 hg.2.1
          obtain ⟨q3, q4⟩ := away_new hat (Nat.le_refl _) a2 a5 hg.2.2.1
          have kk : Keep (fun k => u9.ownBlock = some k) x x' := (Keep.refl _ _).grown hgr (fun g e _ => e)
          refine ⟨⟨hg.1.grown hgr hg.1.size (fun j hj => (World.ownsRow.lt hu' j hj).1), Owns.grownAway hg.2.1 hgr a3, Owns.grownAway hg.2.2.1 hgr a5, fun g q => Nat.lt_of_lt_of_le (hg.2.2.2 g q) kk.size⟩, ⟨hown, q1, q3, q2, q4⟩, ?_, ?_⟩
          · intro j u hj hw hR
            unfold R9 at hR ⊢
            split at hR <;> try exact hR
            · obtain ⟨g, h1, h2, h3, h4⟩ := hR
              exact ⟨g, h1, (kk.cell (p := ⟨g, 0, none⟩) h3 h4).trans h2, Nat.lt_of_lt_of_le h3 kk.size, h4⟩
            · exact absurd rfl hj
            · exact absurd hw (by rw [show waits .any _ 12 11 = true from by kernel_rfl]; decide)
          · intro j hj _ hU
            unfold U9 at hU ⊢
            split
            · exact absurd rfl hj
            · trivial
        · have e1 : R9 w' u9 u10 u11 (.slice (some ⟨pa, oa, none⟩) la.length ca) (.slice (some ⟨pb, ob, none⟩) lb.length cb) pa oa pb ob k xk yk z xs 11 (a.tmps.getD 47 undef) x := hdeps 11 (by kernel_rfl)
          exact step_pure rfl rfl (v := a.tmps.getD 47 undef) rfl hg e1
      case hQ =>
        intro a' x hput hg hR
        have h9 : OwnB x w'.heap.size (a'.tmps.getD 9 undef) (xs ++ [z]) ∧ away (a'.tmps.getD 9 undef) u10 ∧ away (a'.tmps.getD 9 undef) u11 ∧ away u10 (a'.tmps.getD 9 undef) ∧ away u11 (a'.tmps.getD 9 undef) := hR 12 (by decide)
        clear hR
        have ed : a' = List.foldl (fun b d => b.put (some d) (a'.tmps.getD d undef)) _ [36, 37, 38, 39, 40, 41, 42, 43, 44, 45, 46, 47, 9] := hput
        clear hput
        simp only [List.foldl_cons, List.foldl_nil, Act.put, List.setIfInBounds_toArray, List.set_cons_zero, List.set_cons_succ] at ed
        generalize a'.tmps.getD 36 undef = t36 at ed
        generalize a'.tmps.getD 37 undef = t37 at ed
        generalize a'.tmps.getD 38 undef = t38 at ed
        generalize a'.tmps.getD 39 undef = t39 at ed
        generalize a'.tmps.getD 40 undef = t40 at ed
        generalize a'.tmps.getD 41 undef = t41 at ed
        generalize a'.tmps.getD 42 undef = t42 at ed
        generalize a'.tmps.getD 43 undef = t43 at ed
        generalize a'.tmps.getD 44 undef = t44 at ed
        generalize a'.tmps.getD 45 undef = t45 at ed
        generalize a'.tmps.getD 46 undef = t46 at ed
        generalize a'.tmps.getD 47 undef = t47 at ed
        generalize a'.tmps.getD 9 undef = t9 at ed h9
        subst ed
        obtain ⟨oX', b1, b2, b3, b4⟩ := h9
        obtain ⟨hbl', oY', oZ', _⟩ := hg
        have HOX : Hid (OwnB x w'.heap.size t9 (xs ++ [z])) := oX'
        have HOY : Hid (OwnB x w'.heap.size u10 ys) := oY'
        have HOZ : Hid (OwnB x w'.heap.size u11 (List.replicate k 0)) := oZ'
        have hsz := hbl'.size
        have hcy : x.cell? ⟨pb, ob + k, none⟩ = some (.int .u8 (yk : Int)) := (hbl'.cell (p := ⟨pb, ob + k, none⟩) hpbl).trans hcb'
        clear oX' oY' oZ' oX oY oZ hbl hca' hcb' a1 a2 a3 a5
        go_wp2_with (at_builtin; refine pushB rfl (.tmp 48) (.tmp 53) rfl w'.heap.size u10 ys rfl ⟨x.heap.size, 0, none⟩ yk rfl (HOY.out.alloc _) (by simp [go_sem]) hly (by simp; omega) ?_)
        intro v10 x1 hown hgr hat
        obtain ⟨q1, q2⟩ := away_new hat (Nat.le_succ _) b3 b1 HOX.out
        obtain ⟨q3, q4⟩ := away_new hat (Nat.le_succ _) a4 a6 HOZ.out
        have HOX1 : Hid (OwnB x1 w'.heap.size t9 (xs ++ [z])) := Owns.grownAway (HOX.out.alloc _) hgr b1
        have HOZ1 : Hid (OwnB x1 w'.heap.size u11 (List.replicate k 0)) := Owns.grownAway (HOZ.out.alloc _) hgr a6
        have HOY1 : Hid (OwnB x1 w'.heap.size v10 (ys ++ [yk])) := hown
        have hbl1 : Below w'.heap.size w' x1 := (hbl'.alloc hsz _).grown hgr (by simp; omega) (fun j hj => (World.ownsRow.lt HOY.out j hj).1)
        have hsz1 := hbl1.size
        have hlz : (List.replicate k 0).length ≤ 2000000 := by simp; omega
        have HLZ : Hid ((List.replicate k 0).length ≤ 2000000) := hlz
        clear hown hgr hat HOX HOY HOZ hbl' hsz b1 b3 a4 a6 hcy hlz
        go_wp2_with (at_builtin; refine pushB rfl (.tmp 55) (.tmp 56) rfl w'.heap.size u11 (List.replicate k 0) rfl ⟨x1.heap.size, 0, none⟩ 0 rfl (HOZ1.out.alloc _) (by simp [go_sem]) HLZ.out (by simp; omega) ?_)
        intro v11 x2 hown hgr hat
        obtain ⟨r1, r2⟩ := away_new hat (Nat.le_succ _) b4 b2 HOX1.out
        obtain ⟨r3, r4⟩ := away_new hat (Nat.le_succ _) q4 q3 HOY1.out
        have HOX2 : Hid (OwnB x2 w'.heap.size t9 (xs ++ [z])) := Owns.grownAway (HOX1.out.alloc _) hgr b2
        have HOY2 : Hid (OwnB x2 w'.heap.size v10 (ys ++ [yk])) := Owns.grownAway (HOY1.out.alloc _) hgr q3
        have HOZ2 : Hid (OwnB x2 w'.heap.size v11 (List.replicate (k + 1) 0)) := by
          unfold Hid
          rw [List.replicate_succ']
          exact hown
        have HBL2 : Hid (Below w'.heap.size w' x2) := (hbl1.alloc hsz1 _).grown hgr (by simp; omega) (fun j hj => (World.ownsRow.lt HOZ1.out j hj).1)
        clear hown hgr hat HOX1 HOY1 HOZ1 hbl1 hsz1
        go_wp2_with fail
        go_roundw
        case rel => exact ⟨k + 1, by go_num, by omega, by omega, by rw [HZ.out]; exact HOX2.out, by rw [HY.out]; exact HOY2.out, HOZ2.out, q2, r2, q1, r4, r1, r3, HBL2.out⟩
        case measure => simp [intOf]; omega
    · by_cases hq : k < la.length
      · have hxl : (xors la lb k).length = k := by unfold xors; simp; omega
        have hal : (la.take k).length = k := by simp; omega
        have hyl : (lb.take k).length = k := by simp; omega
        have hzl : (List.replicate k 0).length = k := by simp
        have hk4 : k ≤ 4000 := by omega
        have hm4 : k ≤ maxLen := by unfold maxLen; omega
        have bx : AllB (xors la lb k) := by
          intro y hy
          unfold xors at hy
          obtain ⟨j, hj, rfl⟩ := List.getElem_of_mem hy
          simp only [List.getElem_zipWith]
          exact Nat.xor_lt_two_pow (n := 8) (al.take k _ (List.getElem_mem _)) (bl.take k _ (List.getElem_mem _))
        have by_ : AllB (lb.take k) := bl.take k
        have ba : AllB (la.take k) := al.take k
        have bz : AllB (List.replicate k 0) := by
          intro y hy
          rw [List.eq_of_mem_replicate hy]
          decide
        have hthree : sumOf (xors la lb k) = sumOf (la.take k) ^^^ sumOf (lb.take k) ^^^ sumOf (List.replicate k 0) := by
          have := sum_three (la.take k) (lb.take k) (by rw [hal, hyl])
          rw [hal] at this
          exact this
        have HAr : Hid (Bytes wr aa (la.take k)) := Seen.below (HA.out.take k) hbl
        obtain ⟨aX, cX, hX, sX, nX, lX, mX⟩ := oX.seen
        obtain ⟨aY, cY, hY, sY, nY, lY, mY⟩ := oY.seen
        obtain ⟨aZ, cZ, hZ, sZ, nZ, lZ, mZ⟩ := oZ.seen
        rw [ints_length, hxl] at hX lX
        rw [ints_length, hyl] at hY lY
        rw [ints_length, hzl] at hZ lZ
        subst hX hY hZ
        have HX : Hid (Bytes wr aX (xors la lb k)) := sX
        have HY : Hid (Bytes wr aY (lb.take k)) := sY
        have HZ : Hid (Bytes wr aZ (List.replicate k 0)) := sZ
        have HTr : Hid (Tab wr) := Tab.under (Tab.below HT.out B1) hbl (Nat.lt_of_lt_of_le HT.out.1 B1.size)
        have H3 : Hid (sumOf (xors la lb k) = sumOf (la.take k) ^^^ sumOf (lb.take k) ^^^ sumOf (List.replicate k 0)) := hthree
        have sx := sumOf_lt _ bx
        have sa := sumOf_lt _ ba
        have sy := sumOf_lt _ by_
        have sz := sumOf_lt _ bz
        have say : sumOf (la.take k) ^^^ sumOf (lb.take k) < 4294967296 := Nat.xor_lt_two_pow (n := 32) sa sy
        generalize xors la lb k = xs at *
        generalize la.take k = az at *
        generalize lb.take k = ys at *
        generalize List.replicate k 0 = zs at *
        clear sX sY sZ oX oY oZ a1 a2 a3 a4 a5 a6 hthree
        have g1 : (k : Int) < (la.length : Int) := by omega
        have g2 : decide ((k : Int) < (lb.length : Int)) = false := by simp; omega
        go_upto_region 13 with fail
        refine region_inv (G13 wr) noU (R13 (.slice aX k cX) (.slice aa la.length ca) (.slice aY k cY) (.slice aZ k cZ) (.slice aa k ca) k xs az ys zs)
          (by kernel_rfl) (by kernel_rfl) (by kernel_rfl) (hd_of_all (by kernel_rfl)) (Below.refl _ _).drew (fun _ _ => trivial) ?hstep ?hQ
        case hstep =>
          intro i hi
          have hi' : i < 17 := hi
          have hcase : i = 0 ∨ i = 1 ∨ i = 2 ∨ i = 3 ∨ i = 4 ∨ i = 5 ∨ i = 6 ∨ i = 7 ∨ i = 8 ∨ i = 9 ∨ i = 10 ∨ i = 11 ∨ i = 12 ∨ i = 13 ∨ i = 14 ∨ i = 15 ∨ i = 16 := by omega
          clear hi
          rcases hcase with rfl | rfl | rfl | rfl | rfl | rfl | rfl | rfl | rfl | rfl | rfl | rfl | rfl | rfl | rfl | rfl | rfl <;> intro a x hsz hdf hg hu hout hdeps hold
          · exact step_pure rfl rfl (v := a.tmps.getD 9 undef) rfl hg (hout 9 (by kernel_rfl))
          · have e1 : a.eval (.tmp 60) = .slice aX k cX := hdeps 0 (by kernel_rfl)
            exact step_value rfl rfl (run_part1 rfl e1) (show G13 wr _ from bnext hg (alloc_below _ _) (Nat.le_refl _)) (fresh_one x aX k cX xs hxl.symm (Seen.below HX.out hg) bx (by omega)) (fun _ _ _ _ h => R13.below h (alloc_below _ _)) (fun _ _ _ h => h)
          · exact step_sum (.tmp 61) rfl rfl rfl _ (hdeps 1 (by kernel_rfl)) HTr.out hg (le_maxLen rfl) (by simpa [joined] using bx) (sumOf xs) (by simp [joined]) rfl
          · exact step_pure rfl rfl (v := a.tmps.getD 0 undef) rfl hg (hout 0 (by kernel_rfl))
          · exact step_pure rfl rfl (v := a.tmps.getD 13 undef) rfl hg (hout 13 (by kernel_rfl))
          · have e1 : a.eval (.tmp 63) = .slice aa la.length ca := hdeps 3 (by kernel_rfl)
            have e2 : a.eval (.tmp 64) = .int .i64 (k : Int) := hdeps 4 (by kernel_rfl)
            exact step_pure rfl rfl (run_to rfl e1 e2 (by omega)) hg rfl
          · have e1 : a.eval (.tmp 65) = .slice aa k ca := hdeps 5 (by kernel_rfl)
            exact step_value rfl rfl (run_part1 rfl e1) (show G13 wr _ from bnext hg (alloc_below _ _) (Nat.le_refl _)) (fresh_one x aa k ca az hal.symm (Seen.below HAr.out hg) ba (by omega)) (fun _ _ _ _ h => R13.below h (alloc_below _ _)) (fun _ _ _ h => h)
          · exact step_sum (.tmp 66) rfl rfl rfl _ (hdeps 6 (by kernel_rfl)) HTr.out hg (le_maxLen rfl) (by simpa [joined] using ba) (sumOf az) (by simp [joined]) rfl
          · exact step_pure rfl rfl (v := a.tmps.getD 10 undef) rfl hg (hout 10 (by kernel_rfl))
          · have e1 : a.eval (.tmp 68) = .slice aY k cY := hdeps 8 (by kernel_rfl)
            exact step_value rfl rfl (run_part1 rfl e1) (show G13 wr _ from bnext hg (alloc_below _ _) (Nat.le_refl _)) (fresh_one x aY k cY ys hyl.symm (Seen.below HY.out hg) by_ (by omega)) (fun _ _ _ _ h => R13.below h (alloc_below _ _)) (fun _ _ _ h => h)
          · exact step_sum (.tmp 69) rfl rfl rfl _ (hdeps 9 (by kernel_rfl)) HTr.out hg (le_maxLen rfl) (by simpa [joined] using by_) (sumOf ys) (by simp [joined]) rfl
          · have e1 : a.eval (.tmp 67) = .int .u32 ((sumOf az : Nat) : Int) := hdeps 7 (by kernel_rfl)
            have e2 : a.eval (.tmp 70) = .int .u32 ((sumOf ys : Nat) : Int) := hdeps 10 (by kernel_rfl)
            exact step_pure rfl rfl (run_xor32 rfl e1 e2 (xor_u32 _ _ sa sy)) hg rfl
          · exact step_pure rfl rfl (v := a.tmps.getD 11 undef) rfl hg (hout 11 (by kernel_rfl))
          · have e1 : a.eval (.tmp 72) = .slice aZ k cZ := hdeps 12 (by kernel_rfl)
            exact step_value rfl rfl (run_part1 rfl e1) (show G13 wr _ from bnext hg (alloc_below _ _) (Nat.le_refl _)) (fresh_one x aZ k cZ zs hzl.symm (Seen.below HZ.out hg) bz (by omega)) (fun _ _ _ _ h => R13.below h (alloc_below _ _)) (fun _ _ _ h => h)
          · exact step_sum (.tmp 73) rfl rfl rfl _ (hdeps 13 (by kernel_rfl)) HTr.out hg (le_maxLen rfl) (by simpa [joined] using bz) (sumOf zs) (by simp [joined]) rfl
          · have e1 : a.eval (.tmp 71) = .int .u32 ((sumOf az ^^^ sumOf ys : Nat) : Int) := hdeps 11 (by kernel_rfl)
            have e2 : a.eval (.tmp 74) = .int .u32 ((sumOf zs : Nat) : Int) := hdeps 14 (by kernel_rfl)
            exact step_pure rfl rfl (run_xor32 rfl e1 e2 (xor_u32 _ _ say sz)) hg rfl
          · have e1 : a.eval (.tmp 62) = .int .u32 ((sumOf xs : Nat) : Int) := hdeps 2 (by kernel_rfl)
            have e2 : a.eval (.tmp 75) = .int .u32 ((sumOf az ^^^ sumOf ys ^^^ sumOf zs : Nat) : Int) := hdeps 15 (by kernel_rfl)
            refine step_pure rfl rfl (run_neq32 rfl e1 e2) hg ?_
            rw [H3.out]
            simp [R13]
        case hQ =>
          intro a' x hput hg hR
          have h76 : a'.tmps.getD 76 undef = .bool false := hR 16 (by decide)
          clear hR
          have ed : a' = List.foldl (fun b d => b.put (some d) (a'.tmps.getD d undef)) _ [60, 61, 62, 63, 64, 65, 66, 67, 68, 69, 70, 71, 72, 73, 74, 75, 76] := hput
          clear hput
          simp only [List.foldl_cons, List.foldl_nil, Act.put, List.setIfInBounds_toArray, List.set_cons_zero, List.set_cons_succ] at ed
          rw [h76] at ed
          generalize a'.tmps.getD 60 undef = t60 at ed
          generalize a'.tmps.getD 61 undef = t61 at ed
          generalize a'.tmps.getD 62 undef = t62 at ed
          generalize a'.tmps.getD 63 undef = t63 at ed
          generalize a'.tmps.getD 64 undef = t64 at ed
          generalize a'.tmps.getD 65 undef = t65 at ed
          generalize a'.tmps.getD 66 undef = t66 at ed
          generalize a'.tmps.getD 67 undef = t67 at ed
          generalize a'.tmps.getD 68 undef = t68 at ed
          generalize a'.tmps.getD 69 undef = t69 at ed
          generalize a'.tmps.getD 70 undef = t70 at ed
          generalize a'.tmps.getD 71 undef = t71 at ed
          generalize a'.tmps.getD 72 undef = t72 at ed
          generalize a'.tmps.getD 73 undef = t73 at ed
          generalize a'.tmps.getD 74 undef = t74 at ed
          generalize a'.tmps.getD 75 undef = t75 at ed
          subst ed
          have HXx : Hid (Bytes x aX xs) := Seen.below HX.out hg
          have HTx : Hid (Tab x) := Tab.below HTr.out hg
          have HBx : Hid (Below w'.heap.size w' x) := bnext hbl hg (Nat.le_refl _)
          obtain ⟨b1, b2⟩ := tmod_bd bit ((k : Int) + 1) (by omega)
          clear HX HY HZ HTr HAr hg hbl h76
          go_upto_if 82 with fail
          go_cut [14] (fun s y => ∃ kk : Nat, kk ≤ k ∧ s = .int .i64 (kk : Int) ∧ y = x)
          case first =>
            by_cases hneg : bit.tmod ((k : Int) + 1) < 0
            · go_wp2_with fail
              go_meet
              exact ⟨(-(bit.tmod ((k : Int) + 1))).toNat, by omega, by go_num, rfl⟩
            · go_wp2_with fail
              go_meet
              exact ⟨(bit.tmod ((k : Int) + 1)).toNat, by omega, by go_num, rfl⟩
          case rest =>
            obtain ⟨kk, hkk, rfl, rfl⟩ := hcut
            clear b1 b2
            have hxt : (xs.take kk).length = kk := by simp; omega
            have hxd : (xs.drop kk).length = k - kk := by simp; omega
            go_upto_region 18 with fail
            refine region_inv (G13 wc) noU (R18 (.slice aX k cX) (.slice aX kk cX) (.slice (dropA aX cX kk) (k - kk) (cX - kk)) kk xs (xs.take kk) (xs.drop kk))
              (by kernel_rfl) (by kernel_rfl) (by kernel_rfl) (hd_of_all (by kernel_rfl)) (Below.refl _ _).drew (fun _ _ => trivial) ?hstep ?hQ
            case hstep =>
              intro i hi
              have hi' : i < 12 := hi
              have hcase : i = 0 ∨ i = 1 ∨ i = 2 ∨ i = 3 ∨ i = 4 ∨ i = 5 ∨ i = 6 ∨ i = 7 ∨ i = 8 ∨ i = 9 ∨ i = 10 ∨ i = 11 := by omega
              clear hi
              rcases hcase with rfl | rfl | rfl | rfl | rfl | rfl | rfl | rfl | rfl | rfl | rfl | rfl <;> intro a y hsz hdf hg hu hout hdeps hold
              · exact step_pure rfl rfl (v := a.tmps.getD 9 undef) rfl hg (hout 9 (by kernel_rfl))
              · exact step_pure rfl rfl (v := a.tmps.getD 14 undef) rfl hg (hout 14 (by kernel_rfl))
              · have e1 : a.eval (.tmp 85) = .slice aX k cX := hdeps 0 (by kernel_rfl)
                have e2 : a.eval (.tmp 86) = .int .i64 (kk : Int) := hdeps 1 (by kernel_rfl)
                exact step_pure rfl rfl (run_to rfl e1 e2 (by omega)) hg rfl
              · exact step_pure rfl rfl (v := a.tmps.getD 9 undef) rfl hg (hout 9 (by kernel_rfl))
              · exact step_pure rfl rfl (v := a.tmps.getD 14 undef) rfl hg (hout 14 (by kernel_rfl))
              · have e1 : a.eval (.tmp 88) = .slice aX k cX := hdeps 3 (by kernel_rfl)
                have e2 : a.eval (.tmp 89) = .int .i64 (kk : Int) := hdeps 4 (by kernel_rfl)
                exact step_pure rfl rfl (run_from rfl e1 e2 hkk lX) hg rfl
              · have e1 : a.eval (.tmp 87) = .slice aX kk cX := hdeps 2 (by kernel_rfl)
                have e2 : a.eval (.tmp 90) = .slice (dropA aX cX kk) (k - kk) (cX - kk) := hdeps 5 (by kernel_rfl)
                have e3 : a.eval (.const (.slice none 0 0)) = .slice none 0 0 := rfl
                have hby : Bytes y aX xs := Seen.below HXx.out hg
                exact step_value rfl rfl (run_part3 rfl e1 e3 e2) (show G13 wc _ from bnext hg (alloc_below _ _) (Nat.le_refl _))
                  (fresh_three y aX none (dropA aX cX kk) kk cX 0 0 (k - kk) (cX - kk) (xs.take kk) [] (xs.drop kk) hxt.symm rfl hxd.symm (hby.take kk) (.inl rfl) (hby.drop kk (by omega)) (bx.take kk) AllB.nil (bx.drop kk) (by omega) (by simp) (by omega))
                  (fun _ _ _ _ h => R18.below h (alloc_below _ _)) (fun _ _ _ h => h)
              · exact step_sum (.tmp 91) rfl rfl rfl _ (hdeps 6 (by kernel_rfl)) HTx.out hg (le_maxLen rfl) (by simpa [joined] using bx) (sumOf xs) (by simp [joined]) rfl
              · exact step_pure rfl rfl (v := a.tmps.getD 9 undef) rfl hg (hout 9 (by kernel_rfl))
              · have e1 : a.eval (.tmp 93) = .slice aX k cX := hdeps 8 (by kernel_rfl)
                exact step_value rfl rfl (run_part1 rfl e1) (show G13 wc _ from bnext hg (alloc_below _ _) (Nat.le_refl _)) (fresh_one y aX k cX xs hxl.symm (Seen.below HXx.out hg) bx (by omega)) (fun _ _ _ _ h => R18.below h (alloc_below _ _)) (fun _ _ _ h => h)
              · exact step_sum (.tmp 94) rfl rfl rfl _ (hdeps 9 (by kernel_rfl)) HTx.out hg (le_maxLen rfl) (by simpa [joined] using bx) (sumOf xs) (by simp [joined]) rfl
              · have e1 : a.eval (.tmp 92) = .int .u32 ((sumOf xs : Nat) : Int) := hdeps 7 (by kernel_rfl)
                have e2 : a.eval (.tmp 95) = .int .u32 ((sumOf xs : Nat) : Int) := hdeps 10 (by kernel_rfl)
                refine step_pure rfl rfl (run_neq32 rfl e1 e2) hg ?_
                simp [R18]
            case hQ =>
              intro a' y hput hg hR
              have h96 : a'.tmps.getD 96 undef = .bool false := hR 11 (by decide)
              clear hR
              have ed : a' = List.foldl (fun b d => b.put (some d) (a'.tmps.getD d undef)) _ [85, 86, 87, 88, 89, 90, 91, 92, 93, 94, 95, 96] := hput
              clear hput
              simp only [List.foldl_cons, List.foldl_nil, Act.put, List.setIfInBounds_toArray, List.set_cons_zero, List.set_cons_succ] at ed
              rw [h96] at ed
              generalize a'.tmps.getD 85 undef = t85 at ed
              generalize a'.tmps.getD 86 undef = t86 at ed
              generalize a'.tmps.getD 87 undef = t87 at ed
              generalize a'.tmps.getD 88 undef = t88 at ed
              generalize a'.tmps.getD 89 undef = t89 at ed
              generalize a'.tmps.getD 90 undef = t90 at ed
              generalize a'.tmps.getD 91 undef = t91 at ed
              generalize a'.tmps.getD 92 undef = t92 at ed
              generalize a'.tmps.getD 93 undef = t93 at ed
              generalize a'.tmps.getD 94 undef = t94 at ed
              generalize a'.tmps.getD 95 undef = t95 at ed
              subst ed
              have HXy : Hid (Bytes y aX xs) := Seen.below HXx.out hg
              have HTy : Hid (Tab y) := Tab.below HTx.out hg
              have HBy : Hid (Below w'.heap.size w' y) := bnext HBx.out hg (Nat.le_refl _)
              clear HXx HTx HBx hg h96
              by_cases hsmall : 8 * k < 32
              · have g3 : (8 : Int) * (k : Int) < 32 := by omega
                go_wp2_with fail
                go_ret
                exact ⟨rfl, bnext B1 HBy.out (Nat.le_refl _)⟩
              · have g3 : decide ((8 : Int) * (k : Int) < 32) = false := by simp; omega
                by_cases hm0 : mask = 0
                · have g4 : ((mask : Int) == 0) = true := by simp; exact hm0
                  go_wp2_with fail
                  go_ret
                  exact ⟨rfl, bnext B1 HBy.out (Nat.le_refl _)⟩
                · have g4 : ((mask : Int) == 0) = false := by simp; omega
                  obtain ⟨b1, b2⟩ := tmod_bd bit (8 * (k : Int) - 31) (by omega)
                  go_upto_if 110 with fail
                  go_cut [15] (fun s z => ∃ at_ : Nat, at_ + 32 ≤ 8 * k ∧ s = .int .i64 (at_ : Int) ∧ z = y)
                  case first =>
                    by_cases hneg : bit.tmod (8 * (k : Int) - 31) < 0
                    · go_wp2_with fail
                      go_meet
                      exact ⟨(-(bit.tmod (8 * (k : Int) - 31))).toNat, by omega, by go_num, rfl⟩
                    · go_wp2_with fail
                      go_meet
                      exact ⟨(bit.tmod (8 * (k : Int) - 31)).toNat, by omega, by go_num, rfl⟩
                  case rest =>
                    obtain ⟨at_, hat, rfl, rfl⟩ := hcut
                    clear b1 b2 g3 g4
                    have hxb : ([] : List Nat).length + xs.length ≤ 2000000 := by simp; omega
                    go_wp2_with (at_builtin; refine appB rfl (.const (.slice none 0 0)) (.tmp 113) rfl wc.heap.size _ [] rfl (Owns.nil _ _ _ _) aX k cX xs hxl rfl HXy.out nX hxb (Nat.le_refl _) ?_)
                    intro T y1 oT gT _
                    have bT : Below wc.heap.size wc y1 := (Below.refl _ _).grown gT (Nat.le_refl _) (by nofun)
                    obtain ⟨gb, cT, hT, _⟩ := Owns.form oT (by rw [ints_length]; omega)
                    rw [ints_length, hxl] at hT
                    subst hT
                    have HOT : Hid (OwnB y1 wc.heap.size (.slice (some ⟨gb, 0, none⟩) k cT) xs) := oT
                    have HXz : Hid (Bytes y1 aX xs) := Seen.below HXy.out bT
                    have HTz : Hid (Tab y1) := Tab.below HTy.out bT
                    have HBz : Hid (Below w'.heap.size w' y1) := bnext HBy.out bT (Nat.le_refl _)
                    have hszb := HTy.out.1
                    have HBw : Hid (Below w'.heap.size w' wc) := HBy.out
                    have hgb := (World.ownsRow.lt HOT.out gb rfl).1
                    have hXg : ∀ ad, aX = some ad → ad.block ≠ gb := by
                      intro ad had
                      rcases HXy.out with q | ⟨b, off, q, hlt', _⟩
                      · have := congrArg List.length q
                        simp at this
                        rw [this] at hxl
                        simp at hxl
                        omega
                      · rw [had] at q
                        cases q
                        show b ≠ gb
                        omega
                    have hT0 : turned xs (mask % 2 ^ 0 * 2 ^ at_) = xs := by rw [Nat.pow_zero, Nat.mod_one, Nat.zero_mul]; exact turned_zero xs
                    clear oT gT bT HXy HTy HBy
                    go_wp2_with fail
                    go_loopw [17] (fun i ws => ∃ j : Nat, i = .int .i64 (j : Int) ∧ j ≤ 32 ∧ OwnB ws wc.heap.size (.slice (some ⟨gb, 0, none⟩) k cT) (turned xs (mask % 2 ^ j * 2 ^ at_)) ∧ Keep (fun b => b = gb) y1 ws) (fun i _ => 32 - (intOf i).toNat)
                    case atStart => exact ⟨0, rfl, by omega, by rw [hT0]; exact HOT.out, Keep.refl _ _⟩
                    case round =>
                      obtain ⟨j, rfl, hj, hoT, hkT⟩ := hrel
                      by_cases hj32 : j < 32
                      · obtain ⟨q, hqd⟩ : ∃ q, q = mask / 2 ^ j := ⟨_, rfl⟩
                        have hql : q < 4294967296 := by rw [hqd]; exact Nat.lt_of_le_of_lt (Nat.div_le_self _ _) hmask
                        have hms := mask_step mask j at_
                        rw [← hqd] at hms
                        have hand : bits .and .u32 ((mask : Int) / 2 ^ j) 1 = ((q % 2 : Nat) : Int) := by rw [div_cast, ← hqd]; exact and1_u32 q hql
                        by_cases hbitj : q % 2 = 1
                        · rw [if_pos hbitj] at hms
                          rw [hbitj] at hand
                          have hp8 : (at_ + j) / 8 < k := by omega
                          have hts := turned_step xs (mask % 2 ^ j * 2 ^ at_) (at_ + j) (by omega)
                          rw [← hms] at hts
                          have hbt := (turned_bytes (mask % 2 ^ j * 2 ^ at_) bx)
                          have hlt8 : (at_ + j) / 8 < (turned xs (mask % 2 ^ j * 2 ^ at_)).length := by simp; omega
                          have hold8 : (turned xs (mask % 2 ^ j * 2 ^ at_)).getD ((at_ + j) / 8) 0 < 256 := AllB.get hbt _
                          generalize turned xs (mask % 2 ^ j * 2 ^ at_) = ts at *
                          generalize hts' : turned xs (mask % 2 ^ (j + 1) * 2 ^ at_) = ts' at hts
                          have HTS : Hid _ := hts
                          have HTS' : Hid (turned xs (mask % 2 ^ (j + 1) * 2 ^ at_) = ts') := hts'
                          clear hms hts hqd hts'
                          obtain ⟨old, hod⟩ : ∃ o, o = ts.getD ((at_ + j) / 8) 0 := ⟨_, rfl⟩
                          obtain ⟨new, hnd⟩ : ∃ o, o = old ^^^ 2 ^ ((at_ + j) % 8) := ⟨_, rfl⟩
                          rw [← hod] at hold8
                          have hp2 : 2 ^ ((at_ + j) % 8) < 256 := show _ < 2 ^ 8 from Nat.pow_lt_pow_right (by decide) (by omega)
                          have hnx : bits .xor .u8 (old : Int) ((2 ^ ((at_ + j) % 8) : Nat) : Int) = (new : Int) := by rw [xor_u8 _ _ hold8 hp2, hnd]
                          have htn : ts' = ts.set ((at_ + j) / 8) new := by rw [HTS.out, ← hod, ← hnd]
                          have hsm : at_ + j ≤ 1000000 := by omega
                          have HNX : Hid (bits .xor .u8 (old : Int) ((2 ^ ((at_ + j) % 8) : Nat) : Int) = (new : Int)) := hnx
                          have HTN : Hid (ts' = ts.set ((at_ + j) / 8) new) := htn
                          have HOD : Hid (old = ts.getD ((at_ + j) / 8) 0) := hod
                          have HOT2 : Hid (OwnB wr wc.heap.size (.slice (some ⟨gb, 0, none⟩) k cT) ts) := hoT
                          clear hod hnd hnx htn HTS hoT hp2
                          have cellT : ∀ x, OwnB x wc.heap.size (.slice (some ⟨gb, 0, none⟩) k cT) ts → x.cell? ⟨gb, 0 + (at_ + j) / 8, none⟩ = some (.int .u8 (old : Int)) := by
                            intro x hx
                            obtain ⟨b', off', hab', _, hc'⟩ := Bytes.at (Owns.seen_at hx) hlt8
                            simp only [Option.some.injEq, Addr.mk.injEq] at hab'
                            obtain ⟨rfl, rfl, _⟩ := hab'
                            rw [HOD.out]
                            exact hc'
                          go_upto_region 30 with fail
                          refine region_inv (G30 gb y1) (U30 wc.heap.size gb k cT ts) (R30 wc.heap.size gb k cT at_ j old new ts')
                            (by kernel_rfl) (by kernel_rfl) (by kernel_rfl) (noneR30 (by kernel_rfl) (by kernel_rfl)) hkT.drew ?hU ?hstep ?hQ
                          case hU =>
                            intro i hi
                            unfold U30
                            split
                            · exact HOT2.out
                            · exact HOT2.out
                            · trivial
                          case hstep =>
                            intro i hi
                            have hi' : i < 20 := hi
                            have hcase : i = 0 ∨ i = 1 ∨ i = 2 ∨ i = 3 ∨ i = 4 ∨ i = 5 ∨ i = 6 ∨ i = 7 ∨ i = 8 ∨ i = 9 ∨ i = 10 ∨ i = 11 ∨ i = 12 ∨ i = 13 ∨ i = 14 ∨ i = 15 ∨ i = 16 ∨ i = 17 ∨ i = 18 ∨ i = 19 := by omega
                            clear hi
                            rcases hcase with rfl | rfl | rfl | rfl | rfl | rfl | rfl | rfl | rfl | rfl | rfl | rfl | rfl | rfl | rfl | rfl | rfl | rfl | rfl | rfl <;> intro a x hsz hdf hg hu hout hdeps hold
                            · exact step_pure rfl rfl (v := a.tmps.getD 16 undef) rfl hg (hout 16 (by kernel_rfl))
                            · exact step_pure rfl rfl (v := a.tmps.getD 15 undef) rfl hg (hout 15 (by kernel_rfl))
                            · exact step_pure rfl rfl (v := a.tmps.getD 17 undef) rfl hg (hout 17 (by kernel_rfl))
                            · have e1 : a.eval (.tmp 125) = .int .i64 (at_ : Int) := hdeps 1 (by kernel_rfl)
                              have e2 : a.eval (.tmp 126) = .int .i64 (j : Int) := hdeps 2 (by kernel_rfl)
                              exact step_pure rfl rfl (run_add rfl e1 e2 hsm) hg rfl
                            · have e1 : a.eval (.tmp 127) = .int .i64 ((at_ + j : Nat) : Int) := hdeps 3 (by kernel_rfl)
                              exact step_pure rfl rfl (run_quo8 rfl rfl e1 hsm) hg rfl
                            · exact step_pure rfl rfl (v := a.tmps.getD 16 undef) rfl hg (hout 16 (by kernel_rfl))
                            · exact step_pure rfl rfl (v := a.tmps.getD 15 undef) rfl hg (hout 15 (by kernel_rfl))
                            · exact step_pure rfl rfl (v := a.tmps.getD 17 undef) rfl hg (hout 17 (by kernel_rfl))
                            · have e1 : a.eval (.tmp 130) = .int .i64 (at_ : Int) := hdeps 6 (by kernel_rfl)
                              have e2 : a.eval (.tmp 131) = .int .i64 (j : Int) := hdeps 7 (by kernel_rfl)
                              exact step_pure rfl rfl (run_add rfl e1 e2 hsm) hg rfl
                            · have e1 : a.eval (.tmp 132) = .int .i64 ((at_ + j : Nat) : Int) := hdeps 8 (by kernel_rfl)
                              exact step_pure rfl rfl (run_quo8 rfl rfl e1 hsm) hg rfl
                            · have e1 : a.eval (.tmp 129) = .slice (some ⟨gb, 0, none⟩) k cT := hdeps 5 (by kernel_rfl)
                              have e2 : a.eval (.tmp 133) = .int .i64 (((at_ + j) / 8 : Nat) : Int) := hdeps 9 (by kernel_rfl)
                              exact step_pure rfl rfl (run_index rfl e1 e2 hp8) hg rfl
                            · have e1 : a.eval (.tmp 134) = .pointer (some ⟨gb, 0 + (at_ + j) / 8, none⟩) := hdeps 10 (by kernel_rfl)
                              exact step_pure rfl rfl (run_load8 rfl e1 (cellT x hu)) hg rfl
                            · exact step_pure rfl rfl (v := a.tmps.getD 15 undef) rfl hg (hout 15 (by kernel_rfl))
                            · exact step_pure rfl rfl (v := a.tmps.getD 17 undef) rfl hg (hout 17 (by kernel_rfl))
                            · have e1 : a.eval (.tmp 136) = .int .i64 (at_ : Int) := hdeps 12 (by kernel_rfl)
                              have e2 : a.eval (.tmp 137) = .int .i64 (j : Int) := hdeps 13 (by kernel_rfl)
                              exact step_pure rfl rfl (run_add rfl e1 e2 hsm) hg rfl
                            · have e1 : a.eval (.tmp 138) = .int .i64 ((at_ + j : Nat) : Int) := hdeps 14 (by kernel_rfl)
                              exact step_pure rfl rfl (run_rem8 rfl rfl e1 hsm) hg rfl
                            · have e1 : a.eval (.tmp 139) = .int .i64 (((at_ + j) % 8 : Nat) : Int) := hdeps 15 (by kernel_rfl)
                              exact step_pure rfl rfl (run_shl1 rfl rfl e1 (by omega)) hg rfl
                            · have e1 : a.eval (.tmp 135) = .int .u8 (old : Int) := hdeps 11 (by kernel_rfl)
                              have e2 : a.eval (.tmp 140) = .int .u8 ((2 ^ ((at_ + j) % 8) : Nat) : Int) := hdeps 16 (by kernel_rfl)
                              exact step_pure rfl rfl (run_xor8 rfl e1 e2 HNX.out) hg rfl
                            · have e1 : a.eval (.tmp 124) = .slice (some ⟨gb, 0, none⟩) k cT := hdeps 0 (by kernel_rfl)
                              have e2 : a.eval (.tmp 128) = .int .i64 (((at_ + j) / 8 : Nat) : Int) := hdeps 4 (by kernel_rfl)
                              exact step_pure rfl rfl (run_index rfl e1 e2 hp8) hg rfl
                            · have e1 : a.eval (.tmp 142) = .pointer (some ⟨gb, 0 + (at_ + j) / 8, none⟩) := hdeps 18 (by kernel_rfl)
                              have e2 : a.eval (.tmp 141) = .int .u8 (new : Int) := hdeps 17 (by kernel_rfl)
                              have hu' : OwnB x wc.heap.size (.slice (some ⟨gb, 0, none⟩) k cT) ts := hu
                              have hst := Owns.stored hu' (0 + (at_ + j) / 8) (new : Int)
                              rw [← ints_set] at hst
                              refine step_skip rfl rfl (run_store8 rfl e1 e2 (cellT x hu') (Owns.frozen hu' _)) (Keep.setCell hg (fun _ => rfl) _) ?_ ?_ ?_
                              · show OwnB _ _ _ ts'
                                rw [HTN.out]
                                rw [Nat.zero_add] at hst ⊢
                                exact hst
                              · intro i' u hi' hw hR
                                unfold R30 at hR ⊢
                                split at hR <;> first | exact hR | exact absurd rfl hi'
                              · intro i' hi' hw hU
                                unfold U30 at hU ⊢
                                split at hU
                                · exact absurd hw (by rw [show waits .any _ 19 11 = true from by kernel_rfl]; decide)
                                · exact absurd rfl hi'
                                · trivial
                          case hQ =>
                            intro a' x hput hg hR
                            have h19 : OwnB x wc.heap.size (.slice (some ⟨gb, 0, none⟩) k cT) ts' := hR 19 (by decide)
                            clear hR
                            have ed : a' = List.foldl (fun b d => b.put (some d) (a'.tmps.getD d undef)) _ [124, 125, 126, 127, 128, 129, 130, 131, 132, 133, 134, 135, 136, 137, 138, 139, 140, 141, 142] := hput
                            clear hput
                            simp only [List.foldl_cons, List.foldl_nil, Act.put, List.setIfInBounds_toArray, List.set_cons_zero, List.set_cons_succ] at ed
                            generalize a'.tmps.getD 124 undef = t124 at ed
                            generalize a'.tmps.getD 125 undef = t125 at ed
                            generalize a'.tmps.getD 126 undef = t126 at ed
                            generalize a'.tmps.getD 127 undef = t127 at ed
                            generalize a'.tmps.getD 128 undef = t128 at ed
                            generalize a'.tmps.getD 129 undef = t129 at ed
                            generalize a'.tmps.getD 130 undef = t130 at ed
                            generalize a'.tmps.getD 131 undef = t131 at ed
                            generalize a'.tmps.getD 132 undef = t132 at ed
                            generalize a'.tmps.getD 133 undef = t133 at ed
                            generalize a'.tmps.getD 134 undef = t134 at ed
                            generalize a'.tmps.getD 135 undef = t135 at ed
                            generalize a'.tmps.getD 136 undef = t136 at ed
                            generalize a'.tmps.getD 137 undef = t137 at ed
                            generalize a'.tmps.getD 138 undef = t138 at ed
                            generalize a'.tmps.getD 139 undef = t139 at ed
                            generalize a'.tmps.getD 140 undef = t140 at ed
                            generalize a'.tmps.getD 141 undef = t141 at ed
                            generalize a'.tmps.getD 142 undef = t142 at ed
                            subst ed
                            have HO19 : Hid (OwnB x wc.heap.size (.slice (some ⟨gb, 0, none⟩) k cT) ts') := h19
                            have HG19 : Hid (Keep (fun b => b = gb) y1 x) := hg
                            clear h19 hg cellT HNX HTN HOD HOT2
                            go_wp2_with fail
                            go_roundw
                            case rel => exact ⟨j + 1, by go_num, by omega, by rw [HTS'.out]; exact HO19.out, HG19.out⟩
                            case measure => simp [intOf]; omega
                        · rw [if_neg hbitj] at hms
                          have hb0 : q % 2 = 0 := by omega
                          rw [hb0] at hand
                          have HMS : Hid (mask % 2 ^ (j + 1) * 2 ^ at_ = mask % 2 ^ j * 2 ^ at_) := hms
                          have HO : Hid (OwnB wr wc.heap.size (.slice (some ⟨gb, 0, none⟩) k cT) (turned xs (mask % 2 ^ j * 2 ^ at_))) := hoT
                          have HKT : Hid (Keep (fun b => b = gb) y1 wr) := hkT
                          clear hms hoT hkT hqd
                          go_wp2_with fail
                          go_roundw
                          case rel => exact ⟨j + 1, by go_num, by omega, by rw [HMS.out]; exact HO.out, HKT.out⟩
                          case measure => simp [intOf]; omega
                      · obtain rfl : j = 32 := by omega
                        have hm32 : mask % 2 ^ 32 = mask := Nat.mod_eq_of_lt hmask
                        rw [hm32] at hoT
                        have hne := sum_turned xs at_ mask (by omega) hmask hm0
                        have hbt : AllB (turned xs (mask * 2 ^ at_)) := turned_bytes (mask * 2 ^ at_) bx
                        have htl : (turned xs (mask * 2 ^ at_)).length = k := by simp; exact hxl
                        generalize turned xs (mask * 2 ^ at_) = ts at *
                        have HOf : Hid (Bytes wr (some ⟨gb, 0, none⟩) ts) := Owns.seen_at hoT
                        have HXf : Hid (Bytes wr aX xs) := Seen.keep HXz.out hkT hXg
                        have hgpos : 0 < gb := by omega
                        have HTf : Hid (Tab wr) := HTz.out.keep hkT (by omega)
                        have HBf : Hid (Below w'.heap.size w' wr) := bkeep HBz.out hkT (Nat.le_refl _) (fun b q => by have : b = gb := q; have := HBw.out.size; omega)
                        have HNE : Hid (sumOf ts ≠ sumOf xs) := hne
                        clear hoT hkT hne
                        go_wp2_with fail
                        have P1 := parts_one wr (some ⟨gb, 0, none⟩) k cT ts htl.symm HOf.out hbt (by omega)
                        have A1 := alloc_below wr (.cells #[.slice (some ⟨gb, 0, none⟩) k cT] 29)
                        have K1 := sum_any [(.slice (some ⟨gb, 0, none⟩) k cT, ts)] _ 1 _ (Tab.below HTf.out A1) P1 (le_maxLen rfl) (by simpa [joined] using hbt)
                        have ej : joined [((.slice (some ⟨gb, 0, none⟩) k cT : Value), ts)] = ts := by simp [joined]
                        rw [ej] at K1
                        refine K1.mono ?_
                        clear K1 P1 ej
                        generalize wr.alloc (.cells #[.slice (some ⟨gb, 0, none⟩) k cT] 29) = y2 at *
                        rintro e y3 ⟨rfl, rfl⟩
                        go_wp2_with fail
                        have P2 := parts_one y3 aX k cX xs hxl.symm (Seen.below HXf.out A1) bx (by omega)
                        have A2 := alloc_below y3 (.cells #[.slice aX k cX] 29)
                        have K2 := sum_any [(.slice aX k cX, xs)] _ 1 _ (Tab.below (Tab.below HTf.out A1) A2) P2 (le_maxLen rfl) (by simpa [joined] using bx)
                        have ej : joined [((.slice aX k cX : Value), xs)] = xs := by simp [joined]
                        rw [ej] at K2
                        refine K2.mono ?_
                        clear K2 P2 ej
                        generalize y3.alloc (.cells #[.slice aX k cX] 29) = y4 at *
                        rintro e y5 ⟨rfl, rfl⟩
                        have hne' : (((sumOf ts : Nat) : Int) != ((sumOf xs : Nat) : Int)) = true := by
                          simp
                          intro q
                          exact HNE.out (by exact_mod_cast q)
                        go_wp2_with fail
                        go_ret
                        exact ⟨rfl, bnext (bnext (bnext B1 HBf.out (Nat.le_refl _)) A1 (Nat.le_refl _)) A2 (Nat.le_refl _)⟩
      · have hxl : (xors la lb k).length = k := by unfold xors; simp; omega
        have hal : (la.take k).length = k := by simp; omega
        have hyl : (lb.take k).length = k := by simp; omega
        have hzl : (List.replicate k 0).length = k := by simp
        have hk4 : k ≤ 4000 := by omega
        have hm4 : k ≤ maxLen := by unfold maxLen; omega
        have bx : AllB (xors la lb k) := by
          intro y hy
          unfold xors at hy
          obtain ⟨j, hj, rfl⟩ := List.getElem_of_mem hy
          simp only [List.getElem_zipWith]
          exact Nat.xor_lt_two_pow (n := 8) (al.take k _ (List.getElem_mem _)) (bl.take k _ (List.getElem_mem _))
        have by_ : AllB (lb.take k) := bl.take k
        have ba : AllB (la.take k) := al.take k
        have bz : AllB (List.replicate k 0) := by
          intro y hy
          rw [List.eq_of_mem_replicate hy]
          decide
        have hthree : sumOf (xors la lb k) = sumOf (la.take k) ^^^ sumOf (lb.take k) ^^^ sumOf (List.replicate k 0) := by
          have := sum_three (la.take k) (lb.take k) (by rw [hal, hyl])
          rw [hal] at this
          exact this
        have HAr : Hid (Bytes wr aa (la.take k)) := Seen.below (HA.out.take k) hbl
        obtain ⟨aX, cX, hX, sX, nX, lX, mX⟩ := oX.seen
        obtain ⟨aY, cY, hY, sY, nY, lY, mY⟩ := oY.seen
        obtain ⟨aZ, cZ, hZ, sZ, nZ, lZ, mZ⟩ := oZ.seen
        rw [ints_length, hxl] at hX lX
        rw [ints_length, hyl] at hY lY
        rw [ints_length, hzl] at hZ lZ
        subst hX hY hZ
        have HX : Hid (Bytes wr aX (xors la lb k)) := sX
        have HY : Hid (Bytes wr aY (lb.take k)) := sY
        have HZ : Hid (Bytes wr aZ (List.replicate k 0)) := sZ
        have HTr : Hid (Tab wr) := Tab.under (Tab.below HT.out B1) hbl (Nat.lt_of_lt_of_le HT.out.1 B1.size)
        have H3 : Hid (sumOf (xors la lb k) = sumOf (la.take k) ^^^ sumOf (lb.take k) ^^^ sumOf (List.replicate k 0)) := hthree
        have sx := sumOf_lt _ bx
        have sa := sumOf_lt _ ba
        have sy := sumOf_lt _ by_
        have sz := sumOf_lt _ bz
        have say : sumOf (la.take k) ^^^ sumOf (lb.take k) < 4294967296 := Nat.xor_lt_two_pow (n := 32) sa sy
        generalize xors la lb k = xs at *
        generalize la.take k = az at *
        generalize lb.take k = ys at *
        generalize List.replicate k 0 = zs at *
        clear sX sY sZ oX oY oZ a1 a2 a3 a4 a5 a6 hthree
        have g1 : decide ((k : Int) < (la.length : Int)) = false := by simp; omega
        go_upto_region 13 with fail
        refine region_inv (G13 wr) noU (R13 (.slice aX k cX) (.slice aa la.length ca) (.slice aY k cY) (.slice aZ k cZ) (.slice aa k ca) k xs az ys zs)
          (by kernel_rfl) (by kernel_rfl) (by kernel_rfl) (hd_of_all (by kernel_rfl)) (Below.refl _ _).drew (fun _ _ => trivial) ?hstep ?hQ
        case hstep =>
          intro i hi
          have hi' : i < 17 := hi
          have hcase : i = 0 ∨ i = 1 ∨ i = 2 ∨ i = 3 ∨ i = 4 ∨ i = 5 ∨ i = 6 ∨ i = 7 ∨ i = 8 ∨ i = 9 ∨ i = 10 ∨ i = 11 ∨ i = 12 ∨ i = 13 ∨ i = 14 ∨ i = 15 ∨ i = 16 := by omega
          clear hi
          rcases hcase with rfl | rfl | rfl | rfl | rfl | rfl | rfl | rfl | rfl | rfl | rfl | rfl | rfl | rfl | rfl | rfl | rfl <;> intro a x hsz hdf hg hu hout hdeps hold
          · exact step_pure rfl rfl (v := a.tmps.getD 9 undef) rfl hg (hout 9 (by kernel_rfl))
          · have e1 : a.eval (.tmp 60) = .slice aX k cX := hdeps 0 (by kernel_rfl)
            exact step_value rfl rfl (run_part1 rfl e1) (show G13 wr _ from bnext hg (alloc_below _ _) (Nat.le_refl _)) (fresh_one x aX k cX xs hxl.symm (Seen.below HX.out hg) bx (by omega)) (fun _ _ _ _ h => R13.below h (alloc_below _ _)) (fun _ _ _ h => h)
          · exact step_sum (.tmp 61) rfl rfl rfl _ (hdeps 1 (by kernel_rfl)) HTr.out hg (le_maxLen rfl) (by simpa [joined] using bx) (sumOf xs) (by simp [joined]) rfl
          · exact step_pure rfl rfl (v := a.tmps.getD 0 undef) rfl hg (hout 0 (by kernel_rfl))
          · exact step_pure rfl rfl (v := a.tmps.getD 13 undef) rfl hg (hout 13 (by kernel_rfl))
          · have e1 : a.eval (.tmp 63) = .slice aa la.length ca := hdeps 3 (by kernel_rfl)
            have e2 : a.eval (.tmp 64) = .int .i64 (k : Int) := hdeps 4 (by kernel_rfl)
            exact step_pure rfl rfl (run_to rfl e1 e2 (by omega)) hg rfl
          · have e1 : a.eval (.tmp 65) = .slice aa k ca := hdeps 5 (by kernel_rfl)
            exact step_value rfl rfl (run_part1 rfl e1) (show G13 wr _ from bnext hg (alloc_below _ _) (Nat.le_refl _)) (fresh_one x aa k ca az hal.symm (Seen.below HAr.out hg) ba (by omega)) (fun _ _ _ _ h => R13.below h (alloc_below _ _)) (fun _ _ _ h => h)
          · exact step_sum (.tmp 66) rfl rfl rfl _ (hdeps 6 (by kernel_rfl)) HTr.out hg (le_maxLen rfl) (by simpa [joined] using ba) (sumOf az) (by simp [joined]) rfl
          · exact step_pure rfl rfl (v := a.tmps.getD 10 undef) rfl hg (hout 10 (by kernel_rfl))
          · have e1 : a.eval (.tmp 68) = .slice aY k cY := hdeps 8 (by kernel_rfl)
            exact step_value rfl rfl (run_part1 rfl e1) (show G13 wr _ from bnext hg (alloc_below _ _) (Nat.le_refl _)) (fresh_one x aY k cY ys hyl.symm (Seen.below HY.out hg) by_ (by omega)) (fun _ _ _ _ h => R13.below h (alloc_below _ _)) (fun _ _ _ h => h)
          · exact step_sum (.tmp 69) rfl rfl rfl _ (hdeps 9 (by kernel_rfl)) HTr.out hg (le_maxLen rfl) (by simpa [joined] using by_) (sumOf ys) (by simp [joined]) rfl
          · have e1 : a.eval (.tmp 67) = .int .u32 ((sumOf az : Nat) : Int) := hdeps 7 (by kernel_rfl)
            have e2 : a.eval (.tmp 70) = .int .u32 ((sumOf ys : Nat) : Int) := hdeps 10 (by kernel_rfl)
            exact step_pure rfl rfl (run_xor32 rfl e1 e2 (xor_u32 _ _ sa sy)) hg rfl
          · exact step_pure rfl rfl (v := a.tmps.getD 11 undef) rfl hg (hout 11 (by kernel_rfl))
          · have e1 : a.eval (.tmp 72) = .slice aZ k cZ := hdeps 12 (by kernel_rfl)
            exact step_value rfl rfl (run_part1 rfl e1) (show G13 wr _ from bnext hg (alloc_below _ _) (Nat.le_refl _)) (fresh_one x aZ k cZ zs hzl.symm (Seen.below HZ.out hg) bz (by omega)) (fun _ _ _ _ h => R13.below h (alloc_below _ _)) (fun _ _ _ h => h)
          · exact step_sum (.tmp 73) rfl rfl rfl _ (hdeps 13 (by kernel_rfl)) HTr.out hg (le_maxLen rfl) (by simpa [joined] using bz) (sumOf zs) (by simp [joined]) rfl
          · have e1 : a.eval (.tmp 71) = .int .u32 ((sumOf az ^^^ sumOf ys : Nat) : Int) := hdeps 11 (by kernel_rfl)
            have e2 : a.eval (.tmp 74) = .int .u32 ((sumOf zs : Nat) : Int) := hdeps 14 (by kernel_rfl)
            exact step_pure rfl rfl (run_xor32 rfl e1 e2 (xor_u32 _ _ say sz)) hg rfl
          · have e1 : a.eval (.tmp 62) = .int .u32 ((sumOf xs : Nat) : Int) := hdeps 2 (by kernel_rfl)
            have e2 : a.eval (.tmp 75) = .int .u32 ((sumOf az ^^^ sumOf ys ^^^ sumOf zs : Nat) : Int) := hdeps 15 (by kernel_rfl)
            refine step_pure rfl rfl (run_neq32 rfl e1 e2) hg ?_
            rw [H3.out]
            simp [R13]
        case hQ =>
          intro a' x hput hg hR
          have h76 : a'.tmps.getD 76 undef = .bool false := hR 16 (by decide)
          clear hR
          have ed : a' = List.foldl (fun b d => b.put (some d) (a'.tmps.getD d undef)) _ [60, 61, 62, 63, 64, 65, 66, 67, 68, 69, 70, 71, 72, 73, 74, 75, 76] := hput
          clear hput
          simp only [List.foldl_cons, List.foldl_nil, Act.put, List.setIfInBounds_toArray, List.set_cons_zero, List.set_cons_succ] at ed
          rw [h76] at ed
          generalize a'.tmps.getD 60 undef = t60 at ed
          generalize a'.tmps.getD 61 undef = t61 at ed
          generalize a'.tmps.getD 62 undef = t62 at ed
          generalize a'.tmps.getD 63 undef = t63 at ed
          generalize a'.tmps.getD 64 undef = t64 at ed
          generalize a'.tmps.getD 65 undef = t65 at ed
          generalize a'.tmps.getD 66 undef = t66 at ed
          generalize a'.tmps.getD 67 undef = t67 at ed
          generalize a'.tmps.getD 68 undef = t68 at ed
          generalize a'.tmps.getD 69 undef = t69 at ed
          generalize a'.tmps.getD 70 undef = t70 at ed
          generalize a'.tmps.getD 71 undef = t71 at ed
          generalize a'.tmps.getD 72 undef = t72 at ed
          generalize a'.tmps.getD 73 undef = t73 at ed
          generalize a'.tmps.getD 74 undef = t74 at ed
          generalize a'.tmps.getD 75 undef = t75 at ed
          subst ed
          have HXx : Hid (Bytes x aX xs) := Seen.below HX.out hg
          have HTx : Hid (Tab x) := Tab.below HTr.out hg
          have HBx : Hid (Below w'.heap.size w' x) := bnext hbl hg (Nat.le_refl _)
          obtain ⟨b1, b2⟩ := tmod_bd bit ((k : Int) + 1) (by omega)
          clear HX HY HZ HTr HAr hg hbl h76
          go_upto_if 82 with fail
          go_cut [14] (fun s y => ∃ kk : Nat, kk ≤ k ∧ s = .int .i64 (kk : Int) ∧ y = x)
          case first =>
            by_cases hneg : bit.tmod ((k : Int) + 1) < 0
            · go_wp2_with fail
              go_meet
              exact ⟨(-(bit.tmod ((k : Int) + 1))).toNat, by omega, by go_num, rfl⟩
            · go_wp2_with fail
              go_meet
              exact ⟨(bit.tmod ((k : Int) + 1)).toNat, by omega, by go_num, rfl⟩
          case rest =>
            obtain ⟨kk, hkk, rfl, rfl⟩ := hcut
            clear b1 b2
            have hxt : (xs.take kk).length = kk := by simp; omega
            have hxd : (xs.drop kk).length = k - kk := by simp; omega
            go_upto_region 18 with fail
            refine region_inv (G13 wc) noU (R18 (.slice aX k cX) (.slice aX kk cX) (.slice (dropA aX cX kk) (k - kk) (cX - kk)) kk xs (xs.take kk) (xs.drop kk))
              (by kernel_rfl) (by kernel_rfl) (by kernel_rfl) (hd_of_all (by kernel_rfl)) (Below.refl _ _).drew (fun _ _ => trivial) ?hstep ?hQ
            case hstep =>
              intro i hi
              have hi' : i < 12 := hi
              have hcase : i = 0 ∨ i = 1 ∨ i = 2 ∨ i = 3 ∨ i = 4 ∨ i = 5 ∨ i = 6 ∨ i = 7 ∨ i = 8 ∨ i = 9 ∨ i = 10 ∨ i = 11 := by omega
              clear hi
              rcases hcase with rfl | rfl | rfl | rfl | rfl | rfl | rfl | rfl | rfl | rfl | rfl | rfl <;> intro a y hsz hdf hg hu hout hdeps hold
              · exact step_pure rfl rfl (v := a.tmps.getD 9 undef) rfl hg (hout 9 (by kernel_rfl))
              · exact step_pure rfl rfl (v := a.tmps.getD 14 undef) rfl hg (hout 14 (by kernel_rfl))
              · have e1 : a.eval (.tmp 85) = .slice aX k cX := hdeps 0 (by kernel_rfl)
                have e2 : a.eval (.tmp 86) = .int .i64 (kk : Int) := hdeps 1 (by kernel_rfl)
                exact step_pure rfl rfl (run_to rfl e1 e2 (by omega)) hg rfl
              · exact step_pure rfl rfl (v := a.tmps.getD 9 undef) rfl hg (hout 9 (by kernel_rfl))
              · exact step_pure rfl rfl (v := a.tmps.getD 14 undef) rfl hg (hout 14 (by kernel_rfl))
              · have e1 : a.eval (.tmp 88) = .slice aX k cX := hdeps 3 (by kernel_rfl)
                have e2 : a.eval (.tmp 89) = .int .i64 (kk : Int) := hdeps 4 (by kernel_rfl)
                exact step_pure rfl rfl (run_from rfl e1 e2 hkk lX) hg rfl
              · have e1 : a.eval (.tmp 87) = .slice aX kk cX := hdeps 2 (by kernel_rfl)
                have e2 : a.eval (.tmp 90) = .slice (dropA aX cX kk) (k - kk) (cX - kk) := hdeps 5 (by kernel_rfl)
                have e3 : a.eval (.const (.slice none 0 0)) = .slice none 0 0 := rfl
                have hby : Bytes y aX xs := Seen.below HXx.out hg
                exact step_value rfl rfl (run_part3 rfl e1 e3 e2) (show G13 wc _ from bnext hg (alloc_below _ _) (Nat.le_refl _))
                  (fresh_three y aX none (dropA aX cX kk) kk cX 0 0 (k - kk) (cX - kk) (xs.take kk) [] (xs.drop kk) hxt.symm rfl hxd.symm (hby.take kk) (.inl rfl) (hby.drop kk (by omega)) (bx.take kk) AllB.nil (bx.drop kk) (by omega) (by simp) (by omega))
                  (fun _ _ _ _ h => R18.below h (alloc_below _ _)) (fun _ _ _ h => h)
              · exact step_sum (.tmp 91) rfl rfl rfl _ (hdeps 6 (by kernel_rfl)) HTx.out hg (le_maxLen rfl) (by simpa [joined] using bx) (sumOf xs) (by simp [joined]) rfl
              · exact step_pure rfl rfl (v := a.tmps.getD 9 undef) rfl hg (hout 9 (by kernel_rfl))
              · have e1 : a.eval (.tmp 93) = .slice aX k cX := hdeps 8 (by kernel_rfl)
                exact step_value rfl rfl (run_part1 rfl e1) (show G13 wc _ from bnext hg (alloc_below _ _) (Nat.le_refl _)) (fresh_one y aX k cX xs hxl.symm (Seen.below HXx.out hg) bx (by omega)) (fun _ _ _ _ h => R18.below h (alloc_below _ _)) (fun _ _ _ h => h)
              · exact step_sum (.tmp 94) rfl rfl rfl _ (hdeps 9 (by kernel_rfl)) HTx.out hg (le_maxLen rfl) (by simpa [joined] using bx) (sumOf xs) (by simp [joined]) rfl
              · have e1 : a.eval (.tmp 92) = .int .u32 ((sumOf xs : Nat) : Int) := hdeps 7 (by kernel_rfl)
                have e2 : a.eval (.tmp 95) = .int .u32 ((sumOf xs : Nat) : Int) := hdeps 10 (by kernel_rfl)
                refine step_pure rfl rfl (run_neq32 rfl e1 e2) hg ?_
                simp [R18]
            case hQ =>
              intro a' y hput hg hR
              have h96 : a'.tmps.getD 96 undef = .bool false := hR 11 (by decide)
              clear hR
              have ed : a' = List.foldl (fun b d => b.put (some d) (a'.tmps.getD d undef)) _ [85, 86, 87, 88, 89, 90, 91, 92, 93, 94, 95, 96] := hput
              clear hput
              simp only [List.foldl_cons, List.foldl_nil, Act.put, List.setIfInBounds_toArray, List.set_cons_zero, List.set_cons_succ] at ed
              rw [h96] at ed
              generalize a'.tmps.getD 85 undef = t85 at ed
              generalize a'.tmps.getD 86 undef = t86 at ed
              generalize a'.tmps.getD 87 undef = t87 at ed
              generalize a'.tmps.getD 88 undef = t88 at ed
              generalize a'.tmps.getD 89 undef = t89 at ed
              generalize a'.tmps.getD 90 undef = t90 at ed
              generalize a'.tmps.getD 91 undef = t91 at ed
              generalize a'.tmps.getD 92 undef = t92 at ed
              generalize a'.tmps.getD 93 undef = t93 at ed
              generalize a'.tmps.getD 94 undef = t94 at ed
              generalize a'.tmps.getD 95 undef = t95 at ed
              subst ed
              have HXy : Hid (Bytes y aX xs) := Seen.below HXx.out hg
              have HTy : Hid (Tab y) := Tab.below HTx.out hg
              have HBy : Hid (Below w'.heap.size w' y) := bnext HBx.out hg (Nat.le_refl _)
              clear HXx HTx HBx hg h96
              by_cases hsmall : 8 * k < 32
              · have g3 : (8 : Int) * (k : Int) < 32 := by omega
                go_wp2_with fail
                go_ret
                exact ⟨rfl, bnext B1 HBy.out (Nat.le_refl _)⟩
              · have g3 : decide ((8 : Int) * (k : Int) < 32) = false := by simp; omega
                by_cases hm0 : mask = 0
                · have g4 : ((mask : Int) == 0) = true := by simp; exact hm0
                  go_wp2_with fail
                  go_ret
                  exact ⟨rfl, bnext B1 HBy.out (Nat.le_refl _)⟩
                · have g4 : ((mask : Int) == 0) = false := by simp; omega
                  obtain ⟨b1, b2⟩ := tmod_bd bit (8 * (k : Int) - 31) (by omega)
                  go_upto_if 110 with fail
                  go_cut [15] (fun s z => ∃ at_ : Nat, at_ + 32 ≤ 8 * k ∧ s = .int .i64 (at_ : Int) ∧ z = y)
                  case first =>
                    by_cases hneg : bit.tmod (8 * (k : Int) - 31) < 0
                    · go_wp2_with fail
                      go_meet
                      exact ⟨(-(bit.tmod (8 * (k : Int) - 31))).toNat, by omega, by go_num, rfl⟩
                    · go_wp2_with fail
                      go_meet
                      exact ⟨(bit.tmod (8 * (k : Int) - 31)).toNat, by omega, by go_num, rfl⟩
                  case rest =>
                    obtain ⟨at_, hat, rfl, rfl⟩ := hcut
                    clear b1 b2 g3 g4
                    have hxb : ([] : List Nat).length + xs.length ≤ 2000000 := by simp; omega
                    go_wp2_with (at_builtin; refine appB rfl (.const (.slice none 0 0)) (.tmp 113) rfl wc.heap.size _ [] rfl (Owns.nil _ _ _ _) aX k cX xs hxl rfl HXy.out nX hxb (Nat.le_refl _) ?_)
                    intro T y1 oT gT _
                    have bT : Below wc.heap.size wc y1 := (Below.refl _ _).grown gT (Nat.le_refl _) (by nofun)
                    obtain ⟨gb, cT, hT, _⟩ := Owns.form oT (by rw [ints_length]; omega)
                    rw [ints_length, hxl] at hT
                    subst hT
                    have HOT : Hid (OwnB y1 wc.heap.size (.slice (some ⟨gb, 0, none⟩) k cT) xs) := oT
                    have HXz : Hid (Bytes y1 aX xs) := Seen.below HXy.out bT
                    have HTz : Hid (Tab y1) := Tab.below HTy.out bT
                    have HBz : Hid (Below w'.heap.size w' y1) := bnext HBy.out bT (Nat.le_refl _)
                    have hszb := HTy.out.1
                    have HBw : Hid (Below w'.heap.size w' wc) := HBy.out
                    have hgb := (World.ownsRow.lt HOT.out gb rfl).1
                    have hXg : ∀ ad, aX = some ad → ad.block ≠ gb := by
                      intro ad had
                      rcases HXy.out with q | ⟨b, off, q, hlt', _⟩
                      · have := congrArg List.length q
                        simp at this
                        rw [this] at hxl
                        simp at hxl
                        omega
                      · rw [had] at q
                        cases q
                        show b ≠ gb
                        omega
                    have hT0 : turned xs (mask % 2 ^ 0 * 2 ^ at_) = xs := by rw [Nat.pow_zero, Nat.mod_one, Nat.zero_mul]; exact turned_zero xs
                    clear oT gT bT HXy HTy HBy
                    go_wp2_with fail
                    go_loopw [17] (fun i ws => ∃ j : Nat, i = .int .i64 (j : Int) ∧ j ≤ 32 ∧ OwnB ws wc.heap.size (.slice (some ⟨gb, 0, none⟩) k cT) (turned xs (mask % 2 ^ j * 2 ^ at_)) ∧ Keep (fun b => b = gb) y1 ws) (fun i _ => 32 - (intOf i).toNat)
                    case atStart => exact ⟨0, rfl, by omega, by rw [hT0]; exact HOT.out, Keep.refl _ _⟩
                    case round =>
                      obtain ⟨j, rfl, hj, hoT, hkT⟩ := hrel
                      by_cases hj32 : j < 32
                      · obtain ⟨q, hqd⟩ : ∃ q, q = mask / 2 ^ j := ⟨_, rfl⟩
                        have hql : q < 4294967296 := by rw [hqd]; exact Nat.lt_of_le_of_lt (Nat.div_le_self _ _) hmask
                        have hms := mask_step mask j at_
                        rw [← hqd] at hms
                        have hand : bits .and .u32 ((mask : Int) / 2 ^ j) 1 = ((q % 2 : Nat) : Int) := by rw [div_cast, ← hqd]; exact and1_u32 q hql
                        by_cases hbitj : q % 2 = 1
                        · rw [if_pos hbitj] at hms
                          rw [hbitj] at hand
                          have hp8 : (at_ + j) / 8 < k := by omega
                          have hts := turned_step xs (mask % 2 ^ j * 2 ^ at_) (at_ + j) (by omega)
                          rw [← hms] at hts
                          have hbt := (turned_bytes (mask % 2 ^ j * 2 ^ at_) bx)
                          have hlt8 : (at_ + j) / 8 < (turned xs (mask % 2 ^ j * 2 ^ at_)).length := by simp; omega
                          have hold8 : (turned xs (mask % 2 ^ j * 2 ^ at_)).getD ((at_ + j) / 8) 0 < 256 := AllB.get hbt _
                          generalize turned xs (mask % 2 ^ j * 2 ^ at_) = ts at *
                          generalize hts' : turned xs (mask % 2 ^ (j + 1) * 2 ^ at_) = ts' at hts
                          have HTS : Hid _ := hts
                          have HTS' : Hid (turned xs (mask % 2 ^ (j + 1) * 2 ^ at_) = ts') := hts'
                          clear hms hts hqd hts'
                          obtain ⟨old, hod⟩ : ∃ o, o = ts.getD ((at_ + j) / 8) 0 := ⟨_, rfl⟩
                          obtain ⟨new, hnd⟩ : ∃ o, o = old ^^^ 2 ^ ((at_ + j) % 8) := ⟨_, rfl⟩
                          rw [← hod] at hold8
                          have hp2 : 2 ^ ((at_ + j) % 8) < 256 := show _ < 2 ^ 8 from Nat.pow_lt_pow_right (by decide) (by omega)
                          have hnx : bits .xor .u8 (old : Int) ((2 ^ ((at_ + j) % 8) : Nat) : Int) = (new : Int) := by rw [xor_u8 _ _ hold8 hp2, hnd]
                          have htn : ts' = ts.set ((at_ + j) / 8) new := by rw [HTS.out, ← hod, ← hnd]
                          have hsm : at_ + j ≤ 1000000 := by omega
                          have HNX : Hid (bits .xor .u8 (old : Int) ((2 ^ ((at_ + j) % 8) : Nat) : Int) = (new : Int)) := hnx
                          have HTN : Hid (ts' = ts.set ((at_ + j) / 8) new) := htn
                          have HOD : Hid (old = ts.getD ((at_ + j) / 8) 0) := hod
                          have HOT2 : Hid (OwnB wr wc.heap.size (.slice (some ⟨gb, 0, none⟩) k cT) ts) := hoT
                          clear hod hnd hnx htn HTS hoT hp2
                          have cellT : ∀ x, OwnB x wc.heap.size (.slice (some ⟨gb, 0, none⟩) k cT) ts → x.cell? ⟨gb, 0 + (at_ + j) / 8, none⟩ = some (.int .u8 (old : Int)) := by
                            intro x hx
                            obtain ⟨b', off', hab', _, hc'⟩ := Bytes.at (Owns.seen_at hx) hlt8
                            simp only [Option.some.injEq, Addr.mk.injEq] at hab'
                            obtain ⟨rfl, rfl, _⟩ := hab'
                            rw [HOD.out]
                            exact hc'
                          go_upto_region 30 with fail
                          refine region_inv (G30 gb y1) (U30 wc.heap.size gb k cT ts) (R30 wc.heap.size gb k cT at_ j old new ts')
                            (by kernel_rfl) (by kernel_rfl) (by kernel_rfl) (noneR30 (by kernel_rfl) (by kernel_rfl)) hkT.drew ?hU ?hstep ?hQ
                          case hU =>
                            intro i hi
                            unfold U30
                            split
                            · exact HOT2.out
                            · exact HOT2.out
                            · trivial
                          case hstep =>
                            intro i hi
                            have hi' : i < 20 := hi
                            have hcase : i = 0 ∨ i = 1 ∨ i = 2 ∨ i = 3 ∨ i = 4 ∨ i = 5 ∨ i = 6 ∨ i = 7 ∨ i = 8 ∨ i = 9 ∨ i = 10 ∨ i = 11 ∨ i = 12 ∨ i = 13 ∨ i = 14 ∨ i = 15 ∨ i = 16 ∨ i = 17 ∨ i = 18 ∨ i = 19 := by omega
                            clear hi
                            rcases hcase with rfl | rfl | rfl | rfl | rfl | rfl | rfl | rfl | rfl | rfl | rfl | rfl | rfl | rfl | rfl | rfl | rfl | rfl | rfl | rfl <;> intro a x hsz hdf hg hu hout hdeps hold
                            · exact step_pure rfl rfl (v := a.tmps.getD 16 undef) rfl hg (hout 16 (by kernel_rfl))
                            · exact step_pure rfl rfl (v := a.tmps.getD 15 undef) rfl hg (hout 15 (by kernel_rfl))
                            · exact step_pure rfl rfl (v := a.tmps.getD 17 undef) rfl hg (hout 17 (by kernel_rfl))
                            · have e1 : a.eval (.tmp 125) = .int .i64 (at_ : Int) := hdeps 1 (by kernel_rfl)
                              have e2 : a.eval (.tmp 126) = .int .i64 (j : Int) := hdeps 2 (by kernel_rfl)
                              exact step_pure rfl rfl (run_add rfl e1 e2 hsm) hg rfl
                            · have e1 : a.eval (.tmp 127) = .int .i64 ((at_ + j : Nat) : Int) := hdeps 3 (by kernel_rfl)
                              exact step_pure rfl rfl (run_quo8 rfl rfl e1 hsm) hg rfl
                            · exact step_pure rfl rfl (v := a.tmps.getD 16 undef) rfl hg (hout 16 (by kernel_rfl))
                            · exact step_pure rfl rfl (v := a.tmps.getD 15 undef) rfl hg (hout 15 (by kernel_rfl))
                            · exact step_pure rfl rfl (v := a.tmps.getD 17 undef) rfl hg (hout 17 (by kernel_rfl))
                            · have e1 : a.eval (.tmp 130) = .int .i64 (at_ : Int) := hdeps 6 (by kernel_rfl)
                              have e2 : a.eval (.tmp 131) = .int .i64 (j : Int) := hdeps 7 (by kernel_rfl)
                              exact step_pure rfl rfl (run_add rfl e1 e2 hsm) hg rfl
                            · have e1 : a.eval (.tmp 132) = .int .i64 ((at_ + j : Nat) : Int) := hdeps 8 (by kernel_rfl)
                              exact step_pure rfl rfl (run_quo8 rfl rfl e1 hsm) hg rfl
                            · have e1 : a.eval (.tmp 129) = .slice (some ⟨gb, 0, none⟩) k cT := hdeps 5 (by kernel_rfl)
                              have e2 : a.eval (.tmp 133) = .int .i64 (((at_ + j) / 8 : Nat) : Int) := hdeps 9 (by kernel_rfl)
                              exact step_pure rfl rfl (run_index rfl e1 e2 hp8) hg rfl
                            · have e1 : a.eval (.tmp 134) = .pointer (some ⟨gb, 0 + (at_ + j) / 8, none⟩) := hdeps 10 (by kernel_rfl)
                              exact step_pure rfl rfl (run_load8 rfl e1 (cellT x hu)) hg rfl
                            · exact step_pure rfl rfl (v := a.tmps.getD 15 undef) rfl hg (hout 15 (by kernel_rfl))
                            · exact step_pure rfl rfl (v := a.tmps.getD 17 undef) rfl hg (hout 17 (by kernel_rfl))
                            · have e1 : a.eval (.tmp 136) = .int .i64 (at_ : Int) := hdeps 12 (by kernel_rfl)
                              have e2 : a.eval (.tmp 137) = .int .i64 (j : Int) := hdeps 13 (by kernel_rfl)
                              exact step_pure rfl rfl (run_add rfl e1 e2 hsm) hg rfl
                            · have e1 : a.eval (.tmp 138) = .int .i64 ((at_ + j : Nat) : Int) := hdeps 14 (by kernel_rfl)
                              exact step_pure rfl rfl (run_rem8 rfl rfl e1 hsm) hg rfl
                            · have e1 : a.eval (.tmp 139) = .int .i64 (((at_ + j) % 8 : Nat) : Int) := hdeps 15 (by kernel_rfl)
                              exact step_pure rfl rfl (run_shl1 rfl rfl e1 (by omega)) hg rfl
                            · have e1 : a.eval (.tmp 135) = .int .u8 (old : Int) := hdeps 11 (by kernel_rfl)
                              have e2 : a.eval (.tmp 140) = .int .u8 ((2 ^ ((at_ + j) % 8) : Nat) : Int) := hdeps 16 (by kernel_rfl)
                              exact step_pure rfl rfl (run_xor8 rfl e1 e2 HNX.out) hg rfl
                            · have e1 : a.eval (.tmp 124) = .slice (some ⟨gb, 0, none⟩) k cT := hdeps 0 (by kernel_rfl)
                              have e2 : a.eval (.tmp 128) = .int .i64 (((at_ + j) / 8 : Nat) : Int) := hdeps 4 (by kernel_rfl)
                              exact step_pure rfl rfl (run_index rfl e1 e2 hp8) hg rfl
                            · have e1 : a.eval (.tmp 142) = .pointer (some ⟨gb, 0 + (at_ + j) / 8, none⟩) := hdeps 18 (by kernel_rfl)
                              have e2 : a.eval (.tmp 141) = .int .u8 (new : Int) := hdeps 17 (by kernel_rfl)
                              have hu' : OwnB x wc.heap.size (.slice (some ⟨gb, 0, none⟩) k cT) ts := hu
                              have hst := Owns.stored hu' (0 + (at_ + j) / 8) (new : Int)
                              rw [← ints_set] at hst
                              refine step_skip rfl rfl (run_store8 rfl e1 e2 (cellT x hu') (Owns.frozen hu' _)) (Keep.setCell hg (fun _ => rfl) _) ?_ ?_ ?_
                              · show OwnB _ _ _ ts'
                                rw [HTN.out]
                                rw [Nat.zero_add] at hst ⊢
                                exact hst
                              · intro i' u hi' hw hR
                                unfold R30 at hR ⊢
                                split at hR <;> first | exact hR | exact absurd rfl hi'
                              · intro i' hi' hw hU
                                unfold U30 at hU ⊢
                                split at hU
                                · exact absurd hw (by rw [show waits .any _ 19 11 = true from by kernel_rfl]; decide)
                                · exact absurd rfl hi'
                                · trivial
                          case hQ =>
                            intro a' x hput hg hR
                            have h19 : OwnB x wc.heap.size (.slice (some ⟨gb, 0, none⟩) k cT) ts' := hR 19 (by decide)
                            clear hR
                            have ed : a' = List.foldl (fun b d => b.put (some d) (a'.tmps.getD d undef)) _ [124, 125, 126, 127, 128, 129, 130, 131, 132, 133, 134, 135, 136, 137, 138, 139, 140, 141, 142] := hput
                            clear hput
                            simp only [List.foldl_cons, List.foldl_nil, Act.put, List.setIfInBounds_toArray, List.set_cons_zero, List.set_cons_succ] at ed
                            generalize a'.tmps.getD 124 undef = t124 at ed
                            generalize a'.tmps.getD 125 undef = t125 at ed
                            generalize a'.tmps.getD 126 undef = t126 at ed
                            generalize a'.tmps.getD 127 undef = t127 at ed
                            generalize a'.tmps.getD 128 undef = t128 at ed
                            generalize a'.tmps.getD 129 undef = t129 at ed
                            generalize a'.tmps.getD 130 undef = t130 at ed
                            generalize a'.tmps.getD 131 undef = t131 at ed
                            generalize a'.tmps.getD 132 undef = t132 at ed
                            generalize a'.tmps.getD 133 undef = t133 at ed
                            generalize a'.tmps.getD 134 undef = t134 at ed
                            generalize a'.tmps.getD 135 undef = t135 at ed
                            generalize a'.tmps.getD 136 undef = t136 at ed
                            generalize a'.tmps.getD 137 undef = t137 at ed
                            generalize a'.tmps.getD 138 undef = t138 at ed
                            generalize a'.tmps.getD 139 undef = t139 at ed
                            generalize a'.tmps.getD 140 undef = t140 at ed
                            generalize a'.tmps.getD 141 undef = t141 at ed
                            generalize a'.tmps.getD 142 undef = t142 at ed
                            subst ed
                            have HO19 : Hid (OwnB x wc.heap.size (.slice (some ⟨gb, 0, none⟩) k cT) ts') := h19
                            have HG19 : Hid (Keep (fun b => b = gb) y1 x) := hg
                            clear h19 hg cellT HNX HTN HOD HOT2
                            go_wp2_with fail
                            go_roundw
                            case rel => exact ⟨j + 1, by go_num, by omega, by rw [HTS'.out]; exact HO19.out, HG19.out⟩
                            case measure => simp [intOf]; omega
                        · rw [if_neg hbitj] at hms
                          have hb0 : q % 2 = 0 := by omega
                          rw [hb0] at hand
                          have HMS : Hid (mask % 2 ^ (j + 1) * 2 ^ at_ = mask % 2 ^ j * 2 ^ at_) := hms
                          have HO : Hid (OwnB wr wc.heap.size (.slice (some ⟨gb, 0, none⟩) k cT) (turned xs (mask % 2 ^ j * 2 ^ at_))) := hoT
                          have HKT : Hid (Keep (fun b => b = gb) y1 wr) := hkT
                          clear hms hoT hkT hqd
                          go_wp2_with fail
                          go_roundw
                          case rel => exact ⟨j + 1, by go_num, by omega, by rw [HMS.out]; exact HO.out, HKT.out⟩
                          case measure => simp [intOf]; omega
                      · obtain rfl : j = 32 := by omega
                        have hm32 : mask % 2 ^ 32 = mask := Nat.mod_eq_of_lt hmask
                        rw [hm32] at hoT
                        have hne := sum_turned xs at_ mask (by omega) hmask hm0
                        have hbt : AllB (turned xs (mask * 2 ^ at_)) := turned_bytes (mask * 2 ^ at_) bx
                        have htl : (turned xs (mask * 2 ^ at_)).length = k := by simp; exact hxl
                        generalize turned xs (mask * 2 ^ at_) = ts at *
                        have HOf : Hid (Bytes wr (some ⟨gb, 0, none⟩) ts) := Owns.seen_at hoT
                        have HXf : Hid (Bytes wr aX xs) := Seen.keep HXz.out hkT hXg
                        have hgpos : 0 < gb := by omega
                        have HTf : Hid (Tab wr) := HTz.out.keep hkT (by omega)
                        have HBf : Hid (Below w'.heap.size w' wr) := bkeep HBz.out hkT (Nat.le_refl _) (fun b q => by have : b = gb := q; have := HBw.out.size; omega)
                        have HNE : Hid (sumOf ts ≠ sumOf xs) := hne
                        clear hoT hkT hne
                        go_wp2_with fail
                        have P1 := parts_one wr (some ⟨gb, 0, none⟩) k cT ts htl.symm HOf.out hbt (by omega)
                        have A1 := alloc_below wr (.cells #[.slice (some ⟨gb, 0, none⟩) k cT] 29)
                        have K1 := sum_any [(.slice (some ⟨gb, 0, none⟩) k cT, ts)] _ 1 _ (Tab.below HTf.out A1) P1 (le_maxLen rfl) (by simpa [joined] using hbt)
                        have ej : joined [((.slice (some ⟨gb, 0, none⟩) k cT : Value), ts)] = ts := by simp [joined]
                        rw [ej] at K1
                        refine K1.mono ?_
                        clear K1 P1 ej
                        generalize wr.alloc (.cells #[.slice (some ⟨gb, 0, none⟩) k cT] 29) = y2 at *
                        rintro e y3 ⟨rfl, rfl⟩
                        go_wp2_with fail
                        have P2 := parts_one y3 aX k cX xs hxl.symm (Seen.below HXf.out A1) bx (by omega)
                        have A2 := alloc_below y3 (.cells #[.slice aX k cX] 29)
                        have K2 := sum_any [(.slice aX k cX, xs)] _ 1 _ (Tab.below (Tab.below HTf.out A1) A2) P2 (le_maxLen rfl) (by simpa [joined] using bx)
                        have ej : joined [((.slice aX k cX : Value), xs)] = xs := by simp [joined]
                        rw [ej] at K2
                        refine K2.mono ?_
                        clear K2 P2 ej
                        generalize y3.alloc (.cells #[.slice aX k cX] 29) = y4 at *
                        rintro e y5 ⟨rfl, rfl⟩
                        have hne' : (((sumOf ts : Nat) : Int) != ((sumOf xs : Nat) : Int)) = true := by
                          simp
                          intro q
                          exact HNE.out (by exact_mod_cast q)
                        go_wp2_with fail
                        go_ret
                        exact ⟨rfl, bnext (bnext (bnext B1 HBf.out (Nat.le_refl _)) A1 (Nat.le_refl _)) A2 (Nat.le_refl _)⟩
end Go.Proofs.YtllpfojkbeloeaaDoor
