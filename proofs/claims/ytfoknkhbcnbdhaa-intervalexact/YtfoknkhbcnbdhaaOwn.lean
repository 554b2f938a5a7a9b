import Derived.Test.YtfoknkhbcnbdhaaTurns
import Derived.Laws.AppendOwnNone
namespace Go.Proofs.Ytfoknkhbcnbdhaa
open Go.RowKit Quota

theorem info2 : (Try.prog.info? 2).map (fun i => (i.zero, i.size, i.bytes)) = some (some (.int .i64 0), 1, 8) := by kernel_rfl

/-- The slice value v is the program's own, and holds the numbers xs. -/
def Owns (w : World) (B : Nat) (v : Value) (xs : List Int) : Prop := w.ownsRow B 2 1 v xs.length (xs.map (Value.int .i64))

theorem Owns.nil (w : World) (B : Nat) : Owns w B (.slice none 0 0) [] := World.ownsRow_nil _ _ _ _
theorem Owns.alloc {w : World} {B : Nat} {v : Value} {xs : List Int} (h : Owns w B v xs) (o : Obj) : Owns (w.alloc o) B v xs := World.ownsRow.alloc h o

theorem addr_add (b off i : Nat) : (⟨b, off, none⟩ : Addr).add i = ⟨b, off + i, none⟩ := by
  simp only [Addr.add]
  split
  · simp_all
  · rfl

/-- An owned slice is one whose numbers are seen. -/
theorem Owns.seen {w : World} {B : Nat} {v : Value} {xs : List Int} (h : Owns w B v xs) : ∃ a cap, v = .slice a xs.length cap ∧ Seen w a xs ∧ (a = none → cap = 0) ∧ xs.length ≤ cap := by
  rcases h.2 with ⟨rfl, hn⟩ | ⟨g, cap, cur, rfl, hb, hg, hle, hm, hs, ht⟩
  · have : xs = [] := List.eq_nil_of_length_eq_zero hn
    subst this
    exact ⟨none, 0, rfl, .inl rfl, fun _ => rfl, Nat.le_refl _⟩
  · refine ⟨_, cap, rfl, .inr ⟨g, 0, rfl, ?_, ?_⟩, nofun, hle⟩
    · exact (World.ownsRow.lt h g rfl).2
    · intro i hi
      have := World.ownsRow.cells h (g := g) rfl i (.int .i64 xs[i]) (by simp [hi])
      rw [addr_add] at this
      exact this

/-- The one element that an append lays in a block of its own. -/
theorem Seen.one (w : World) (x : Int) (t : TypeId) : Seen (w.alloc (.cells #[.int .i64 x] t)) (some ⟨w.heap.size, 0, none⟩) [x] := by
  refine .inr ⟨w.heap.size, 0, rfl, by simp, ?_⟩
  intro i hi
  obtain rfl : i = 0 := by simp at hi; omega
  simp [go_sem]

/-- 'append(v, x...)' onto a slice of the program's own. -/
theorem append_own {w : World} {ops : Array Oper} {rest : List Oper} {o : Oper} {a : Act} {Q : Exit → Act → World → Prop} (hgd : o.guard = none) (s x : Operand)
    (ho : o.op = .call { callee := .builtin .append, args := #[s, x], argTypes := #[35, 35] })
    (B : Nat) (v : Value) (xs : List Int) (hs : a.eval s = v) (hown : Owns w B v xs) (ax : Option Addr) (n c : Nat) (ys : List Int) (hyn : ys.length = n) (hx : a.eval x = .slice ax n c) (hseen : Seen w ax ys) (hnil : ax = none → c = 0)
    (hlen : xs.length + ys.length ≤ 1000000) (hB : B ≤ w.heap.size)
    (h : ∀ v' w', Owns w' B v' (xs ++ ys) → w.grownBy w' v.ownBlock → wpList Try.prog ops Q rest (a.put o.dst v') w') : wpList Try.prog ops Q (o :: rest) a w := by
  obtain ⟨i0, hi, hz0, hz1, hz2⟩ := info_parts info2
  subst hyn
  cases ax with
  | none =>
    have hc := hnil rfl
    subst hc
    rcases hseen with rfl | ⟨b, off, hn, _⟩
    · refine wpList_append_own_none hgd s x 35 ho B 2 i0 1 Try.underlying35 hi v xs.length _ hs hown hx ?_
      exact h v w (by simpa using hown) (World.grownBy.refl _ _)
    · cases hn
  | some ad =>
    refine wpList_append_own w hgd s x 35 ho B 2 i0 (.int .i64 0) 1 8 Try.underlying35 hi hz0 hz1 hz2 rfl (by decide) v xs.length _ hs hown ad ys.length c (ys.map (Value.int .i64)) hx (by simp) ?_ ?_ ?_ ?_ hB ?_
    · intro j u hj
      rcases hseen with rfl | ⟨b, off, hn, hlt, hc⟩
      · simp at hj
      · cases hn
        simp at hj
        obtain ⟨q, hq, rfl⟩ := hj
        obtain ⟨hjl, hq'⟩ := List.getElem?_eq_some_iff.1 hq
        rw [addr_add, hc j hjl, hq']
    · intro u hu
      simp at hu
      obtain ⟨q, _, rfl⟩ := hu
      rfl
    · unfold maxLen; omega
    · omega
    · intro v' w' h1 h2 _
      exact h v' w' (by unfold Owns; simpa using h1) h2

theorem grown_below {w w' : World} {B : Nat} {v : Value} {xs : List Int} (hown : Owns w B v xs) (hB : B ≤ w.heap.size) (hg : w.grownBy w' v.ownBlock) : Below B w w' :=
  (Below.refl _ _).grown hg hB (fun j hj => (World.ownsRow.lt hown j hj).1)

set_option maxHeartbeats 400000 in
theorem cut_any (a : Option Addr) (len cap n : Nat) (w : World) (hl : len ≤ cap) (hn : a = none → len = 0) (_hb : cap ≤ maxLen) (_hn2 : n ≤ 1000000) :
    Calls Try.prog 17 #[.slice a len cap, .int .i64 n] w fun e w' => e = .returned (.slice a (min len n) cap) ∧ w = w' := by
  unfold maxLen at _hb
  by_cases h : n < len
  · have hm : min len n = n := by omega
    have hnc : n ≤ cap := by omega
    rw [hm]
    cases a with
    | none => have := hn rfl; omega
    | some x =>
      go_enter Try.func17, Try.ntmps17
      go_wp2
      go_ret
      exact ⟨rfl, rfl⟩
  · have hm : min len n = len := by omega
    rw [hm]
    go_enter Try.func17, Try.ntmps17
    go_wp2
    go_ret
    exact ⟨rfl, rfl⟩

theorem cut_at (a : Option Addr) (len cap n : Nat) (ni : Int) (w : World) (e : ni = (n : Int)) (hl : len ≤ cap) (hn : a = none → len = 0) (hb : cap ≤ maxLen) (hn2 : n ≤ 1000000) :
    Calls Try.prog 17 #[.slice a len cap, .int .i64 ni] w fun e w' => e = .returned (.slice a (min len n) cap) ∧ w = w' := by
  subst e
  exact cut_any a len cap n w hl hn hb hn2

theorem tmod_bd (x n : Int) (h : 1 ≤ n) : -n < x.tmod n ∧ x.tmod n < n :=
  ⟨Int.lt_tmod_of_pos x (by omega), Int.tmod_lt_of_pos x (by omega)⟩

set_option maxHeartbeats 400000 in
theorem brought_any (x n : Int) (w : World) (hn1 : 1 ≤ n) (hn2 : n ≤ 1000000) :
    Calls Try.prog 21 #[.int .i64 x, .int .i64 n] w fun e w' => ∃ r : Int, 0 ≤ r ∧ r < n ∧ e = .returned (.int .i64 r) ∧ w = w' := by
  obtain ⟨b1, b2⟩ := tmod_bd x n hn1
  by_cases h : x.tmod n < 0
  · go_enter Try.func21, Try.ntmps21
    go_wp2
    go_ret
    exact ⟨_, by omega, by omega, rfl, rfl⟩
  · go_enter Try.func21, Try.ntmps21
    go_wp2
    go_ret
    exact ⟨_, by omega, by omega, rfl, rfl⟩

theorem drop_rev (xs : List Int) (k : Nat) (h : k < xs.length) : (xs.drop k).reverse = (xs.drop (k + 1)).reverse ++ [xs[k]] := by
  rw [List.drop_eq_getElem_cons h]; simp

set_option maxHeartbeats 400000 in
theorem turned_any (xs : List Int) (a : Option Addr) (cap : Nat) (w : World) (hs : Seen w a xs) (hl : xs.length ≤ 100000) :
    Calls Try.prog 19 #[.slice a xs.length cap] w fun e w' => ∃ v, e = .returned v ∧ Owns w' w.heap.size v xs.reverse ∧ Below w.heap.size w w' := by
  go_enter Try.func19, Try.ntmps19
  go_wp2_with fail
  go_loopw [3, 4] (fun v i wr => ∃ k : Nat, k ≤ xs.length ∧ i = .int .i64 ((k : Int) - 1) ∧ Owns wr w.heap.size v (xs.drop k).reverse ∧ Below w.heap.size w wr) (fun _ i _ => (intOf i + 1).toNat)
  case atStart =>
    refine ⟨xs.length, Nat.le_refl _, rfl, ?_, Below.refl _ _⟩
    rw [List.drop_length]
    exact Owns.nil _ _
  case round =>
    obtain ⟨k, hk, rfl, hown, hb⟩ := hrel
    by_cases hlt : 0 < k
    · obtain ⟨m, rfl⟩ : ∃ m, k = m + 1 := ⟨k - 1, by omega⟩
      have HD : Hid _ := drop_rev xs m (by omega)
      have ei : (((m + 1 : Nat) : Int) - 1) = (m : Int) := by omega
      rw [ei]
      clear ei
      rcases hs.below hb with hn | ⟨b, off, rfl, hbl, hcell⟩
      · simp [hn] at hk
      · have hck := hcell m (by omega)
        have hm : m < xs.length := by omega
        have hne : ¬ ((m : Int) < 0) := by omega
        clear hcell
        generalize xs[m] = x at *
        have hll : (xs.drop (m + 1)).reverse.length ≤ 100000 := by simp; omega
        have hsz := hb.size
        have HO : Hid (Owns wr w.heap.size u3 (xs.drop (m + 1)).reverse) := hown
        clear hown
        go_wp2_with (at_builtin; refine append_own rfl (.tmp 12) (.tmp 17) rfl w.heap.size _ (xs.drop (m + 1)).reverse rfl (HO.out.alloc _) (some ⟨wr.heap.size, 0, none⟩) 1 1 [x] rfl rfl ?c1 nofun ?c3 ?c4 ?_)
        case c1 => exact Seen.one _ _ _
        case c3 => simp at hll ⊢; omega
        case c4 => omega
        intro v' w1 hown' hgrow
        have R1 : Below w.heap.size w w1 := (hb.alloc hsz _).grown hgrow (by simp; omega) (fun j hj => (World.ownsRow.lt HO.out j hj).1)
        clear hgrow
        rw [← HD.out] at hown'
        have HO' : Hid (Owns w1 w.heap.size v' (xs.drop m).reverse) := hown'
        clear hown' HO HD hck
        go_wp2_with fail
        go_roundw
        case rel => exact ⟨m, by omega, by go_num, HO'.out, R1⟩
        case measure => simp [intOf]
    · obtain rfl : k = 0 := by omega
      go_wp2_with fail
      go_ret
      exact ⟨_, rfl, by simpa using hown, hb⟩
end Go.Proofs.Ytfoknkhbcnbdhaa
