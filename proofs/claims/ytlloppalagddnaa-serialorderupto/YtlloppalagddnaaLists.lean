import Derived.Test.YtlloppalagddnaaMath
namespace Quota

def isum : List Int → Int
  | [] => 0
  | x :: r => x + isum r

theorem isum_append (a b : List Int) : isum (a ++ b) = isum a + isum b := by
  induction a with
  | nil => simp [isum]
  | cons x r ih => simp only [List.cons_append, isum, ih]; omega

theorem isum_take (xs : List Int) (k : Nat) (h : k < xs.length) : isum (xs.take (k + 1)) = isum (xs.take k) + xs[k] := by
  rw [List.take_succ_eq_append_getElem h, isum_append]; simp [isum]

def All (xs : List Int) : Prop := ∀ x ∈ xs, I64 x

theorem all_take {xs : List Int} (h : All xs) (k : Nat) : All (xs.take k) := fun x hx => h x (List.mem_of_mem_take hx)
theorem all_drop {xs : List Int} (h : All xs) (k : Nat) : All (xs.drop k) := fun x hx => h x (List.mem_of_mem_drop hx)
theorem all_app {xs ys : List Int} (h : All xs) (k : All ys) : All (xs ++ ys) := fun x hx => by
  rcases List.mem_append.1 hx with a | a
  · exact h x a
  · exact k x a
theorem all_get {xs : List Int} (h : All xs) (k : Nat) (hk : k < xs.length) : I64 xs[k] := h _ (List.getElem_mem hk)

theorem isum_bd (xs : List Int) (h : All xs) : -(9223372036854775808 * (xs.length : Int)) ≤ isum xs ∧ isum xs ≤ 9223372036854775808 * (xs.length : Int) := by
  induction xs with
  | nil => simp [isum]
  | cons x r ih =>
    have hx := h x (by simp)
    have hr := ih (fun y hy => h y (by simp [hy]))
    unfold I64 at hx
    simp only [isum, List.length_cons]
    omega

theorem isum_128 (xs : List Int) (h : All xs) (hl : xs.length ≤ 17592186044416) : I128 (isum xs) := by
  have := isum_bd xs h
  unfold I128
  omega

/-- The sum of those below 0, and of those that are not. -/
def lows : List Int → Int
  | [] => 0
  | x :: r => (if x < 0 then x else 0) + lows r
def highs : List Int → Int
  | [] => 0
  | x :: r => (if x < 0 then 0 else x) + highs r

theorem lows_append (a b : List Int) : lows (a ++ b) = lows a + lows b := by
  induction a with
  | nil => simp [lows]
  | cons x r ih => simp only [List.cons_append, lows, ih]; omega
theorem highs_append (a b : List Int) : highs (a ++ b) = highs a + highs b := by
  induction a with
  | nil => simp [highs]
  | cons x r ih => simp only [List.cons_append, highs, ih]; omega

theorem lows_neg (xs : List Int) (k : Nat) (h : k < xs.length) (hn : xs[k] < 0) : lows (xs.take (k + 1)) = lows (xs.take k) + xs[k] ∧ highs (xs.take (k + 1)) = highs (xs.take k) := by
  rw [List.take_succ_eq_append_getElem h, lows_append, highs_append]; simp [lows, highs, hn]
theorem lows_pos (xs : List Int) (k : Nat) (h : k < xs.length) (hn : ¬ xs[k] < 0) : lows (xs.take (k + 1)) = lows (xs.take k) ∧ highs (xs.take (k + 1)) = highs (xs.take k) + xs[k] := by
  rw [List.take_succ_eq_append_getElem h, lows_append, highs_append]; simp only [lows, highs, if_neg hn]; omega

theorem lows_bd (xs : List Int) (h : All xs) : -(9223372036854775808 * (xs.length : Int)) ≤ lows xs ∧ lows xs ≤ 0 ∧ 0 ≤ highs xs ∧ highs xs ≤ 9223372036854775808 * (xs.length : Int) := by
  induction xs with
  | nil => simp [lows, highs]
  | cons x r ih =>
    have hx := h x (by simp)
    have hr := ih (fun y hy => h y (by simp [hy]))
    unfold I64 at hx
    simp only [lows, highs, List.length_cons]
    split <;> omega

theorem worst_128 (b : Int) (xs : List Int) (hb : I64 b) (h : All xs) (hl : xs.length ≤ 17592186044416) : I128 (b + lows xs) ∧ I128 (b + highs xs) := by
  have := lows_bd xs h
  unfold I64 at hb
  unfold I128
  omega

def okW (b : Int) (xs : List Int) : Bool := fitB (b + lows xs) && fitB (b + highs xs)
def loW (b : Int) (xs : List Int) : Int := if okW b xs then b + lows xs else 0
def hiW (b : Int) (xs : List Int) : Int := if okW b xs then b + highs xs else 0
def erW (b : Int) (xs : List Int) : Int := if okW b xs then 0 else 10
end Quota
