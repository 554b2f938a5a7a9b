import Derived.Test.YtadppakflbilcaaRm8
namespace Go.Proofs.Ytadppakflbilcaa
open Go.RowKit Go.QK Go.Maps Go.QM Go.QR
set_option maxRecDepth 100000
/-- A kind of rows: the slice's type, the element's, its zero, so many cells, so many bytes. -/
structure RowT (t e : TypeId) (z : Value) (size bytes : Nat) : Prop where
  u : Try.prog.underlying t = some (.slice e)
  i : (Try.prog.info? e).map (fun i => (i.zero, i.size, i.bytes)) = some (some z, size, bytes)
  z : z.cells.size = size
  s : 0 < size
  b : bytes ≤ 100
  sz : ∀ w, (Go.sizeOf e).run Try.prog w = .ok size w
theorem row37 : RowT 37 3 (.int .i64 0) 1 8 := ⟨Try.underlying37, by kernel_rfl, rfl, by decide, by decide, Try.sizeOf3⟩
theorem row30 : RowT 30 39 (.agg #[.int .i64 0, .slice none 0 0, .bool false, .bool false]) 4 40 := ⟨Try.underlying30, by kernel_rfl, rfl, by decide, by decide, Try.sizeOf39⟩
theorem row76 : RowT 76 80 (.agg #[.int .i64 0, .int .i64 0, .slice none 0 0]) 3 40 := ⟨Try.underlying76, by kernel_rfl, rfl, by decide, by decide, Try.sizeOf80⟩
section
variable {t e : TypeId} {z : Value} {size bytes : Nat}
theorem RowT.app (R : RowT t e z size bytes) (ty : TypeId) (x : World) (B : Nat) (v : Value) (n : Nat) (xs : List Value) (hown : GRow x B e size v n xs) (ax : Option Addr) (m c : Nat) (news : List Value) (hl : news.length = m * size) (hnews : Lies x ax news) (h1 : ∀ u ∈ news, u.oneCell' = true) (hnil : ax = none → m = 0 ∧ c = 0) (h63 : n + m ≤ 2000000) (hB : B ≤ x.heap.size) :
    ∃ v' x', (Builtin.append_ #[t, t] ty #[v, .slice ax m c]).run Try.prog x = .ok v' x' ∧ GRow x' B e size v' (n + m) (xs ++ news) ∧ x.grownBy x' v.ownBlock ∧ (v'.ownBlock = v.ownBlock ∨ v'.ownBlock = some x.heap.size) := by
  cases ax with
  | none =>
    obtain ⟨rfl, rfl⟩ := hnil rfl
    have e0 : news = [] := List.eq_nil_of_length_eq_zero (by omega)
    subst e0
    obtain ⟨i0, hi, h0, h2, h3⟩ := info_of R.i
    exact ⟨v, x, run_append_owned_none (P := Try.prog) (w := x) B t ty e i0 size R.u hi v n xs hown, by simpa using hown, World.grownBy.refl _ _, .inl rfl⟩
  | some ad => exact run_pushR R.u R.i R.z R.s R.b ty x B v n xs hown ad m c news hl hnews h1 h63 hB
theorem RowT.to (R : RowT t e z size bytes) (ad : Addr) (n cap k : Nat) (w : World) (h : k ≤ n) (h2 : n ≤ cap) : (Instr.slice t (.slice (some ad) n cap) none (some (.int .i64 k)) none).run Try.prog w = .ok (.slice (some ad) k cap) w := by
  have h3 : k ≤ cap := by omega
  have ht := R.u
  have hz := R.sz
  go_simp
def dropS (ad : Addr) (cap k size : Nat) : Addr := if cap = k then ad else ad.add (k * size)
theorem RowT.from (R : RowT t e z size bytes) (ad : Addr) (n cap k : Nat) (w : World) (h : k ≤ n) (h2 : n ≤ cap) : (Instr.slice t (.slice (some ad) n cap) (some (.int .i64 k)) none none).run Try.prog w = .ok (.slice (some (dropS ad cap k size)) (n - k) (cap - k)) w := by
  have ht := R.u
  have hz := R.sz
  unfold dropS
  by_cases q : cap = k
  · subst q
    have hn : n = cap := by omega
    subst hn
    go_simp
  · have q' : ¬ k = cap := fun r => q r.symm
    rw [if_neg q]
    go_simp
end
theorem lies_take {w : World} {a : Option Addr} {cs : List Value} (h : Lies w a cs) (n : Nat) : Lies w a (cs.take n) := by
  rcases h with rfl | ⟨b, off, ha, hlt, hc⟩
  · exact .inl (by simp)
  · refine .inr ⟨b, off, ha, hlt, fun i hi => ?_⟩
    rw [hc i (by simp at hi; omega)]
    simp
theorem lies_dropS {w : World} {ad : Addr} {cs : List Value} (h : Lies w (some ad) cs) {cap k size n : Nat} (hl : cs.length = n * size) (hn : n ≤ cap) : Lies w (some (dropS ad cap k size)) (cs.drop (k * size)) := by
  by_cases q : n ≤ k
  · have : n * size ≤ k * size := Nat.mul_le_mul_right _ q
    exact .inl (List.drop_eq_nil_of_le (by omega))
  · unfold dropS
    rw [if_neg (by omega)]
    rcases h with rfl | ⟨b, off, ha, hlt, hc⟩
    · exact .inl (by simp)
    · cases ha
      refine .inr ⟨b, off + k * size, by simp [addr_add], hlt, fun i hi => ?_⟩
      have := hc (k * size + i) (by simp at hi; omega)
      rw [← Nat.add_assoc] at this
      rw [this]
      simp
/-- 'var l; l = append(l, v[:i]...); append(l, v[i+1:]...)': a new row without the element at i. -/
theorem RowT.cut {t e : TypeId} {z : Value} {size bytes : Nat} (R : RowT t e z size bytes) (x : World) (B : Nat) (g n cap : Nat) (xs : List Value) (hown : GRow x B e size (.slice (some ⟨g, 0, none⟩) n cap) n xs) (h1 : ∀ u ∈ xs, u.oneCell' = true) (i : Nat) (hi : i < n) (h63 : n ≤ 1000000) (ty : TypeId) :
    ∃ v1 x1 v2 x2, (Builtin.append_ #[t, t] ty #[.slice none 0 0, .slice (some ⟨g, 0, none⟩) i cap]).run Try.prog x = .ok v1 x1 ∧ Below x.heap.size x x1 ∧
      (Builtin.append_ #[t, t] ty #[v1, .slice (some (dropS ⟨g, 0, none⟩ cap (i + 1) size)) (n - (i + 1)) (cap - (i + 1))]).run Try.prog x1 = .ok v2 x2 ∧ Below x.heap.size x x2 ∧
      GRow x2 x.heap.size e size v2 (n - 1) (xs.take (i * size) ++ xs.drop ((i + 1) * size)) := by
  have hlen := hown.1
  obtain ⟨a, c, e1, hl, hnc, _, _, _⟩ := GRow.lies hown
  cases e1
  have hin : i * size ≤ n * size := Nat.mul_le_mul_right _ (by omega)
  obtain ⟨v1, x1, r1, g1, gr1, o1⟩ := R.app ty x x.heap.size (.slice none 0 0) 0 [] (World.ownsRow_nil _ _ _ _) (some ⟨g, 0, none⟩) i cap (xs.take (i * size)) (by simp; omega) (lies_take hl _) (fun u hu => h1 u (List.mem_of_mem_take hu)) nofun (by omega) (Nat.le_refl _)
  have b1 : Below x.heap.size x x1 := (Below.refl _ _).grown gr1 (Nat.le_refl _) (by nofun)
  have hl1 : Lies x1 (some ⟨g, 0, none⟩) xs := hl.below b1
  have e2 : n * size = (i + 1) * size + (n - (i + 1)) * size := by rw [← Nat.add_mul]; congr 1; omega
  obtain ⟨v2, x2, r2, g2, gr2, o2⟩ := R.app ty x1 x.heap.size v1 (0 + i) ([] ++ xs.take (i * size)) g1 (some (dropS ⟨g, 0, none⟩ cap (i + 1) size)) (n - (i + 1)) (cap - (i + 1)) (xs.drop ((i + 1) * size)) (by simp; omega) (lies_dropS hl1 hlen hnc) (fun u hu => h1 u (List.mem_of_mem_drop hu)) nofun (by omega) b1.size
  have b2 : Below x.heap.size x x2 := b1.grown gr2 b1.size (fun k hk => (World.ownsRow.lt g1 k hk).1)
  refine ⟨v1, x1, v2, x2, r1, b1, r2, b2, ?_⟩
  have e3 : 0 + i + (n - (i + 1)) = n - 1 := by omega
  rw [e3] at g2
  simpa using g2
theorem owns_parts {w : World} {B : Nat} {v : Value} {xs : List Int} (h : Owns .i64 3 w B v xs) (hn : 0 < xs.length) : ∃ g cap, v = .slice (some ⟨g, 0, none⟩) xs.length cap ∧ xs.length ≤ cap ∧ g < w.heap.size := by
  obtain ⟨g, cap, h1, h2, _, h3⟩ := h.form hn
  exact ⟨g, cap, h1, h2, h3⟩
theorem int_one (xs : List Int) : ∀ u ∈ xs.map (Value.int .i64), u.oneCell' = true := by
  intro u hu
  simp at hu
  obtain ⟨_, _, rfl⟩ := hu
  rfl
set_option maxHeartbeats 1000000 in
theorem bwithout_any (B : Nat) (v : Value) (xs : List Int) (k : Nat) (w : World) (h : Owns .i64 3 w B v xs) (hk : k < xs.length) (hl : xs.length ≤ 1000) : Calls Try.prog 29 #[v, .int .i64 (k : Int)] w fun r w' => ∃ v', r = .returned v' ∧ Owns .i64 3 w' w.heap.size v' (xs.take k ++ xs.drop (k + 1)) ∧ Below w.heap.size w w' := by
  obtain ⟨g, cap, rfl, hc, hg⟩ := owns_parts h (by omega)
  obtain ⟨v1, w1, v2, w2, r1, b1, r2, b2, g2⟩ := row37.cut w B g xs.length cap _ h (int_one xs) k hk (by omega) 37
  have s1 := fun wq => row37.to ⟨g, 0, none⟩ xs.length cap k wq (by omega) hc
  have s2 := fun wq => row37.from ⟨g, 0, none⟩ xs.length cap (k + 1) wq (by omega) hc
  have c1 : (((k + 1 : Nat)) : Int) = (k : Int) + 1 := by omega
  rw [c1] at s2
  have hw : wrap64 ((k : Int) + 1) = (k : Int) + 1 := wrapI (by unfold I64; omega)
  have FIN := hide (show Owns .i64 3 w2 w.heap.size v2 (xs.take k ++ xs.drop (k + 1)) ∧ Below w.heap.size w w2 from ⟨by
    unfold Owns
    have e1 : (xs.take k ++ xs.drop (k + 1)).length = xs.length - 1 := by simp; omega
    rw [e1, List.map_append, List.map_take, List.map_drop]
    simpa using g2, b2⟩)
  clear h b1 b2 g2 c1
  generalize xs.length = n at *
  generalize dropS ⟨g, 0, none⟩ cap (k + 1) 1 = ad at *
  go_enter Try.func29, Try.ntmps29
  go_wp2_with (at_builtin; first | refine wpList_run rfl (.tmp 6) (.tmp 9) rfl rfl rfl r1 ?_ | refine wpList_run rfl (.tmp 11) (.tmp 15) rfl rfl rfl r2 ?_)
  go_ret
  exact ⟨v2, rfl, FIN.out⟩
set_option maxHeartbeats 1000000 in
theorem rwithout_any (B : Nat) (v : Value) (xs : List Int) (k : Nat) (w : World) (h : Owns .i64 3 w B v xs) (hk : k < xs.length) (hl : xs.length ≤ 1000) : Calls Try.prog 45 #[v, .int .i64 (k : Int)] w fun r w' => ∃ v', r = .returned v' ∧ Owns .i64 3 w' w.heap.size v' (xs.take k ++ xs.drop (k + 1)) ∧ Below w.heap.size w w' := by
  obtain ⟨g, cap, rfl, hc, hg⟩ := owns_parts h (by omega)
  obtain ⟨v1, w1, v2, w2, r1, b1, r2, b2, g2⟩ := row37.cut w B g xs.length cap _ h (int_one xs) k hk (by omega) 37
  have s1 := fun wq => row37.to ⟨g, 0, none⟩ xs.length cap k wq (by omega) hc
  have s2 := fun wq => row37.from ⟨g, 0, none⟩ xs.length cap (k + 1) wq (by omega) hc
  have c1 : (((k + 1 : Nat)) : Int) = (k : Int) + 1 := by omega
  rw [c1] at s2
  have hw : wrap64 ((k : Int) + 1) = (k : Int) + 1 := wrapI (by unfold I64; omega)
  have FIN := hide (show Owns .i64 3 w2 w.heap.size v2 (xs.take k ++ xs.drop (k + 1)) ∧ Below w.heap.size w w2 from ⟨by
    unfold Owns
    have e1 : (xs.take k ++ xs.drop (k + 1)).length = xs.length - 1 := by simp; omega
    rw [e1, List.map_append, List.map_take, List.map_drop]
    simpa using g2, b2⟩)
  clear h b1 b2 g2 c1
  generalize xs.length = n at *
  generalize dropS ⟨g, 0, none⟩ cap (k + 1) 1 = ad at *
  go_enter Try.func45, Try.ntmps45
  go_wp2_with (at_builtin; first | refine wpList_run rfl (.tmp 6) (.tmp 9) rfl rfl rfl r1 ?_ | refine wpList_run rfl (.tmp 11) (.tmp 15) rfl rfl rfl r2 ?_)
  go_ret
  exact ⟨v2, rfl, FIN.out⟩
set_option maxHeartbeats 1000000 in
theorem rholds_any (B : Nat) (t : Tx) (v : Value) (x : Int) (w : World) (h : Owns .i64 3 w B v t.hs) (hl : t.hs.length ≤ 1000000) : Calls Try.prog 44 #[.agg #[.int .i64 t.n, .int .i64 t.st, v], .int .i64 x] w fun r w' => r = .returned (.int .i64 (placeI (t.hs.findIdx? (fun z => z == x)))) ∧ Below w.heap.size w w' := by
  obtain ⟨a, c, rfl, hs, -⟩ := h.seen
  have b1 := alloc_below w (.cells #[.int .i64 t.n, .int .i64 t.st, .slice a t.hs.length c] 80)
  have hs := hs.below b1
  have c1 := Cells.new w #[.int .i64 t.n, .int .i64 t.st, .slice a t.hs.length c] 80
  obtain ⟨k2, -⟩ := c1.get 2 _ rfl
  obtain ⟨R, hR⟩ : ∃ R, R = placeI (t.hs.findIdx? (fun z => z == x)) := ⟨_, rfl⟩
  rw [← hR]
  have HR := hide hR
  have HS := hide hs
  have BB := hide b1
  clear h hR hs c1 b1
  generalize t.hs = xs at *
  go_enter Try.func44, Try.ntmps44
  go_wp2
  refine named (P := Code.wp _ _ _ _) ?_
  intro w1 hw1
  rw [← hw1] at k2 HS BB
  clear hw1
  go_loop [5] (fun vi => ∃ k : Nat, vi = .int .i64 (k : Int) ∧ k ≤ xs.length ∧ ∀ j (hj : j < xs.length), j < k → (xs[j] == x) = false) (fun vi => xs.length - (intOf vi).toNat)
  case atStart => exact ⟨0, rfl, Nat.zero_le _, fun j _ q => by omega⟩
  case round =>
    obtain ⟨k, rfl, hk, hall⟩ := hrel
    have HA := hide hall
    clear hall
    by_cases hlt : k < xs.length
    · rcases HS.out with q | ⟨g, off, rfl, hg, hc⟩
      · rw [q] at hlt; simp at hlt
      have p0 := hc k hlt
      clear hc
      by_cases he : xs[k] = x
      · have d : (xs[k] == x) = true := by simpa using he
        have E : R = (k : Int) := by rw [HR.out, idx_some hlt d (fun j hj q => HA.out j hj q)]; rfl
        subst E
        clear he HR
        generalize xs[k] = z at *
        go_wp2
        go_ret
        exact ⟨rfl, BB.out⟩
      · have d : (xs[k] == x) = false := by simpa using he
        have D := hide d
        clear he
        generalize hz : xs[k] = z at *
        have HZ := hide hz
        clear hz
        go_wp2
        go_round
        case rel =>
          have key : ∀ j (hj : j < xs.length), j < k + 1 → (xs[j] == x) = false := fun j hj q => by
            by_cases e : j = k
            · subst e; rw [HZ.out]; exact D.out
            · exact HA.out j hj (by omega)
          first | exact ⟨k + 1, by go_num, by omega, key⟩ | ((repeat apply Exists.intro); exact ⟨⟨k + 1, by go_num, by omega, key⟩, rfl⟩)
        case measure => simp [intOf]; omega
    · have E : R = -1 := by rw [HR.out, idx_no (fun j hj => HA.out j hj (by omega))]; rfl
      subst E
      clear HR
      go_wp2
      go_ret
      exact ⟨rfl, BB.out⟩
set_option maxHeartbeats 1000000 in
theorem rpromised_any (t : Tx) (a : Option Addr) (c : Nat) (w : World) (h : t.Ok) : Calls Try.prog 46 #[.agg #[.int .i64 t.n, .int .i64 t.st, .slice a t.hs.length c]] w fun r w' => r = .returned (.int .i64 t.owes) ∧ Below w.heap.size w w' := by
  have b1 := alloc_below w (.cells #[.int .i64 t.n, .int .i64 t.st, .slice a t.hs.length c] 80)
  have few := h.few
  have hst := h.st
  unfold Tx.owes
  clear h
  generalize t.hs.length = n at *
  generalize t.n = tn at *
  generalize t.st = s at *
  rcases hst with rfl | rfl | rfl
  · simp only [show ¬ ((0 : Int) = 1) by decide, show ¬ ((0 : Int) = 2) by decide, if_false]
    go_enter Try.func46, Try.ntmps46
    go_wp2
    go_ret
    exact ⟨rfl, b1⟩
  · simp only [if_true]
    go_enter Try.func46, Try.ntmps46
    go_wp2
    go_ret
    exact ⟨rfl, b1⟩
  · simp only [show ¬ ((2 : Int) = 1) by decide, if_false, if_true]
    go_enter Try.func46, Try.ntmps46
    go_wp2
    go_ret
    exact ⟨rfl, b1⟩
set_option maxHeartbeats 1000000 in
theorem bowes_any (t : Tx) (a : Option Addr) (c : Nat) (w : World) (h : t.Ok) : Calls Try.prog 18 #[.agg #[.int .i64 t.n, .slice a t.hs.length c, .bool (t.st == 1), .bool (t.st == 2)]] w fun r w' => r = .returned (.int .i64 t.owes) ∧ Below w.heap.size w w' := by
  have b1 := alloc_below w (.cells #[.int .i64 t.n, .slice a t.hs.length c, .bool (t.st == 1), .bool (t.st == 2)] 39)
  have few := h.few
  have hst := h.st
  unfold Tx.owes
  clear h
  generalize t.hs.length = n at *
  generalize t.n = tn at *
  generalize t.st = s at *
  rcases hst with rfl | rfl | rfl
  · simp only [show ¬ ((0 : Int) = 1) by decide, show ¬ ((0 : Int) = 2) by decide, if_false]
    go_enter Try.func18, Try.ntmps18
    go_wp2
    go_ret
    exact ⟨rfl, b1⟩
  · simp only [if_true]
    go_enter Try.func18, Try.ntmps18
    go_wp2
    go_ret
    exact ⟨rfl, b1⟩
  · simp only [show ¬ ((2 : Int) = 1) by decide, if_false, if_true]
    go_enter Try.func18, Try.ntmps18
    go_wp2
    go_ret
    exact ⟨rfl, b1⟩
end Go.Proofs.Ytadppakflbilcaa
