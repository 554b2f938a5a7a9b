import Derived.Test.YtadppakflbilcaaRm7
namespace Go.Proofs.Ytadppakflbilcaa
open Go.RowKit Go.QK Go.Maps Go.QM Go.QR
set_option maxRecDepth 100000

/-! A list of transactions in memory, by its layout: a row of structs, each with a slice of its own. -/
structure Lay where
  f : Tx → Value → List Value
  sz : Nat
  e : TypeId
def bookL : Lay := ⟨fun t v => [.int .i64 t.n, v, .bool (t.st == 1), .bool (t.st == 2)], 4, 39⟩
def refL : Lay := ⟨fun t v => [.int .i64 t.n, .int .i64 t.st, v], 3, 80⟩
structure Lay.Good (y : Lay) : Prop where
  len : ∀ t v, (y.f t v).length = y.sz
  pos : 0 < y.sz
  one : ∀ t a n c, ∀ u ∈ y.f t (.slice a n c), u.oneCell' = true
theorem book_good : bookL.Good := ⟨fun _ _ => rfl, by decide, fun t a n c u hu => by
  simp [bookL] at hu
  rcases hu with rfl | rfl | rfl | rfl <;> rfl⟩
theorem ref_good : refL.Good := ⟨fun _ _ => rfl, by decide, fun t a n c u hu => by
  simp [refL] at hu
  rcases hu with rfl | rfl | rfl <;> rfl⟩
abbrev TV := Tx × Value
def Lay.row (y : Lay) (P : List TV) : List Value := rowsC (fun p => y.f p.1 p.2) P
structure Ls (y : Lay) (w : World) (S : Nat → Prop) (b : Nat) (v : Value) (P : List TV) : Prop where
  lt : ∀ k, S k → k < w.heap.size
  sb : S b
  box : Cells w b [v]
  row : GRow w 0 y.e y.sz v P.length (y.row P)
  rs : ∀ g, v.ownBlock = some g → S g ∧ g ≠ b
  own : ∀ p ∈ P, Owns .i64 3 w 0 p.2 p.1.hs
  os : ∀ p ∈ P, ∀ g, p.2.ownBlock = some g → S g ∧ g ≠ b ∧ v.ownBlock ≠ some g
  inj : P.Pairwise (fun p q => ∀ g, p.2.ownBlock = some g → q.2.ownBlock ≠ some g)
def Lst (y : Lay) (w : World) (S : Nat → Prop) (b : Nat) (L : List Tx) : Prop := ∃ v P, Ls y w S b v P ∧ P.map Prod.fst = L
def OutL (y : Lay) (w : World) (S : Nat → Prop) (b : Nat) (L : List Tx) (w' : World) : Prop := ∃ S', Lst y w' S' b L ∧ (∀ k, k < w.heap.size → S' k → S k) ∧ Keep S w w'
section
variable {y : Lay} {S T : Nat → Prop} {w w' : World} {b : Nat} {v : Value} {P : List TV} {L : List Tx}
theorem Ls.keep (h : Ls y w S b v P) (hk : Keep T w w') (hn : ∀ k, S k → ¬ T k) : Ls y w' S b v P :=
  ⟨fun k q => Nat.lt_of_lt_of_le (h.lt k q) hk.size, h.sb, h.box.keep hk (hn b h.sb), GRow.keep h.row hk (fun g hg => hn g (h.rs g hg).1), h.rs, fun p hp => (h.own p hp).keep hk (fun g hg => hn g (h.os p hp g hg).1), h.os, h.inj⟩
theorem Ls.below (h : Ls y w S b v P) (hk : Below w.heap.size w w') : Ls y w' S b v P := h.keep (Keep.of_below (S := fun _ => False) hk) (fun _ _ => id)
theorem Ls.wider (h : Ls y w S b v P) (hs : ∀ k, S k → T k) (hl : ∀ k, T k → k < w.heap.size) : Ls y w T b v P :=
  ⟨hl, hs _ h.sb, h.box, h.row, fun g hg => ⟨hs _ (h.rs g hg).1, (h.rs g hg).2⟩, h.own, fun p hp g hg => ⟨hs _ (h.os p hp g hg).1, (h.os p hp g hg).2⟩, h.inj⟩
theorem Lst.keep (h : Lst y w S b L) (hk : Keep T w w') (hn : ∀ k, S k → ¬ T k) : Lst y w' S b L := by
  obtain ⟨v, P, h, e⟩ := h
  exact ⟨v, P, h.keep hk hn, e⟩
theorem Lst.below (h : Lst y w S b L) (hk : Below w.heap.size w w') : Lst y w' S b L := h.keep (Keep.of_below (S := fun _ => False) hk) (fun _ _ => id)
theorem Lst.lt (h : Lst y w S b L) : ∀ k, S k → k < w.heap.size := by obtain ⟨v, P, h, e⟩ := h; exact h.lt
theorem Lst.stays (h : Lst y w S b L) (hk : Below w.heap.size w w') : OutL y w S b L w' := ⟨S, h.below hk, fun _ _ q => q, Keep.of_below hk⟩
theorem OutL.after {w1 : World} (h : Below w.heap.size w w1) (o : OutL y w1 S b L w') : OutL y w S b L w' := by
  obtain ⟨S', h1, h2, h3⟩ := o
  exact ⟨S', h1, fun k hk q => h2 k (Nat.lt_of_lt_of_le hk h.size) q, (Keep.of_below (S := S) h).trans h3 (fun _ _ q => q)⟩
theorem OutL.then {w1 : World} (o : OutL y w S b L w1) (h : Below w1.heap.size w1 w') : OutL y w S b L w' := by
  obtain ⟨S', h1, h2, h3⟩ := o
  exact ⟨S', h1.below h, h2, h3.then_below h⟩
/-- What the slice of the row tells. -/
theorem Ls.form (h : Ls y w S b v P) : ∃ a cap, v = .slice a P.length cap ∧ Lies w a (y.row P) ∧ P.length ≤ cap ∧ cap ≤ maxLen ∧ (a = none → cap = 0) := by
  obtain ⟨a, c, h1, h2, h3, h4, h5, _⟩ := GRow.lies h.row
  exact ⟨a, c, h1, h2, h3, h4, h5⟩
theorem Ls.at (h : Ls y w S b v P) (hy : y.Good) {i : Nat} {p : TV} (hp : P[i]? = some p) : ∃ g cap, v = .slice (some ⟨g, 0, none⟩) P.length cap ∧ g < w.heap.size ∧ (∀ j u, (y.f p.1 p.2)[j]? = some u → w.cell? ⟨g, i * y.sz + j, none⟩ = some u) ∧ ∀ j, w.frozen? ⟨g, j, none⟩ = false := by
  obtain ⟨hi, hp⟩ := List.getElem?_eq_some_iff.1 hp
  subst hp
  have hl := World.ownsRow.lt h.row
  rcases h.row.2 with ⟨_, hn⟩ | ⟨g, cap, cur, rfl, hbg, hg, hn, hm, hs, ht⟩
  · omega
  · refine ⟨g, cap, rfl, (hl g rfl).2, ?_, fun j => by simp [World.frozen?, hg]⟩
    intro j u hu
    obtain ⟨a, c, e, hlies, _⟩ := GRow.lies h.row
    cases e
    obtain ⟨b', off, e, _, hc⟩ := Lies.rowAt (fun p : TV => y.f p.1 p.2) y.sz (fun p => hy.len p.1 p.2) hlies i hi hy.pos
    cases e
    have := hc j u hu
    rw [Nat.zero_add] at this
    exact this
theorem Ls.own_at (h : Ls y w S b v P) {i : Nat} {p : TV} (hp : P[i]? = some p) : Owns .i64 3 w 0 p.2 p.1.hs := h.own p (List.mem_of_getElem? hp)
end
theorem map_at {P : List TV} {L : List Tx} (e : P.map Prod.fst = L) {i : Nat} {t : Tx} (h : L[i]? = some t) : ∃ v, P[i]? = some (t, v) := by
  subst e
  rw [List.getElem?_map] at h
  cases hp : P[i]? with
  | none => rw [hp] at h; cases h
  | some p => rw [hp] at h; simp at h; exact ⟨p.2, by rw [← h]⟩
theorem map_len {P : List TV} {L : List Tx} (e : P.map Prod.fst = L) : P.length = L.length := by rw [← e, List.length_map]
/-- A place in a list, as Go tells it. -/
def placeI (o : Option Nat) : Int := match o with | none => -1 | some i => (i : Int)
theorem idx_some {α : Type} {p : α → Bool} {l : List α} {k : Nat} (hk : k < l.length) (h1 : p l[k] = true) (h2 : ∀ j (hj : j < l.length), j < k → p l[j] = false) : l.findIdx? p = some k :=
  List.findIdx?_eq_some_iff_getElem.2 ⟨hk, h1, fun j hj => by simpa using h2 j (by omega) hj⟩
theorem idx_no {α : Type} {p : α → Bool} {l : List α} (h2 : ∀ j (hj : j < l.length), p l[j] = false) : l.findIdx? p = none :=
  List.findIdx?_eq_none_iff.2 (fun x hx => by
    obtain ⟨j, hj, rfl⟩ := List.getElem_of_mem hx
    exact h2 j hj)
set_option maxHeartbeats 1000000 in
theorem place_any (a : Option Addr) (c : Nat) (xs : List Int) (x : Int) (w : World) (h : Seen .i64 w a xs) (hl : xs.length ≤ 1000000) : Calls Try.prog 28 #[.slice a xs.length c, .int .i64 x] w fun r w' => r = .returned (.int .i64 (placeI (xs.findIdx? (fun z => z == x)))) ∧ w = w' := by
  obtain ⟨R, hR⟩ : ∃ R, R = placeI (xs.findIdx? (fun z => z == x)) := ⟨_, rfl⟩
  rw [← hR]
  have HR := hide hR
  have HS := hide h
  clear h hR
  go_enter Try.func28, Try.ntmps28
  go_wp2
  go_loop [5] (fun vi => ∃ k : Nat, vi = .int .i64 (k : Int) ∧ k ≤ xs.length ∧ ∀ j (hj : j < xs.length), j < k → (xs[j] == x) = false) (fun vi => xs.length - (intOf vi).toNat)
  case atStart => exact ⟨0, rfl, Nat.zero_le _, fun j _ q => by omega⟩
  case round =>
    obtain ⟨k, rfl, hk, hall⟩ := hrel
    have HA := hide hall
    clear hall
    by_cases hlt : k < xs.length
    · rcases HS.out with q | ⟨g, off, rfl, hg, hc⟩
      · rw [q] at hlt; simp at hlt
      have p0 := hc k hlt
      clear hc
      by_cases he : xs[k] = x
      · have d : (xs[k] == x) = true := by simpa using he
        have E : R = (k : Int) := by rw [HR.out, idx_some hlt d (fun j hj q => HA.out j hj q)]; rfl
        subst E
        clear he HR
        generalize xs[k] = z at *
        go_wp2
        go_ret
        exact ⟨rfl, rfl⟩
      · have d : (xs[k] == x) = false := by simpa using he
        have D := hide d
        clear he
        generalize hz : xs[k] = z at *
        go_wp2
        go_round
        case rel =>
          have key : ∀ j (hj : j < xs.length), j < k + 1 → (xs[j] == x) = false := fun j hj q => by
            by_cases e : j = k
            · subst e; rw [hz]; exact D.out
            · exact HA.out j hj (by omega)
          first | exact ⟨k + 1, by go_num, by omega, key⟩ | ((repeat apply Exists.intro); exact ⟨⟨k + 1, by go_num, by omega, key⟩, rfl⟩)
        case measure => simp [intOf]; omega
    · have E : R = -1 := by rw [HR.out, idx_no (fun j hj => HA.out j hj (by omega))]; rfl
      subst E
      clear HR
      go_wp2
      go_ret
      exact ⟨rfl, rfl⟩
set_option maxHeartbeats 1000000 in
theorem bat_any (S : Nat → Prop) (b : Nat) (L : List Tx) (x : Int) (w : World) (h : Lst bookL w S b L) (hl : L.length ≤ 1000000) : Calls Try.prog 27 #[ptr b, .int .i64 x] w fun r w' => r = .returned (.int .i64 (placeI (idx L x))) ∧ w = w' := by
  obtain ⟨R, hR⟩ : ∃ R, R = placeI (idx L x) := ⟨_, rfl⟩
  rw [← hR]
  have HR := hide hR
  obtain ⟨v, P, h, e⟩ := h
  obtain ⟨a, cap, rfl, -, -, -, -⟩ := h.form
  obtain ⟨k0, -⟩ := h.box.get 0 _ rfl
  have HS := hide h
  have HE := hide e
  have hlen := map_len e
  rw [hlen] at k0
  clear h hR e
  go_enter Try.func27, Try.ntmps27
  go_wp2
  go_loop [5] (fun vi => ∃ k : Nat, vi = .int .i64 (k : Int) ∧ k ≤ L.length ∧ ∀ j (hj : j < L.length), j < k → (L[j].n == x) = false) (fun vi => L.length - (intOf vi).toNat)
  case atStart => exact ⟨0, rfl, Nat.zero_le _, fun j _ q => by omega⟩
  case round =>
    obtain ⟨k, rfl, hk, hall⟩ := hrel
    have HA := hide hall
    clear hall
    by_cases hlt : k < L.length
    · obtain ⟨vk, hpk⟩ := map_at HE.out (List.getElem?_eq_getElem hlt)
      obtain ⟨g, cap', ev, hg, hc, -⟩ := HS.out.at book_good hpk
      cases ev
      have p0 := hc 0 (.int .i64 L[k].n) rfl
      change w.cell? ⟨g, k * 4, none⟩ = _ at p0
      clear hc hpk
      by_cases he : L[k].n = x
      · have d : (L[k].n == x) = true := by simpa using he
        have E : R = (k : Int) := by rw [HR.out]; unfold idx; rw [idx_some hlt d (fun j hj q => HA.out j hj q)]; rfl
        subst E
        clear he HR
        generalize L[k].n = z at *
        clear hlen
        go_wp2
        go_ret
        exact ⟨rfl, rfl⟩
      · have d : (L[k].n == x) = false := by simpa using he
        have D := hide d
        clear he
        generalize hz : L[k].n = z at *
        have HZ := hide hz
        clear hz
        have HLN := hide hlen
        clear hlen
        go_wp2
        go_round
        case rel =>
          have key : ∀ j (hj : j < L.length), j < k + 1 → (L[j].n == x) = false := fun j hj q => by
            by_cases e : j = k
            · subst e; rw [HZ.out]; exact D.out
            · exact HA.out j hj (by omega)
          first | exact ⟨k + 1, by go_num, by omega, key⟩ | ((repeat apply Exists.intro); exact ⟨⟨k + 1, by go_num, by omega, key⟩, rfl⟩)
        case measure => simp [intOf]; omega
    · have E : R = -1 := by rw [HR.out]; unfold idx; rw [idx_no (fun j hj => HA.out j hj (by omega))]; rfl
      subst E
      clear HR hlen
      go_wp2
      go_ret
      exact ⟨rfl, rfl⟩
set_option maxHeartbeats 1000000 in
theorem rat_any (S : Nat → Prop) (b : Nat) (L : List Tx) (x : Int) (w : World) (h : Lst refL w S b L) (hl : L.length ≤ 1000000) : Calls Try.prog 43 #[ptr b, .int .i64 x] w fun r w' => r = .returned (.int .i64 (placeI (idx L x))) ∧ w = w' := by
  obtain ⟨R, hR⟩ : ∃ R, R = placeI (idx L x) := ⟨_, rfl⟩
  rw [← hR]
  have HR := hide hR
  obtain ⟨v, P, h, e⟩ := h
  obtain ⟨a, cap, rfl, -, -, -, -⟩ := h.form
  obtain ⟨k0, -⟩ := h.box.get 0 _ rfl
  have HS := hide h
  have HE := hide e
  have hlen := map_len e
  rw [hlen] at k0
  clear h hR e
  go_enter Try.func43, Try.ntmps43
  go_wp2
  go_loop [5] (fun vi => ∃ k : Nat, vi = .int .i64 (k : Int) ∧ k ≤ L.length ∧ ∀ j (hj : j < L.length), j < k → (L[j].n == x) = false) (fun vi => L.length - (intOf vi).toNat)
  case atStart => exact ⟨0, rfl, Nat.zero_le _, fun j _ q => by omega⟩
  case round =>
    obtain ⟨k, rfl, hk, hall⟩ := hrel
    have HA := hide hall
    clear hall
    by_cases hlt : k < L.length
    · obtain ⟨vk, hpk⟩ := map_at HE.out (List.getElem?_eq_getElem hlt)
      obtain ⟨g, cap', ev, hg, hc, -⟩ := HS.out.at ref_good hpk
      cases ev
      have p0 := hc 0 (.int .i64 L[k].n) rfl
      change w.cell? ⟨g, k * 3, none⟩ = _ at p0
      clear hc hpk
      by_cases he : L[k].n = x
      · have d : (L[k].n == x) = true := by simpa using he
        have E : R = (k : Int) := by rw [HR.out]; unfold idx; rw [idx_some hlt d (fun j hj q => HA.out j hj q)]; rfl
        subst E
        clear he HR
        generalize L[k].n = z at *
        clear hlen
        go_wp2
        go_ret
        exact ⟨rfl, rfl⟩
      · have d : (L[k].n == x) = false := by simpa using he
        have D := hide d
        clear he
        generalize hz : L[k].n = z at *
        have HZ := hide hz
        clear hz
        have HLN := hide hlen
        clear hlen
        go_wp2
        go_round
        case rel =>
          have key : ∀ j (hj : j < L.length), j < k + 1 → (L[j].n == x) = false := fun j hj q => by
            by_cases e : j = k
            · subst e; rw [HZ.out]; exact D.out
            · exact HA.out j hj (by omega)
          first | exact ⟨k + 1, by go_num, by omega, key⟩ | ((repeat apply Exists.intro); exact ⟨⟨k + 1, by go_num, by omega, key⟩, rfl⟩)
        case measure => simp [intOf]; omega
    · have E : R = -1 := by rw [HR.out]; unfold idx; rw [idx_no (fun j hj => HA.out j hj (by omega))]; rfl
      subst E
      clear HR hlen
      go_wp2
      go_ret
      exact ⟨rfl, rfl⟩
end Go.Proofs.Ytadppakflbilcaa
