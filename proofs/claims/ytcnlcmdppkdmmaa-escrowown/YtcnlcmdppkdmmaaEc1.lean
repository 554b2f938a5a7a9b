import Derived.Test.YtcnlcmdppkdmmaaEcK
import Derived.Maps.OwnOps
namespace Go.Proofs.Ytcnlcmdppkdmmaa
open Go.RowKit Go.QK Quota Go.Maps

/-- The bounds, the settled value, the nets. -/
structure Esc where
  lo : Int
  hi : Int
  base : Int
  nets : Nets
def Esc.low (e : Esc) : Int := e.base + lowS e.nets
def Esc.high (e : Esc) : Int := e.base + highS e.nets
structure Esc.Ok (e : Esc) : Prop where
  i1 : I64 e.lo
  i2 : I64 e.hi
  b1 : e.lo ≤ e.low
  b2 : e.high ≤ e.hi
  rise : Rise e.nets
  keys : ∀ p ∈ e.nets, 1 ≤ p.1 ∧ p.1 ≤ 2147483647
  all : ∀ p ∈ e.nets, I64 p.2
def escC (e : Esc) (m : Nat) : List Value := [.int .i64 e.lo, .int .i64 e.hi, .int .i64 e.base, .int .i64 e.low, .int .i64 e.high, .map (some m)]
def MapAt (w : World) (m : Nat) (L : Nets) : Prop := w.ownsMap Try.prog 3 (plainElem (H := Unit) Try.prog 2) m L.length (mapD L)
structure PE (w : World) (b m : Nat) (e : Esc) : Prop where
  cells : Cells w b (escC e m)
  map : MapAt w m e.nets
  ok : e.Ok

theorem lawK : Keyed Try.prog 3 := int_keyed Try.underlying3
theorem zero2 (w : World) : (zeroValue 2).run Try.prog w = .ok (.int .i64 0) w := by kernel_rfl
theorem wf64 {z : Int} (h : I64 z) : (Lit.int .i64 z).wf = true := WalkArith.wf_i64 h
theorem keyI {z : Int} (h : I64 z) : keyOf Try.prog 3 (.int .i64 z) = some (.int .i64 z) := keyOf_int_mk Try.underlying3 (wf64 h)

theorem MapAt.keep {S : Nat → Prop} {w w' : World} {m : Nat} {L : Nets} (h : MapAt w m L) (hk : Keep S w w') (hn : ¬ S m) : MapAt w' m L := by
  have hlt := h.lt
  obtain ⟨es, clock, hb, F, hs, hD⟩ := h
  exact ⟨es, clock, (hk.block m hlt hn).trans hb, F, hs, hD⟩
theorem MapAt.below {w w' : World} {m : Nat} {L : Nets} (h : MapAt w m L) (hk : Below w.heap.size w w') : MapAt w' m L := h.keep (Keep.of_below (S := fun _ => False) hk) id
theorem PE.keep {S : Nat → Prop} {w w' : World} {b m : Nat} {e : Esc} (h : PE w b m e) (hk : Keep S w w') (h1 : ¬ S b) (h2 : ¬ S m) : PE w' b m e := ⟨h.cells.keep hk h1, h.map.keep hk h2, h.ok⟩
theorem PE.below {w w' : World} {b m : Nat} {e : Esc} (h : PE w b m e) (hk : Below w.heap.size w w') : PE w' b m e := h.keep (Keep.of_below (S := fun _ => False) hk) id id
theorem PE.lt {w : World} {b m : Nat} {e : Esc} (h : PE w b m e) : b < w.heap.size ∧ m < w.heap.size := ⟨h.cells.1, h.map.lt⟩
theorem PE.ne {w : World} {b m : Nat} {e : Esc} (h : PE w b m e) : b ≠ m := by
  intro q
  subst q
  obtain ⟨es, clock, hb, _⟩ := h.map
  have := (h.cells.get 0 _ rfl).1
  simp [World.cell?, hb] at this

/-- Of one's own list of nets: so many as there are. -/
theorem MapAt.of {w : World} {m n : Nat} {L : Nets} (h : w.ownsMap Try.prog 3 (plainElem (H := Unit) Try.prog 2) m n (mapD L)) : MapAt w m L := by
  obtain ⟨es, clock, hb, F, hs, hD⟩ := h
  refine ⟨es, clock, hb, F, ?_, hD⟩
  have := congrArg Maps.size hD
  rw [mapD_size] at this
  simp [Maps.size, length_sorted] at this
  omega

/-! What the six cells say. -/
theorem PE.c0 {w : World} {b m : Nat} {e : Esc} (h : PE w b m e) : w.cell? ⟨b, 0, none⟩ = some (.int .i64 e.lo) := (h.cells.get 0 _ rfl).1
theorem PE.c1 {w : World} {b m : Nat} {e : Esc} (h : PE w b m e) : w.cell? ⟨b, 1, none⟩ = some (.int .i64 e.hi) := (h.cells.get 1 _ rfl).1
theorem PE.c2 {w : World} {b m : Nat} {e : Esc} (h : PE w b m e) : w.cell? ⟨b, 2, none⟩ = some (.int .i64 e.base) := (h.cells.get 2 _ rfl).1
theorem PE.c3 {w : World} {b m : Nat} {e : Esc} (h : PE w b m e) : w.cell? ⟨b, 3, none⟩ = some (.int .i64 e.low) := (h.cells.get 3 _ rfl).1
theorem PE.c4 {w : World} {b m : Nat} {e : Esc} (h : PE w b m e) : w.cell? ⟨b, 4, none⟩ = some (.int .i64 e.high) := (h.cells.get 4 _ rfl).1
theorem PE.c5 {w : World} {b m : Nat} {e : Esc} (h : PE w b m e) : w.cell? ⟨b, 5, none⟩ = some (.map (some m)) := (h.cells.get 5 _ rfl).1

abbrev ptr (b : Nat) : Value := .pointer (some ⟨b, 0, none⟩)

set_option maxHeartbeats 400000 in
theorem settled_any (b m : Nat) (e : Esc) (w : World) (h : PE w b m e) :
    Calls Try.prog 20 #[ptr b] w fun r w' => r = .returned (.int .i64 e.base) ∧ Below w.heap.size w w' := by
  have k2 := h.c2
  clear h
  go_enter Try.func20, Try.ntmps20
  go_wp2_with fail
  go_ret
  exact ⟨rfl, Below.refl _ _⟩

set_option maxHeartbeats 400000 in
theorem interval_any (b m : Nat) (e : Esc) (w : World) (h : PE w b m e) :
    Calls Try.prog 22 #[ptr b] w fun r w' => r = .returned (rng e.low e.high) ∧ Below w.heap.size w w' := by
  have k2 := h.c3
  have k3 := h.c4
  have hb := h.lt.1
  have hb' : b ≠ w.heap.size := by omega
  clear h
  go_enter Try.func22, Try.ntmps22
  go_wp2_with fail
  refine bodyPost_ret (v := rng e.low e.high) (by simp [results, Try.results22, go_sem]) rfl ⟨rfl, ?_⟩
  exact (Below.refl _ _).alloc (Nat.le_refl _) _

set_option maxHeartbeats 400000 in
theorem bounds_any (b m : Nat) (e : Esc) (w : World) (h : PE w b m e) :
    Calls Try.prog 27 #[ptr b] w fun r w' => r = .returned (rng e.lo e.hi) ∧ Below w.heap.size w w' := by
  have k2 := h.c0
  have k3 := h.c1
  have hb := h.lt.1
  have hb' : b ≠ w.heap.size := by omega
  clear h
  go_enter Try.func27, Try.ntmps27
  go_wp2_with fail
  refine bodyPost_ret (v := rng e.lo e.hi) (by simp [results, Try.results27, go_sem]) rfl ⟨rfl, ?_⟩
  exact (Below.refl _ _).alloc (Nat.le_refl _) _

set_option maxHeartbeats 400000 in
theorem net_any (b m : Nat) (e : Esc) (tx : Int) (w : World) (h : PE w b m e) (hx : I64 tx) :
    Calls Try.prog 35 #[ptr b, .int .i64 tx] w fun r w' => r = .returned (.tuple #[.int .i64 (netV e.nets tx), .bool (holdB e.nets tx)]) ∧ Below w.heap.size w w' := by
  have k5 := h.c5
  have hown := h.map
  unfold MapAt at hown
  clear h
  go_enter Try.func35, Try.ntmps35
  go_wp2_with (at_lookup; refine wpList_lookup_own_ok_int _ rfl _ _ 77 rfl 3 2 .i64 lawK Try.underlying77 Try.underlying2 (zero2 _) m _ _ rfl hown _ _ rfl (keyI hx) ?_; intro c hat hwc; rw [mapD_at] at hat; rw [mapD_has]; obtain rfl : netV e.nets tx = c := by simpa using hat)
  go_ret2
  exact ⟨rfl, Below.refl _ _⟩
end Go.Proofs.Ytcnlcmdppkdmmaa
