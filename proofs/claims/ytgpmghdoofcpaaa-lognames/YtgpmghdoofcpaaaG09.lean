import Derived.Test.YtgpmghdoofcpaaaG08
namespace Go.Proofs.Ytgpmghdoofcpaaa
open Go.RowKit Go.QK

/-- A literal of bytes. -/
theorem lit_own (w : World) (l : List Nat) (hl : l.length ≤ 1000) : OwnB (w.alloc (.cells ((ints l).map (Value.int .u8)).toArray 5)) w.heap.size (.slice (some ⟨w.heap.size, 0, none⟩) l.length l.length) l := by
  have := World.ownsRow_lit (base := w.heap.size) (e := 5) (size := 1) w ((ints l).map (Value.int .u8)).toArray l.length (Nat.le_refl _) (by unfold maxLen; omega) (by simp)
  simpa [Owns] using this
theorem form300 : form 300 = [172, 2] := by rw [form_big (by decide), form_small (by decide)]
theorem form1 : form 1 = [1] := form_small (by decide)
theorem alloc_below (w : World) (o : Obj) : Below w.heap.size w (w.alloc o) := (Below.refl _ _).alloc (Nat.le_refl _) _
theorem bnext {B : Nat} {w w1 w2 : World} (h : Below B w w1) (k : Below w1.heap.size w1 w2) (hB : B ≤ w.heap.size) : Below B w w2 := h.trans (k.mono (Nat.le_trans hB h.size))
theorem bkeep {B : Nat} {S : Nat → Prop} {w w1 w2 : World} (h : Below B w w1) (k : Keep S w1 w2) (hB : B ≤ w.heap.size) (hS : ∀ j, S j → B ≤ j) : Below B w w2 :=
  h.trans (k.below (Nat.le_trans hB h.size) (fun j hj q => by have := hS j q; omega))
theorem Tab.under {B : Nat} {w w' : World} (h : Tab w) (k : Below B w w') (hB : 0 < B) : Tab w' :=
  ⟨Nat.lt_of_lt_of_le h.1 k.size, fun i hi => (k.cell (p := ⟨0, i, none⟩) hB).trans (h.2 i hi)⟩

/-- A reader's blocks lie apart from a writer's. -/
theorem Rd.aside {w w' : World} {B P p : Nat} {v : Value} {a : Option Addr} {c : Nat} {l : List Nat} {pos e : Nat} (h : Rd w p a c l pos e) (hk : Keep (wS P v) w w') (hp : B < p) (ha : ∀ ad, a = some ad → B < ad.block) (hB : P ≤ B)
    (hv : ∀ g, v.ownBlock = some g → g ≠ p ∧ ∀ ad, a = some ad → g ≠ ad.block) : Rd w' p a c l pos e := by
  refine h.keep hk ?_ ?_
  · rintro (q | q)
    · omega
    · exact (hv p q).1 rfl
  · intro ad had
    rintro (q | q)
    · have := ha ad had; omega
    · exact (hv _ q).2 ad had rfl
theorem Rd.lt {w : World} {p : Nat} {a : Option Addr} {c : Nat} {l : List Nat} {pos e : Nat} (h : Rd w p a c l pos e) : p < w.heap.size ∧ (0 < l.length → ∀ ad, a = some ad → ad.block < w.heap.size) := by
  refine ⟨h.1.1, fun hl ad had => ?_⟩
  rcases h.2.1 with q | ⟨b, off, q, hb, _⟩
  · have := congrArg List.length q
    simp at this
    subst this
    simp at hl
  · rw [had] at q
    cases q
    exact hb

/-- An element of a list of lists of bytes. -/
def Part (w : World) (p : Value × List Nat) : Prop := ∃ ai ci, p.1 = .slice ai p.2.length ci ∧ Bytes w ai p.2 ∧ AllB p.2 ∧ p.2.length ≤ maxLen
theorem Part.below {w w' : World} {p : Value × List Nat} (h : Part w p) (k : Below w.heap.size w w') : Part w' p := by
  obtain ⟨ai, ci, h1, h2, h3⟩ := h
  exact ⟨ai, ci, h1, Seen.below h2 k, h3⟩
theorem Parts.lit (w : World) (ps : List (Value × List Nat)) (h : ∀ p ∈ ps, Part w p) : Parts (w.alloc (.cells (ps.map (·.1)).toArray 52)) (some ⟨w.heap.size, 0, none⟩) ps := by
  refine .inr ⟨w.heap.size, 0, rfl, by simp, fun i hi => ⟨?_, ?_⟩⟩
  · rw [Nat.zero_add, World.cell?_alloc_new]
    simp [hi]
  · exact (h _ (List.getElem_mem hi)).below (alloc_below _ _)
/-! A literal of bytes by a conversion of a constant: a row of its own, with the conversion's mark behind it. -/
theorem cell?_freeze (w : World) (a b : Addr) (n : Nat) : (w.freeze a n).cell? b = w.cell? b := by
  unfold World.freeze
  split
  · rfl
  · unfold World.cell?
    simp only [Array.getElem?_modify]
    by_cases q : a.block = b.block
    · rw [if_pos q]
      cases hh : w.heap[b.block]? with
      | none => rfl
      | some o => cases o <;> rfl
    · rw [if_neg q]
theorem freeze_block (w : World) (a : Addr) (n k : Nat) (h : a.block ≠ k) : (w.freeze a n).heap[k]? = w.heap[k]? := by
  unfold World.freeze
  split
  · rfl
  · simp only [Array.getElem?_modify]
    rw [if_neg h]
theorem freeze_size (w : World) (a : Addr) (n : Nat) : (w.freeze a n).heap.size = w.heap.size := by
  unfold World.freeze
  split
  · rfl
  · simp
def marked (w : World) (cs : Array Value) : World := (w.alloc (.cells cs 5)).freeze ⟨w.heap.size, cs.size, none⟩ 1
theorem marked_size (w : World) (cs : Array Value) : (marked w cs).heap.size = w.heap.size + 1 := by
  unfold marked
  rw [freeze_size]
  simp
theorem marked_below (w : World) (cs : Array Value) : Below w.heap.size w (marked w cs) := by
  have h := alloc_below w (.cells cs 5)
  have e : ∀ a, ((w.alloc (.cells cs 5)).freeze a 1).os = w.os ∧ ((w.alloc (.cells cs 5)).freeze a 1).tape = w.tape ∧ ((w.alloc (.cells cs 5)).freeze a 1).output = w.output := fun a => ⟨h.os, h.tape, h.output⟩
  refine ⟨(e _).1, (e _).2.1, (e _).2.2, by rw [marked_size]; omega, fun k hk => ?_⟩
  unfold marked
  rw [freeze_block _ _ _ _ (by show w.heap.size ≠ k; omega)]
  exact h.block k hk
theorem marked_bytes (w : World) (l : List Nat) : Bytes (marked w ((ints l).map (Value.int .u8)).toArray) (some ⟨w.heap.size, 0, none⟩) l := by
  refine .inr ⟨w.heap.size, 0, rfl, by rw [marked_size]; omega, fun i hi => ?_⟩
  unfold marked
  rw [cell?_freeze, Nat.zero_add, World.cell?_alloc_new]
  simp at hi
  simp [hi]
theorem conv_lit (w : World) (cs : Array Value) (n : Nat) : (convert 52 52 (.slice (some ⟨w.heap.size, 0, none⟩) n n)).run Try.prog (w.alloc (.cells cs 5)) = .ok (.slice (some ⟨w.heap.size, 0, none⟩) n n) (marked w cs) := by
  have hsh : (w.alloc (.cells cs 5)).shape? w.heap.size = some (5, cs.size) := by
    simp [World.shape?, World.alloc, -World.alloc_eq]
  simp [convert, run_underlying Try.underlying52, run_underlying Try.underlying5, markStringish, hsh, marked, Result.andThen, -World.alloc_eq]
theorem allB_of {l : List Nat} (h : l.all (fun x => decide (x < 256)) = true) : AllB l := by
  intro x hx
  simpa using List.all_eq_true.1 h x hx
theorem le_maxLen {n : Nat} (h : n.ble 1000000 = true) : n ≤ maxLen := by
  have := Nat.le_of_ble_eq_true h
  unfold maxLen
  omega
end Go.Proofs.Ytgpmghdoofcpaaa

namespace Go.Proofs.Ytgpmghdoofcpaaa
open Go.RowKit Go.QK

set_option maxRecDepth 100000
theorem slotMay_any (p i m : Int) (w : World) : Calls Try.prog 85 #[.agg #[.int .i64 p, .int .i64 i], .int .i64 m] w fun e w' => e = .returned (.bool (slotB p i m)) ∧ Below w.heap.size w w' := by
  unfold slotB
  have hf := fun w => fromI_any 0 p 63 w
  generalize fromB 0 p 63 = q at *
  cases q
  · go_enter Try.func85, Try.ntmps85
    go_wp2_with fail
    refine (hf _).mono ?_
    rintro e w' ⟨rfl, rfl⟩
    go_wp2_with fail
    go_ret
    exact ⟨by simp, (by repeat (first | exact Below.refl _ _ | refine Below.alloc ?_ (by simp <;> omega) _ | refine Below.setCell ?_ (by simp <;> omega) _))⟩
  · go_enter Try.func85, Try.ntmps85
    go_wp2_with fail
    refine (hf _).mono ?_
    rintro e w' ⟨rfl, rfl⟩
    go_wp2_with fail
    refine (fromI_any 0 i m _).mono ?_
    rintro e w' ⟨rfl, rfl⟩
    go_wp2_with fail
    go_ret
    exact ⟨by simp, (by repeat (first | exact Below.refl _ _ | refine Below.alloc ?_ (by simp <;> omega) _ | refine Below.setCell ?_ (by simp <;> omega) _))⟩

theorem slotsMay_any (has : Bool) (wp wi sp si : Int) (w : World) : Calls Try.prog 72 #[.bool has, .agg #[.int .i64 wp, .int .i64 wi], .agg #[.int .i64 sp, .int .i64 si]] w fun e w' => e = .returned (.bool (slotsB has wp wi sp si)) ∧ Below w.heap.size w w' := by
  unfold slotsB
  cases has
  · go_enter Try.func72, Try.ntmps72
    go_wp2_with fail
    all_goals go_ret
    all_goals exact ⟨by simp <;> omega, (by repeat (first | exact Below.refl _ _ | refine Below.alloc ?_ (by simp <;> omega) _ | refine Below.setCell ?_ (by simp <;> omega) _))⟩
  · have h1 := fun w => slotMay_any wp wi 30 w
    have h2 := fun w => slotMay_any sp si 83 w
    generalize slotB wp wi 30 = q1 at *
    generalize slotB sp si 83 = q2 at *
    go_enter Try.func72, Try.ntmps72
    go_wp2_with fail
    generalize hw0 : (w.alloc (.cells #[.int .i64 wp, .int .i64 wi] 38)).alloc (.cells #[.int .i64 sp, .int .i64 si] 38) = w0
    have b0 : Below w.heap.size w w0 := by rw [← hw0]; exact (by repeat (first | exact Below.refl _ _ | refine Below.alloc ?_ (by simp <;> omega) _ | refine Below.setCell ?_ (by simp <;> omega) _))
    have C : Cells w0 w.heap.size [.int .i64 wp, .int .i64 wi] := by rw [← hw0]; exact (Cells.new _ _ _).below (alloc_below _ _)
    have D : Cells w0 (w.heap.size + 1) [.int .i64 sp, .int .i64 si] := by rw [← hw0]; have := Cells.new (w.alloc (.cells #[.int .i64 wp, .int .i64 wi] 38)) #[.int .i64 sp, .int .i64 si] 38; simpa using this
    clear hw0
    refine (h1 _).mono ?_
    rintro e w1 ⟨rfl, b1⟩
    replace C := C.below b1
    replace D := D.below b1
    have b2 := bnext b0 b1 (Nat.le_refl _)
    obtain ⟨c0, _⟩ := C.get 0 _ rfl
    obtain ⟨d0, _⟩ := D.get 0 _ rfl
    obtain ⟨d1, _⟩ := D.get 1 _ rfl
    clear b0 b1
    cases q1
    · go_wp2_with fail
      go_ret
      exact ⟨by simp, b2⟩
    · go_wp2_with fail
      refine (h2 _).mono ?_
      rintro e w2 ⟨rfl, b3⟩
      replace C := C.below b3
      replace D := D.below b3
      clear c0 d0 d1
      obtain ⟨c0, _⟩ := C.get 0 _ rfl
      obtain ⟨d0, _⟩ := D.get 0 _ rfl
      have b4 := bnext b2 b3 (Nat.le_refl _)
      clear b3
      cases q2
      · go_wp2_with fail
        go_ret
        exact ⟨by simp, b4⟩
      · go_wp2_with fail
        go_ret
        exact ⟨by simp [bne]; rfl, b4⟩

theorem firstMay_any (has : Bool) (i g lo hi v : Int) (w : World) : Calls Try.prog 73 #[.bool has, .agg #[.int .i64 i, .int .i64 g, .int .i64 lo, .int .i64 hi, .int .i64 v]] w fun e w' => e = .returned (.bool (firstB has g lo hi v)) ∧ Below w.heap.size w w' := by
  unfold firstB
  cases has
  · go_enter Try.func73, Try.ntmps73
    go_wp2_with fail
    all_goals go_ret
    all_goals exact ⟨by simp <;> omega, (by repeat (first | exact Below.refl _ _ | refine Below.alloc ?_ (by simp <;> omega) _ | refine Below.setCell ?_ (by simp <;> omega) _))⟩
  · have h1 := fun w => fromI_any 1 g 1048576 w
    have h2 := fun w => fromL_any lo v hi w
    generalize fromB 1 g 1048576 = q1 at *
    generalize fromB lo v hi = q2 at *
    go_enter Try.func73, Try.ntmps73
    go_wp2_with fail
    refine (h1 _).mono ?_
    rintro e w' ⟨rfl, rfl⟩
    cases q1
    · go_wp2_with fail
      go_ret
      exact ⟨by simp, (by repeat (first | exact Below.refl _ _ | refine Below.alloc ?_ (by simp <;> omega) _ | refine Below.setCell ?_ (by simp <;> omega) _))⟩
    · go_wp2_with fail
      refine (h2 _).mono ?_
      rintro e w' ⟨rfl, rfl⟩
      go_wp2_with fail
      go_ret
      exact ⟨by simp, (by repeat (first | exact Below.refl _ _ | refine Below.alloc ?_ (by simp <;> omega) _ | refine Below.setCell ?_ (by simp <;> omega) _))⟩

def hasC (k : Int) : Array Value := #[.bool (hTx k), .bool (hPrev k), .bool (hCtr k), .bool (hFirst k), .bool (hDelta k), .bool (hPts k)]
theorem kinds {k : Int} (h1 : 1 ≤ k) (h8 : k ≤ 8) : k = 1 ∨ k = 2 ∨ k = 3 ∨ k = 4 ∨ k = 5 ∨ k = 6 ∨ k = 7 ∨ k = 8 := by omega
theorem fieldsOf_any (k : Int) (h1 : 1 ≤ k) (h8 : k ≤ 8) (w : World) : Calls Try.prog 56 #[.int .i64 k] w fun e w' => e = .returned (.agg (hasC k)) ∧ Below w.heap.size w w' := by
  rcases kinds h1 h8 with rfl | rfl | rfl | rfl | rfl | rfl | rfl | rfl
  · go_enter Try.func56, Try.ntmps56
    go_wp2_with fail
    exact bodyPost_ret (v := .agg #[.bool true, .bool false, .bool false, .bool false, .bool false, .bool false]) (by simp [results, Try.results56, go_sem]) rfl ⟨rfl, (by repeat (first | exact Below.refl _ _ | refine Below.alloc ?_ (by simp <;> omega) _ | refine Below.setCell ?_ (by simp <;> omega) _))⟩
  · go_enter Try.func56, Try.ntmps56
    go_wp2_with fail
    exact bodyPost_ret (v := .agg #[.bool false, .bool false, .bool true, .bool true, .bool false, .bool false]) (by simp [results, Try.results56, go_sem]) rfl ⟨rfl, (by repeat (first | exact Below.refl _ _ | refine Below.alloc ?_ (by simp <;> omega) _ | refine Below.setCell ?_ (by simp <;> omega) _))⟩
  · go_enter Try.func56, Try.ntmps56
    go_wp2_with fail
    exact bodyPost_ret (v := .agg #[.bool true, .bool true, .bool true, .bool false, .bool true, .bool false]) (by simp [results, Try.results56, go_sem]) rfl ⟨rfl, (by repeat (first | exact Below.refl _ _ | refine Below.alloc ?_ (by simp <;> omega) _ | refine Below.setCell ?_ (by simp <;> omega) _))⟩
  · go_enter Try.func56, Try.ntmps56
    go_wp2_with fail
    exact bodyPost_ret (v := .agg #[.bool true, .bool true, .bool true, .bool false, .bool true, .bool false]) (by simp [results, Try.results56, go_sem]) rfl ⟨rfl, (by repeat (first | exact Below.refl _ _ | refine Below.alloc ?_ (by simp <;> omega) _ | refine Below.setCell ?_ (by simp <;> omega) _))⟩
  · go_enter Try.func56, Try.ntmps56
    go_wp2_with fail
    exact bodyPost_ret (v := .agg #[.bool true, .bool true, .bool false, .bool false, .bool false, .bool false]) (by simp [results, Try.results56, go_sem]) rfl ⟨rfl, (by repeat (first | exact Below.refl _ _ | refine Below.alloc ?_ (by simp <;> omega) _ | refine Below.setCell ?_ (by simp <;> omega) _))⟩
  · go_enter Try.func56, Try.ntmps56
    go_wp2_with fail
    exact bodyPost_ret (v := .agg #[.bool true, .bool true, .bool false, .bool false, .bool false, .bool false]) (by simp [results, Try.results56, go_sem]) rfl ⟨rfl, (by repeat (first | exact Below.refl _ _ | refine Below.alloc ?_ (by simp <;> omega) _ | refine Below.setCell ?_ (by simp <;> omega) _))⟩
  · go_enter Try.func56, Try.ntmps56
    go_wp2_with fail
    exact bodyPost_ret (v := .agg #[.bool true, .bool true, .bool false, .bool false, .bool false, .bool false]) (by simp [results, Try.results56, go_sem]) rfl ⟨rfl, (by repeat (first | exact Below.refl _ _ | refine Below.alloc ?_ (by simp <;> omega) _ | refine Below.setCell ?_ (by simp <;> omega) _))⟩
  · go_enter Try.func56, Try.ntmps56
    go_wp2_with fail
    exact bodyPost_ret (v := .agg #[.bool false, .bool false, .bool false, .bool false, .bool false, .bool true]) (by simp [results, Try.results56, go_sem]) rfl ⟨rfl, (by repeat (first | exact Below.refl _ _ | refine Below.alloc ?_ (by simp <;> omega) _ | refine Below.setCell ?_ (by simp <;> omega) _))⟩

theorem lives_any (ls : List LiveM) (a : Option Addr) (c : Nat) (next lsn : Int) (w : World) (hs : Lies w a (liveCs ls)) (h1 : 1 ≤ next) (h2 : next ≤ 2147483648) :
    Calls Try.prog 87 #[.slice a ls.length c, .int .i64 next, .int .i64 lsn] w fun e w' => e = .returned (.bool (decide (ls.length ≤ 32) && liveB next lsn 1 ls)) ∧ Below w.heap.size w w' := by
  by_cases hl : ls.length ≤ 32
  · have hg : decide ((32 : Int) < (ls.length : Int)) = false := by simp; omega
    have hr : (decide (ls.length ≤ 32) && liveB next lsn 1 ls) = liveB next lsn 1 ls := by simp [hl]
    rw [hr]
    clear hr
    have e1 : IntKind.i64.wrap (next - 1) = next - 1 := by rw [IntKind.wrap_i64]; omega
    go_enter Try.func87, Try.ntmps87
    go_wp2_with fail
    go_loopw [15, 7] (fun i s wr => ∃ (k : Nat) (m : Int), i = .int .i64 (k : Int) ∧ s = .int .i64 m ∧ k ≤ ls.length ∧ 0 ≤ m ∧ liveB next lsn 1 ls = liveB next lsn m (ls.drop k) ∧ Below w.heap.size w wr) (fun i _ _ => (ls.length + 1 - (intOf i).toNat))
    case atStart => exact ⟨0, 1, rfl, rfl, Nat.zero_le _, by omega, rfl, Below.refl _ _⟩
    case round =>
      obtain ⟨k, m, rfl, rfl, hk, hm0, hB, hb⟩ := hrel
      have HB : Hid _ := hB
      clear hB
      by_cases hlt : k < ls.length
      · have hg1 : decide ((k : Int) < (ls.length : Int)) = true := by simp; omega
        obtain ⟨b, off, rfl, hbl, k0, k1, k2, k3⟩ := (hs.below hb).liveAt k hlt
        have hd : liveB next lsn m (ls.drop k) = (fromB m ls[k].tx (next - 1) && recB ls[k].last lsn && !(ls[k].com && ls[k].und) && liveB next lsn (ls[k].tx + 1) (ls.drop (k + 1))) := by rw [List.drop_eq_getElem_cons hlt]; rfl
        rw [hd] at HB
        clear hd
        have hx : fromB m ls[k].tx (next - 1) = true → 0 ≤ ls[k].tx ∧ ls[k].tx ≤ 2147483647 := by unfold fromB; simp; omega
        generalize ls[k].tx = x at *
        generalize ls[k].last = y at *
        generalize ls[k].com = p at *
        generalize ls[k].und = q at *
        have f1 := fun w => fromI_any m x (next - 1) w
        have f2 := fun w => recMay_any y lsn w
        generalize fromB m x (next - 1) = q1 at *
        generalize recB y lsn = q2 at *
        clear hs
        have hb1 : Below w.heap.size w (wr.alloc (.cells #[.int .i64 x, .int .i64 y, .bool p, .bool q] 137)) := hb.alloc hb.size _
        cases q1
        · have HF : Hid (liveB next lsn 1 ls = false) := by unfold Hid; rw [HB.out]; simp
          clear HB hx
          go_wp2_with fail
          refine (f1 _).mono ?_
          rintro e w' ⟨rfl, rfl⟩
          go_wp2_with fail
          go_ret
          exact ⟨by rw [HF.out]; rfl, hb1⟩
        · have hx := hx rfl
          have e2 : IntKind.i64.wrap (x + 1) = x + 1 := by rw [IntKind.wrap_i64]; omega
          go_wp2_with fail
          refine (f1 _).mono ?_
          rintro e w' ⟨rfl, rfl⟩
          go_wp2_with fail
          refine (f2 _).mono ?_
          rintro e w' ⟨rfl, rfl⟩
          cases q2
          · go_wp2_with fail
            go_ret
            exact ⟨by rw [HB.out]; simp, hb1⟩
          · cases p
            · go_wp2_with fail
              go_roundw
              case rel => exact ⟨k + 1, x + 1, by go_num, rfl, hlt, by omega, by rw [HB.out]; simp, hb1⟩
              case measure => simp [intOf]; omega
            · cases q
              · go_wp2_with fail
                go_roundw
                case rel => exact ⟨k + 1, x + 1, by go_num, rfl, hlt, by omega, by rw [HB.out]; simp, hb1⟩
                case measure => simp [intOf]; omega
              · go_wp2_with fail
                go_ret
                exact ⟨by rw [HB.out]; simp, hb1⟩
      · have hg1 : decide ((k : Int) < (ls.length : Int)) = false := by simp; omega
        have HF : Hid (liveB next lsn 1 ls = true) := by unfold Hid; rw [HB.out, List.drop_eq_nil_of_le (by omega)]; rfl
        clear HB
        go_wp2_with fail
        go_ret
        exact ⟨by rw [HF.out]; rfl, hb⟩
  · have hg : decide ((32 : Int) < (ls.length : Int)) = true := by simp; omega
    go_enter Try.func87, Try.ntmps87
    go_wp2_with fail
    go_ret
    exact ⟨by simp [hl], Below.refl _ _⟩
end Go.Proofs.Ytgpmghdoofcpaaa
