import Derived.Test.YtblngphjoafidaaGreatChk
namespace Go.Proofs.YtblngphjoafidaaGreat
open Go.RowKit Go.QK

set_option maxRecDepth 100000
theorem dirties_any (ls : List DirtyM) (a : Option Addr) (c : Nat) (lsn : Int) (w : World) (hs : Lies w a (dirtyCs ls)) :
    Calls Tryz.prog 83 #[.slice a ls.length c, .int .i64 lsn] w fun e w' => e = .returned (.bool (decide (ls.length ≤ 16) && dirtyB lsn 0 ls)) ∧ Below w.heap.size w w' := by
  by_cases hl : ls.length ≤ 16
  · have hg : decide ((16 : Int) < (ls.length : Int)) = false := by simp; omega
    have hr : (decide (ls.length ≤ 16) && dirtyB lsn 0 ls) = dirtyB lsn 0 ls := by simp [hl]
    rw [hr]
    clear hr
    go_enter Tryz.func83, Tryz.ntmps83
    go_wp2_with fail
    go_loopw [13, 5] (fun i s wr => ∃ (k : Nat) (m : Int), i = .int .i64 (k : Int) ∧ s = .int .i64 m ∧ k ≤ ls.length ∧ 0 ≤ m ∧ dirtyB lsn 0 ls = dirtyB lsn m (ls.drop k) ∧ Below w.heap.size w wr) (fun i _ _ => (ls.length + 1 - (intOf i).toNat))
    case atStart => exact ⟨0, 0, rfl, rfl, Nat.zero_le _, by omega, rfl, Below.refl _ _⟩
    case round =>
      obtain ⟨k, m, rfl, rfl, hk, hm0, hB, hb⟩ := hrel
      have HB : Hid _ := hB
      clear hB
      by_cases hlt : k < ls.length
      · have hg1 : decide ((k : Int) < (ls.length : Int)) = true := by simp; omega
        obtain ⟨b, off, rfl, hbl, k0, k1⟩ := (hs.below hb).dirtyAt k hlt
        have hd : dirtyB lsn m (ls.drop k) = (fromB m ls[k].page 63 && recB ls[k].since lsn && dirtyB lsn (ls[k].page + 1) (ls.drop (k + 1))) := by rw [List.drop_eq_getElem_cons hlt]; rfl
        rw [hd] at HB
        clear hd
        have hx : fromB m ls[k].page 63 = true → 0 ≤ ls[k].page ∧ ls[k].page ≤ 2147483647 := by unfold fromB; simp; omega
        generalize ls[k].page = x at *
        generalize ls[k].since = y at *
        have f1 := fun w => fromI_any m x 63 w
        have f2 := fun w => recMay_any y lsn w
        generalize fromB m x 63 = q1 at *
        generalize recB y lsn = q2 at *
        clear hs
        have hb1 : Below w.heap.size w (wr.alloc (.cells #[.int .i64 x, .int .i64 y] 60)) := hb.alloc hb.size _
        cases q1
        · have HF : Hid (dirtyB lsn 0 ls = false) := by unfold Hid; rw [HB.out]; simp
          clear HB hx
          go_wp2_with fail
          refine (f1 _).mono ?_
          rintro e w' ⟨rfl, rfl⟩
          go_wp2_with fail
          go_ret
          exact ⟨by rw [HF.out]; rfl, hb1⟩
        · have hx := hx rfl
          have e2 : IntKind.i64.wrap (x + 1) = x + 1 := by rw [IntKind.wrap_i64]; omega
          go_wp2_with fail
          refine (f1 _).mono ?_
          rintro e w' ⟨rfl, rfl⟩
          go_wp2_with fail
          refine (f2 _).mono ?_
          rintro e w' ⟨rfl, rfl⟩
          cases q2
          · go_wp2_with fail
            go_ret
            exact ⟨by rw [HB.out]; simp, hb1⟩
          · go_wp2_with fail
            go_roundw
            case rel => exact ⟨k + 1, x + 1, by go_num, rfl, hlt, by omega, by rw [HB.out]; simp, hb1⟩
            case measure => simp [intOf]; omega
      · have hg1 : decide ((k : Int) < (ls.length : Int)) = false := by simp; omega
        have HF : Hid (dirtyB lsn 0 ls = true) := by unfold Hid; rw [HB.out, List.drop_eq_nil_of_le (by omega)]; rfl
        clear HB
        go_wp2_with fail
        go_ret
        exact ⟨by rw [HF.out]; rfl, hb⟩
  · have hg : decide ((16 : Int) < (ls.length : Int)) = true := by simp; omega
    go_enter Tryz.func83, Tryz.ntmps83
    go_wp2_with fail
    go_ret
    exact ⟨by simp [hl], Below.refl _ _⟩

theorem pointsMay_any (has : Bool) (ls : List LiveM) (ds : List DirtyM) (la da : Option Addr) (lc dc : Nat) (next lsn : Int) (w : World) (hl : Lies w la (liveCs ls)) (hd : Lies w da (dirtyCs ds)) :
    Calls Tryz.prog 59 #[.bool has, .agg #[.slice la ls.length lc, .slice da ds.length dc, .int .i64 next], .int .i64 lsn] w fun e w' => e = .returned (.bool (pointsB has ls ds next lsn)) ∧ Below w.heap.size w w' := by
  unfold pointsB
  cases has
  · have e1 : decide (next = 0) = (next == 0) := rfl
    have e2 : decide (ls.length = 0) = ((ls.length : Int) == 0) := by by_cases h : ls.length = 0 <;> simp [h]
    have e3 : decide (ds.length = 0) = ((ds.length : Int) == 0) := by by_cases h : ds.length = 0 <;> simp [h]
    rw [cond_false, e1, e2, e3]
    clear e1 e2 e3
    cases h1 : (next == 0)
    · go_enter Tryz.func59, Tryz.ntmps59
      go_wp2_with fail
      go_ret
      exact ⟨by simp, (by repeat (first | exact Below.refl _ _ | refine Below.alloc ?_ (by simp <;> omega) _ | refine Below.setCell ?_ (by simp <;> omega) _))⟩
    · cases h2 : ((ls.length : Int) == 0)
      · go_enter Tryz.func59, Tryz.ntmps59
        go_wp2_with fail
        go_ret
        exact ⟨by simp, (by repeat (first | exact Below.refl _ _ | refine Below.alloc ?_ (by simp <;> omega) _ | refine Below.setCell ?_ (by simp <;> omega) _))⟩
      · go_enter Tryz.func59, Tryz.ntmps59
        go_wp2_with fail
        go_ret
        exact ⟨by simp, (by repeat (first | exact Below.refl _ _ | refine Below.alloc ?_ (by simp <;> omega) _ | refine Below.setCell ?_ (by simp <;> omega) _))⟩
  · rw [cond_true]
    have f1 := fun w => fromI_any 1 next 2147483648 w
    have hn : fromB 1 next 2147483648 = true → 1 ≤ next ∧ next ≤ 2147483648 := by unfold fromB; simp
    generalize fromB 1 next 2147483648 = q1 at *
    cases q1
    · go_enter Tryz.func59, Tryz.ntmps59
      go_wp2_with fail
      refine (f1 _).mono ?_
      rintro e w' ⟨rfl, rfl⟩
      go_wp2_with fail
      go_ret
      exact ⟨by simp, (by repeat (first | exact Below.refl _ _ | refine Below.alloc ?_ (by simp <;> omega) _ | refine Below.setCell ?_ (by simp <;> omega) _))⟩
    · obtain ⟨hn1, hn2⟩ := hn rfl
      have f2 := fun w h => lives_any ls la lc next lsn w h hn1 hn2
      have f3 := fun w h => dirties_any ds da dc lsn w h
      generalize (decide (ls.length ≤ 32) && liveB next lsn 1 ls) = q2 at *
      generalize (decide (ds.length ≤ 16) && dirtyB lsn 0 ds) = q3 at *
      have HL := hide hl
      have HD := hide hd
      clear hl hd
      go_enter Tryz.func59, Tryz.ntmps59
      go_wp2_with fail
      refine (f1 _).mono ?_
      rintro e w' ⟨rfl, rfl⟩
      go_wp2_with fail
      generalize hw0 : w.alloc (.cells #[.slice la ls.length lc, .slice da ds.length dc, .int .i64 next] 53) = w0
      have b0 : Below w.heap.size w w0 := by rw [← hw0]; exact (by repeat (first | exact Below.refl _ _ | refine Below.alloc ?_ (by simp <;> omega) _ | refine Below.setCell ?_ (by simp <;> omega) _))
      have C : Cells w0 w.heap.size [.slice la ls.length lc, .slice da ds.length dc, .int .i64 next] := by rw [← hw0]; exact Cells.new _ _ _
      clear hw0
      refine (f2 _ (HL.out.below b0)).mono ?_
      rintro e w1 ⟨rfl, b1⟩
      replace C := C.below b1
      have b2 := bnext b0 b1 (Nat.le_refl _)
      clear b0 b1
      obtain ⟨c1, _⟩ := C.get 1 _ rfl
      cases q2
      · go_wp2_with fail
        go_ret
        exact ⟨by simp, b2⟩
      · go_wp2_with fail
        refine (f3 _ (HD.out.below b2)).mono ?_
        rintro e w2 ⟨rfl, b3⟩
        have b4 := bnext b2 b3 (Nat.le_refl _)
        clear b2 b3 C c1
        go_wp2_with fail
        go_ret
        exact ⟨by simp, b4⟩

/-- A record's cells. -/
abbrev recC (r : RecM) (la : Option Addr) (lc : Nat) (da : Option Addr) (dc : Nat) : Array Value :=
  #[.int .i64 r.lsn, .int .i64 r.kind, .int .i64 r.tx, .int .i64 r.prev, .int .i64 r.wp, .int .i64 r.wi, .int .i64 r.sp, .int .i64 r.si, .int .i64 r.delta, .int .i64 r.id, .int .i64 r.grp, .int .i64 r.lo, .int .i64 r.hi, .int .i64 r.val, .slice la r.live.length lc, .slice da r.dirty.length dc, .int .i64 r.next]
end Go.Proofs.YtblngphjoafidaaGreat
