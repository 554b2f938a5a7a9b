import Derived.Test.YtblngphjoafidaaGreatRec
namespace Go.Proofs.YtblngphjoafidaaGreat
open Go.RowKit Go.QK

set_option maxRecDepth 100000
theorem slotMay_any (p i m : Int) (w : World) : Calls Tryz.prog 80 #[.agg #[.int .i64 p, .int .i64 i], .int .i64 m] w fun e w' => e = .returned (.bool (slotB p i m)) ∧ Below w.heap.size w w' := by
  unfold slotB
  have hf := fun w => fromI_any 0 p 63 w
  generalize fromB 0 p 63 = q at *
  cases q
  · go_enter Tryz.func80, Tryz.ntmps80
    go_wp2_with fail
    refine (hf _).mono ?_
    rintro e w' ⟨rfl, rfl⟩
    go_wp2_with fail
    go_ret
    exact ⟨by simp, (by repeat (first | exact Below.refl _ _ | refine Below.alloc ?_ (by simp <;> omega) _ | refine Below.setCell ?_ (by simp <;> omega) _))⟩
  · go_enter Tryz.func80, Tryz.ntmps80
    go_wp2_with fail
    refine (hf _).mono ?_
    rintro e w' ⟨rfl, rfl⟩
    go_wp2_with fail
    refine (fromI_any 0 i m _).mono ?_
    rintro e w' ⟨rfl, rfl⟩
    go_wp2_with fail
    go_ret
    exact ⟨by simp, (by repeat (first | exact Below.refl _ _ | refine Below.alloc ?_ (by simp <;> omega) _ | refine Below.setCell ?_ (by simp <;> omega) _))⟩

theorem slotsMay_any (has : Bool) (wp wi sp si : Int) (w : World) : Calls Tryz.prog 57 #[.bool has, .agg #[.int .i64 wp, .int .i64 wi], .agg #[.int .i64 sp, .int .i64 si]] w fun e w' => e = .returned (.bool (slotsB has wp wi sp si)) ∧ Below w.heap.size w w' := by
  unfold slotsB
  cases has
  · go_enter Tryz.func57, Tryz.ntmps57
    go_wp2_with fail
    all_goals go_ret
    all_goals exact ⟨by simp <;> omega, (by repeat (first | exact Below.refl _ _ | refine Below.alloc ?_ (by simp <;> omega) _ | refine Below.setCell ?_ (by simp <;> omega) _))⟩
  · have h1 := fun w => slotMay_any wp wi 30 w
    have h2 := fun w => slotMay_any sp si 83 w
    generalize slotB wp wi 30 = q1 at *
    generalize slotB sp si 83 = q2 at *
    go_enter Tryz.func57, Tryz.ntmps57
    go_wp2_with fail
    generalize hw0 : (w.alloc (.cells #[.int .i64 wp, .int .i64 wi] 47)).alloc (.cells #[.int .i64 sp, .int .i64 si] 47) = w0
    have b0 : Below w.heap.size w w0 := by rw [← hw0]; exact (by repeat (first | exact Below.refl _ _ | refine Below.alloc ?_ (by simp <;> omega) _ | refine Below.setCell ?_ (by simp <;> omega) _))
    have C : Cells w0 w.heap.size [.int .i64 wp, .int .i64 wi] := by rw [← hw0]; exact (Cells.new _ _ _).below (alloc_below _ _)
    have D : Cells w0 (w.heap.size + 1) [.int .i64 sp, .int .i64 si] := by rw [← hw0]; have := Cells.new (w.alloc (.cells #[.int .i64 wp, .int .i64 wi] 47)) #[.int .i64 sp, .int .i64 si] 47; simpa using this
    clear hw0
    refine (h1 _).mono ?_
    rintro e w1 ⟨rfl, b1⟩
    replace C := C.below b1
    replace D := D.below b1
    have b2 := bnext b0 b1 (Nat.le_refl _)
    obtain ⟨c0, _⟩ := C.get 0 _ rfl
    obtain ⟨d0, _⟩ := D.get 0 _ rfl
    obtain ⟨d1, _⟩ := D.get 1 _ rfl
    clear b0 b1
    cases q1
    · go_wp2_with fail
      go_ret
      exact ⟨by simp, b2⟩
    · go_wp2_with fail
      refine (h2 _).mono ?_
      rintro e w2 ⟨rfl, b3⟩
      replace C := C.below b3
      replace D := D.below b3
      clear c0 d0 d1
      obtain ⟨c0, _⟩ := C.get 0 _ rfl
      obtain ⟨d0, _⟩ := D.get 0 _ rfl
      have b4 := bnext b2 b3 (Nat.le_refl _)
      clear b3
      cases q2
      · go_wp2_with fail
        go_ret
        exact ⟨by simp, b4⟩
      · go_wp2_with fail
        go_ret
        exact ⟨by simp [bne]; rfl, b4⟩

theorem firstMay_any (has : Bool) (i g lo hi v : Int) (w : World) : Calls Tryz.prog 58 #[.bool has, .agg #[.int .i64 i, .int .i64 g, .int .i64 lo, .int .i64 hi, .int .i64 v]] w fun e w' => e = .returned (.bool (firstB has g lo hi v)) ∧ Below w.heap.size w w' := by
  unfold firstB
  cases has
  · go_enter Tryz.func58, Tryz.ntmps58
    go_wp2_with fail
    all_goals go_ret
    all_goals exact ⟨by simp <;> omega, (by repeat (first | exact Below.refl _ _ | refine Below.alloc ?_ (by simp <;> omega) _ | refine Below.setCell ?_ (by simp <;> omega) _))⟩
  · have h1 := fun w => fromI_any 1 g 1048576 w
    have h2 := fun w => fromL_any lo v hi w
    generalize fromB 1 g 1048576 = q1 at *
    generalize fromB lo v hi = q2 at *
    go_enter Tryz.func58, Tryz.ntmps58
    go_wp2_with fail
    refine (h1 _).mono ?_
    rintro e w' ⟨rfl, rfl⟩
    cases q1
    · go_wp2_with fail
      go_ret
      exact ⟨by simp, (by repeat (first | exact Below.refl _ _ | refine Below.alloc ?_ (by simp <;> omega) _ | refine Below.setCell ?_ (by simp <;> omega) _))⟩
    · go_wp2_with fail
      refine (h2 _).mono ?_
      rintro e w' ⟨rfl, rfl⟩
      go_wp2_with fail
      go_ret
      exact ⟨by simp, (by repeat (first | exact Below.refl _ _ | refine Below.alloc ?_ (by simp <;> omega) _ | refine Below.setCell ?_ (by simp <;> omega) _))⟩

def hasC (k : Int) : Array Value := #[.bool (hTx k), .bool (hPrev k), .bool (hCtr k), .bool (hFirst k), .bool (hDelta k), .bool (hPts k)]
theorem kinds {k : Int} (h1 : 1 ≤ k) (h8 : k ≤ 8) : k = 1 ∨ k = 2 ∨ k = 3 ∨ k = 4 ∨ k = 5 ∨ k = 6 ∨ k = 7 ∨ k = 8 := by omega
theorem fieldsOf_any (k : Int) (h1 : 1 ≤ k) (h8 : k ≤ 8) (w : World) : Calls Tryz.prog 53 #[.int .i64 k] w fun e w' => e = .returned (.agg (hasC k)) ∧ Below w.heap.size w w' := by
  rcases kinds h1 h8 with rfl | rfl | rfl | rfl | rfl | rfl | rfl | rfl
  · go_enter Tryz.func53, Tryz.ntmps53
    go_wp2_with fail
    exact bodyPost_ret (v := .agg #[.bool true, .bool false, .bool false, .bool false, .bool false, .bool false]) (by simp [results, Tryz.results53, go_sem]) rfl ⟨rfl, (by repeat (first | exact Below.refl _ _ | refine Below.alloc ?_ (by simp <;> omega) _ | refine Below.setCell ?_ (by simp <;> omega) _))⟩
  · go_enter Tryz.func53, Tryz.ntmps53
    go_wp2_with fail
    exact bodyPost_ret (v := .agg #[.bool false, .bool false, .bool true, .bool true, .bool false, .bool false]) (by simp [results, Tryz.results53, go_sem]) rfl ⟨rfl, (by repeat (first | exact Below.refl _ _ | refine Below.alloc ?_ (by simp <;> omega) _ | refine Below.setCell ?_ (by simp <;> omega) _))⟩
  · go_enter Tryz.func53, Tryz.ntmps53
    go_wp2_with fail
    exact bodyPost_ret (v := .agg #[.bool true, .bool true, .bool true, .bool false, .bool true, .bool false]) (by simp [results, Tryz.results53, go_sem]) rfl ⟨rfl, (by repeat (first | exact Below.refl _ _ | refine Below.alloc ?_ (by simp <;> omega) _ | refine Below.setCell ?_ (by simp <;> omega) _))⟩
  · go_enter Tryz.func53, Tryz.ntmps53
    go_wp2_with fail
    exact bodyPost_ret (v := .agg #[.bool true, .bool true, .bool true, .bool false, .bool true, .bool false]) (by simp [results, Tryz.results53, go_sem]) rfl ⟨rfl, (by repeat (first | exact Below.refl _ _ | refine Below.alloc ?_ (by simp <;> omega) _ | refine Below.setCell ?_ (by simp <;> omega) _))⟩
  · go_enter Tryz.func53, Tryz.ntmps53
    go_wp2_with fail
    exact bodyPost_ret (v := .agg #[.bool true, .bool true, .bool false, .bool false, .bool false, .bool false]) (by simp [results, Tryz.results53, go_sem]) rfl ⟨rfl, (by repeat (first | exact Below.refl _ _ | refine Below.alloc ?_ (by simp <;> omega) _ | refine Below.setCell ?_ (by simp <;> omega) _))⟩
  · go_enter Tryz.func53, Tryz.ntmps53
    go_wp2_with fail
    exact bodyPost_ret (v := .agg #[.bool true, .bool true, .bool false, .bool false, .bool false, .bool false]) (by simp [results, Tryz.results53, go_sem]) rfl ⟨rfl, (by repeat (first | exact Below.refl _ _ | refine Below.alloc ?_ (by simp <;> omega) _ | refine Below.setCell ?_ (by simp <;> omega) _))⟩
  · go_enter Tryz.func53, Tryz.ntmps53
    go_wp2_with fail
    exact bodyPost_ret (v := .agg #[.bool true, .bool true, .bool false, .bool false, .bool false, .bool false]) (by simp [results, Tryz.results53, go_sem]) rfl ⟨rfl, (by repeat (first | exact Below.refl _ _ | refine Below.alloc ?_ (by simp <;> omega) _ | refine Below.setCell ?_ (by simp <;> omega) _))⟩
  · go_enter Tryz.func53, Tryz.ntmps53
    go_wp2_with fail
    exact bodyPost_ret (v := .agg #[.bool false, .bool false, .bool false, .bool false, .bool false, .bool true]) (by simp [results, Tryz.results53, go_sem]) rfl ⟨rfl, (by repeat (first | exact Below.refl _ _ | refine Below.alloc ?_ (by simp <;> omega) _ | refine Below.setCell ?_ (by simp <;> omega) _))⟩

theorem lives_any (ls : List LiveM) (a : Option Addr) (c : Nat) (next lsn : Int) (w : World) (hs : Lies w a (liveCs ls)) (h1 : 1 ≤ next) (h2 : next ≤ 2147483648) :
    Calls Tryz.prog 82 #[.slice a ls.length c, .int .i64 next, .int .i64 lsn] w fun e w' => e = .returned (.bool (decide (ls.length ≤ 32) && liveB next lsn 1 ls)) ∧ Below w.heap.size w w' := by
  by_cases hl : ls.length ≤ 32
  · have hg : decide ((32 : Int) < (ls.length : Int)) = false := by simp; omega
    have hr : (decide (ls.length ≤ 32) && liveB next lsn 1 ls) = liveB next lsn 1 ls := by simp [hl]
    rw [hr]
    clear hr
    have e1 : IntKind.i64.wrap (next - 1) = next - 1 := by rw [IntKind.wrap_i64]; omega
    go_enter Tryz.func82, Tryz.ntmps82
    go_wp2_with fail
    go_loopw [15, 7] (fun i s wr => ∃ (k : Nat) (m : Int), i = .int .i64 (k : Int) ∧ s = .int .i64 m ∧ k ≤ ls.length ∧ 0 ≤ m ∧ liveB next lsn 1 ls = liveB next lsn m (ls.drop k) ∧ Below w.heap.size w wr) (fun i _ _ => (ls.length + 1 - (intOf i).toNat))
    case atStart => exact ⟨0, 1, rfl, rfl, Nat.zero_le _, by omega, rfl, Below.refl _ _⟩
    case round =>
      obtain ⟨k, m, rfl, rfl, hk, hm0, hB, hb⟩ := hrel
      have HB : Hid _ := hB
      clear hB
      by_cases hlt : k < ls.length
      · have hg1 : decide ((k : Int) < (ls.length : Int)) = true := by simp; omega
        obtain ⟨b, off, rfl, hbl, k0, k1, k2, k3⟩ := (hs.below hb).liveAt k hlt
        have hd : liveB next lsn m (ls.drop k) = (fromB m ls[k].tx (next - 1) && recB ls[k].last lsn && !(ls[k].com && ls[k].und) && liveB next lsn (ls[k].tx + 1) (ls.drop (k + 1))) := by rw [List.drop_eq_getElem_cons hlt]; rfl
        rw [hd] at HB
        clear hd
        have hx : fromB m ls[k].tx (next - 1) = true → 0 ≤ ls[k].tx ∧ ls[k].tx ≤ 2147483647 := by unfold fromB; simp; omega
        generalize ls[k].tx = x at *
        generalize ls[k].last = y at *
        generalize ls[k].com = p at *
        generalize ls[k].und = q at *
        have f1 := fun w => fromI_any m x (next - 1) w
        have f2 := fun w => recMay_any y lsn w
        generalize fromB m x (next - 1) = q1 at *
        generalize recB y lsn = q2 at *
        clear hs
        have hb1 : Below w.heap.size w (wr.alloc (.cells #[.int .i64 x, .int .i64 y, .bool p, .bool q] 58)) := hb.alloc hb.size _
        cases q1
        · have HF : Hid (liveB next lsn 1 ls = false) := by unfold Hid; rw [HB.out]; simp
          clear HB hx
          go_wp2_with fail
          refine (f1 _).mono ?_
          rintro e w' ⟨rfl, rfl⟩
          go_wp2_with fail
          go_ret
          exact ⟨by rw [HF.out]; rfl, hb1⟩
        · have hx := hx rfl
          have e2 : IntKind.i64.wrap (x + 1) = x + 1 := by rw [IntKind.wrap_i64]; omega
          go_wp2_with fail
          refine (f1 _).mono ?_
          rintro e w' ⟨rfl, rfl⟩
          go_wp2_with fail
          refine (f2 _).mono ?_
          rintro e w' ⟨rfl, rfl⟩
          cases q2
          · go_wp2_with fail
            go_ret
            exact ⟨by rw [HB.out]; simp, hb1⟩
          · cases p
            · go_wp2_with fail
              go_roundw
              case rel => exact ⟨k + 1, x + 1, by go_num, rfl, hlt, by omega, by rw [HB.out]; simp, hb1⟩
              case measure => simp [intOf]; omega
            · cases q
              · go_wp2_with fail
                go_roundw
                case rel => exact ⟨k + 1, x + 1, by go_num, rfl, hlt, by omega, by rw [HB.out]; simp, hb1⟩
                case measure => simp [intOf]; omega
              · go_wp2_with fail
                go_ret
                exact ⟨by rw [HB.out]; simp, hb1⟩
      · have hg1 : decide ((k : Int) < (ls.length : Int)) = false := by simp; omega
        have HF : Hid (liveB next lsn 1 ls = true) := by unfold Hid; rw [HB.out, List.drop_eq_nil_of_le (by omega)]; rfl
        clear HB
        go_wp2_with fail
        go_ret
        exact ⟨by rw [HF.out]; rfl, hb⟩
  · have hg : decide ((32 : Int) < (ls.length : Int)) = true := by simp; omega
    go_enter Tryz.func82, Tryz.ntmps82
    go_wp2_with fail
    go_ret
    exact ⟨by simp [hl], Below.refl _ _⟩
end Go.Proofs.YtblngphjoafidaaGreat
