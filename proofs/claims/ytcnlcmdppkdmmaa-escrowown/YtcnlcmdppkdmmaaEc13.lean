import Derived.Test.YtcnlcmdppkdmmaaEc12
namespace Go.Proofs.Ytcnlcmdppkdmmaa
open Go.RowKit Go.QK Quota Go.Maps
set_option maxRecDepth 100000

def txF (n : Int) : Int := 1 + Int.tmod (Int.tmod n 8 + 8) 8
theorem txF_bd (n : Int) : 1 ≤ txF n ∧ txF n ≤ 8 := by
  unfold txF
  have h1 := Int.tmod_lt_of_pos n (show (0 : Int) < 8 by omega)
  have h2 := Int.lt_tmod_of_pos n (show (0 : Int) < 8 by omega)
  generalize Int.tmod n 8 = x at *
  rw [Int.tmod_eq_emod_of_nonneg (by omega)]
  omega
theorem txF_i64 (n : Int) : I64 (txF n) := by have := txF_bd n; unfold I64; omega

set_option maxHeartbeats 1000000 in
theorem txOf_any (n : Int) (w : World) : Calls Try.prog 12 #[.int .i64 n] w fun r w' => r = .returned (.int .i64 (txF n)) ∧ Below w.heap.size w w' := by
  have h1 := Int.tmod_lt_of_pos n (show (0 : Int) < 8 by omega)
  have h2 := Int.lt_tmod_of_pos n (show (0 : Int) < 8 by omega)
  have w1 : wrap64 (Int.tmod n 8 + 8) = Int.tmod n 8 + 8 := wrapI (by unfold I64; omega)
  have w2 : wrap64 (1 + Int.tmod (Int.tmod n 8 + 8) 8) = txF n := by
    have := txF_i64 n
    unfold txF at this
    rw [wrapI this]
    rfl
  clear h1 h2
  go_enter Try.func12, Try.ntmps12
  go_wp2_with fail
  rw [w2]
  go_ret
  exact ⟨rfl, Below.refl _ _⟩

abbrev Deed := Int × Int
def deedC (d : Deed) : List Value := [.int .i64 d.1, .int .i64 d.2]
def loN (lo hi : Int) : Int := if hi < lo then hi else lo
def hiN (lo hi : Int) : Int := if hi < lo then lo else hi
def vN (lo hi v : Int) : Int := if v < loN lo hi ∨ hiN lo hi < v then loN lo hi else v
def runD (e : Esc) (ds : List Deed) : Esc := ds.foldl (fun e d => addN e (txF d.1) d.2) e
def madeM (lo hi v : Int) (ds : List Deed) : Esc := runD ⟨loN lo hi, hiN lo hi, vN lo hi v, []⟩ (ds.take 40)
theorem runD_snoc (e : Esc) (ds : List Deed) (d : Deed) : runD e (ds ++ [d]) = addN (runD e ds) (txF d.1) d.2 := by
  unfold runD
  rw [List.foldl_append]
  rfl
theorem runD_take (e : Esc) (ds : List Deed) (k : Nat) (h : k < ds.length) : runD e (ds.take (k + 1)) = addN (runD e (ds.take k)) (txF ds[k].1) ds[k].2 := by
  rw [List.take_succ_eq_append_getElem h, runD_snoc]
theorem new_start {lo hi : Int} (v : Int) : newE (loN lo hi) (hiN lo hi) (vN lo hi v) = 0 := by
  have h : loN lo hi ≤ hiN lo hi := by unfold loN hiN; split <;> omega
  unfold newE vN
  generalize loN lo hi = a at *
  generalize hiN lo hi = b at *
  rw [if_neg (by omega), if_pos]
  split <;> omega
theorem addN_len (e : Esc) (tx d : Int) : (addN e tx d).nets.length ≤ e.nets.length + 1 := by
  by_cases h : mayE e tx d = 0
  · rw [addN_yes h]; exact length_putN _ _ _
  · rw [addN_no h]; omega
theorem runD_len (e : Esc) (ds : List Deed) : (runD e ds).nets.length ≤ e.nets.length + ds.length := by
  induction ds generalizing e with
  | nil => simp [runD]
  | cons d l ih =>
    have h1 := addN_len e (txF d.1) d.2
    have h2 := ih (addN e (txF d.1) d.2)
    have h3 : runD e (d :: l) = runD (addN e (txF d.1) d.2) l := rfl
    rw [h3]
    simp
    omega
theorem runD_ok {e : Esc} (h : e.Ok) (ds : List Deed) : (runD e ds).Ok := by
  induction ds generalizing e with
  | nil => exact h
  | cons d l ih => exact ih (addN_ok h _ _)

set_option maxHeartbeats 4000000 in
theorem made_any (lo hi v : Int) (ds : List Deed) (a : Option Addr) (cap : Nat) (w : World) (h1 : I64 lo) (h2 : I64 hi) (hs : Lies w a (rowsC deedC ds)) (hx : ∀ d ∈ ds, I64 d.1 ∧ I64 d.2) (hl : ds.length ≤ 9223372036854775807) :
    Calls Try.prog 10 #[rng lo hi, .int .i64 v, .slice a ds.length cap] w fun r w' => ∃ b m, r = .returned (.tuple #[ptr b, .bool true]) ∧ PE w' b m (madeM lo hi v ds) ∧ w.heap.size ≤ b ∧ w.heap.size ≤ m ∧ Below w.heap.size w w' := by
  have N0 := fun w' => new_yes (loN lo hi) (hiN lo hi) (vN lo hi v) w' (new_start v) (by unfold loN; split <;> assumption) (by unfold hiN; split <;> assumption)
  obtain ⟨e0, he0⟩ : ∃ e0 : Esc, e0 = ⟨loN lo hi, hiN lo hi, vN lo hi v, []⟩ := ⟨_, rfl⟩
  have hm : madeM lo hi v ds = runD e0 (ds.take 40) := by rw [he0]; rfl
  rw [hm]
  rw [← he0] at N0
  have HL0 := hide (show e0.nets.length = 0 from by rw [he0]; rfl)
  have HS := hide hs
  have HX := hide hx
  have HL := hide hl
  clear hm he0 hs hx h1 h2
  have ROW := fun (wq : World) (hq : Lies wq a (rowsC deedC ds)) (k : Nat) (hk : k < ds.length) => Lies.rowAt deedC 2 (fun _ => rfl) hq k hk (by omega)
  by_cases c1 : hi < lo
  · have e1 : loN lo hi = hi := by unfold loN; rw [if_pos c1]
    have e2 : hiN lo hi = lo := by unfold hiN; rw [if_pos c1]
    by_cases c2 : v < hi
    · have e3 : vN lo hi v = hi := by unfold vN; rw [e1, e2, if_pos (.inl c2)]
      rw [e1, e2, e3] at N0
      clear e1 e2 e3
      go_enter Try.func10, Try.ntmps10
      go_wp2_with fail
      refine (N0 _).mono ?_
      rintro r w1 ⟨b, m, rfl, b1, P1, g1, g2⟩
      have hb1 := hide (below1 b1)
      have hg1 : w.heap.size ≤ b := by simp at g1; omega
      have hg2 : w.heap.size ≤ m := by simp at g2; omega
      have HP1 := hide P1
      clear b1 P1 g1 g2 N0
      go_wp2_with fail
      go_loopw [10] (fun i wr => ∃ k : Nat, k ≤ ds.length ∧ k ≤ 40 ∧ i = .int .i64 k ∧ PE wr b m (runD e0 (ds.take k)) ∧ Below w.heap.size w wr) (fun i _ => 41 - (intOf i).toNat)
      case atStart => exact ⟨0, by omega, by omega, rfl, HP1.out, hb1.out⟩
      case round =>
        obtain ⟨k, hk, hk2, rfl, P, hb⟩ := hrel
        have HP := hide P
        have HB := hide hb
        clear P hb
        by_cases q1 : k < ds.length
        · by_cases q2 : k < 40
          · obtain ⟨ba, off, rfl, hlt, hcell⟩ := ROW wr (HS.out.below HB.out) k q1
            have y0 := hcell 0 _ rfl
            have y1 := hcell 1 _ rfl
            obtain ⟨x0, x1⟩ := HX.out ds[k] (List.getElem_mem q1)
            have HT := hide (runD_take e0 ds k q1)
            have hlen := runD_len e0 (ds.take k)
            have hlen2 : (runD e0 (ds.take k)).nets.length < 1000000000 := by have := HL0.out; simp at hlen; omega
            have HC := hide (fun (wq : World) (hq : Lies wq (some ⟨ba, off, none⟩) (rowsC deedC ds)) => (ROW wq hq k q1))
            generalize ds[k] = dd at *
            obtain ⟨tx, d⟩ := dd
            simp only at y0 y1 x0 x1 HT
            rw [Nat.add_zero] at y0
            generalize hE : runD e0 (ds.take k) = e at *
            have HE := hide hE
            have KT := txOf_any tx
            have KM := fun w' (h : PE w' b m e) => may_any b m e (txF tx) d w' h (txF_i64 tx) x1
            have KA := fun w' (h : PE w' b m e) => add_any' b m e (txF tx) d w' h (txF_i64 tx) x1 hlen2
            clear hlen hlen2 hcell hE x0 x1
            go_wp2_with fail
            refine (KT _).mono ?_
            rintro r w2 ⟨rfl, h2⟩
            have P2 := HP.out.below h2
            have B2 := HB.out.trans (h2.mono HB.out.size)
            have y1 := (h2.cell (p := ⟨ba, off + k * 2 + 1, none⟩) hlt).trans y1
            have hlt := Nat.lt_of_lt_of_le hlt h2.size
            clear h2 KT HP HB y0
            go_wp2_with fail
            refine (KM _ P2).mono ?_
            rintro r w3 ⟨rfl, h3⟩
            have P3 := P2.below h3
            have B3 := B2.trans (h3.mono B2.size)
            have y1 := (h3.cell (p := ⟨ba, off + k * 2 + 1, none⟩) hlt).trans y1
            clear h3 KM P2 B2
            go_wp2_with fail
            refine (KA _ P3).mono ?_
            rintro r w4 ⟨rfl, h4, P4⟩
            have B4 := B3.trans (h4.below B3.size (two_lt hg1 hg2))
            clear h4 KA P3 B3 y1
            go_wp2_with fail
            go_roundw
            case rel =>
              refine ⟨k + 1, by omega, by omega, by go_num, ?_, B4⟩
              rw [HT.out]
              exact P4
            case measure => simp [intOf]; omega
          · have q3 : k = 40 := by omega
            subst q3
            have R := hide (And.intro HP.out HB.out)
            clear HP HB
            go_wp2_with fail
            go_ret2
            exact ⟨b, m, rfl, R.out.1, hg1, hg2, R.out.2⟩
        · have q3 : k = ds.length := by omega
          have R := hide (And.intro HP.out HB.out)
          have hT : ds.take k = ds.take 40 := by
            rw [q3, List.take_length, List.take_of_length_le (by omega)]
          rw [hT] at R
          subst q3
          clear HP HB hT
          go_wp2_with fail
          go_ret2
          exact ⟨b, m, rfl, R.out.1, hg1, hg2, R.out.2⟩
    · by_cases c3 : lo < v
      · have e3 : vN lo hi v = hi := by unfold vN; rw [e1, e2, if_pos (.inr c3)]
        rw [e1, e2, e3] at N0
        clear e1 e2 e3
        go_enter Try.func10, Try.ntmps10
        go_wp2_with fail
        refine (N0 _).mono ?_
        rintro r w1 ⟨b, m, rfl, b1, P1, g1, g2⟩
        have hb1 := hide (below1 b1)
        have hg1 : w.heap.size ≤ b := by simp at g1; omega
        have hg2 : w.heap.size ≤ m := by simp at g2; omega
        have HP1 := hide P1
        clear b1 P1 g1 g2 N0
        go_wp2_with fail
        go_loopw [10] (fun i wr => ∃ k : Nat, k ≤ ds.length ∧ k ≤ 40 ∧ i = .int .i64 k ∧ PE wr b m (runD e0 (ds.take k)) ∧ Below w.heap.size w wr) (fun i _ => 41 - (intOf i).toNat)
        case atStart => exact ⟨0, by omega, by omega, rfl, HP1.out, hb1.out⟩
        case round =>
          obtain ⟨k, hk, hk2, rfl, P, hb⟩ := hrel
          have HP := hide P
          have HB := hide hb
          clear P hb
          by_cases q1 : k < ds.length
          · by_cases q2 : k < 40
            · obtain ⟨ba, off, rfl, hlt, hcell⟩ := ROW wr (HS.out.below HB.out) k q1
              have y0 := hcell 0 _ rfl
              have y1 := hcell 1 _ rfl
              obtain ⟨x0, x1⟩ := HX.out ds[k] (List.getElem_mem q1)
              have HT := hide (runD_take e0 ds k q1)
              have hlen := runD_len e0 (ds.take k)
              have hlen2 : (runD e0 (ds.take k)).nets.length < 1000000000 := by have := HL0.out; simp at hlen; omega
              have HC := hide (fun (wq : World) (hq : Lies wq (some ⟨ba, off, none⟩) (rowsC deedC ds)) => (ROW wq hq k q1))
              generalize ds[k] = dd at *
              obtain ⟨tx, d⟩ := dd
              simp only at y0 y1 x0 x1 HT
              rw [Nat.add_zero] at y0
              generalize hE : runD e0 (ds.take k) = e at *
              have HE := hide hE
              have KT := txOf_any tx
              have KM := fun w' (h : PE w' b m e) => may_any b m e (txF tx) d w' h (txF_i64 tx) x1
              have KA := fun w' (h : PE w' b m e) => add_any' b m e (txF tx) d w' h (txF_i64 tx) x1 hlen2
              clear hlen hlen2 hcell hE x0 x1
              go_wp2_with fail
              refine (KT _).mono ?_
              rintro r w2 ⟨rfl, h2⟩
              have P2 := HP.out.below h2
              have B2 := HB.out.trans (h2.mono HB.out.size)
              have y1 := (h2.cell (p := ⟨ba, off + k * 2 + 1, none⟩) hlt).trans y1
              have hlt := Nat.lt_of_lt_of_le hlt h2.size
              clear h2 KT HP HB y0
              go_wp2_with fail
              refine (KM _ P2).mono ?_
              rintro r w3 ⟨rfl, h3⟩
              have P3 := P2.below h3
              have B3 := B2.trans (h3.mono B2.size)
              have y1 := (h3.cell (p := ⟨ba, off + k * 2 + 1, none⟩) hlt).trans y1
              clear h3 KM P2 B2
              go_wp2_with fail
              refine (KA _ P3).mono ?_
              rintro r w4 ⟨rfl, h4, P4⟩
              have B4 := B3.trans (h4.below B3.size (two_lt hg1 hg2))
              clear h4 KA P3 B3 y1
              go_wp2_with fail
              go_roundw
              case rel =>
                refine ⟨k + 1, by omega, by omega, by go_num, ?_, B4⟩
                rw [HT.out]
                exact P4
              case measure => simp [intOf]; omega
            · have q3 : k = 40 := by omega
              subst q3
              have R := hide (And.intro HP.out HB.out)
              clear HP HB
              go_wp2_with fail
              go_ret2
              exact ⟨b, m, rfl, R.out.1, hg1, hg2, R.out.2⟩
          · have q3 : k = ds.length := by omega
            have R := hide (And.intro HP.out HB.out)
            have hT : ds.take k = ds.take 40 := by
              rw [q3, List.take_length, List.take_of_length_le (by omega)]
            rw [hT] at R
            subst q3
            clear HP HB hT
            go_wp2_with fail
            go_ret2
            exact ⟨b, m, rfl, R.out.1, hg1, hg2, R.out.2⟩
      · have e3 : vN lo hi v = v := by unfold vN; rw [e1, e2, if_neg (by omega)]
        rw [e1, e2, e3] at N0
        clear e1 e2 e3
        go_enter Try.func10, Try.ntmps10
        go_wp2_with fail
        refine (N0 _).mono ?_
        rintro r w1 ⟨b, m, rfl, b1, P1, g1, g2⟩
        have hb1 := hide (below1 b1)
        have hg1 : w.heap.size ≤ b := by simp at g1; omega
        have hg2 : w.heap.size ≤ m := by simp at g2; omega
        have HP1 := hide P1
        clear b1 P1 g1 g2 N0
        go_wp2_with fail
        go_loopw [10] (fun i wr => ∃ k : Nat, k ≤ ds.length ∧ k ≤ 40 ∧ i = .int .i64 k ∧ PE wr b m (runD e0 (ds.take k)) ∧ Below w.heap.size w wr) (fun i _ => 41 - (intOf i).toNat)
        case atStart => exact ⟨0, by omega, by omega, rfl, HP1.out, hb1.out⟩
        case round =>
          obtain ⟨k, hk, hk2, rfl, P, hb⟩ := hrel
          have HP := hide P
          have HB := hide hb
          clear P hb
          by_cases q1 : k < ds.length
          · by_cases q2 : k < 40
            · obtain ⟨ba, off, rfl, hlt, hcell⟩ := ROW wr (HS.out.below HB.out) k q1
              have y0 := hcell 0 _ rfl
              have y1 := hcell 1 _ rfl
              obtain ⟨x0, x1⟩ := HX.out ds[k] (List.getElem_mem q1)
              have HT := hide (runD_take e0 ds k q1)
              have hlen := runD_len e0 (ds.take k)
              have hlen2 : (runD e0 (ds.take k)).nets.length < 1000000000 := by have := HL0.out; simp at hlen; omega
              have HC := hide (fun (wq : World) (hq : Lies wq (some ⟨ba, off, none⟩) (rowsC deedC ds)) => (ROW wq hq k q1))
              generalize ds[k] = dd at *
              obtain ⟨tx, d⟩ := dd
              simp only at y0 y1 x0 x1 HT
              rw [Nat.add_zero] at y0
              generalize hE : runD e0 (ds.take k) = e at *
              have HE := hide hE
              have KT := txOf_any tx
              have KM := fun w' (h : PE w' b m e) => may_any b m e (txF tx) d w' h (txF_i64 tx) x1
              have KA := fun w' (h : PE w' b m e) => add_any' b m e (txF tx) d w' h (txF_i64 tx) x1 hlen2
              clear hlen hlen2 hcell hE x0 x1
              go_wp2_with fail
              refine (KT _).mono ?_
              rintro r w2 ⟨rfl, h2⟩
              have P2 := HP.out.below h2
              have B2 := HB.out.trans (h2.mono HB.out.size)
              have y1 := (h2.cell (p := ⟨ba, off + k * 2 + 1, none⟩) hlt).trans y1
              have hlt := Nat.lt_of_lt_of_le hlt h2.size
              clear h2 KT HP HB y0
              go_wp2_with fail
              refine (KM _ P2).mono ?_
              rintro r w3 ⟨rfl, h3⟩
              have P3 := P2.below h3
              have B3 := B2.trans (h3.mono B2.size)
              have y1 := (h3.cell (p := ⟨ba, off + k * 2 + 1, none⟩) hlt).trans y1
              clear h3 KM P2 B2
              go_wp2_with fail
              refine (KA _ P3).mono ?_
              rintro r w4 ⟨rfl, h4, P4⟩
              have B4 := B3.trans (h4.below B3.size (two_lt hg1 hg2))
              clear h4 KA P3 B3 y1
              go_wp2_with fail
              go_roundw
              case rel =>
                refine ⟨k + 1, by omega, by omega, by go_num, ?_, B4⟩
                rw [HT.out]
                exact P4
              case measure => simp [intOf]; omega
            · have q3 : k = 40 := by omega
              subst q3
              have R := hide (And.intro HP.out HB.out)
              clear HP HB
              go_wp2_with fail
              go_ret2
              exact ⟨b, m, rfl, R.out.1, hg1, hg2, R.out.2⟩
          · have q3 : k = ds.length := by omega
            have R := hide (And.intro HP.out HB.out)
            have hT : ds.take k = ds.take 40 := by
              rw [q3, List.take_length, List.take_of_length_le (by omega)]
            rw [hT] at R
            subst q3
            clear HP HB hT
            go_wp2_with fail
            go_ret2
            exact ⟨b, m, rfl, R.out.1, hg1, hg2, R.out.2⟩
  · have e1 : loN lo hi = lo := by unfold loN; rw [if_neg c1]
    have e2 : hiN lo hi = hi := by unfold hiN; rw [if_neg c1]
    by_cases c2 : v < lo
    · have e3 : vN lo hi v = lo := by unfold vN; rw [e1, e2, if_pos (.inl c2)]
      rw [e1, e2, e3] at N0
      clear e1 e2 e3
      go_enter Try.func10, Try.ntmps10
      go_wp2_with fail
      refine (N0 _).mono ?_
      rintro r w1 ⟨b, m, rfl, b1, P1, g1, g2⟩
      have hb1 := hide (below1 b1)
      have hg1 : w.heap.size ≤ b := by simp at g1; omega
      have hg2 : w.heap.size ≤ m := by simp at g2; omega
      have HP1 := hide P1
      clear b1 P1 g1 g2 N0
      go_wp2_with fail
      go_loopw [10] (fun i wr => ∃ k : Nat, k ≤ ds.length ∧ k ≤ 40 ∧ i = .int .i64 k ∧ PE wr b m (runD e0 (ds.take k)) ∧ Below w.heap.size w wr) (fun i _ => 41 - (intOf i).toNat)
      case atStart => exact ⟨0, by omega, by omega, rfl, HP1.out, hb1.out⟩
      case round =>
        obtain ⟨k, hk, hk2, rfl, P, hb⟩ := hrel
        have HP := hide P
        have HB := hide hb
        clear P hb
        by_cases q1 : k < ds.length
        · by_cases q2 : k < 40
          · obtain ⟨ba, off, rfl, hlt, hcell⟩ := ROW wr (HS.out.below HB.out) k q1
            have y0 := hcell 0 _ rfl
            have y1 := hcell 1 _ rfl
            obtain ⟨x0, x1⟩ := HX.out ds[k] (List.getElem_mem q1)
            have HT := hide (runD_take e0 ds k q1)
            have hlen := runD_len e0 (ds.take k)
            have hlen2 : (runD e0 (ds.take k)).nets.length < 1000000000 := by have := HL0.out; simp at hlen; omega
            have HC := hide (fun (wq : World) (hq : Lies wq (some ⟨ba, off, none⟩) (rowsC deedC ds)) => (ROW wq hq k q1))
            generalize ds[k] = dd at *
            obtain ⟨tx, d⟩ := dd
            simp only at y0 y1 x0 x1 HT
            rw [Nat.add_zero] at y0
            generalize hE : runD e0 (ds.take k) = e at *
            have HE := hide hE
            have KT := txOf_any tx
            have KM := fun w' (h : PE w' b m e) => may_any b m e (txF tx) d w' h (txF_i64 tx) x1
            have KA := fun w' (h : PE w' b m e) => add_any' b m e (txF tx) d w' h (txF_i64 tx) x1 hlen2
            clear hlen hlen2 hcell hE x0 x1
            go_wp2_with fail
            refine (KT _).mono ?_
            rintro r w2 ⟨rfl, h2⟩
            have P2 := HP.out.below h2
            have B2 := HB.out.trans (h2.mono HB.out.size)
            have y1 := (h2.cell (p := ⟨ba, off + k * 2 + 1, none⟩) hlt).trans y1
            have hlt := Nat.lt_of_lt_of_le hlt h2.size
            clear h2 KT HP HB y0
            go_wp2_with fail
            refine (KM _ P2).mono ?_
            rintro r w3 ⟨rfl, h3⟩
            have P3 := P2.below h3
            have B3 := B2.trans (h3.mono B2.size)
            have y1 := (h3.cell (p := ⟨ba, off + k * 2 + 1, none⟩) hlt).trans y1
            clear h3 KM P2 B2
            go_wp2_with fail
            refine (KA _ P3).mono ?_
            rintro r w4 ⟨rfl, h4, P4⟩
            have B4 := B3.trans (h4.below B3.size (two_lt hg1 hg2))
            clear h4 KA P3 B3 y1
            go_wp2_with fail
            go_roundw
            case rel =>
              refine ⟨k + 1, by omega, by omega, by go_num, ?_, B4⟩
              rw [HT.out]
              exact P4
            case measure => simp [intOf]; omega
          · have q3 : k = 40 := by omega
            subst q3
            have R := hide (And.intro HP.out HB.out)
            clear HP HB
            go_wp2_with fail
            go_ret2
            exact ⟨b, m, rfl, R.out.1, hg1, hg2, R.out.2⟩
        · have q3 : k = ds.length := by omega
          have R := hide (And.intro HP.out HB.out)
          have hT : ds.take k = ds.take 40 := by
            rw [q3, List.take_length, List.take_of_length_le (by omega)]
          rw [hT] at R
          subst q3
          clear HP HB hT
          go_wp2_with fail
          go_ret2
          exact ⟨b, m, rfl, R.out.1, hg1, hg2, R.out.2⟩
    · by_cases c3 : hi < v
      · have e3 : vN lo hi v = lo := by unfold vN; rw [e1, e2, if_pos (.inr c3)]
        rw [e1, e2, e3] at N0
        clear e1 e2 e3
        go_enter Try.func10, Try.ntmps10
        go_wp2_with fail
        refine (N0 _).mono ?_
        rintro r w1 ⟨b, m, rfl, b1, P1, g1, g2⟩
        have hb1 := hide (below1 b1)
        have hg1 : w.heap.size ≤ b := by simp at g1; omega
        have hg2 : w.heap.size ≤ m := by simp at g2; omega
        have HP1 := hide P1
        clear b1 P1 g1 g2 N0
        go_wp2_with fail
        go_loopw [10] (fun i wr => ∃ k : Nat, k ≤ ds.length ∧ k ≤ 40 ∧ i = .int .i64 k ∧ PE wr b m (runD e0 (ds.take k)) ∧ Below w.heap.size w wr) (fun i _ => 41 - (intOf i).toNat)
        case atStart => exact ⟨0, by omega, by omega, rfl, HP1.out, hb1.out⟩
        case round =>
          obtain ⟨k, hk, hk2, rfl, P, hb⟩ := hrel
          have HP := hide P
          have HB := hide hb
          clear P hb
          by_cases q1 : k < ds.length
          · by_cases q2 : k < 40
            · obtain ⟨ba, off, rfl, hlt, hcell⟩ := ROW wr (HS.out.below HB.out) k q1
              have y0 := hcell 0 _ rfl
              have y1 := hcell 1 _ rfl
              obtain ⟨x0, x1⟩ := HX.out ds[k] (List.getElem_mem q1)
              have HT := hide (runD_take e0 ds k q1)
              have hlen := runD_len e0 (ds.take k)
              have hlen2 : (runD e0 (ds.take k)).nets.length < 1000000000 := by have := HL0.out; simp at hlen; omega
              have HC := hide (fun (wq : World) (hq : Lies wq (some ⟨ba, off, none⟩) (rowsC deedC ds)) => (ROW wq hq k q1))
              generalize ds[k] = dd at *
              obtain ⟨tx, d⟩ := dd
              simp only at y0 y1 x0 x1 HT
              rw [Nat.add_zero] at y0
              generalize hE : runD e0 (ds.take k) = e at *
              have HE := hide hE
              have KT := txOf_any tx
              have KM := fun w' (h : PE w' b m e) => may_any b m e (txF tx) d w' h (txF_i64 tx) x1
              have KA := fun w' (h : PE w' b m e) => add_any' b m e (txF tx) d w' h (txF_i64 tx) x1 hlen2
              clear hlen hlen2 hcell hE x0 x1
              go_wp2_with fail
              refine (KT _).mono ?_
              rintro r w2 ⟨rfl, h2⟩
              have P2 := HP.out.below h2
              have B2 := HB.out.trans (h2.mono HB.out.size)
              have y1 := (h2.cell (p := ⟨ba, off + k * 2 + 1, none⟩) hlt).trans y1
              have hlt := Nat.lt_of_lt_of_le hlt h2.size
              clear h2 KT HP HB y0
              go_wp2_with fail
              refine (KM _ P2).mono ?_
              rintro r w3 ⟨rfl, h3⟩
              have P3 := P2.below h3
              have B3 := B2.trans (h3.mono B2.size)
              have y1 := (h3.cell (p := ⟨ba, off + k * 2 + 1, none⟩) hlt).trans y1
              clear h3 KM P2 B2
              go_wp2_with fail
              refine (KA _ P3).mono ?_
              rintro r w4 ⟨rfl, h4, P4⟩
              have B4 := B3.trans (h4.below B3.size (two_lt hg1 hg2))
              clear h4 KA P3 B3 y1
              go_wp2_with fail
              go_roundw
              case rel =>
                refine ⟨k + 1, by omega, by omega, by go_num, ?_, B4⟩
                rw [HT.out]
                exact P4
              case measure => simp [intOf]; omega
            · have q3 : k = 40 := by omega
              subst q3
              have R := hide (And.intro HP.out HB.out)
              clear HP HB
              go_wp2_with fail
              go_ret2
              exact ⟨b, m, rfl, R.out.1, hg1, hg2, R.out.2⟩
          · have q3 : k = ds.length := by omega
            have R := hide (And.intro HP.out HB.out)
            have hT : ds.take k = ds.take 40 := by
              rw [q3, List.take_length, List.take_of_length_le (by omega)]
            rw [hT] at R
            subst q3
            clear HP HB hT
            go_wp2_with fail
            go_ret2
            exact ⟨b, m, rfl, R.out.1, hg1, hg2, R.out.2⟩
      · have e3 : vN lo hi v = v := by unfold vN; rw [e1, e2, if_neg (by omega)]
        rw [e1, e2, e3] at N0
        clear e1 e2 e3
        go_enter Try.func10, Try.ntmps10
        go_wp2_with fail
        refine (N0 _).mono ?_
        rintro r w1 ⟨b, m, rfl, b1, P1, g1, g2⟩
        have hb1 := hide (below1 b1)
        have hg1 : w.heap.size ≤ b := by simp at g1; omega
        have hg2 : w.heap.size ≤ m := by simp at g2; omega
        have HP1 := hide P1
        clear b1 P1 g1 g2 N0
        go_wp2_with fail
        go_loopw [10] (fun i wr => ∃ k : Nat, k ≤ ds.length ∧ k ≤ 40 ∧ i = .int .i64 k ∧ PE wr b m (runD e0 (ds.take k)) ∧ Below w.heap.size w wr) (fun i _ => 41 - (intOf i).toNat)
        case atStart => exact ⟨0, by omega, by omega, rfl, HP1.out, hb1.out⟩
        case round =>
          obtain ⟨k, hk, hk2, rfl, P, hb⟩ := hrel
          have HP := hide P
          have HB := hide hb
          clear P hb
          by_cases q1 : k < ds.length
          · by_cases q2 : k < 40
            · obtain ⟨ba, off, rfl, hlt, hcell⟩ := ROW wr (HS.out.below HB.out) k q1
              have y0 := hcell 0 _ rfl
              have y1 := hcell 1 _ rfl
              obtain ⟨x0, x1⟩ := HX.out ds[k] (List.getElem_mem q1)
              have HT := hide (runD_take e0 ds k q1)
              have hlen := runD_len e0 (ds.take k)
              have hlen2 : (runD e0 (ds.take k)).nets.length < 1000000000 := by have := HL0.out; simp at hlen; omega
              have HC := hide (fun (wq : World) (hq : Lies wq (some ⟨ba, off, none⟩) (rowsC deedC ds)) => (ROW wq hq k q1))
              generalize ds[k] = dd at *
              obtain ⟨tx, d⟩ := dd
              simp only at y0 y1 x0 x1 HT
              rw [Nat.add_zero] at y0
              generalize hE : runD e0 (ds.take k) = e at *
              have HE := hide hE
              have KT := txOf_any tx
              have KM := fun w' (h : PE w' b m e) => may_any b m e (txF tx) d w' h (txF_i64 tx) x1
              have KA := fun w' (h : PE w' b m e) => add_any' b m e (txF tx) d w' h (txF_i64 tx) x1 hlen2
              clear hlen hlen2 hcell hE x0 x1
              go_wp2_with fail
              refine (KT _).mono ?_
              rintro r w2 ⟨rfl, h2⟩
              have P2 := HP.out.below h2
              have B2 := HB.out.trans (h2.mono HB.out.size)
              have y1 := (h2.cell (p := ⟨ba, off + k * 2 + 1, none⟩) hlt).trans y1
              have hlt := Nat.lt_of_lt_of_le hlt h2.size
              clear h2 KT HP HB y0
              go_wp2_with fail
              refine (KM _ P2).mono ?_
              rintro r w3 ⟨rfl, h3⟩
              have P3 := P2.below h3
              have B3 := B2.trans (h3.mono B2.size)
              have y1 := (h3.cell (p := ⟨ba, off + k * 2 + 1, none⟩) hlt).trans y1
              clear h3 KM P2 B2
              go_wp2_with fail
              refine (KA _ P3).mono ?_
              rintro r w4 ⟨rfl, h4, P4⟩
              have B4 := B3.trans (h4.below B3.size (two_lt hg1 hg2))
              clear h4 KA P3 B3 y1
              go_wp2_with fail
              go_roundw
              case rel =>
                refine ⟨k + 1, by omega, by omega, by go_num, ?_, B4⟩
                rw [HT.out]
                exact P4
              case measure => simp [intOf]; omega
            · have q3 : k = 40 := by omega
              subst q3
              have R := hide (And.intro HP.out HB.out)
              clear HP HB
              go_wp2_with fail
              go_ret2
              exact ⟨b, m, rfl, R.out.1, hg1, hg2, R.out.2⟩
          · have q3 : k = ds.length := by omega
            have R := hide (And.intro HP.out HB.out)
            have hT : ds.take k = ds.take 40 := by
              rw [q3, List.take_length, List.take_of_length_le (by omega)]
            rw [hT] at R
            subst q3
            clear HP HB hT
            go_wp2_with fail
            go_ret2
            exact ⟨b, m, rfl, R.out.1, hg1, hg2, R.out.2⟩
end Go.Proofs.Ytcnlcmdppkdmmaa
