import Derived.Test.YtllpfojkbeloeaaDoorOps
import Derived.Test.YtllpfojkbeloeaaDoorTake
import Derived.Deep.DeepCutAuto
import Derived.OwnWalk
namespace Go.Proofs.YtllpfojkbeloeaaDoor
open Go.RowKit Go.QK

theorem wrote_get (L : List Nat) (pos x : Nat) : (i : Nat) → pos + i ≤ L.length → ∀ j, (wrote L pos x i).getD j 0 = if pos ≤ j ∧ j < pos + i then QK.byteOf x (j - pos) else L.getD j 0
  | 0, _, j => by
    rw [if_neg (by omega)]
    rfl
  | i + 1, h, j => by
    have ih := wrote_get L pos x i (by omega) j
    have hl : (wrote L pos x i).length = L.length := wrote_length L pos x i
    simp only [wrote, List.getD_eq_getElem?_getD] at ih ⊢
    by_cases q : pos + i = j
    · subst q
      rw [List.getElem?_set_self (by omega), if_pos (by omega)]
      simp
    · rw [List.getElem?_set_ne q, ih]
      by_cases q2 : pos ≤ j ∧ j < pos + i
      · rw [if_pos q2, if_pos (by omega)]
      · rw [if_neg q2, if_neg (by omega)]
theorem wrote_read (L : List Nat) (pos x s : Nat) (h : pos + s ≤ L.length) : ((wrote L pos x s).drop pos).take s = bytesOf s x := by
  apply ext_getD
  · simp; omega
  · intro j hj
    have hj' : j < s := by simp at hj; omega
    have e := wrote_get L pos x s h (pos + j)
    rw [if_pos (by omega), Nat.add_sub_cancel_left] at e
    simp only [List.getD_eq_getElem?_getD] at e ⊢
    rw [List.getElem?_take_of_lt hj', List.getElem?_drop, e]
    simp [bytesOf, hj']
theorem zeros_read (n pos s : Nat) (h : pos + s ≤ n) : fromB (((List.replicate n 0).drop pos).take s) = 0 := by
  have : ((List.replicate n 0).drop pos).take s = List.replicate s 0 := by
    rw [List.drop_replicate, List.take_replicate]
    congr 1
    omega
  rw [this, fromB_zero]

/-- A number of a list: signed or not, and both. -/
structure Nm where
  sg : Bool
  n : Nat
  i : Int
def Nm.ok (x : Nm) : Prop := x.n < 18446744073709551616 ∧ -9223372036854775808 ≤ x.i ∧ x.i ≤ 9223372036854775807
/-- The number as which it is written. -/
def Nm.x (x : Nm) : Nat := if x.sg then sgn x.i else x.n
theorem Nm.ok.lt {x : Nm} (h : x.ok) : x.x < 18446744073709551616 := by
  unfold Nm.x
  split
  · exact sgn_lt h.2.1 h.2.2
  · exact h.1
def joinF (l : List Nm) : List Nat := l.flatMap (fun x => form x.x)
theorem joinF_succ (l : List Nm) (k : Nat) (h : k < l.length) : joinF (l.take (k + 1)) = joinF (l.take k) ++ form l[k].x := by
  rw [List.take_succ_eq_append_getElem h]
  unfold joinF
  rw [List.flatMap_append]
  simp only [List.flatMap_cons, List.flatMap_nil, List.append_nil]
theorem joinF_len (l : List Nm) (h : ∀ x ∈ l, x.ok) : (joinF l).length ≤ 10 * l.length := by
  induction l with
  | nil => simp [joinF]
  | cons x l ih =>
    have h1 := ih (fun y hy => h y (by simp [hy]))
    have h2 := (form_len (h x (by simp)).lt).2
    simp [joinF] at h1 ⊢
    omega
theorem joinF_bytes (l : List Nm) : AllB (joinF l) := by
  intro y hy
  obtain ⟨x, _, hx⟩ := List.mem_flatMap.1 hy
  exact AllB.form _ y hx
theorem joinF_drop (l : List Nm) (k : Nat) (h : k < l.length) : (joinF l).drop (joinF (l.take k)).length = form l[k].x ++ joinF (l.drop (k + 1)) := by
  have e : joinF l = joinF (l.take k) ++ (form l[k].x ++ joinF (l.drop (k + 1))) := by
    have this : l.take k ++ (l[k] :: l.drop (k + 1)) = l := by rw [← List.drop_eq_getElem_cons h, List.take_append_drop]
    have e2 : joinF (l.take k ++ (l[k] :: l.drop (k + 1))) = joinF (l.take k) ++ (form l[k].x ++ joinF (l.drop (k + 1))) := by
      unfold joinF
      rw [List.flatMap_append, List.flatMap_cons]
    rw [this] at e2
    exact e2
  rw [e, List.drop_left]

/-- A list of numbers that came in. -/
def Nums (w : World) (a : Option Addr) (l : List Nm) : Prop :=
  l = [] ∨ ∃ b off, a = some ⟨b, off, none⟩ ∧ b < w.heap.size ∧ ∀ i (h : i < l.length), w.cell? ⟨b, off + i * 3, none⟩ = some (.bool l[i].sg) ∧ w.cell? ⟨b, off + i * 3 + 1, none⟩ = some (.int .u64 (l[i].n : Int)) ∧ w.cell? ⟨b, off + i * 3 + 2, none⟩ = some (.int .i64 l[i].i) ∧ l[i].ok
theorem Nums.below {w w' : World} {a : Option Addr} {l : List Nm} (h : Nums w a l) (k : Below w.heap.size w w') : Nums w' a l := by
  rcases h with h | ⟨b, off, h1, h2, h3⟩
  · exact .inl h
  · refine .inr ⟨b, off, h1, Nat.lt_of_lt_of_le h2 k.size, fun i hi => ?_⟩
    obtain ⟨q1, q2, q3, q4⟩ := h3 i hi
    exact ⟨(k.cell (p := ⟨b, off + i * 3, none⟩) h2).trans q1, (k.cell (p := ⟨b, off + i * 3 + 1, none⟩) h2).trans q2, (k.cell (p := ⟨b, off + i * 3 + 2, none⟩) h2).trans q3, q4⟩
theorem Nums.take {w : World} {a : Option Addr} {l : List Nm} (h : Nums w a l) (n : Nat) : Nums w a (l.take n) := by
  rcases h with rfl | ⟨b, off, h1, h2, h3⟩
  · exact .inl (by simp)
  · refine .inr ⟨b, off, h1, h2, fun i hi => ?_⟩
    have := h3 i (by simp at hi; omega)
    simpa using this

set_option maxRecDepth 100000 in
theorem some_any (a : Option Addr) (n c : Nat) (w : World) (h : n ≤ c) (hm : c ≤ maxLen) (ha : a = none → c = 0) : Calls Tryd.prog 21 #[.slice a n c] w fun e w' => e = .returned (.slice a (min n 500) c) ∧ w' = w := by
  unfold maxLen at hm
  by_cases q : 500 < n
  · have e : min n 500 = 500 := by omega
    rw [e]
    have q1 : (500 : Int) < (n : Int) := by omega
    have q2 : (500 : Int) ≤ (c : Int) := by omega
    have q3 : 500 ≤ c := by omega
    cases a with
    | none => have := ha rfl; omega
    | some ad =>
      go_enter Tryd.func21, Tryd.ntmps21
      go_wp2_with fail
      go_ret
      exact ⟨rfl, rfl⟩
  · have e : min n 500 = n := by omega
    rw [e]
    have q1 : ¬ (500 : Int) < (n : Int) := by omega
    go_enter Tryd.func21, Tryd.ntmps21
    go_wp2_with fail
    go_ret
    exact ⟨rfl, rfl⟩

theorem u_formB {l : List Nat} {pos n : Nat} {r : List Nat} (most : Nat) (h : l.drop pos = form n ++ r) (hn : n < 18446744073709551616) (hm : n ≤ most) : uV most l pos 0 = n ∧ uP most l pos 0 = pos + (form n).length ∧ uE most l pos 0 = 0 := by
  have h1 : rdE (l.drop pos) = 0 ∧ rdX (l.drop pos) = n ∧ rdN (l.drop pos) = (form n).length := by
    unfold rdE rdX rdN
    rw [h, rd_form r hn]
    exact ⟨rfl, rfl, rfl⟩
  obtain ⟨h1, h2, h3⟩ := h1
  unfold uV uP uE
  rw [h1, h2, h3]
  have : ¬ most < n := by omega
  simp [this]

/-- The cells of one number. -/
def HeldN (x : World) (b off k : Nat) (sg : Bool) (nn : Nat) (ii : Int) : Prop := x.cell? ⟨b, off + k * 3, none⟩ = some (.bool sg) ∧ x.cell? ⟨b, off + k * 3 + 1, none⟩ = some (.int .u64 (nn : Int)) ∧ x.cell? ⟨b, off + k * 3 + 2, none⟩ = some (.int .i64 ii)
theorem made_zero {w : World} {B n : Nat} {v : Value} (h : w.ownsRow B 5 1 v n (madeCells #[.int .u8 0] n).toList) : OwnB w B v (List.replicate n 0) := by
  have e : (madeCells #[.int .u8 0] n).toList = (ints (List.replicate n 0)).map (Value.int .u8) := by
    unfold madeCells
    apply List.ext_getElem
    · simp
    · intro i h1 h2
      simp [ints]
      rw [Nat.mod_one]
      rfl
  unfold OwnB Owns
  rw [ints_length, List.length_replicate, ← e]
  exact h
theorem tmodB (x n : Int) (h : 1 ≤ n) : -n < x.tmod n ∧ x.tmod n < n :=
  ⟨Int.lt_tmod_of_pos x (by omega), Int.tmod_lt_of_pos x (by omega)⟩
theorem HeldN.keep {S : Nat → Prop} {x x' : World} {b off k : Nat} {sg : Bool} {nn : Nat} {ii : Int} (h : HeldN x b off k sg nn ii) (q : Keep S x x') (hb : b < x.heap.size) (hn : ¬ S b) : HeldN x' b off k sg nn ii :=
  ⟨(q.cell (p := ⟨b, off + k * 3, none⟩) hb hn).trans h.1, (q.cell (p := ⟨b, off + k * 3 + 1, none⟩) hb hn).trans h.2.1, (q.cell (p := ⟨b, off + k * 3 + 2, none⟩) hb hn).trans h.2.2⟩

set_option maxHeartbeats 4000000 in
set_option maxRecDepth 100000 in
theorem back_any (xs : List Nm) (aa : Option Addr) (ca : Nat) (at0 : Int) (w : World) (ht : Tab w) (hx : Nums w aa xs) (hca : xs.length ≤ ca) (hma : ca ≤ maxLen) (hna : aa = none → ca = 0) :
    Calls Tryd.prog 5 #[.slice aa xs.length ca, .int .i64 at0] w fun e w' => e = .returned (.bool true) ∧ Below w.heap.size w w' := by
  have HT : Hid (Tab w) := ht
  have HX : Hid (Nums w aa xs) := hx
  clear ht hx
  go_enter Tryd.func5, Tryd.ntmps5
  go_wp2_with fail
  refine (awake_any _ HT.out).mono ?_
  rintro e w1 ⟨rfl, B1⟩
  go_wp2_with fail
  refine (some_any aa xs.length ca _ hca hma hna).mono ?_
  rintro e w' ⟨rfl, rfl⟩
  obtain ⟨l, hl⟩ : ∃ l, l = xs.take 500 := ⟨_, rfl⟩
  have e1 : min xs.length 500 = l.length := by rw [hl]; simp; omega
  have HL : Hid (Nums w aa l) := by rw [hl]; exact HX.out.take 500
  have n1 : l.length ≤ 500 := by rw [hl]; simp; omega
  have k1 : l.length ≤ ca := by omega
  rw [e1]
  clear e1 hl HX
  have hok : ∀ x ∈ l, x.ok := by
    intro x hx
    obtain ⟨j, hj, rfl⟩ := List.getElem_of_mem hx
    rcases HL.out with q | ⟨b, off, _, _, q⟩
    · rw [q] at hj; simp at hj
    · exact (q j hj).2.2.2
  have hokt : ∀ k x, x ∈ l.take k → x.ok := fun k x hx => hok x (List.mem_of_mem_take hx)
  have hfl : ∀ k, (joinF (l.take k)).length ≤ 5000 := fun k => by
    have := joinF_len (l.take k) (hokt k)
    have h2 : (l.take k).length ≤ 500 := by simp; omega
    omega
  have HFL : Hid (∀ k, (joinF (l.take k)).length ≤ 5000) := hfl
  have HOK : Hid (∀ x ∈ l, x.ok) := hok
  clear hokt hfl hok
  go_wp2_with fail
  refine (newWriter_any _).mono ?_
  rintro e w2 ⟨rfl, hw2⟩
  have b2 : Below w'.heap.size w' w2 := by rw [hw2]; exact alloc_below _ _
  have HW2 : Hid (Wr w2 w'.heap.size w'.heap.size (.slice none 0 0) []) := by
    unfold Hid
    rw [hw2]
    exact ⟨Cells.new _ _ _, Owns.nil _ _ _ _, nofun, Nat.le_refl _⟩
  have B2 : Below w.heap.size w w2 := bnext B1 b2 (Nat.le_refl _)
  have hww := B1.size
  clear hw2 b2
  go_wp2_with fail
  go_loopw [6] (fun i wr => ∃ (k : Nat) (v : Value), i = .int .i64 (k : Int) ∧ k ≤ l.length ∧ Wr wr w'.heap.size w'.heap.size v (joinF (l.take k)) ∧ Below w.heap.size w wr) (fun i _ => 500 - (intOf i).toNat)
  case atStart => exact ⟨0, _, rfl, Nat.zero_le _, HW2.out, B2⟩
  case round =>
    obtain ⟨k, v, rfl, hk, hwr, hbl⟩ := hrel
    have HW : Hid (Wr wr w'.heap.size w'.heap.size v (joinF (l.take k))) := hwr
    have hlen := HFL.out k
    clear hwr
    by_cases hlt : k < l.length
    · have g1 : (k : Int) < (l.length : Int) := by omega
      rcases (HL.out).below hbl with q | ⟨b, off, rfl, hb1, hcell⟩
      · rw [q] at hlt; simp at hlt
      · obtain ⟨c1, c2, c3, ok⟩ := hcell k hlt
        have HJ : Hid (joinF (l.take (k + 1)) = joinF (l.take k) ++ form l[k].x) := joinF_succ l k hlt
        have hmem : l[k] ∈ l := List.getElem_mem hlt
        clear hcell
        generalize hel : l[k] = el at *
        obtain ⟨sg, nn, ii⟩ := el
        obtain ⟨o1, o2, o3⟩ := ok
        simp only at c1 c2 c3 o1 o2 o3
        cases sg with
        | true =>
          go_wp2_with fail
          refine (writeS_any ii _ _ _ _ _ o2 o3 HW.out (by omega)).mono ?_
          rintro e w3 ⟨v3, rfl, W3, K3, _⟩
          have HW3 : Hid (Wr w3 w'.heap.size w'.heap.size v3 (joinF (l.take (k + 1)))) := by unfold Hid; rw [HJ.out]; exact W3
          have HB3 : Hid (Below w.heap.size w w3) := bkeep hbl K3 (Nat.le_refl _) (fun j q => by have := (HW.out.lt j q).1; omega)
          clear W3 K3
          go_wp2_with fail
          go_roundw
          case rel => exact ⟨k + 1, v3, by go_num, by omega, HW3.out, HB3.out⟩
          case measure => simp [intOf]; omega
        | false =>
          go_wp2_with fail
          refine (writeU_any nn _ _ _ _ _ o1 HW.out (by omega)).mono ?_
          rintro e w3 ⟨v3, rfl, W3, K3, _⟩
          have HW3 : Hid (Wr w3 w'.heap.size w'.heap.size v3 (joinF (l.take (k + 1)))) := by unfold Hid; rw [HJ.out]; exact W3
          have HB3 : Hid (Below w.heap.size w w3) := bkeep hbl K3 (Nat.le_refl _) (fun j q => by have := (HW.out.lt j q).1; omega)
          clear W3 K3
          go_wp2_with fail
          go_roundw
          case rel => exact ⟨k + 1, v3, by go_num, by omega, HW3.out, HB3.out⟩
          case measure => simp [intOf]; omega
    · obtain rfl : k = l.length := by omega
      rw [List.take_length] at HW hlen
      go_wp2_with fail
      refine (out_any _ _ _ _ _ HW.out (by omega)).mono ?_
      rintro e w3 ⟨v3, rfl, o3, b3⟩
      obtain ⟨a3, c3, rfl, s3, n3, l3, m3⟩ := o3.seen
      rw [ints_length] at l3
      rw [ints_length]
      have HS3 : Hid (Bytes w3 a3 (joinF l)) := s3
      have B3 : Below w.heap.size w w3 := bnext hbl b3 (Nat.le_refl _)
      clear o3 s3 b3 HW hbl
      go_wp2_with fail
      refine (newReader_any a3 (joinF l) c3 _ HS3.out l3 n3 (by omega) (joinF_bytes l)).mono ?_
      rintro e w4 ⟨p, a, c, rfl, hp, ha, hr, b4⟩
      have B4 : Below w.heap.size w w4 := bnext B3 b4 (Nat.le_refl _)
      have hwp : w.heap.size ≤ p := Nat.le_trans B3.size hp
      have HR4 : Hid (Rd w4 p a c (joinF l) 0 0) := hr
      clear hr b4 HS3 l3 n3 m3
      go_wp2_with fail
      go_loopw [8] (fun i wr => ∃ k : Nat, i = .int .i64 (k : Int) ∧ k ≤ l.length ∧ Rd wr p a c (joinF l) (joinF (l.take k)).length 0 ∧ Below w.heap.size w wr) (fun i _ => 500 - (intOf i).toNat)
      case atStart => exact ⟨0, rfl, Nat.zero_le _, HR4.out, B4⟩
      case round =>
        obtain ⟨k, rfl, hk, hrd, hbl⟩ := hrel
        have HR : Hid (Rd wr p a c (joinF l) (joinF (l.take k)).length 0) := hrd
        clear hrd
        by_cases hlt : k < l.length
        · have g1 : (k : Int) < (l.length : Int) := by omega
          rcases (HL.out).below hbl with q | ⟨b, off, rfl, hb1, hcell⟩
          · rw [q] at hlt; simp at hlt
          · have hb0 : b < w.heap.size := by
              rcases HL.out with q | ⟨b', off', q, hb', _⟩
              · rw [q] at hlt; simp at hlt
              · cases q; exact hb'
            obtain ⟨c1, c2, c3', ok⟩ := hcell k hlt
            have HJ : Hid (joinF (l.take (k + 1)) = joinF (l.take k) ++ form l[k].x) := joinF_succ l k hlt
            have hdr := joinF_drop l k hlt
            clear hcell
            generalize hel : l[k] = el at *
            obtain ⟨sg, nn, ii⟩ := el
            obtain ⟨o1, o2, o3⟩ := ok
            simp only at c1 c2 c3' o1 o2 o3
            cases sg with
            | true =>
              have hu := u_formB 18446744073709551615 hdr (sgn_lt o2 o3) (by have := sgn_lt o2 o3; show sgn ii ≤ _; omega)
              have K := fun x (h : Rd x p a c (joinF l) (joinF (l.take k)).length 0) => readS_any p a c (joinF l) (joinF (l.take k)).length 0 x h
              rw [hu.1, hu.2.1, hu.2.2] at K
              have ex : uns (Nm.x ⟨true, nn, ii⟩) = ii := uns_sgn ii
              rw [ex] at K
              have HK : Hid (∀ x, Rd x p a c (joinF l) (joinF (l.take k)).length 0 → Calls Tryd.prog 15 #[.pointer (some ⟨p, 0, none⟩)] x fun e x' => e = .returned (.int .i64 ii) ∧ Rd x' p a c (joinF l) ((joinF (l.take k)).length + (form (Nm.x ⟨true, nn, ii⟩)).length) 0 ∧ Keep (fun j => j = p) x x') := K
              have hlen1 : (joinF (l.take k)).length + (form (Nm.x ⟨true, nn, ii⟩)).length = (joinF (l.take (k + 1))).length := by rw [HJ.out]; simp
              clear K hu hdr ex
              have hblt : b < wr.drew.heap.size := hb1
              have hbp : ¬ b = p := by omega
              go_upto_region 17 with fail
              refine wp_region_held_drew (S := fun x => x.cell? ⟨b, off + k * 3, none⟩ = some (.bool true) ∧ x.cell? ⟨b, off + k * 3 + 1, none⟩ = some (.int .u64 (nn : Int)) ∧ x.cell? ⟨b, off + k * 3 + 2, none⟩ = some (.int .i64 ii)) (by kernel_rfl) ⟨c1, c2, c3'⟩ (fun hS => ?_)
              refine take_at 0 (some 58) (v := ?_) rfl rfl (by kernel_rfl) (by kernel_rfl) (by kernel_rfl) (fun _ _ _ h => h) ⟨by rfl, ?_⟩ hS ?_
              rotate_left
              · intro wq hSw; (try dsimp only at hSw); go_simp; try rfl
              simp only [Act.put, List.setIfInBounds_toArray, List.set_cons_zero, List.set_cons_succ]
              refine take_at 1 (some 59) (v := ?_) rfl rfl (by kernel_rfl) (by kernel_rfl) (by kernel_rfl) (fun _ _ _ h => h) ⟨by rfl, ?_⟩ hS ?_
              rotate_left
              · intro wq hSw; (try dsimp only at hSw); go_simp; try rfl
              simp only [Act.put, List.setIfInBounds_toArray, List.set_cons_zero, List.set_cons_succ]
              refine take_at 2 (some 60) (v := ?_) rfl rfl (by kernel_rfl) (by kernel_rfl) (by kernel_rfl) (fun _ _ _ h => h) ⟨by rfl, ?_⟩ hS ?_
              rotate_left
              · intro wq hSw; (try dsimp only at hSw); go_simp; try rfl
              simp only [Act.put, List.setIfInBounds_toArray, List.set_cons_zero, List.set_cons_succ]
              refine take_at 3 (some 61) (v := ?_) rfl rfl (by kernel_rfl) (by kernel_rfl) (by kernel_rfl) (fun _ _ _ h => h) ⟨by rfl, ?_⟩ hS ?_
              rotate_left
              · intro wq hSw; (try dsimp only at hSw); go_simp; try rfl
              simp only [Act.put, List.setIfInBounds_toArray, List.set_cons_zero, List.set_cons_succ]
              refine take_at 4 (some 62) (v := ?_) rfl rfl (by kernel_rfl) (by kernel_rfl) (by kernel_rfl) (fun _ _ _ h => h) ⟨by rfl, ?_⟩ hS ?_
              rotate_left
              · intro wq hSw; (try dsimp only at hSw); go_simp; try rfl
              simp only [Act.put, List.setIfInBounds_toArray, List.set_cons_zero, List.set_cons_succ]
              refine take_at 5 (some 63) (v := ?_) rfl rfl (by kernel_rfl) (by kernel_rfl) (by kernel_rfl) (fun _ _ _ h => h) ⟨by rfl, ?_⟩ hS ?_
              rotate_left
              · intro wq hSw; (try dsimp only at hSw); go_simp; try rfl
              simp only [Act.put, List.setIfInBounds_toArray, List.set_cons_zero, List.set_cons_succ]
              refine take_at 6 (some 64) (v := ?_) rfl rfl (by kernel_rfl) (by kernel_rfl) (by kernel_rfl) (fun _ _ _ h => h) ⟨by rfl, ?_⟩ hS ?_
              rotate_left
              · intro wq hSw; (try dsimp only at hSw); go_simp; try rfl
              simp only [Act.put, List.setIfInBounds_toArray, List.set_cons_zero, List.set_cons_succ]
              refine take_at 8 (some 66) (v := ?_) rfl rfl (by kernel_rfl) (by kernel_rfl) (by kernel_rfl) (fun _ _ _ h => h) ⟨by rfl, ?_⟩ hS ?_
              rotate_left
              · intro wq hSw; (try dsimp only at hSw); go_simp; try rfl
              simp only [Act.put, List.setIfInBounds_toArray, List.set_cons_zero, List.set_cons_succ]
              refine take_at 9 (some 67) (v := ?_) rfl rfl (by kernel_rfl) (by kernel_rfl) (by kernel_rfl) (fun _ _ _ h => h) ⟨by rfl, ?_⟩ hS ?_
              rotate_left
              · intro wq hSw; (try dsimp only at hSw); go_simp; try rfl
              simp only [Act.put, List.setIfInBounds_toArray, List.set_cons_zero, List.set_cons_succ]
              refine take_at 10 (some 68) (v := ?_) rfl rfl (by kernel_rfl) (by kernel_rfl) (by kernel_rfl) (fun _ _ _ h => h) ⟨by rfl, ?_⟩ hS ?_
              rotate_left
              · intro wq hSw; (try dsimp only at hSw); go_simp; try rfl
              simp only [Act.put, List.setIfInBounds_toArray, List.set_cons_zero, List.set_cons_succ]
              refine take_at 11 (some 69) (v := ?_) rfl rfl (by kernel_rfl) (by kernel_rfl) (by kernel_rfl) (fun _ _ _ h => h) ⟨by rfl, ?_⟩ hS ?_
              rotate_left
              · intro wq hSw; (try dsimp only at hSw); go_simp; try rfl
              simp only [Act.put, List.setIfInBounds_toArray, List.set_cons_zero, List.set_cons_succ]
              refine take_at 12 (some 70) (v := ?_) rfl rfl (by kernel_rfl) (by kernel_rfl) (by kernel_rfl) (fun _ _ _ h => h) ⟨by rfl, ?_⟩ hS ?_
              rotate_left
              · intro wq hSw; (try dsimp only at hSw); go_simp; try rfl
              simp only [Act.put, List.setIfInBounds_toArray, List.set_cons_zero, List.set_cons_succ]
              refine wpAnyH_ready (rs := [7]) (by kernel_rfl) (by simp) ?_
              refine AllReadyH.cons rfl (fun K hK => ?_) AllReadyH.nil
              go_simp
              go_wp2_with fail
              refine (HK.out wr.drew HR.out).mono ?_
              rintro e wz ⟨rfl, R5, K5⟩
              go_wp2_with fail
              refine hK.out _ _ ⟨(K5.cell (p := ⟨b, off + k * 3, none⟩) hblt hbp).trans hS.1, (K5.cell (p := ⟨b, off + k * 3 + 1, none⟩) hblt hbp).trans hS.2.1, (K5.cell (p := ⟨b, off + k * 3 + 2, none⟩) hblt hbp).trans hS.2.2⟩ (fun hT => ?_)
              clear hS
              have hS := hT
              clear hT
              clear hK K
              refine take_at 13 (some 71) (v := ?_) rfl rfl (by kernel_rfl) (by kernel_rfl) (by kernel_rfl) (fun _ _ _ h => h) ⟨by rfl, ?_⟩ hS ?_
              rotate_left
              · intro wq hSw; (try dsimp only at hSw); go_simp; try rfl
              simp only [Act.put, List.setIfInBounds_toArray, List.set_cons_zero, List.set_cons_succ]
              refine take_at 14 (some 72) (v := ?_) rfl rfl (by kernel_rfl) (by kernel_rfl) (by kernel_rfl) (fun _ _ _ h => h) ⟨by rfl, ?_⟩ hS ?_
              rotate_left
              · intro wq hSw; (try dsimp only at hSw); go_simp; try rfl
              simp only [Act.put, List.setIfInBounds_toArray, List.set_cons_zero, List.set_cons_succ]
              refine wpAnyH_done (by kernel_rfl) ?_ _
              have HR5 : Hid (Rd wz p a c (joinF l) (joinF (l.take (k + 1))).length 0) := by unfold Hid; rw [← hlen1]; exact R5
              have HB5 : Hid (Below w.heap.size w wz) := bkeep hbl (Keep.undrew K5) (Nat.le_refl _) (fun j q => by have : j = p := q; omega)
              obtain ⟨d1, d2, d3⟩ := hS
              clear R5 K5 c1 c2 c3' HK
              go_upto_region 19 with fail
              go_quiet (fail)
              have HR6 : Hid (Rd (wz.drewN nq) p a c (joinF l) (joinF (l.take (k + 1))).length 0) := HR5.out
              have HB6 : Hid (Below w.heap.size w (wz.drewN nq)) := ⟨HB5.out.os, HB5.out.tape, HB5.out.output, HB5.out.size, HB5.out.block⟩
              go_wp2_with fail
              go_roundw
              case rel => exact ⟨k + 1, by go_num, by omega, HR6.out, HB6.out⟩
              case measure => simp [intOf]; omega
            | false =>
              have hu := u_formB nn hdr o1 (Nat.le_refl _)
              have K := fun x (h : Rd x p a c (joinF l) (joinF (l.take k)).length 0) => readU_any nn p a c (joinF l) (joinF (l.take k)).length 0 x h
              rw [hu.1, hu.2.1, hu.2.2] at K
              have HK : Hid (∀ x, Rd x p a c (joinF l) (joinF (l.take k)).length 0 → Calls Tryd.prog 14 #[.pointer (some ⟨p, 0, none⟩), .int .u64 (nn : Int)] x fun e x' => e = .returned (.int .u64 (nn : Int)) ∧ Rd x' p a c (joinF l) ((joinF (l.take k)).length + (form (Nm.x ⟨false, nn, ii⟩)).length) 0 ∧ Keep (fun j => j = p) x x') := K
              have hlen1 : (joinF (l.take k)).length + (form (Nm.x ⟨false, nn, ii⟩)).length = (joinF (l.take (k + 1))).length := by rw [HJ.out]; simp
              clear K hu hdr
              have hbp : ¬ b = p := by omega
              go_upto_region 17 with fail
              go_quiet (fail)
              have hblt : b < (wr.drewN nq).drew.heap.size := hb1
              have e1 : (wr.drewN nq).drew.cell? ⟨b, off + k * 3, none⟩ = some (.bool false) := c1
              have e2 : (wr.drewN nq).drew.cell? ⟨b, off + k * 3 + 1, none⟩ = some (.int .u64 (nn : Int)) := c2
              have HR5 : Hid (Rd (wr.drewN nq).drew p a c (joinF l) (joinF (l.take k)).length 0) := HR.out
              have HB5 : Hid (Below w.heap.size w (wr.drewN nq).drew) := ⟨hbl.os, hbl.tape, hbl.output, hbl.size, hbl.block⟩
              go_upto_region 19 with fail
              refine wp_region_held_drew (S := fun x => x.cell? ⟨b, off + k * 3, none⟩ = some (.bool false) ∧ x.cell? ⟨b, off + k * 3 + 1, none⟩ = some (.int .u64 (nn : Int))) (by kernel_rfl) ⟨e1, e2⟩ (fun hS => ?_)
              refine take_at 0 (some 73) (v := ?_) rfl rfl (by kernel_rfl) (by kernel_rfl) (by kernel_rfl) (fun _ _ _ h => h) ⟨by rfl, ?_⟩ hS ?_
              rotate_left
              · intro wq hSw; (try dsimp only at hSw); go_simp; try rfl
              simp only [Act.put, List.setIfInBounds_toArray, List.set_cons_zero, List.set_cons_succ]
              refine take_at 1 (some 74) (v := ?_) rfl rfl (by kernel_rfl) (by kernel_rfl) (by kernel_rfl) (fun _ _ _ h => h) ⟨by rfl, ?_⟩ hS ?_
              rotate_left
              · intro wq hSw; (try dsimp only at hSw); go_simp; try rfl
              simp only [Act.put, List.setIfInBounds_toArray, List.set_cons_zero, List.set_cons_succ]
              refine take_at 2 (some 75) (v := ?_) rfl rfl (by kernel_rfl) (by kernel_rfl) (by kernel_rfl) (fun _ _ _ h => h) ⟨by rfl, ?_⟩ hS ?_
              rotate_left
              · intro wq hSw; (try dsimp only at hSw); go_simp; try rfl
              simp only [Act.put, List.setIfInBounds_toArray, List.set_cons_zero, List.set_cons_succ]
              refine take_at 3 (some 76) (v := ?_) rfl rfl (by kernel_rfl) (by kernel_rfl) (by kernel_rfl) (fun _ _ _ h => h) ⟨by rfl, ?_⟩ hS ?_
              rotate_left
              · intro wq hSw; (try dsimp only at hSw); go_simp; try rfl
              simp only [Act.put, List.setIfInBounds_toArray, List.set_cons_zero, List.set_cons_succ]
              refine take_at 4 (some 77) (v := ?_) rfl rfl (by kernel_rfl) (by kernel_rfl) (by kernel_rfl) (fun _ _ _ h => h) ⟨by rfl, ?_⟩ hS ?_
              rotate_left
              · intro wq hSw; (try dsimp only at hSw); go_simp; try rfl
              simp only [Act.put, List.setIfInBounds_toArray, List.set_cons_zero, List.set_cons_succ]
              refine take_at 5 (some 78) (v := ?_) rfl rfl (by kernel_rfl) (by kernel_rfl) (by kernel_rfl) (fun _ _ _ h => h) ⟨by rfl, ?_⟩ hS ?_
              rotate_left
              · intro wq hSw; (try dsimp only at hSw); go_simp; try rfl
              simp only [Act.put, List.setIfInBounds_toArray, List.set_cons_zero, List.set_cons_succ]
              refine take_at 6 (some 79) (v := ?_) rfl rfl (by kernel_rfl) (by kernel_rfl) (by kernel_rfl) (fun _ _ _ h => h) ⟨by rfl, ?_⟩ hS ?_
              rotate_left
              · intro wq hSw; (try dsimp only at hSw); go_simp; try rfl
              simp only [Act.put, List.setIfInBounds_toArray, List.set_cons_zero, List.set_cons_succ]
              refine take_at 7 (some 80) (v := ?_) rfl rfl (by kernel_rfl) (by kernel_rfl) (by kernel_rfl) (fun _ _ _ h => h) ⟨by rfl, ?_⟩ hS ?_
              rotate_left
              · intro wq hSw; (try dsimp only at hSw); go_simp; try rfl
              simp only [Act.put, List.setIfInBounds_toArray, List.set_cons_zero, List.set_cons_succ]
              refine take_at 8 (some 81) (v := ?_) rfl rfl (by kernel_rfl) (by kernel_rfl) (by kernel_rfl) (fun _ _ _ h => h) ⟨by rfl, ?_⟩ hS ?_
              rotate_left
              · intro wq hSw; (try dsimp only at hSw); go_simp; try rfl
              simp only [Act.put, List.setIfInBounds_toArray, List.set_cons_zero, List.set_cons_succ]
              refine take_at 9 (some 82) (v := ?_) rfl rfl (by kernel_rfl) (by kernel_rfl) (by kernel_rfl) (fun _ _ _ h => h) ⟨by rfl, ?_⟩ hS ?_
              rotate_left
              · intro wq hSw; (try dsimp only at hSw); go_simp; try rfl
              simp only [Act.put, List.setIfInBounds_toArray, List.set_cons_zero, List.set_cons_succ]
              refine take_at 10 (some 83) (v := ?_) rfl rfl (by kernel_rfl) (by kernel_rfl) (by kernel_rfl) (fun _ _ _ h => h) ⟨by rfl, ?_⟩ hS ?_
              rotate_left
              · intro wq hSw; (try dsimp only at hSw); go_simp; try rfl
              simp only [Act.put, List.setIfInBounds_toArray, List.set_cons_zero, List.set_cons_succ]
              refine take_at 11 (some 84) (v := ?_) rfl rfl (by kernel_rfl) (by kernel_rfl) (by kernel_rfl) (fun _ _ _ h => h) ⟨by rfl, ?_⟩ hS ?_
              rotate_left
              · intro wq hSw; (try dsimp only at hSw); go_simp; try rfl
              simp only [Act.put, List.setIfInBounds_toArray, List.set_cons_zero, List.set_cons_succ]
              refine take_at 12 (some 85) (v := ?_) rfl rfl (by kernel_rfl) (by kernel_rfl) (by kernel_rfl) (fun _ _ _ h => h) ⟨by rfl, ?_⟩ hS ?_
              rotate_left
              · intro wq hSw; (try dsimp only at hSw); go_simp; try rfl
              simp only [Act.put, List.setIfInBounds_toArray, List.set_cons_zero, List.set_cons_succ]
              refine take_at 14 (some 87) (v := ?_) rfl rfl (by kernel_rfl) (by kernel_rfl) (by kernel_rfl) (fun _ _ _ h => h) ⟨by rfl, ?_⟩ hS ?_
              rotate_left
              · intro wq hSw; (try dsimp only at hSw); go_simp; try rfl
              simp only [Act.put, List.setIfInBounds_toArray, List.set_cons_zero, List.set_cons_succ]
              refine take_at 15 (some 88) (v := ?_) rfl rfl (by kernel_rfl) (by kernel_rfl) (by kernel_rfl) (fun _ _ _ h => h) ⟨by rfl, ?_⟩ hS ?_
              rotate_left
              · intro wq hSw; (try dsimp only at hSw); go_simp; try rfl
              simp only [Act.put, List.setIfInBounds_toArray, List.set_cons_zero, List.set_cons_succ]
              refine take_at 16 (some 89) (v := ?_) rfl rfl (by kernel_rfl) (by kernel_rfl) (by kernel_rfl) (fun _ _ _ h => h) ⟨by rfl, ?_⟩ hS ?_
              rotate_left
              · intro wq hSw; (try dsimp only at hSw); go_simp; try rfl
              simp only [Act.put, List.setIfInBounds_toArray, List.set_cons_zero, List.set_cons_succ]
              refine take_at 17 (some 90) (v := ?_) rfl rfl (by kernel_rfl) (by kernel_rfl) (by kernel_rfl) (fun _ _ _ h => h) ⟨by rfl, ?_⟩ hS ?_
              rotate_left
              · intro wq hSw; (try dsimp only at hSw); go_simp; try rfl
              simp only [Act.put, List.setIfInBounds_toArray, List.set_cons_zero, List.set_cons_succ]
              refine take_at 18 (some 91) (v := ?_) rfl rfl (by kernel_rfl) (by kernel_rfl) (by kernel_rfl) (fun _ _ _ h => h) ⟨by rfl, ?_⟩ hS ?_
              rotate_left
              · intro wq hSw; (try dsimp only at hSw); go_simp; try rfl
              simp only [Act.put, List.setIfInBounds_toArray, List.set_cons_zero, List.set_cons_succ]
              refine wpAnyH_ready (rs := [13]) (by kernel_rfl) (by simp) ?_
              refine AllReadyH.cons rfl (fun K hK => ?_) AllReadyH.nil
              go_simp
              go_wp2_with fail
              refine (HK.out _ HR5.out).mono ?_
              rintro e wz ⟨rfl, R5, K5⟩
              go_wp2_with fail
              refine hK.out _ _ ⟨(K5.cell (p := ⟨b, off + k * 3, none⟩) hblt hbp).trans hS.1, (K5.cell (p := ⟨b, off + k * 3 + 1, none⟩) hblt hbp).trans hS.2⟩ (fun hT => ?_)
              clear hS
              have hS := hT
              clear hT
              clear hK K
              refine take_at 19 (some 92) (v := ?_) rfl rfl (by kernel_rfl) (by kernel_rfl) (by kernel_rfl) (fun _ _ _ h => h) ⟨by rfl, ?_⟩ hS ?_
              rotate_left
              · intro wq hSw; (try dsimp only at hSw); go_simp; try rfl
              simp only [Act.put, List.setIfInBounds_toArray, List.set_cons_zero, List.set_cons_succ]
              refine take_at 20 (some 93) (v := ?_) rfl rfl (by kernel_rfl) (by kernel_rfl) (by kernel_rfl) (fun _ _ _ h => h) ⟨by rfl, ?_⟩ hS ?_
              rotate_left
              · intro wq hSw; (try dsimp only at hSw); go_simp; try rfl
              simp only [Act.put, List.setIfInBounds_toArray, List.set_cons_zero, List.set_cons_succ]
              refine wpAnyH_done (by kernel_rfl) ?_ _
              have HR6 : Hid (Rd wz p a c (joinF l) (joinF (l.take (k + 1))).length 0) := by unfold Hid; rw [← hlen1]; exact R5
              have HB6 : Hid (Below w.heap.size w wz) := bkeep HB5.out K5 (Nat.le_refl _) (fun j q => by have : j = p := q; omega)
              clear R5 K5 c1 c2 c3' HK
              go_wp2_with fail
              go_roundw
              case rel => exact ⟨k + 1, by go_num, by omega, HR6.out, HB6.out⟩
              case measure => simp [intOf]; omega
        · obtain rfl : k = l.length := by omega
          rw [List.take_length] at HR
          have K := end_any p a c (joinF l) (joinF l).length 0 wr HR.out
          have ee : endE (joinF l) (joinF l).length 0 = 0 := by unfold endE; rw [if_neg (by omega)]
          rw [ee] at K
          have HK : Hid (Calls Tryd.prog 18 #[.pointer (some ⟨p, 0, none⟩)] wr fun x w' => x = .returned (.tuple #[]) ∧ Rd w' p a c (joinF l) (joinF l).length 0 ∧ Keep (fun k => k = p) wr w') := K
          clear K ee
          go_wp2_with fail
          refine HK.out.mono ?_
          rintro e w5 ⟨rfl, R5, K5⟩
          have HB5 : Hid (Below w.heap.size w w5) := bkeep hbl K5 (Nat.le_refl _) (fun j q => by have : j = p := q; omega)
          have HR5 : Hid (Rd w5 p a c (joinF l) (joinF l).length 0) := R5
          clear R5 K5 HK
          go_wp2_with fail
          refine (fault_any p a c (joinF l) (joinF l).length 0 _ HR5.out).mono ?_
          rintro e w6 ⟨rfl, b6⟩
          have ef : faultP (joinF l).length 0 = 0 := by simp [faultP]
          rw [ef]
          have HB6 : Hid (Below w.heap.size w w6) := bnext HB5.out b6 (Nat.le_refl _)
          clear b6 HB5 HR5 ef hbl HR HR4
          obtain ⟨t1, t2⟩ := tmodB at0 100 (by omega)
          go_upto_if 111 with (go_at_call 17; refine (num_any _ _).mono ?_; rintro e w' ⟨rfl, rfl⟩)
          go_cut [1] (fun s y => ∃ at_ : Nat, at_ < 100 ∧ s = .int .i64 (at_ : Int) ∧ y = w')
          case first =>
            by_cases hneg : at0.tmod 100 < 0
            · go_wp2_with fail
              go_meet
              exact ⟨(-(at0.tmod 100)).toNat, by omega, by go_num, rfl⟩
            · go_wp2_with fail
              go_meet
              exact ⟨(at0.tmod 100).toNat, by omega, by go_num, rfl⟩
          case rest =>
            obtain ⟨at_, hat, rfl, rfl⟩ := hcut
            clear t1 t2
            go_wp2_with fail
            go_loopw [11] (fun i wr => ∃ k : Nat, i = .int .i64 (k : Int) ∧ k ≤ l.length ∧ Below w.heap.size w wr) (fun i _ => 500 - (intOf i).toNat)
            case atStart => exact ⟨0, rfl, Nat.zero_le _, HB6.out⟩
            case round =>
              obtain ⟨k, rfl, hk, hbl⟩ := hrel
              by_cases hlt : k < l.length
              · have g1 : (k : Int) < (l.length : Int) := by omega
                go_wp2_with fail
                go_loopw [12] (fun i ws => ∃ s : Nat, i = .int .i64 (s : Int) ∧ 1 ≤ s ∧ s ≤ 9 ∧ Below w.heap.size w ws) (fun i _ => 9 - (intOf i).toNat)
                case atStart => exact ⟨1, rfl, by omega, by omega, hbl⟩
                case round =>
                  obtain ⟨sz, rfl, hs1, hs9, hbs⟩ := hrel
                  by_cases hs8 : sz ≤ 8
                  · rcases (HL.out).below hbs with q | ⟨b, off, rfl, hb1, hcell⟩
                    · rw [q] at hlt; simp at hlt
                    · have hb0 : b < w.heap.size := by
                        rcases HL.out with q | ⟨b', off', q, hb', _⟩
                        · rw [q] at hlt; simp at hlt
                        · cases q; exact hb'
                      obtain ⟨_, c2, _, ok⟩ := hcell k hlt
                      have o1 := ok.1
                      clear hcell ok
                      generalize l[k].n = nn at *
                      obtain ⟨i0, hi0, hz0, hz1, hz2⟩ := info_parts info5
                      have hby : i0.bytes * (at_ + sz + 2) ≤ 281474976710656 := by rw [hz2]; omega
                      have hmx : at_ + sz + 2 ≤ maxLen := by unfold maxLen; omega
                      have HM : Hid (i0.bytes * (at_ + sz + 2) ≤ 281474976710656 ∧ at_ + sz + 2 ≤ maxLen) := ⟨hby, hmx⟩
                      have HI : Hid (Tryd.prog.info? 5 = some i0 ∧ i0.zero = some (.int .u8 0) ∧ i0.size = 1) := ⟨hi0, hz0, hz1⟩
                      clear hby hmx hi0 hz0 hz1 hz2
                      go_wp2_with (at_make; refine wpList_make_full wr rfl (.tmp 127) (.tmp 127) 29 rfl wr.heap.size 5 i0 (.int .u8 0) 1 Tryd.underlying29 HI.out.1 HI.out.2.1 HI.out.2.2 .i64 .i64 _ _ (at_ + sz + 2) rfl rfl ?cL ?cC HM.out.1 HM.out.2 (Nat.le_refl _) ?_)
                      case cL => omega
                      case cC => omega
                      intro w7 hown hgr
                      have hO : OwnB w7 wr.heap.size (.slice (some ⟨wr.heap.size, 0, none⟩) (at_ + sz + 2) (at_ + sz + 2)) (List.replicate (at_ + sz + 2) 0) := made_zero hown
                      have b7 : Below wr.heap.size wr w7 := (Below.refl _ _).grown hgr (Nat.le_refl _) (by nofun)
                      have HO7 : Hid (OwnB w7 wr.heap.size (.slice (some ⟨wr.heap.size, 0, none⟩) (at_ + sz + 2) (at_ + sz + 2)) (List.replicate (at_ + sz + 2) 0)) := hO
                      have HB7 : Hid (Below w.heap.size w w7) := bnext hbs b7 (Nat.le_refl _)
                      have d2 : w7.cell? ⟨b, off + k * 3 + 1, none⟩ = some (.int .u64 (nn : Int)) := (b7.cell (p := ⟨b, off + k * 3 + 1, none⟩) hb1).trans c2
                      have hwr := hbs.size
                      clear hown hgr hO b7 c2 HM HI
                      have hlenR : (List.replicate (at_ + sz + 2) 0).length = at_ + sz + 2 := by simp
                      by_cases hfit : nn < 256 ^ sz
                      · have hq : nn / 2 ^ (8 * sz) = 0 := by rw [Nat.pow_mul]; exact Nat.div_eq_of_lt hfit
                        have K := put_ok wr.heap.size (at_ + sz + 2) (at_ + sz + 2) (at_ + sz + 2) at_ sz nn wr.heap.size (List.replicate (at_ + sz + 2) 0) w7 HO7.out (by omega) hs1 hs8 (by omega) (Nat.le_refl _) (by rw [hlenR]; exact Nat.le_refl _) hfit
                        go_wp2_with fail
                        refine K.mono ?_
                        rintro e w8 ⟨rfl, O8, K8⟩
                        have hL8 : (wrote (List.replicate (at_ + sz + 2) 0) at_ nn sz).length = at_ + sz + 2 := by simp
                        have aB8 : AllB (wrote (List.replicate (at_ + sz + 2) 0) at_ nn sz) := wrote_bytes at_ nn (fun y hy => by rw [List.eq_of_mem_replicate hy]; decide) sz
                        have hrd := wrote_read (List.replicate (at_ + sz + 2) 0) at_ nn sz (by rw [hlenR]; omega)
                        have hg1 := wrote_get (List.replicate (at_ + sz + 2) 0) at_ nn sz (by rw [hlenR]; omega) (at_ + sz)
                        have hg2 := wrote_get (List.replicate (at_ + sz + 2) 0) at_ nn sz (by rw [hlenR]; omega) (at_ + sz + 1)
                        rw [if_neg (by omega)] at hg1 hg2
                        have hz1 : (List.replicate (at_ + sz + 2) 0).getD (at_ + sz) 0 = 0 := by simp
                        have hz2 : (List.replicate (at_ + sz + 2) 0).getD (at_ + sz + 1) 0 = 0 := by simp
                        rw [hz1] at hg1
                        rw [hz2] at hg2
                        generalize wrote (List.replicate (at_ + sz + 2) 0) at_ nn sz = R at *
                        have S8 := Owns.seen_at O8
                        have G := get_ok (some ⟨wr.heap.size, 0, none⟩) (at_ + sz + 2) at_ sz R w8 S8 aB8 (by omega) hs1 hs8 (by omega) (by omega)
                        have ef : fromB ((R.drop at_).take sz) = nn := by rw [hrd, fromB_bytesOf]; exact Nat.mod_eq_of_lt hfit
                        rw [ef, hL8] at G
                        have HG : Hid (Calls Tryd.prog 23 #[.slice (some ⟨wr.heap.size, 0, none⟩) (at_ + sz + 2) (at_ + sz + 2), .int .i64 (at_ : Int), .int .i64 (sz : Int)] w8 fun e w' => e = .returned (.tuple #[.int .u64 (nn : Int), .int .i64 0]) ∧ w' = w8) := G
                        obtain ⟨b1, off1, hab1, _, q1⟩ := Bytes.at S8 (i := at_ + sz) (by omega)
                        simp only [Option.some.injEq, Addr.mk.injEq] at hab1
                        obtain ⟨rfl, rfl, _⟩ := hab1
                        obtain ⟨b1, off1, hab1, _, q2⟩ := Bytes.at S8 (i := at_ + sz + 1) (by omega)
                        simp only [Option.some.injEq, Addr.mk.injEq] at hab1
                        obtain ⟨rfl, rfl, _⟩ := hab1
                        rw [hg1, Nat.zero_add] at q1
                        rw [hg2, Nat.zero_add] at q2
                        have HB8 : Hid (Below w.heap.size w w8) := bkeep HB7.out K8 (Nat.le_refl _) (fun j q => by have : j = wr.heap.size := q; omega)
                        have d3 : w8.cell? ⟨b, off + k * 3 + 1, none⟩ = some (.int .u64 (nn : Int)) := (K8.cell (p := ⟨b, off + k * 3 + 1, none⟩) (Nat.lt_of_lt_of_le hb0 HB7.out.size) (by show ¬ b = wr.heap.size; omega)).trans d2
                        have hdz : decide ((0 : Int) < (nn : Int) / 2 ^ (8 * sz)) = false := by rw [div_cast, hq]; rfl
                        clear K O8 K8 S8 G ef hrd hg1 hg2 hz1 hz2 aB8 d2 HO7 HB7 hq
                        go_wp2_with fail
                        refine HG.out.mono ?_
                        rintro e w9 ⟨rfl, rfl⟩
                        by_cases h8' : sz < 8
                        · have g5 : (sz : Int) < 8 := by omega
                          go_wp2_with (go_at_call 17; refine (num_any _ _).mono ?_; rintro e w' ⟨rfl, rfl⟩)
                          go_roundw
                          case rel => exact ⟨sz + 1, by go_num, by omega, by omega, HB8.out⟩
                          case measure => simp [intOf]; omega
                        · have g5 : decide ((sz : Int) < 8) = false := by simp; omega
                          go_wp2_with (go_at_call 17; refine (num_any _ _).mono ?_; rintro e w' ⟨rfl, rfl⟩)
                          go_roundw
                          case rel => exact ⟨sz + 1, by go_num, by omega, by omega, HB8.out⟩
                          case measure => simp [intOf]; omega
                      · have hsz8 : sz < 8 := by
                          rcases Nat.lt_or_ge sz 8 with q | q
                          · exact q
                          · obtain rfl : sz = 8 := by omega
                            have : (256 : Nat) ^ 8 = 18446744073709551616 := by decide
                            omega
                        have hq : 0 < nn / 2 ^ (8 * sz) := by rw [Nat.pow_mul]; exact Nat.div_pos (Nat.le_of_not_lt hfit) (Nat.pow_pos (by decide))
                        have hdz : decide ((0 : Int) < (nn : Int) / 2 ^ (8 * sz)) = true := by
                          rw [div_cast]
                          generalize nn / 2 ^ (8 * sz) = q at hq
                          simp
                          omega
                        have K := put_big wr.heap.size 0 (at_ + sz + 2) (at_ + sz + 2) at_ sz nn w7 (by omega) hs1 hs8 (by omega) (Nat.le_refl _) (by omega)
                        go_wp2_with fail
                        refine K.mono ?_
                        rintro e w8 ⟨rfl, rfl⟩
                        have G := get_ok (some ⟨wr.heap.size, 0, none⟩) (at_ + sz + 2) at_ sz (List.replicate (at_ + sz + 2) 0) w8 (Owns.seen_at HO7.out) (fun y hy => by rw [List.eq_of_mem_replicate hy]; decide) (by rw [hlenR]; omega) hs1 hs8 (by rw [hlenR]; omega) (by rw [hlenR]; exact Nat.le_refl _)
                        rw [zeros_read _ _ _ (by omega), hlenR] at G
                        have HG : Hid (Calls Tryd.prog 23 #[.slice (some ⟨wr.heap.size, 0, none⟩) (at_ + sz + 2) (at_ + sz + 2), .int .i64 (at_ : Int), .int .i64 (sz : Int)] w8 fun e w' => e = .returned (.tuple #[.int .u64 ((0 : Nat) : Int), .int .i64 0]) ∧ w' = w8) := G
                        have g5 : (sz : Int) < 8 := by omega
                        clear K G hq HO7
                        go_wp2_with fail
                        refine HG.out.mono ?_
                        rintro e w9 ⟨rfl, rfl⟩
                        go_wp2_with (go_at_call 17; refine (num_any _ _).mono ?_; rintro e w' ⟨rfl, rfl⟩)
                        go_roundw
                        case rel => exact ⟨sz + 1, by go_num, by omega, by omega, HB7.out⟩
                        case measure => simp [intOf]; omega
                  · obtain rfl : sz = 9 := by omega
                    go_wp2_with fail
                    go_roundw
                    case rel => exact ⟨k + 1, by go_num, by omega, hbs⟩
                    case measure => simp [intOf]; omega
              · obtain rfl : k = l.length := by omega
                go_wp2_with fail
                go_ret
                exact ⟨rfl, hbl⟩
end Go.Proofs.YtllpfojkbeloeaaDoor
