import Derived.Test.YtokcocmenndlmaaTx9
namespace Go.Proofs.Ytokcocmenndlmaa
open Go.RowKit Go.QK Go.Maps Go.QM Go.QT
set_option maxRecDepth 100000
theorem below_drewN {B : Nat} {w w1 : World} (h : Below B w w1) (q : Nat) : Below B w (w1.drewN q) := ⟨h.os, h.tape, h.output, h.size, h.block⟩
set_option maxHeartbeats 1000000 in
theorem same_true (L : List Lv) (a b : Option Addr) (c d : Nat) (w : World) (h1 : Lies w a (rowsC lvC L)) (h2 : Lies w b (rowsC lvC L)) (hl : L.length ≤ 1000000) :
    Calls Try.prog 15 #[.slice a L.length c, .slice b L.length d] w fun e w' => e = .returned (.bool true) ∧ Below w.heap.size w w' := by
  go_enter Try.func15, Try.ntmps15
  go_wp2
  go_loopw [5] (fun v wr => ∃ k : Nat, v = .int .i64 (k : Int) ∧ k ≤ L.length ∧ Below w.heap.size w wr) (fun v _ => L.length - (intOf v).toNat)
  case atStart => exact ⟨0, rfl, Nat.zero_le _, Below.refl _ _⟩
  case round =>
    obtain ⟨k, rfl, hk, hb⟩ := hrel
    by_cases hlt : k < L.length
    · obtain ⟨b1, o1, rfl, hb1, p0, p1, p2, p3⟩ := row_at h1 hb hlt
      obtain ⟨b2, o2, rfl, hb2, r0, r1, r2, r3⟩ := row_at h2 hb hlt
      have HB := hide hb
      generalize L[k] = x at *
      obtain ⟨z1, z2, z3, z4⟩ := x
      simp only at p0 p1 p2 p3 r0 r1 r2 r3
      clear hb h1 h2
      go_upto_region 6 with fail
      go_quiet (fail)
      go_wp2_with fail
      go_roundw
      case rel => exact ⟨k + 1, by go_num, by omega, below_drewN HB.out _⟩
      case measure => simp [intOf]; omega
    · have HB := hide hb
      clear hb h1 h2
      go_wp2
      go_ret
      exact ⟨rfl, HB.out⟩
def t1 : TbM := ⟨[], 1⟩
def t2 : TbM := ⟨[⟨1, 3, false, false⟩], 2⟩
def t3 : TbM := ⟨[⟨1, 5, false, false⟩], 2⟩
def t4 : TbM := ⟨[⟨1, 5, true, false⟩], 2⟩
def t5 : TbM := ⟨[], 2⟩
theorem aw1 : t1.beginN 3 = 1 ∧ t1.beginE 3 = 0 ∧ t1.beginT 3 = t2 := ⟨rfl, rfl, rfl⟩
theorem aw2 : t2.noteE 5 3 1 3 = 0 ∧ t2.noteT 5 3 1 3 = t3 := ⟨rfl, rfl⟩
theorem aw3 : t3.noteE 6 7 1 5 = 70 ∧ t3.noteT 6 7 1 5 = t3 := ⟨rfl, rfl⟩
theorem aw4 : getV t3.L 1 = lvV ⟨1, 5, false, false⟩ ∧ getE t3.L 1 = 0 ∧ getE t3.L 2 = 130 ∧ getV t3.L 2 = lvV ⟨0, 0, false, false⟩ := ⟨rfl, rfl, rfl, rfl⟩
theorem aw5 : t4.noteE 6 7 1 5 = 0 ∧ t4.noteT 6 7 1 5 = t5 := ⟨rfl, rfl⟩
theorem aw6 : loadOk [⟨1, 5, true, false⟩] 2 = true := rfl
abbrev litR (lsn k tx prev : Int) : Array Value := #[.int .i64 lsn, .int .i64 k, .int .i64 tx, .int .i64 prev, .int .i64 0, .int .i64 0, .int .i64 0, .int .i64 0, .int .i64 0, .int .i64 0, .int .i64 0, .int .i64 0, .int .i64 0, .int .i64 0, .slice none 0 0, .slice none 0 0, .int .i64 0]
theorem litR_rec (lsn k tx prev : Int) (h : I64 tx) : RecA (litR lsn k tx prev) lsn k tx prev := ⟨rfl, rfl, rfl, rfl, rfl, h⟩
theorem row_form {w : World} {B n : Nat} {v : Value} {xs : List Value} (h : GRow w B 26 4 v n xs) (hn : v.ownBlock ≠ none) : ∃ g cap, v = .slice (some ⟨g, 0, none⟩) n cap ∧ B ≤ g ∧ g < w.heap.size ∧ Lies w (some ⟨g, 0, none⟩) xs := by
  obtain ⟨a, c, e, hl, _⟩ := GRow.lies h
  have hlt := World.ownsRow.lt h
  rcases h.2 with ⟨q, _⟩ | ⟨g, cap, cur, q, _⟩
  · rw [q] at hn; exact absurd rfl hn
  · refine ⟨g, cap, q, (hlt g (by rw [q]; rfl)).1, (hlt g (by rw [q]; rfl)).2, ?_⟩
    rw [q] at e
    cases e
    exact hl
set_option maxHeartbeats 8000000 in
theorem awake_any (w : World) : Calls Try.prog 8 #[] w fun e w' => e = .returned (.bool true) ∧ Below w.heap.size w w' := by
  have KN : ∀ w, Calls Try.prog 6 #[.int .i64 1] w _ := fun w => new_yes 1 w rfl
  have KZ : ∀ w, Calls Try.prog 6 #[.int .i64 0] w _ := fun w => new_no 0 w rfl
  go_enter Try.func8, Try.ntmps8
  go_wp2_with fail
  refine (KN _).mono ?_
  rintro e w1 ⟨rfl, P1, B1, -⟩
  obtain ⟨b, hb⟩ : ∃ b, b = w.heap.size + 1 := ⟨_, rfl⟩
  obtain ⟨m, hm⟩ : ∃ m, m = w.heap.size := ⟨_, rfl⟩
  have HP1 := hide (show PT w1 b m t1 by rw [hb, hm]; exact P1)
  have LO := hide (show w.heap.size ≤ b ∧ w.heap.size ≤ m by omega)
  have HB1 := hide B1
  rw [← hb]
  clear P1 B1 hb hm KN
  have e1 := fun w => (ptr_nil b 27 (.inl rfl) w).1
  have KB : ∀ w', PT w' b m t1 → Calls Try.prog 11 #[ptr b, .int .i64 3] w' _ := fun w' h => Begin_any b m t1 3 w' h
  have K1 := fun w' (h : PT w' b m t2) => note_any b m t2 (litR 5 3 1 3) 5 3 1 3 w' h (litR_rec _ _ _ _ (by unfold I64; omega))
  have K2 := fun w' (h : PT w' b m t3) => note_any b m t3 (litR 6 7 1 5) 6 7 1 5 w' h (litR_rec _ _ _ _ (by unfold I64; omega))
  unfold NotePost at K1 K2
  have KG1 := fun w' (h : PT w' b m t3) => get_any b m t3 1 w' h (by unfold I64; omega)
  have KG2 := fun w' (h : PT w' b m t3) => get_any b m t3 2 w' h (by unfold I64; omega)
  simp only [aw1, aw2, aw3, aw4, lvV] at KB K1 K2 KG1 KG2
  go_upto_region 6 with (first | (go_at_call 7; refine (num_eq _ _).mono ?_; rintro e wz ⟨rfl, rfl⟩) | (go_at_call 6; refine (KZ _).mono ?_; rintro e wz ⟨rfl, rfl⟩) | (go_at_call 11; refine (KB _ HP1.out).mono ?_; rintro e w2 ⟨rfl, p2, k2⟩; have HP2 := hide p2; have HB2 := hide (HB1.out.trans (k2.below HB1.out.size (fun z hz q => by have := LO.out; omega))); clear p2 k2 HP1 HB1))
  clear KB KZ
  go_upto_region 8 with (first | (go_at_call 7; refine (num_eq _ _).mono ?_; rintro e wz ⟨rfl, rfl⟩) | (go_at_call 12; first
    | (refine (K1 _ HP2.out).mono ?_; rintro e w3 ⟨rfl, p3, k3⟩; have HP3 := hide p3; have HB3 := hide (HB2.out.trans (k3.below HB2.out.size (fun z hz q => by have := LO.out; omega))); clear p3 k3 HP2 HB2 K1)
    | (refine (K2 _ HP3.out).mono ?_; rintro e w4 ⟨rfl, p4, k4⟩; have HP4 := hide p4; have HB4 := hide (HB3.out.trans (k4.below HB3.out.size (fun z hz q => by have := LO.out; omega))); clear p4 k4 HP3 HB3 K2)))
  go_wp2_with fail
  refine (KG1 _ HP4.out).mono ?_
  rintro e w5 ⟨rfl, h5⟩
  have HP5 := hide (HP4.out.below h5)
  have HB5 := hide (HB4.out.trans (h5.mono HB4.out.size))
  clear h5 HP4 HB4 KG1
  go_upto_region 9 with fail
  refine named (P := Code.wp _ _ _ _) ?_
  intro w6 hw6
  obtain ⟨lb, hlb⟩ : ∃ lb, lb = w5.heap.size := ⟨_, rfl⟩
  have C6 := hide (show Cells w6 lb [.int .i64 1, .int .i64 5, .bool false, .bool false] by rw [hw6, hlb]; exact Cells.new _ _ _)
  have HP6 := hide (show PT w6 b m t3 by rw [hw6]; exact HP5.out.below (alloc_below _ _))
  have HB6 := hide (show Below w.heap.size w w6 by rw [hw6]; exact HB5.out.alloc HB5.out.size _)
  rw [← hlb]
  clear hw6 hlb HP5 HB5
  go_wp2_with fail
  refine (KG2 _ HP6.out).mono ?_
  rintro e w7 ⟨rfl, h7⟩
  have HP7 := hide (HP6.out.below h7)
  have HB7 := hide (HB6.out.trans (h7.mono HB6.out.size))
  have C7 := hide (C6.out.below h7)
  clear h7 HP6 HB6 C6 KG2
  go_upto_region 10 with fail
  refine named (P := Code.wp _ _ _ _) ?_
  intro w8 hw8
  have HP8 := hide (show PT w8 b m t3 by rw [hw8]; exact HP7.out.below (alloc_below _ _))
  have HB8 := hide (show Below w.heap.size w w8 by rw [hw8]; exact HB7.out.alloc HB7.out.size _)
  have C8 := hide (show Cells w8 lb [.int .i64 1, .int .i64 5, .bool false, .bool false] by rw [hw8]; exact C7.out.below (alloc_below _ _))
  clear hw8 HP7 HB7 C7
  have KX : ∀ w', PT w' b m t3 → Calls Try.prog 13 #[ptr b] w' _ := fun w' h => next_any b m t3 w' h
  have KL := fun w' (h : PT w' b m t3) => live_any b m t3 w' h
  simp only [show t3.next = 2 from rfl, show t3.L.length = 1 from rfl] at KX KL
  go_cut [98] (fun v w' => v = .bool false ∧ Below w.heap.size w w')
  case first =>
    refine wp_region_held_drew (S := fun wq => Below w8.heap.size w8 wq) (by kernel_rfl) (Below.refl _ _).drew (fun hS => ?_)
    refine take_at 0 (some 73) (v := ?_) rfl rfl (by kernel_rfl) (by kernel_rfl) (by kernel_rfl) (fun _ _ _ h => h) ⟨by rfl, ?_⟩ hS ?_
    rotate_left
    · intro wq hSw; have qq := C8.out.below hSw; obtain ⟨q0, _⟩ := qq.get 0 _ rfl; obtain ⟨q1, _⟩ := qq.get 1 _ rfl; obtain ⟨q2, _⟩ := qq.get 2 _ rfl; obtain ⟨q3, _⟩ := qq.get 3 _ rfl; clear qq; go_simp; try rfl
    simp only [Act.put, List.setIfInBounds_toArray, List.set_cons_zero, List.set_cons_succ]
    refine take_at 1 (some 74) (v := ?_) rfl rfl (by kernel_rfl) (by kernel_rfl) (by kernel_rfl) (fun _ _ _ h => h) ⟨by rfl, ?_⟩ hS ?_
    rotate_left
    · intro wq hSw; go_simp; try rfl
    simp only [Act.put, List.setIfInBounds_toArray, List.set_cons_zero, List.set_cons_succ]
    refine take_at 2 (some 75) (v := ?_) rfl rfl (by kernel_rfl) (by kernel_rfl) (by kernel_rfl) (fun _ _ _ h => h) ⟨by rfl, ?_⟩ hS ?_
    rotate_left
    · intro wq hSw; go_simp; try rfl
    simp only [Act.put, List.setIfInBounds_toArray, List.set_cons_zero, List.set_cons_succ]
    refine take_at 3 (some 76) (v := ?_) rfl rfl (by kernel_rfl) (by kernel_rfl) (by kernel_rfl) (fun _ _ _ h => h) ⟨by rfl, ?_⟩ hS ?_
    rotate_left
    · intro wq hSw; go_simp; try rfl
    simp only [Act.put, List.setIfInBounds_toArray, List.set_cons_zero, List.set_cons_succ]
    refine take_at 4 (some 77) (v := ?_) rfl rfl (by kernel_rfl) (by kernel_rfl) (by kernel_rfl) (fun _ _ _ h => h) ⟨by rfl, ?_⟩ hS ?_
    rotate_left
    · intro wq hSw; go_simp; try rfl
    simp only [Act.put, List.setIfInBounds_toArray, List.set_cons_zero, List.set_cons_succ]
    refine wpAnyH_ready (rs := [5]) (by kernel_rfl) (by simp) ?_
    refine AllReadyH.cons rfl (fun K hK => ?_) AllReadyH.nil
    go_simp
    go_wp2_with fail
    refine (num_eq _ _).mono ?_
    rintro e wz ⟨rfl, rfl⟩
    go_wp2_with fail
    refine hK.out _ _ hS (fun hS => ?_)
    clear hK K
    (try simp only [Act.put, List.setIfInBounds_toArray, List.set_cons_zero, List.set_cons_succ])
    refine take_at 6 (some 79) (v := ?_) rfl rfl (by kernel_rfl) (by kernel_rfl) (by kernel_rfl) (fun _ _ _ h => h) ⟨by rfl, ?_⟩ hS ?_
    rotate_left
    · intro wq hSw; go_simp; try rfl
    simp only [Act.put, List.setIfInBounds_toArray, List.set_cons_zero, List.set_cons_succ]
    refine take_at 7 (some 80) (v := ?_) rfl rfl (by kernel_rfl) (by kernel_rfl) (by kernel_rfl) (fun _ _ _ h => h) ⟨by rfl, ?_⟩ hS ?_
    rotate_left
    · intro wq hSw; go_simp; try rfl
    simp only [Act.put, List.setIfInBounds_toArray, List.set_cons_zero, List.set_cons_succ]
    refine take_at 8 (some 81) (v := ?_) rfl rfl (by kernel_rfl) (by kernel_rfl) (by kernel_rfl) (fun _ _ _ h => h) ⟨by rfl, ?_⟩ hS ?_
    rotate_left
    · intro wq hSw; go_simp; try rfl
    simp only [Act.put, List.setIfInBounds_toArray, List.set_cons_zero, List.set_cons_succ]
    refine take_at 9 (some 82) (v := ?_) rfl rfl (by kernel_rfl) (by kernel_rfl) (by kernel_rfl) (fun _ _ _ h => h) ⟨by rfl, ?_⟩ hS ?_
    rotate_left
    · intro wq hSw; go_simp; try rfl
    simp only [Act.put, List.setIfInBounds_toArray, List.set_cons_zero, List.set_cons_succ]
    refine wpAnyH_ready (rs := [10]) (by kernel_rfl) (by simp) ?_
    refine AllReadyH.cons rfl (fun K hK => ?_) AllReadyH.nil
    go_simp
    go_wp2_with fail
    refine (num_eq _ _).mono ?_
    rintro e wz ⟨rfl, rfl⟩
    go_wp2_with fail
    refine hK.out _ _ hS (fun hS => ?_)
    clear hK K
    (try simp only [Act.put, List.setIfInBounds_toArray, List.set_cons_zero, List.set_cons_succ])
    refine take_at 11 (some 84) (v := ?_) rfl rfl (by kernel_rfl) (by kernel_rfl) (by kernel_rfl) (fun _ _ _ h => h) ⟨by rfl, ?_⟩ hS ?_
    rotate_left
    · intro wq hSw; go_simp; try rfl
    simp only [Act.put, List.setIfInBounds_toArray, List.set_cons_zero, List.set_cons_succ]
    refine take_at 12 (some 85) (v := ?_) rfl rfl (by kernel_rfl) (by kernel_rfl) (by kernel_rfl) (fun _ _ _ h => h) ⟨by rfl, ?_⟩ hS ?_
    rotate_left
    · intro wq hSw; go_simp; try rfl
    simp only [Act.put, List.setIfInBounds_toArray, List.set_cons_zero, List.set_cons_succ]
    refine take_at 13 (some 86) (v := ?_) rfl rfl (by kernel_rfl) (by kernel_rfl) (by kernel_rfl) (fun _ _ _ h => h) ⟨by rfl, ?_⟩ hS ?_
    rotate_left
    · intro wq hSw; go_simp; try rfl
    simp only [Act.put, List.setIfInBounds_toArray, List.set_cons_zero, List.set_cons_succ]
    refine take_at 14 (some 87) (v := ?_) rfl rfl (by kernel_rfl) (by kernel_rfl) (by kernel_rfl) (fun _ _ _ h => h) ⟨by rfl, ?_⟩ hS ?_
    rotate_left
    · intro wq hSw; go_simp; try rfl
    simp only [Act.put, List.setIfInBounds_toArray, List.set_cons_zero, List.set_cons_succ]
    refine wpAnyH_ready (rs := [15]) (by kernel_rfl) (by simp) ?_
    refine AllReadyH.cons rfl (fun K hK => ?_) AllReadyH.nil
    go_simp
    go_wp2_with fail
    refine (KX _ (HP8.out.below hS)).mono ?_
    rintro e wz ⟨rfl, rfl⟩
    go_wp2_with fail
    refine hK.out _ _ hS (fun hS => ?_)
    clear hK K
    (try simp only [Act.put, List.setIfInBounds_toArray, List.set_cons_zero, List.set_cons_succ])
    refine take_at 16 (some 89) (v := ?_) rfl rfl (by kernel_rfl) (by kernel_rfl) (by kernel_rfl) (fun _ _ _ h => h) ⟨by rfl, ?_⟩ hS ?_
    rotate_left
    · intro wq hSw; go_simp; try rfl
    simp only [Act.put, List.setIfInBounds_toArray, List.set_cons_zero, List.set_cons_succ]
    refine take_at 17 (some 90) (v := ?_) rfl rfl (by kernel_rfl) (by kernel_rfl) (by kernel_rfl) (fun _ _ _ h => h) ⟨by rfl, ?_⟩ hS ?_
    rotate_left
    · intro wq hSw; go_simp; try rfl
    simp only [Act.put, List.setIfInBounds_toArray, List.set_cons_zero, List.set_cons_succ]
    refine take_at 18 (some 91) (v := ?_) rfl rfl (by kernel_rfl) (by kernel_rfl) (by kernel_rfl) (fun _ _ _ h => h) ⟨by rfl, ?_⟩ hS ?_
    rotate_left
    · intro wq hSw; go_simp; try rfl
    simp only [Act.put, List.setIfInBounds_toArray, List.set_cons_zero, List.set_cons_succ]
    refine take_at 19 (some 92) (v := ?_) rfl rfl (by kernel_rfl) (by kernel_rfl) (by kernel_rfl) (fun _ _ _ h => h) ⟨by rfl, ?_⟩ hS ?_
    rotate_left
    · intro wq hSw; go_simp; try rfl
    simp only [Act.put, List.setIfInBounds_toArray, List.set_cons_zero, List.set_cons_succ]
    refine take_at 21 (some 94) (v := ?_) rfl rfl (by kernel_rfl) (by kernel_rfl) (by kernel_rfl) (fun _ _ _ h => h) ⟨by rfl, ?_⟩ hS ?_
    rotate_left
    · intro wq hSw; have qq := C8.out.below hSw; obtain ⟨q0, _⟩ := qq.get 0 _ rfl; obtain ⟨q1, _⟩ := qq.get 1 _ rfl; obtain ⟨q2, _⟩ := qq.get 2 _ rfl; obtain ⟨q3, _⟩ := qq.get 3 _ rfl; clear qq; go_simp; try rfl
    simp only [Act.put, List.setIfInBounds_toArray, List.set_cons_zero, List.set_cons_succ]
    have D1 := hide hS
    clear hS
    generalize w8.drew = x1 at *
    refine wpAnyH_ready (rs := [20, 22]) (by kernel_rfl) (by simp) ?_
    refine AllReadyH.cons rfl (fun K hK => ?_) (AllReadyH.cons rfl (fun K hK => ?_) AllReadyH.nil)
    · go_simp
      go_wp2_with fail
      refine (KL _ (HP8.out.below D1.out)).mono ?_
      rintro e x2 ⟨v, rfl, hrow, hnb, hh⟩
      obtain ⟨g1, c1, rfl, -, -, hl1⟩ := row_form hrow hnb
      have RL := hide hl1
      have D2 := hide (D1.out.trans (hh.mono D1.out.size))
      clear hrow hnb hh hl1
      go_wp2_with fail
      refine hK.out _ _ D2.out (fun hS => ?_)
      clear hK K hS
      (try simp only [Act.put, List.setIfInBounds_toArray, List.set_cons_zero, List.set_cons_succ])
      refine wpAnyH_ready (rs := [22]) (by kernel_rfl) (by simp) ?_
      refine AllReadyH.cons rfl (fun K hK => ?_) AllReadyH.nil
      go_simp
      go_wp2_with fail
      refine hK.out _ _ (D2.out.alloc D2.out.size _) (fun hS => ?_)
      clear hK K hS
      (try simp only [Act.put, List.setIfInBounds_toArray, List.set_cons_zero, List.set_cons_succ])
      have D3 := hide (D2.out.alloc D2.out.size (.cells #[.int .i64 1, .int .i64 5, .bool false, .bool false] 26))
      have R1 := hide (RL.out.below (alloc_below x2 (.cells #[.int .i64 1, .int .i64 5, .bool false, .bool false] 26)))
      have R2 := hide (lies_new4 x2 ⟨1, 5, false, false⟩ 26)
      clear D2 RL
      refine wpAnyH_ready (rs := [23]) (by kernel_rfl) (by simp) ?_
      refine AllReadyH.cons rfl (fun K hK => ?_) AllReadyH.nil
      go_simp
      go_wp2_with fail
      refine (same_true [⟨1, 5, false, false⟩] _ _ _ _ _ R1.out R2.out (by simp)).mono ?_
      rintro e x4 ⟨rfl, hh⟩
      have D4 := hide (D3.out.trans (hh.mono D3.out.size))
      clear hh
      go_wp2_with fail
      refine hK.out _ _ D4.out (fun hS => ?_)
      clear hK K
      (try simp only [Act.put, List.setIfInBounds_toArray, List.set_cons_zero, List.set_cons_succ])
      refine take_at 24 (some 97) (v := ?_) rfl rfl (by kernel_rfl) (by kernel_rfl) (by kernel_rfl) (fun _ _ _ h => h) ⟨by rfl, ?_⟩ hS ?_
      rotate_left
      · intro wq hSw; go_simp; try rfl
      simp only [Act.put, List.setIfInBounds_toArray, List.set_cons_zero, List.set_cons_succ]
      refine take_at 25 (some 98) (v := ?_) rfl rfl (by kernel_rfl) (by kernel_rfl) (by kernel_rfl) (fun _ _ _ h => h) ⟨by rfl, ?_⟩ hS ?_
      rotate_left
      · intro wq hSw; go_simp; try rfl
      simp only [Act.put, List.setIfInBounds_toArray, List.set_cons_zero, List.set_cons_succ]
      clear hS
      refine wpAnyH_done (by kernel_rfl) ?_ _
      go_wp2_with fail
      go_meet
      exact ⟨rfl, HB8.out.trans (D4.out.mono HB8.out.size)⟩
    · go_simp
      go_wp2_with fail
      refine hK.out _ _ (D1.out.alloc D1.out.size _) (fun hS => ?_)
      clear hK K hS
      (try simp only [Act.put, List.setIfInBounds_toArray, List.set_cons_zero, List.set_cons_succ])
      have D1b := hide (D1.out.alloc D1.out.size (.cells #[.int .i64 1, .int .i64 5, .bool false, .bool false] 26))
      have R0 := hide (lies_new4 x1 ⟨1, 5, false, false⟩ 26)
      refine wpAnyH_ready (rs := [20]) (by kernel_rfl) (by simp) ?_
      refine AllReadyH.cons rfl (fun K hK => ?_) AllReadyH.nil
      go_simp
      go_wp2_with fail
      refine (KL _ (HP8.out.below D1b.out)).mono ?_
      rintro e x2 ⟨v, rfl, hrow, hnb, hh⟩
      obtain ⟨g1, c1, rfl, -, -, hl1⟩ := row_form hrow hnb
      have RL := hide hl1
      have D2 := hide (D1b.out.trans (hh.mono D1b.out.size))
      have R2 := hide (R0.out.below hh)
      have R1 := RL
      have D3 := D2
      clear hrow hnb hh hl1
      go_wp2_with fail
      refine hK.out _ _ D2.out (fun hS => ?_)
      clear hK K hS
      (try simp only [Act.put, List.setIfInBounds_toArray, List.set_cons_zero, List.set_cons_succ])
      refine wpAnyH_ready (rs := [23]) (by kernel_rfl) (by simp) ?_
      refine AllReadyH.cons rfl (fun K hK => ?_) AllReadyH.nil
      go_simp
      go_wp2_with fail
      refine (same_true [⟨1, 5, false, false⟩] _ _ _ _ _ R1.out R2.out (by simp)).mono ?_
      rintro e x4 ⟨rfl, hh⟩
      have D4 := hide (D3.out.trans (hh.mono D3.out.size))
      clear hh
      go_wp2_with fail
      refine hK.out _ _ D4.out (fun hS => ?_)
      clear hK K
      (try simp only [Act.put, List.setIfInBounds_toArray, List.set_cons_zero, List.set_cons_succ])
      refine take_at 24 (some 97) (v := ?_) rfl rfl (by kernel_rfl) (by kernel_rfl) (by kernel_rfl) (fun _ _ _ h => h) ⟨by rfl, ?_⟩ hS ?_
      rotate_left
      · intro wq hSw; go_simp; try rfl
      simp only [Act.put, List.setIfInBounds_toArray, List.set_cons_zero, List.set_cons_succ]
      refine take_at 25 (some 98) (v := ?_) rfl rfl (by kernel_rfl) (by kernel_rfl) (by kernel_rfl) (fun _ _ _ h => h) ⟨by rfl, ?_⟩ hS ?_
      rotate_left
      · intro wq hSw; go_simp; try rfl
      simp only [Act.put, List.setIfInBounds_toArray, List.set_cons_zero, List.set_cons_succ]
      clear hS
      refine wpAnyH_done (by kernel_rfl) ?_ _
      go_wp2_with fail
      go_meet
      exact ⟨rfl, HB8.out.trans (D4.out.mono HB8.out.size)⟩
  case rest =>
    obtain ⟨rfl, hb⟩ := hcut
    have HB := hide hb
    clear hb HP8 HB8 C8 KX KL
    go_upto_region 12 with fail
    have KW : Calls Try.prog 14 #[.agg #[.slice (some ⟨wc.heap.size, 0, none⟩) 1 1, .slice none 0 0, .int .i64 2]] (wc.alloc (.cells #[.int .i64 1, .int .i64 5, .bool true, .bool false] 26)) _ := load_yes (some ⟨wc.heap.size, 0, none⟩) 1 (.slice none 0 0) 2 [⟨1, 5, true, false⟩] _ (lies_new4 wc ⟨1, 5, true, false⟩ 26) (by simp) aw6
    go_wp2_with fail
    refine KW.mono ?_
    rintro e w10 ⟨u, n, rfl, pu, lu, ln, hbu⟩
    have HBc := hide (HB.out.alloc HB.out.size (.cells #[.int .i64 1, .int .i64 5, .bool true, .bool false] 26))
    have HB10 := hide (HBc.out.trans (hbu.mono HBc.out.size))
    have LU := hide (show w.heap.size ≤ u ∧ w.heap.size ≤ n by have := HBc.out.size; omega)
    have HPU := hide (show PT w10 u n t4 from pu)
    have e2 := fun w => (ptr_nil u 27 (.inl rfl) w).2
    have K5 := fun w' (h : PT w' u n t4) => note_any u n t4 (litR 6 7 1 5) 6 7 1 5 w' h (litR_rec _ _ _ _ (by unfold I64; omega))
    have KL := fun w' (h : PT w' u n t5) => live_any u n t5 w' h
    unfold NotePost at K5
    simp only [aw5] at K5
    simp only [show t5.L.length = 0 from rfl] at KL
    clear pu lu ln hbu KW HB HBc e1
    go_wp2_with (first | (go_at_call 7; refine (num_eq _ _).mono ?_; rintro e wz ⟨rfl, rfl⟩) | (go_at_call 12; refine (K5 _ HPU.out).mono ?_; rintro e w11 ⟨rfl, p3, k3⟩; have HP11 := hide p3; have HB11 := hide (HB10.out.trans (k3.below HB10.out.size (fun z hz q => by have := LU.out; omega))); clear p3 k3 HPU HB10 K5) | (go_at_call 9; refine (KL _ HP11.out).mono ?_; rintro e w12 ⟨v, rfl, hrow, hnb, hh⟩; obtain ⟨g1, c1, rfl, -, -, -⟩ := row_form hrow hnb; have HB12 := hide (HB11.out.trans (hh.mono HB11.out.size)); clear hrow hnb hh))
    go_ret
    exact ⟨rfl, HB12.out⟩
end Go.Proofs.Ytokcocmenndlmaa
