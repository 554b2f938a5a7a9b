import Derived.Test.YtadppakflbilcaaRm13
import Derived.Test.YtadppakflbilcaaRm6
namespace Go.Proofs.Ytadppakflbilcaa
open Go.RowKit Go.QK Go.Maps Go.QM Go.QR
set_option maxRecDepth 100000
theorem row_one {y : Lay} (hy : y.Good) {w : World} {S : Nat → Prop} {b : Nat} {v : Value} {P : List TV} (h : Ls y w S b v P) : ∀ u ∈ y.row P, u.oneCell' = true := by
  intro u hu
  unfold Lay.row rowsC at hu
  obtain ⟨p, hp, hu⟩ := List.mem_flatMap.1 hu
  obtain ⟨a, c, e, _⟩ := (h.own p hp).seen
  rw [e] at hu
  exact hy.one _ _ _ _ u hu
theorem Owns.mono0 {w : World} {B : Nat} {v : Value} {xs : List Int} (h : Owns .i64 3 w B v xs) : Owns .i64 3 w 0 v xs := GRow.mono h (Nat.zero_le _)
theorem out_turn {y : Lay} {S : Nat → Prop} {w w' : World} {b : Nat} {v : Value} {P : List TV} {L : List Tx} (h : Ls y w' S b v P) (e : P.map Prod.fst = L) (hk : Keep S w w') : OutL y w S b L w' := ⟨S, ⟨v, P, h, e⟩, fun _ _ q => q, hk⟩
set_option maxHeartbeats 4000000 in
theorem rwrote5 (S : Nat → Prop) (b : Nat) (L : List Tx) (tx c : Int) (w : World) (h : Lst refL w S b L) (hok : Ok L) (i : Nat) (t : Tx) (hi : idx L tx = some i) (hg : get L tx = some t) : Calls Try.prog 35 #[ptr b, .int .i64 tx, .int .i64 5, .int .i64 c] w fun r w' => r = .returned (.int .i64 (wroteE L tx 5 c)) ∧ OutL refL w S b (wroteL L tx 5 c) w' := by
  have K := rat_any S b L tx w h (by have := hok.few; omega)
  have HR := hide h
  obtain ⟨v, P, h, e⟩ := h
  have hil := idx_lt hi
  obtain ⟨t', ht, hg', htn⟩ := idx_get hi
  obtain rfl : t = t' := by rw [hg] at hg'; cases hg'; rfl
  clear hg'
  rw [hi] at K
  simp only [placeI] at K
  have hd : decide ((i : Int) < 0) = false := by simp
  have hlen := map_len e
  have few := hok.few
  have hip : i < P.length := by omega
  have hpn : P.length ≤ 32 := by omega
  have tok := hok.each t (get_mem hg).1
  obtain ⟨vk, hpk⟩ := map_at e ht
  obtain ⟨g, cap, rfl, hgl, p0, p1, p2, fz⟩ := h.refAt hpk
  obtain ⟨k0, -⟩ := h.box.get 0 _ rfl
  obtain ⟨va, vc, rfl⟩ := h.list hpk
  obtain ⟨wn, hwn⟩ : ∃ wn, wn = w.alloc (.cells #[.int .i64 t.n, .int .i64 t.st, .slice va t.hs.length vc] 80) := ⟨_, rfl⟩
  obtain ⟨nb, hnb⟩ : ∃ nb, nb = w.heap.size := ⟨_, rfl⟩
  have A1 : Below w.heap.size w wn := by rw [hwn]; exact alloc_below _ _
  have h1 := h.below A1
  have C1 : Cells wn nb [.int .i64 t.n, .int .i64 t.st, .slice va t.hs.length vc] := by
    rw [hwn, hnb]
    exact Cells.new w #[.int .i64 t.n, .int .i64 t.st, .slice va t.hs.length vc] 80
  obtain ⟨k1, -⟩ := h1.box.get 0 _ rfl
  obtain ⟨C1x, -⟩ := C1.get 1 _ rfl
  obtain ⟨C2x, -⟩ := C1.get 2 _ rfl
  obtain ⟨C0x, -⟩ := C1.get 0 _ rfl
  have HWN := hide hwn
  have HNB0 := hide hnb
  clear hwn hnb hlen hil
  rw [(wrote5 hg).1, (wrote5 hg).2]
  by_cases q : t.st = 0
  · rw [if_pos q, if_pos q]
    have q2 : (t.st != 0) = false := by simp [q]
    have UP : upd L tx (fun u => u.turn 1) = L.set i (t.turn 1) := upd_idx hok.nd _ hi ht
    rw [UP]
    obtain ⟨T1, KT1⟩ := h1.turn ref_good hpk rfl 1 (.int .i64 1) 1 (by decide) rfl
    change Ls refL (World.setCell _ ⟨g, i * 3 + 1, none⟩ _) _ _ _ _ at T1
    change Keep S _ (World.setCell _ ⟨g, i * 3 + 1, none⟩ _) at KT1
    obtain ⟨g1, cap1, ev1, hgl1, s0, s1, s2, fz1⟩ := h1.refAt hpk
    cases ev1
    have FIN := hide (OutL.after A1 (out_turn (L := L.set i (t.turn 1)) T1 (by rw [List.map_set, e]; rfl) KT1))
    clear T1 KT1 h1 h e hok UP hi ht hg htn hpk q
    clear C1 A1
    generalize P.length = n at *
    go_enter Try.func35, Try.ntmps35
    go_upto_region 5 with (go_at_call 43; refine K.mono ?_; rintro e w3 ⟨rfl, rfl⟩)
    rw [← HWN.out, ← HNB0.out]
    clear HWN HNB0 k0 p0 p1 p2 fz K
    go_wp2_with fail
    go_ret
    exact ⟨rfl, FIN.out⟩
  · rw [if_neg q, if_neg q]
    have q2 : (t.st != 0) = true := by simpa using q
    have HA := hide A1
    clear h1 h e hok hi ht hg htn hpk q
    generalize P.length = n at *
    go_enter Try.func35, Try.ntmps35
    go_upto_region 5 with (go_at_call 43; refine K.mono ?_; rintro e w3 ⟨rfl, rfl⟩)
    rw [← HWN.out, ← HNB0.out]
    clear HWN HNB0 k0 p0 p1 p2 fz K
    go_wp2_with fail
    go_ret
    exact ⟨rfl, HR.out.stays HA.out⟩
set_option maxHeartbeats 4000000 in
theorem rwrote6 (S : Nat → Prop) (b : Nat) (L : List Tx) (tx c : Int) (w : World) (h : Lst refL w S b L) (hok : Ok L) (i : Nat) (t : Tx) (hi : idx L tx = some i) (hg : get L tx = some t) : Calls Try.prog 35 #[ptr b, .int .i64 tx, .int .i64 6, .int .i64 c] w fun r w' => r = .returned (.int .i64 (wroteE L tx 6 c)) ∧ OutL refL w S b (wroteL L tx 6 c) w' := by
  have K := rat_any S b L tx w h (by have := hok.few; omega)
  have HR := hide h
  obtain ⟨v, P, h, e⟩ := h
  have hil := idx_lt hi
  obtain ⟨t', ht, hg', htn⟩ := idx_get hi
  obtain rfl : t = t' := by rw [hg] at hg'; cases hg'; rfl
  clear hg'
  rw [hi] at K
  simp only [placeI] at K
  have hd : decide ((i : Int) < 0) = false := by simp
  have hlen := map_len e
  have few := hok.few
  have hip : i < P.length := by omega
  have hpn : P.length ≤ 32 := by omega
  have tok := hok.each t (get_mem hg).1
  obtain ⟨vk, hpk⟩ := map_at e ht
  obtain ⟨g, cap, rfl, hgl, p0, p1, p2, fz⟩ := h.refAt hpk
  obtain ⟨k0, -⟩ := h.box.get 0 _ rfl
  obtain ⟨va, vc, rfl⟩ := h.list hpk
  obtain ⟨wn, hwn⟩ : ∃ wn, wn = w.alloc (.cells #[.int .i64 t.n, .int .i64 t.st, .slice va t.hs.length vc] 80) := ⟨_, rfl⟩
  obtain ⟨nb, hnb⟩ : ∃ nb, nb = w.heap.size := ⟨_, rfl⟩
  have A1 : Below w.heap.size w wn := by rw [hwn]; exact alloc_below _ _
  have h1 := h.below A1
  have C1 : Cells wn nb [.int .i64 t.n, .int .i64 t.st, .slice va t.hs.length vc] := by
    rw [hwn, hnb]
    exact Cells.new w #[.int .i64 t.n, .int .i64 t.st, .slice va t.hs.length vc] 80
  obtain ⟨k1, -⟩ := h1.box.get 0 _ rfl
  obtain ⟨C1x, -⟩ := C1.get 1 _ rfl
  obtain ⟨C2x, -⟩ := C1.get 2 _ rfl
  obtain ⟨C0x, -⟩ := C1.get 0 _ rfl
  have HWN := hide hwn
  have HNB0 := hide hnb
  clear hwn hnb hlen hil
  rw [(wrote6 hg).1, (wrote6 hg).2]
  by_cases q : t.st = 0
  · rw [if_pos q, if_pos q]
    have q2 : (t.st != 0) = false := by simp [q]
    have UP : upd L tx (fun u => u.turn 2) = L.set i (t.turn 2) := upd_idx hok.nd _ hi ht
    rw [UP]
    obtain ⟨T1, KT1⟩ := h1.turn ref_good hpk rfl 1 (.int .i64 1) 1 (by decide) rfl
    change Ls refL (World.setCell _ ⟨g, i * 3 + 1, none⟩ _) _ _ _ _ at T1
    change Keep S _ (World.setCell _ ⟨g, i * 3 + 1, none⟩ _) at KT1
    obtain ⟨g1, cap1, ev1, hgl1, s0, s1, s2, fz1⟩ := h1.refAt hpk
    cases ev1
    have hpk2 : (P.set i ((⟨t.n, 1, t.hs⟩ : Tx), Value.slice va t.hs.length vc))[i]? = some (⟨t.n, 1, t.hs⟩, Value.slice va t.hs.length vc) := by simp [hip]
    obtain ⟨T2, KT2⟩ := T1.turn ref_good hpk2 (by rw [List.length_set]) 1 (.int .i64 2) 2 (by decide) rfl
    change Ls refL (World.setCell _ ⟨g, i * 3 + 1, none⟩ _) _ _ _ _ at T2
    change Keep S _ (World.setCell _ ⟨g, i * 3 + 1, none⟩ _) at KT2
    obtain ⟨g2, cap2, ev2, hgl2, m0, m1, m2, fz2⟩ := T1.refAt hpk2
    rw [List.length_set] at ev2
    cases ev2
    obtain ⟨k2, -⟩ := T1.box.get 0 _ rfl
    have FIN := hide (OutL.after A1 (out_turn (L := L.set i (t.turn 2)) T2 (by rw [List.map_set, List.map_set, e, List.set_set]; rfl) (KT1.trans KT2 (fun _ _ z => z))))
    clear T1 KT1 T2 KT2 h1 h e hok UP hi ht hg htn hpk q hpk2
    clear C1 A1
    generalize P.length = n at *
    go_enter Try.func35, Try.ntmps35
    go_upto_region 5 with (go_at_call 43; refine K.mono ?_; rintro e w3 ⟨rfl, rfl⟩)
    rw [← HWN.out, ← HNB0.out]
    clear HWN HNB0 k0 p0 p1 p2 fz K
    go_wp2_with fail
    go_ret
    exact ⟨rfl, FIN.out⟩
  · rw [if_neg q, if_neg q]
    have q2 : (t.st != 0) = true := by simpa using q
    have HA := hide A1
    clear h1 h e hok hi ht hg htn hpk q
    generalize P.length = n at *
    go_enter Try.func35, Try.ntmps35
    go_upto_region 5 with (go_at_call 43; refine K.mono ?_; rintro e w3 ⟨rfl, rfl⟩)
    rw [← HWN.out, ← HNB0.out]
    clear HWN HNB0 k0 p0 p1 p2 fz K
    go_wp2_with fail
    go_ret
    exact ⟨rfl, HR.out.stays HA.out⟩
set_option maxHeartbeats 4000000 in
theorem rwrote7 (S : Nat → Prop) (b : Nat) (L : List Tx) (tx c : Int) (w : World) (h : Lst refL w S b L) (hok : Ok L) (i : Nat) (t : Tx) (hi : idx L tx = some i) (hg : get L tx = some t) : Calls Try.prog 35 #[ptr b, .int .i64 tx, .int .i64 7, .int .i64 c] w fun r w' => r = .returned (.int .i64 (wroteE L tx 7 c)) ∧ OutL refL w S b (wroteL L tx 7 c) w' := by
  have K := rat_any S b L tx w h (by have := hok.few; omega)
  have HR := hide h
  obtain ⟨v, P, h, e⟩ := h
  have hil := idx_lt hi
  obtain ⟨t', ht, hg', htn⟩ := idx_get hi
  obtain rfl : t = t' := by rw [hg] at hg'; cases hg'; rfl
  clear hg'
  rw [hi] at K
  simp only [placeI] at K
  have hd : decide ((i : Int) < 0) = false := by simp
  have hlen := map_len e
  have few := hok.few
  have hip : i < P.length := by omega
  have hpn : P.length ≤ 32 := by omega
  have tok := hok.each t (get_mem hg).1
  obtain ⟨vk, hpk⟩ := map_at e ht
  obtain ⟨g, cap, rfl, hgl, p0, p1, p2, fz⟩ := h.refAt hpk
  obtain ⟨k0, -⟩ := h.box.get 0 _ rfl
  obtain ⟨va, vc, rfl⟩ := h.list hpk
  obtain ⟨wn, hwn⟩ : ∃ wn, wn = w.alloc (.cells #[.int .i64 t.n, .int .i64 t.st, .slice va t.hs.length vc] 80) := ⟨_, rfl⟩
  obtain ⟨nb, hnb⟩ : ∃ nb, nb = w.heap.size := ⟨_, rfl⟩
  have A1 : Below w.heap.size w wn := by rw [hwn]; exact alloc_below _ _
  have h1 := h.below A1
  have C1 : Cells wn nb [.int .i64 t.n, .int .i64 t.st, .slice va t.hs.length vc] := by
    rw [hwn, hnb]
    exact Cells.new w #[.int .i64 t.n, .int .i64 t.st, .slice va t.hs.length vc] 80
  obtain ⟨k1, -⟩ := h1.box.get 0 _ rfl
  obtain ⟨C1x, -⟩ := C1.get 1 _ rfl
  obtain ⟨C2x, -⟩ := C1.get 2 _ rfl
  obtain ⟨C0x, -⟩ := C1.get 0 _ rfl
  have HWN := hide hwn
  have HNB0 := hide hnb
  clear hwn hnb hlen hil
  rw [(wrote7 hg).1, (wrote7 hg).2]
  have HA := hide A1
  by_cases q : t.st = 0
  · rw [if_pos (.inl q), if_pos (.inl q)]
    have q2 : (t.st == 0) = true := by simpa using q
    clear h1 h e hok hi ht hg htn hpk q
    generalize P.length = n at *
    go_enter Try.func35, Try.ntmps35
    go_upto_region 5 with (go_at_call 43; refine K.mono ?_; rintro e w3 ⟨rfl, rfl⟩)
    rw [← HWN.out, ← HNB0.out]
    clear HWN HNB0 k0 p0 p1 p2 fz K
    go_wp2_with fail
    go_ret
    exact ⟨rfl, HR.out.stays HA.out⟩
  have q0 : (t.st == 0) = false := by simpa using q
  by_cases q1 : t.st = 2 ∧ t.hs ≠ []
  · rw [if_pos (.inr q1), if_pos (.inr q1)]
    have q2 : (t.st == 2) = true := by simpa using q1.1
    have q3 : decide ((0 : Int) < (t.hs.length : Int)) = true := by
      have : t.hs.length ≠ 0 := fun z => q1.2 (List.length_eq_zero_iff.1 z)
      simp; omega
    have q4 : decide (0 < t.hs.length) = true := by
      have : t.hs.length ≠ 0 := fun z => q1.2 (List.length_eq_zero_iff.1 z)
      simp; omega
    clear h1 h e hok hi ht hg htn hpk q q1 tok
    generalize P.length = n at *
    generalize t.hs.length = m at *
    go_enter Try.func35, Try.ntmps35
    go_upto_region 5 with (go_at_call 43; refine K.mono ?_; rintro e w3 ⟨rfl, rfl⟩)
    rw [← HWN.out, ← HNB0.out]
    clear HWN HNB0 k0 p0 p1 p2 fz K
    go_wp2_with fail
    go_ret
    exact ⟨rfl, HR.out.stays HA.out⟩
  · have qq : ¬ (t.st = 0 ∨ t.st = 2 ∧ t.hs ≠ []) := fun z => z.elim q q1
    rw [if_neg qq, if_neg qq]
    obtain ⟨v1, w1, v2, w2, r1, b1, r2, b2, g2⟩ := row76.cut _ 0 g P.length cap _ h1.row (row_one ref_good h1) i hip (by omega) 76
    obtain ⟨ca, cc, ce, -⟩ := GRow.lies g2
    obtain ⟨a9, c9, n9, e9⟩ : ∃ a9 c9 n9, v2 = .slice a9 n9 c9 := ⟨_, _, _, ce⟩
    subst e9
    have FO := h1.cut ref_good i hip b2 g2
    rw [e, ← del_idx hok.nd hi] at FO
    have FIN := hide (OutL.after A1 FO)
    have s1 := fun wq => row76.to ⟨g, 0, none⟩ P.length cap i wq (by omega) (by have := h.form; obtain ⟨_, _, q, _, z, _⟩ := this; cases q; exact z)
    have s2 := fun wq => row76.from ⟨g, 0, none⟩ P.length cap (i + 1) wq (by omega) (by have := h.form; obtain ⟨_, _, q, _, z, _⟩ := this; cases q; exact z)
    have c1 : (((i + 1 : Nat)) : Int) = (i : Int) + 1 := by omega
    rw [c1] at s2
    have hw : wrap64 ((i : Int) + 1) = (i : Int) + 1 := wrapI (by unfold I64; omega)
    obtain ⟨k2, -⟩ := (h1.below b1).box.get 0 _ rfl
    obtain ⟨k3, f3⟩ := (h1.below b2).box.get 0 _ rfl
    have HE : (if t.st == 2 then decide ((0 : Int) < (t.hs.length : Int)) else false) = false := by
      by_cases z : t.st = 2
      · have : t.hs = [] := Classical.byContradiction (fun y => q1 ⟨z, y⟩)
        simp [this]
      · simp [z]
    clear g2 FO b1 b2 ce c1
    clear C1
    by_cases z : t.st = 2
    · have z2 : (t.st == 2) = true := by simpa using z
      have z3 : t.hs.length = 0 := by
        have : t.hs = [] := Classical.byContradiction (fun y => q1 ⟨z, y⟩)
        rw [this]; rfl
      clear h1 h e hok hi ht hg htn hpk q q1 tok qq z HE A1
      generalize P.length = n at *
      generalize dropS ⟨g, 0, none⟩ cap (i + 1) 3 = ad at *
      rw [z3] at C2x HWN
      go_enter Try.func35, Try.ntmps35
      go_upto_region 5 with (go_at_call 43; refine K.mono ?_; rintro e w3 ⟨rfl, rfl⟩)
      rw [← HWN.out, ← HNB0.out]
      clear HWN HNB0 k0 p0 p1 p2 fz K
      go_wp2_with (at_builtin; first | refine wpList_run rfl (.tmp 85) (.tmp 91) rfl rfl rfl r1 ?_ | refine wpList_run rfl (.tmp 94) (.tmp 101) rfl rfl rfl r2 ?_)
      go_ret
      exact ⟨rfl, FIN.out⟩
    · have z2 : (t.st == 2) = false := by simpa using z
      clear h1 h e hok hi ht hg htn hpk q q1 tok qq z HE A1
      generalize P.length = n at *
      generalize dropS ⟨g, 0, none⟩ cap (i + 1) 3 = ad at *
      go_enter Try.func35, Try.ntmps35
      go_upto_region 5 with (go_at_call 43; refine K.mono ?_; rintro e w3 ⟨rfl, rfl⟩)
      rw [← HWN.out, ← HNB0.out]
      clear HWN HNB0 k0 p0 p1 p2 fz K
      go_wp2_with (at_builtin; first | refine wpList_run rfl (.tmp 85) (.tmp 91) rfl rfl rfl r1 ?_ | refine wpList_run rfl (.tmp 94) (.tmp 101) rfl rfl rfl r2 ?_)
      go_ret
      exact ⟨rfl, FIN.out⟩
set_option maxHeartbeats 4000000 in
theorem rwrote4 (S : Nat → Prop) (b : Nat) (L : List Tx) (tx c : Int) (w : World) (h : Lst refL w S b L) (hok : Ok L) (i : Nat) (t : Tx) (hi : idx L tx = some i) (hg : get L tx = some t) : Calls Try.prog 35 #[ptr b, .int .i64 tx, .int .i64 4, .int .i64 c] w fun r w' => r = .returned (.int .i64 (wroteE L tx 4 c)) ∧ OutL refL w S b (wroteL L tx 4 c) w' := by
  have K := rat_any S b L tx w h (by have := hok.few; omega)
  have HR := hide h
  obtain ⟨v, P, h, e⟩ := h
  have hil := idx_lt hi
  obtain ⟨t', ht, hg', htn⟩ := idx_get hi
  obtain rfl : t = t' := by rw [hg] at hg'; cases hg'; rfl
  clear hg'
  rw [hi] at K
  simp only [placeI] at K
  have hd : decide ((i : Int) < 0) = false := by simp
  have hlen := map_len e
  have few := hok.few
  have hip : i < P.length := by omega
  have hpn : P.length ≤ 32 := by omega
  have tok := hok.each t (get_mem hg).1
  obtain ⟨vk, hpk⟩ := map_at e ht
  obtain ⟨g, cap, rfl, hgl, p0, p1, p2, fz⟩ := h.refAt hpk
  obtain ⟨k0, -⟩ := h.box.get 0 _ rfl
  obtain ⟨va, vc, rfl⟩ := h.list hpk
  obtain ⟨wn, hwn⟩ : ∃ wn, wn = w.alloc (.cells #[.int .i64 t.n, .int .i64 t.st, .slice va t.hs.length vc] 80) := ⟨_, rfl⟩
  obtain ⟨nb, hnb⟩ : ∃ nb, nb = w.heap.size := ⟨_, rfl⟩
  have A1 : Below w.heap.size w wn := by rw [hwn]; exact alloc_below _ _
  have h1 := h.below A1
  have C1 : Cells wn nb [.int .i64 t.n, .int .i64 t.st, .slice va t.hs.length vc] := by
    rw [hwn, hnb]
    exact Cells.new w #[.int .i64 t.n, .int .i64 t.st, .slice va t.hs.length vc] 80
  obtain ⟨k1, -⟩ := h1.box.get 0 _ rfl
  obtain ⟨C1x, -⟩ := C1.get 1 _ rfl
  obtain ⟨C2x, -⟩ := C1.get 2 _ rfl
  obtain ⟨C0x, -⟩ := C1.get 0 _ rfl
  have HWN := hide hwn
  have HNB0 := hide hnb
  clear hwn hnb hlen hil
  rw [(wrote4 hg).1, (wrote4 hg).2]
  have HA := hide A1
  by_cases q : t.st = 2
  · rw [if_neg (fun z => z q)]
    have q2 : (t.st != 2) = false := by simp [q]
    have K44 := rholds_any 0 t (.slice va t.hs.length vc) c _ (h1.own_at hpk) (by have := tok.few; omega)
    cases hx : t.hs.findIdx? (fun z => z == c) with
    | none =>
      rw [hx] at K44
      simp only [placeI] at K44
      have c4 : c ∉ t.hs := by have := has_idx t.hs c; rw [hx] at this; simpa using this.symm
      rw [if_neg c4, if_neg (fun z => c4 z.2)]
      clear h1 h e hok hi ht hg htn hpk q tok c4 hx A1
      generalize P.length = n at *
      generalize t.hs.length = m at *
      go_enter Try.func35, Try.ntmps35
      go_upto_region 5 with (go_at_call 43; refine K.mono ?_; rintro e w3 ⟨rfl, rfl⟩)
      rw [← HWN.out, ← HNB0.out]
      clear HWN HNB0 k0 p0 p1 p2 fz K
      go_wp2_with (go_at_call 44; refine K44.mono ?_; rintro e w4 ⟨rfl, b4⟩)
      go_ret
      exact ⟨rfl, HR.out.stays (HA.out.trans (b4.mono HA.out.size))⟩
    | some j =>
      rw [hx] at K44
      simp only [placeI] at K44
      have c4 : c ∈ t.hs := by have := has_idx t.hs c; rw [hx] at this; simpa using this.symm
      rw [if_pos c4, if_pos ⟨q, c4⟩]
      have hjl : j < t.hs.length := (List.findIdx?_eq_some_iff_getElem.1 hx).1
      have UP : upd L tx (fun u => u.less c) = L.set i (t.less c) := upd_idx hok.nd _ hi ht
      rw [UP, less_idx tok.nd hx]
      have hd2 : decide ((j : Int) < 0) = false := by simp
      have H1 := hide h1
      have HPK := hide hpk
      have HEQ := hide e
      have HF := hide tok.few
      have HJ := hide hjl
      have HNB := hide (show ¬ nb = g by have := HNB0.out; omega)
      have HCC := hide C1
      clear h1 h e hok hi ht hg htn hpk q tok c4 hx UP C1 hjl
      go_enter Try.func35, Try.ntmps35
      go_upto_region 5 with (go_at_call 43; refine K.mono ?_; rintro e w3 ⟨rfl, rfl⟩)
      rw [← HWN.out, ← HNB0.out]
      clear HWN HNB0 k0 p0 p1 p2 fz K
      go_upto_region 20 with (go_at_call 44; refine K44.mono ?_; rintro e w4 ⟨rfl, b4⟩)
      have H4 := hide (H1.out.below b4)
      have HC4 := hide (HCC.out.keep (Keep.of_below (S := fun _ => False) b4) id)
      have HB4 := hide (HA.out.trans (b4.mono HA.out.size))
      have NB := hide (show ¬ b = g from fun q => (H4.out.rs g rfl).2 q.symm)
      have HBX := hide H4.out.box
      clear b4 K44 k1 A1 HCC H1 HA HR
      refine wp_region_held_drew (S := fun wq => Keep (fun z => z = g) w4 wq) (by kernel_rfl) (Keep.refl _ _).drew (fun hS => ?_)
      refine take_at 0 (some 58) (v := ?_) rfl rfl (by kernel_rfl) (by kernel_rfl) (by kernel_rfl) (fun _ _ _ h => h) ⟨by rfl, ?_⟩ hS ?_
      rotate_left
      · intro wq hSw; go_simp; try rfl
      simp only [Act.put, List.setIfInBounds_toArray, List.set_cons_zero, List.set_cons_succ]
      refine take_at 1 (some 59) (v := ?_) rfl rfl (by kernel_rfl) (by kernel_rfl) (by kernel_rfl) (fun _ _ _ h => h) ⟨by rfl, ?_⟩ hS ?_
      rotate_left
      · intro wq hSw; go_simp; try rfl
      simp only [Act.put, List.setIfInBounds_toArray, List.set_cons_zero, List.set_cons_succ]
      refine take_at 2 (some 60) (v := ?_) rfl rfl (by kernel_rfl) (by kernel_rfl) (by kernel_rfl) (fun _ _ _ h => h) ⟨by rfl, ?_⟩ hS ?_
      rotate_left
      · intro wq hSw; go_simp; try rfl
      simp only [Act.put, List.setIfInBounds_toArray, List.set_cons_zero, List.set_cons_succ]
      refine take_at 3 (some 61) (v := ?_) rfl rfl (by kernel_rfl) (by kernel_rfl) (by kernel_rfl) (fun _ _ _ h => h) ⟨by rfl, ?_⟩ hS ?_
      rotate_left
      · intro wq hSw; have q := ((HBX.out.keep hSw NB.out).get 0 _ rfl).1; go_simp; try rfl
      simp only [Act.put, List.setIfInBounds_toArray, List.set_cons_zero, List.set_cons_succ]
      refine take_at 4 (some 62) (v := ?_) rfl rfl (by kernel_rfl) (by kernel_rfl) (by kernel_rfl) (fun _ _ _ h => h) ⟨by rfl, ?_⟩ hS ?_
      rotate_left
      · intro wq hSw; go_simp; try rfl
      simp only [Act.put, List.setIfInBounds_toArray, List.set_cons_zero, List.set_cons_succ]
      refine take_at 5 (some 63) (v := ?_) rfl rfl (by kernel_rfl) (by kernel_rfl) (by kernel_rfl) (fun _ _ _ h => h) ⟨by rfl, ?_⟩ hS ?_
      rotate_left
      · intro wq hSw; go_simp; try rfl
      simp only [Act.put, List.setIfInBounds_toArray, List.set_cons_zero, List.set_cons_succ]
      refine take_at 6 (some 64) (v := ?_) rfl rfl (by kernel_rfl) (by kernel_rfl) (by kernel_rfl) (fun _ _ _ h => h) ⟨by rfl, ?_⟩ hS ?_
      rotate_left
      · intro wq hSw; have q := ((HC4.out.keep hSw HNB.out).get 2 _ rfl).1; go_simp; try rfl
      simp only [Act.put, List.setIfInBounds_toArray, List.set_cons_zero, List.set_cons_succ]
      refine take_at 7 (some 65) (v := ?_) rfl rfl (by kernel_rfl) (by kernel_rfl) (by kernel_rfl) (fun _ _ _ h => h) ⟨by rfl, ?_⟩ hS ?_
      rotate_left
      · intro wq hSw; go_simp; try rfl
      simp only [Act.put, List.setIfInBounds_toArray, List.set_cons_zero, List.set_cons_succ]
      have H5 := hide (H4.out.below (Below.refl _ _).drew)
      have B5 := hide (HB4.out.trans ((Below.refl w4.heap.size w4).drew.mono HB4.out.size))
      have D1 := hide hS
      clear hS H4 HC4 HB4
      generalize w4.drew = x1 at *
      have K45 := rwithout_any 0 (.slice va t.hs.length vc) t.hs j x1 (H5.out.own_at HPK.out) HJ.out (by have := HF.out; omega)
      refine wpAnyH_ready (rs := [8]) (by kernel_rfl) (by simp) ?_
      refine AllReadyH.cons rfl (fun K hK => ?_) AllReadyH.nil
      go_simp
      go_wp2_with fail
      refine K45.mono ?_
      rintro e w5 ⟨vv, rfl, o5, b5⟩
      obtain ⟨a9, n9, c9, rfl⟩ : ∃ a9 n9 c9, vv = .slice a9 n9 c9 := by obtain ⟨a, c, e, _⟩ := o5.seen; exact ⟨a, _, c, e⟩
      obtain ⟨FO, ⟨u, cu⟩, fu⟩ := H5.out.fill ref_good ref_has HPK.out rfl (Keep.of_below b5) (Owns.mono0 o5) (fun x hx => .inr (World.ownsRow.lt o5 x hx).1)
      rw [HEQ.out] at FO
      change OutL refL x1 S b _ (w5.setCell ⟨g, i * 3 + 2, none⟩ _) at FO
      change w5.cell? ⟨g, i * 3 + 2, none⟩ = _ at cu
      change w5.frozen? ⟨g, i * 3 + 2, none⟩ = _ at fu
      have FIN := hide (OutL.after B5.out FO)
      have D5 := hide (D1.out.then_below b5)
      clear FO o5 b5 H5 K45 HPK HEQ B5 D1
      go_wp2_with fail
      refine hK.out _ _ D5.out (fun hS => ?_)
      clear hK K
      (try simp only [Act.put, List.setIfInBounds_toArray, List.set_cons_zero, List.set_cons_succ])
      refine take_at 9 (some 67) (v := ?_) rfl rfl (by kernel_rfl) (by kernel_rfl) (by kernel_rfl) (fun _ _ _ h => h) ⟨by rfl, ?_⟩ hS ?_
      rotate_left
      · intro wq hSw; go_simp; try rfl
      simp only [Act.put, List.setIfInBounds_toArray, List.set_cons_zero, List.set_cons_succ]
      refine take_at 10 (some 68) (v := ?_) rfl rfl (by kernel_rfl) (by kernel_rfl) (by kernel_rfl) (fun _ _ _ h => h) ⟨by rfl, ?_⟩ hS ?_
      rotate_left
      · intro wq hSw; go_simp; try rfl
      simp only [Act.put, List.setIfInBounds_toArray, List.set_cons_zero, List.set_cons_succ]
      refine wpAnyH_ready (rs := [11]) (by kernel_rfl) (by simp) ?_
      refine AllReadyH.cons rfl (fun K hK => ?_) AllReadyH.nil
      go_simp
      go_wp2_with fail
      refine hK.out _ _ (hS.setCell (fun _ => rfl) _) (fun hS => ?_)
      clear hK K hS
      (try simp only [Act.put])
      refine wpAnyH_done (by kernel_rfl) ?_ _
      go_wp2_with fail
      go_ret
      exact ⟨rfl, FIN.out⟩
  · rw [if_pos q, if_neg (fun z => q z.1)]
    have q2 : (t.st != 2) = true := by simpa using q
    clear h1 h e hok hi ht hg htn hpk q tok A1
    generalize P.length = n at *
    go_enter Try.func35, Try.ntmps35
    go_upto_region 5 with (go_at_call 43; refine K.mono ?_; rintro e w3 ⟨rfl, rfl⟩)
    rw [← HWN.out, ← HNB0.out]
    clear HWN HNB0 k0 p0 p1 p2 fz K
    go_wp2_with fail
    go_ret
    exact ⟨rfl, HR.out.stays HA.out⟩
set_option maxHeartbeats 2000000 in
theorem rWrote_any (S : Nat → Prop) (b : Nat) (L : List Tx) (tx k c : Int) (w : World) (h : Lst refL w S b L) (hok : Ok L) : Calls Try.prog 35 #[ptr b, .int .i64 tx, .int .i64 k, .int .i64 c] w fun r w' => r = .returned (.int .i64 (wroteE L tx k c)) ∧ OutL refL w S b (wroteL L tx k c) w' := by
  cases hi : idx L tx with
  | none =>
    have K := rat_any S b L tx w h (by have := hok.few; omega)
    rw [hi] at K
    simp only [placeI] at K
    rw [(wrote0 (idx_none.1 hi) k).1, (wrote0 (idx_none.1 hi) k).2]
    have HR := hide h
    clear h hi
    go_enter Try.func35, Try.ntmps35
    go_wp2_with (go_at_call 43; refine K.mono ?_; rintro e w3 ⟨rfl, rfl⟩)
    go_ret
    exact ⟨rfl, HR.out.stays (Below.refl _ _)⟩
  | some i =>
    obtain ⟨t0, ht0, hg, _⟩ := idx_get hi
    by_cases e5 : k = 5
    · subst e5; exact rwrote5 S b L tx c w h hok i t0 hi hg
    by_cases e6 : k = 6
    · subst e6; exact rwrote6 S b L tx c w h hok i t0 hi hg
    by_cases e4 : k = 4
    · subst e4; exact rwrote4 S b L tx c w h hok i t0 hi hg
    by_cases e7 : k = 7
    · subst e7; exact rwrote7 S b L tx c w h hok i t0 hi hg
    revert hg ht0
    generalize t0 = t
    intro ht0 hg
    have K := rat_any S b L tx w h (by have := hok.few; omega)
    have HR := hide h
    obtain ⟨v, P, h, e⟩ := h
    have hil := idx_lt hi
    obtain ⟨t', ht, hg', htn⟩ := idx_get hi
    obtain rfl : t = t' := by rw [hg] at hg'; cases hg'; rfl
    clear hg'
    rw [hi] at K
    simp only [placeI] at K
    have hd : decide ((i : Int) < 0) = false := by simp
    have hlen := map_len e
    have few := hok.few
    have hip : i < P.length := by omega
    have hpn : P.length ≤ 32 := by omega
    have tok := hok.each t (get_mem hg).1
    obtain ⟨vk, hpk⟩ := map_at e ht
    obtain ⟨g, cap, rfl, hgl, p0, p1, p2, fz⟩ := h.refAt hpk
    obtain ⟨k0, -⟩ := h.box.get 0 _ rfl
    obtain ⟨va, vc, rfl⟩ := h.list hpk
    obtain ⟨wn, hwn⟩ : ∃ wn, wn = w.alloc (.cells #[.int .i64 t.n, .int .i64 t.st, .slice va t.hs.length vc] 80) := ⟨_, rfl⟩
    obtain ⟨nb, hnb⟩ : ∃ nb, nb = w.heap.size := ⟨_, rfl⟩
    have A1 : Below w.heap.size w wn := by rw [hwn]; exact alloc_below _ _
    have h1 := h.below A1
    have C1 : Cells wn nb [.int .i64 t.n, .int .i64 t.st, .slice va t.hs.length vc] := by
      rw [hwn, hnb]
      exact Cells.new w #[.int .i64 t.n, .int .i64 t.st, .slice va t.hs.length vc] 80
    obtain ⟨k1, -⟩ := h1.box.get 0 _ rfl
    obtain ⟨C1x, -⟩ := C1.get 1 _ rfl
    obtain ⟨C2x, -⟩ := C1.get 2 _ rfl
    obtain ⟨C0x, -⟩ := C1.get 0 _ rfl
    have HWN := hide hwn
    have HNB0 := hide hnb
    clear hwn hnb hlen hil
    rw [(wroteX hg e4 e5 e6 e7).1, (wroteX hg e4 e5 e6 e7).2]
    have q4 : (k == 4) = false := by simpa using e4
    have q5 : (k == 5) = false := by simpa using e5
    have q6 : (k == 6) = false := by simpa using e6
    have q7 : (k == 7) = false := by simpa using e7
    have HA := hide A1
    clear h1 h e hok hi ht hg htn hpk tok A1 e4 e5 e6 e7 ht0
    generalize P.length = n at *
    go_enter Try.func35, Try.ntmps35
    go_upto_region 5 with (go_at_call 43; refine K.mono ?_; rintro e w3 ⟨rfl, rfl⟩)
    rw [← HWN.out, ← HNB0.out]
    clear HWN HNB0 k0 p0 p1 p2 fz K
    go_wp2_with fail
    go_ret
    exact ⟨rfl, HR.out.stays HA.out⟩
end Go.Proofs.Ytadppakflbilcaa
