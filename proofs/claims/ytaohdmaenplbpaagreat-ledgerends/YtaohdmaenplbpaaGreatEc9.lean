import Derived.Test.YtaohdmaenplbpaaGreatEc8
namespace Go.Proofs.YtaohdmaenplbpaaGreat
open Go.RowKit Go.QK Quota Go.Maps
set_option maxRecDepth 100000

def setN (e : Esc) (tx : Int) : Esc := if holdB e.nets tx then { e with base := e.base + netV e.nets tx, nets := delN e.nets tx } else e
def relN (e : Esc) (tx : Int) : Esc := if holdB e.nets tx then { e with nets := delN e.nets tx } else e

theorem delN_low {e : Esc} (ok : e.Ok) (tx : Int) : lowS (delN e.nets tx) = lowS e.nets - neg0 (netV e.nets tx) ∧ highS (delN e.nets tx) = highS e.nets - pos0 (netV e.nets tx) :=
  ⟨sumF_del neg0 (by simp [neg0]) tx ok.rise, sumF_del pos0 (by simp [pos0]) tx ok.rise⟩
theorem setN_yes {e : Esc} {tx : Int} (h : holdB e.nets tx = true) : setN e tx = { e with base := e.base + netV e.nets tx, nets := delN e.nets tx } := by unfold setN; rw [if_pos h]
theorem relN_yes {e : Esc} {tx : Int} (h : holdB e.nets tx = true) : relN e tx = { e with nets := delN e.nets tx } := by unfold relN; rw [if_pos h]
theorem setN_no {e : Esc} {tx : Int} (h : holdB e.nets tx = false) : setN e tx = e := by unfold setN; rw [h]; rfl
theorem relN_no {e : Esc} {tx : Int} (h : holdB e.nets tx = false) : relN e tx = e := by unfold relN; rw [h]; rfl
theorem setN_low {e : Esc} (ok : e.Ok) {tx : Int} (h : holdB e.nets tx = true) : (setN e tx).low = e.low + pos0 (netV e.nets tx) ∧ (setN e tx).high = e.high + neg0 (netV e.nets tx) := by
  rw [setN_yes h]
  obtain ⟨a, b⟩ := delN_low ok tx
  unfold Esc.low Esc.high
  simp only [a, b]
  unfold neg0 pos0
  omega
theorem relN_low {e : Esc} (ok : e.Ok) {tx : Int} (h : holdB e.nets tx = true) : (relN e tx).low = e.low - neg0 (netV e.nets tx) ∧ (relN e tx).high = e.high - pos0 (netV e.nets tx) := by
  rw [relN_yes h]
  obtain ⟨a, b⟩ := delN_low ok tx
  unfold Esc.low Esc.high
  simp only [a, b]
  omega
theorem setN_ok {e : Esc} (ok : e.Ok) (tx : Int) : (setN e tx).Ok := by
  cases h : holdB e.nets tx
  · rw [setN_no h]; exact ok
  · obtain ⟨a, b⟩ := setN_low ok h
    have k := low_nonpos (delN e.nets tx)
    obtain ⟨c, d⟩ := delN_low ok tx
    have b1 := ok.b1
    have b2 := ok.b2
    refine ⟨?_, ?_, ?_, ?_, ?_, ?_, ?_⟩
    · rw [setN_yes h]; exact ok.i1
    · rw [setN_yes h]; exact ok.i2
    · rw [a, setN_yes h]; show e.lo ≤ _; unfold pos0; omega
    · rw [b, setN_yes h]; show _ ≤ e.hi; unfold neg0; omega
    · rw [setN_yes h]; exact ok.rise.del tx
    · rw [setN_yes h]; intro p hp; exact ok.keys p (mem_delN hp)
    · rw [setN_yes h]; intro p hp; exact ok.all p (mem_delN hp)
theorem relN_ok {e : Esc} (ok : e.Ok) (tx : Int) : (relN e tx).Ok := by
  cases h : holdB e.nets tx
  · rw [relN_no h]; exact ok
  · obtain ⟨a, b⟩ := relN_low ok h
    have b1 := ok.b1
    have b2 := ok.b2
    refine ⟨?_, ?_, ?_, ?_, ?_, ?_, ?_⟩
    · rw [relN_yes h]; exact ok.i1
    · rw [relN_yes h]; exact ok.i2
    · rw [a, relN_yes h]; show e.lo ≤ _; unfold neg0; omega
    · rw [b, relN_yes h]; show _ ≤ e.hi; unfold pos0; omega
    · rw [relN_yes h]; exact ok.rise.del tx
    · rw [relN_yes h]; intro p hp; exact ok.keys p (mem_delN hp)
    · rw [relN_yes h]; intro p hp; exact ok.all p (mem_delN hp)

theorem turned_keep {w w' : World} {m : Nat} (h : w.mapTurned w' m) : Keep (fun x => x = m) w w' := (Keep.refl _ w).grown h.grown (fun g hg _ => by cases hg; rfl)

set_option maxHeartbeats 4000000 in
theorem settle_no (b m : Nat) (e : Esc) (tx : Int) (w : World) (h : PE w b m e) (hx : I64 tx) (hh : holdB e.nets tx = false) :
    Calls Tryz.prog 49 #[ptr b, .int .i64 tx] w fun r w' => r = .returned (.bool (holdB e.nets tx)) ∧ Keep (two b m) w w' ∧ PE w' b m (setN e tx) := by
  have k5 := h.c5
  have HX := hide hx
  have HP := hide h
  have MW := hide (show w.ownsMap Tryz.prog 3 (plainElem (H := Unit) Tryz.prog 2) m _ (mapD e.nets) from h.map)
  rw [setN_no hh, hh]
  clear h hx
  go_enter Tryz.func49, Tryz.ntmps49
  go_wp2_with (at_lookup; refine wpList_lookup_own_ok_int _ rfl _ _ 114 rfl 3 2 .i64 lawK Tryz.underlying114 Tryz.underlying2 (zero2 _) m _ _ rfl MW.out _ _ rfl (keyI HX.out) ?_; intro c hat hwc; rw [mapD_at] at hat; rw [mapD_has]; obtain rfl : netV e.nets tx = c := (by simpa using hat); rw [hh])
  go_ret
  exact ⟨rfl, Keep.refl _ _, HP.out⟩

set_option maxHeartbeats 4000000 in
theorem settle_yes (b m : Nat) (e : Esc) (tx : Int) (w : World) (h : PE w b m e) (hx : I64 tx) (hh : holdB e.nets tx = true) :
    Calls Tryz.prog 49 #[ptr b, .int .i64 tx] w fun r w' => r = .returned (.bool (holdB e.nets tx)) ∧ Keep (two b m) w w' ∧ PE w' b m (setN e tx) := by
  have k5 := h.c5
  have HX := hide hx
  have HP := hide h
  have MW := hide (show w.ownsMap Tryz.prog 3 (plainElem (H := Unit) Tryz.prog 2) m _ (mapD e.nets) from h.map)
  obtain ⟨l1, l2⟩ := setN_low h.ok hh
  have ok' := setN_ok h.ok tx
  have HY := hide (setN_yes hh)
  have k0 := h.c0
  have k2 := h.c2
  have k3 := h.c3
  have k4 := h.c4
  have hne := h.ne
  have hbm := h.lt
  have f2 := (h.cells.get 2 _ rfl).2
  have f3 := (h.cells.get 3 _ rfl).2
  have f4 := (h.cells.get 4 _ rfl).2
  rw [hh]
  have r2 := ok'.rng
  rw [l1, l2] at r2
  have WN := fun w' => with_any e.low e.high (netV e.nets tx) w' r2.1 r2.2.1
  rw [← l1, ← l2] at WN
  have w1 : wrap64 (e.base + netV e.nets tx) = e.base + netV e.nets tx := wrapI (by have := r2.2.2.2; rw [setN_yes hh] at this; exact this)
  have hbase : (setN e tx).base = e.base + netV e.nets tx := by rw [setN_yes hh]
  obtain ⟨g, hg⟩ : ∃ g, g = setN e tx := ⟨_, rfl⟩
  rw [← hg] at WN ok' HY hbase ⊢
  have HB := hide hbase
  have HOK := hide ok'
  clear h hx l1 l2 r2 hg ok' hbase
  generalize hL : g.low = L at *
  generalize hH : g.high = H at *
  have HLH := hide (And.intro hL hH)
  clear hL hH
  generalize hE1 : e.low = L0 at *
  generalize hE2 : e.high = H0 at *
  have HLE := hide (And.intro hE1 hE2)
  clear hE1 hE2
  go_enter Tryz.func49, Tryz.ntmps49
  go_wp2_with (at_lookup; refine wpList_lookup_own_ok_int _ rfl _ _ 114 rfl 3 2 .i64 lawK Tryz.underlying114 Tryz.underlying2 (zero2 _) m _ _ rfl MW.out _ _ rfl (keyI HX.out) ?_; intro c hat hwc; rw [mapD_at] at hat; rw [mapD_has]; obtain rfl : netV e.nets tx = c := (by simpa using hat); rw [hh])
  have P1 := hide (HP.out.cells.stored (j := 2) (by simp [escC]) (.int .i64 (e.base + netV e.nets tx)))
  have M1 := hide (HP.out.map.keep ((Keep.refl (fun x => x = b) w).setCell (g := b) (j := 2) (fun _ => rfl) (.int .i64 (e.base + netV e.nets tx))) (fun q => hne q.symm))
  have K1 : Hid (Keep (two b m) w (w.setCell ⟨b, 2, none⟩ (.int .i64 (e.base + netV e.nets tx)))) := hide ((Keep.refl _ w).setCell (g := b) (j := 2) (fun _ => .inl rfl) _)
  obtain ⟨v1, hv1⟩ : ∃ v1, v1 = (w.setCell ⟨b, 2, none⟩ (.int .i64 (e.base + netV e.nets tx))) := ⟨_, rfl⟩
  rw [← hv1] at P1 M1 K1
  try rw [← hv1]
  clear hv1 MW
  refine (WN v1).mono ?_
  rintro r v2 ⟨rfl, hb2⟩
  have C2 := P1.out.below hb2
  have M2 := hide (M1.out.below hb2)
  have K2 := hide (K1.out.then_below hb2)
  clear hb2 P1 M1 K1 WN
  obtain ⟨q3, z3⟩ := C2.get 3 _ rfl
  obtain ⟨q4, z4⟩ := C2.get 4 _ rfl
  obtain ⟨q5, z5⟩ := C2.get 5 _ rfl
  have C3 := hide ((C2.stored (j := 3) (by simp [escC]) (.int .i64 L)).stored (j := 4) (by simp [escC]) (.int .i64 H))
  have K3 : Hid (Keep (two b m) w ((v2.setCell ⟨b, 3, none⟩ (.int .i64 L)).setCell ⟨b, 4, none⟩ (.int .i64 H))) := hide ((K2.out.setCell (g := b) (j := 3) (fun _ => .inl rfl) _).setCell (g := b) (j := 4) (fun _ => .inl rfl) _)
  have M3 := hide (M2.out.keep (((Keep.refl (fun x => x = b) v2).setCell (g := b) (j := 3) (fun _ => rfl) (.int .i64 L)).setCell (g := b) (j := 4) (fun _ => rfl) (.int .i64 H)) (fun q => hne q.symm))
  clear C2 M2 K2
  go_wp2_with (at_delete; refine wpList_delete_own _ rfl _ _ 114 3 rfl 2 lawK Tryz.underlying114 (plainElem (H := Unit) Tryz.prog 2) m _ (mapD e.nets) rfl M3.out _ _ rfl (keyI HX.out) ?_; intro v4 hown4 hturn4; rw [mapD_del] at hown4)
  go_ret
  have kt := turned_keep hturn4
  refine ⟨rfl, K3.out.trans kt (fun _ _ q => .inr q), ?_, ?_, HOK.out⟩
  · have q := C3.out.keep kt hne
    have e1 : g.lo = e.lo ∧ g.hi = e.hi := by rw [HY.out]; exact ⟨rfl, rfl⟩
    unfold escC at q ⊢
    rw [HLH.out.1, HLH.out.2, e1.1, e1.2, HB.out]
    simpa using q
  · have q := MapAt.of hown4
    have e2 : g.nets = delN e.nets tx := by rw [HY.out]
    rw [e2]
    exact q

theorem settle_any (b m : Nat) (e : Esc) (tx : Int) (w : World) (h : PE w b m e) (hx : I64 tx) :
    Calls Tryz.prog 49 #[ptr b, .int .i64 tx] w fun r w' => r = .returned (.bool (holdB e.nets tx)) ∧ Keep (two b m) w w' ∧ PE w' b m (setN e tx) := by
  cases hh : holdB e.nets tx
  · have := settle_no b m e tx w h hx hh
    rw [hh] at this
    exact this
  · have := settle_yes b m e tx w h hx hh
    rw [hh] at this
    exact this

set_option maxHeartbeats 4000000 in
theorem release_no (b m : Nat) (e : Esc) (tx : Int) (w : World) (h : PE w b m e) (hx : I64 tx) (hh : holdB e.nets tx = false) :
    Calls Tryz.prog 50 #[ptr b, .int .i64 tx] w fun r w' => r = .returned (.bool (holdB e.nets tx)) ∧ Keep (two b m) w w' ∧ PE w' b m (relN e tx) := by
  have k5 := h.c5
  have HX := hide hx
  have HP := hide h
  have MW := hide (show w.ownsMap Tryz.prog 3 (plainElem (H := Unit) Tryz.prog 2) m _ (mapD e.nets) from h.map)
  rw [relN_no hh, hh]
  clear h hx
  go_enter Tryz.func50, Tryz.ntmps50
  go_wp2_with (at_lookup; refine wpList_lookup_own_ok_int _ rfl _ _ 114 rfl 3 2 .i64 lawK Tryz.underlying114 Tryz.underlying2 (zero2 _) m _ _ rfl MW.out _ _ rfl (keyI HX.out) ?_; intro c hat hwc; rw [mapD_at] at hat; rw [mapD_has]; obtain rfl : netV e.nets tx = c := (by simpa using hat); rw [hh])
  go_ret
  exact ⟨rfl, Keep.refl _ _, HP.out⟩

set_option maxHeartbeats 4000000 in
theorem release_yes (b m : Nat) (e : Esc) (tx : Int) (w : World) (h : PE w b m e) (hx : I64 tx) (hh : holdB e.nets tx = true) :
    Calls Tryz.prog 50 #[ptr b, .int .i64 tx] w fun r w' => r = .returned (.bool (holdB e.nets tx)) ∧ Keep (two b m) w w' ∧ PE w' b m (relN e tx) := by
  have k5 := h.c5
  have HX := hide hx
  have HP := hide h
  have MW := hide (show w.ownsMap Tryz.prog 3 (plainElem (H := Unit) Tryz.prog 2) m _ (mapD e.nets) from h.map)
  obtain ⟨l1, l2⟩ := relN_low h.ok hh
  have ok' := relN_ok h.ok tx
  have HY := hide (relN_yes hh)
  have k0 := h.c0
  have k2 := h.c2
  have k3 := h.c3
  have k4 := h.c4
  have hne := h.ne
  have hbm := h.lt
  have f2 := (h.cells.get 2 _ rfl).2
  have f3 := (h.cells.get 3 _ rfl).2
  have f4 := (h.cells.get 4 _ rfl).2
  rw [hh]
  have r2 := ok'.rng
  rw [l1, l2] at r2
  have WN := fun w' => without_any e.low e.high (netV e.nets tx) w' r2.1 r2.2.1
  rw [← l1, ← l2] at WN
  have hbase : (relN e tx).base = e.base := by rw [relN_yes hh]
  obtain ⟨g, hg⟩ : ∃ g, g = relN e tx := ⟨_, rfl⟩
  rw [← hg] at WN ok' HY hbase ⊢
  have HB := hide hbase
  have HOK := hide ok'
  clear h hx l1 l2 r2 hg ok' hbase
  generalize hL : g.low = L at *
  generalize hH : g.high = H at *
  have HLH := hide (And.intro hL hH)
  clear hL hH
  generalize hE1 : e.low = L0 at *
  generalize hE2 : e.high = H0 at *
  have HLE := hide (And.intro hE1 hE2)
  clear hE1 hE2
  go_enter Tryz.func50, Tryz.ntmps50
  go_wp2_with (at_lookup; refine wpList_lookup_own_ok_int _ rfl _ _ 114 rfl 3 2 .i64 lawK Tryz.underlying114 Tryz.underlying2 (zero2 _) m _ _ rfl MW.out _ _ rfl (keyI HX.out) ?_; intro c hat hwc; rw [mapD_at] at hat; rw [mapD_has]; obtain rfl : netV e.nets tx = c := (by simpa using hat); rw [hh])
  have P1 := hide HP.out.cells
  have M1 := hide HP.out.map
  have K1 : Hid (Keep (two b m) w w) := hide (Keep.refl _ w)
  obtain ⟨v1, hv1⟩ : ∃ v1, v1 = w := ⟨_, rfl⟩
  rw [← hv1]
  rw [← hv1] at P1 M1
  have K1 : Hid (Keep (two b m) w v1) := hide (by rw [hv1]; exact K1.out)
  clear hv1 MW
  refine (WN v1).mono ?_
  rintro r v2 ⟨rfl, hb2⟩
  have C2 := P1.out.below hb2
  have M2 := hide (M1.out.below hb2)
  have K2 := hide (K1.out.then_below hb2)
  clear hb2 P1 M1 K1 WN
  obtain ⟨q3, z3⟩ := C2.get 3 _ rfl
  obtain ⟨q4, z4⟩ := C2.get 4 _ rfl
  obtain ⟨q5, z5⟩ := C2.get 5 _ rfl
  have C3 := hide ((C2.stored (j := 3) (by simp [escC]) (.int .i64 L)).stored (j := 4) (by simp [escC]) (.int .i64 H))
  have K3 : Hid (Keep (two b m) w ((v2.setCell ⟨b, 3, none⟩ (.int .i64 L)).setCell ⟨b, 4, none⟩ (.int .i64 H))) := hide ((K2.out.setCell (g := b) (j := 3) (fun _ => .inl rfl) _).setCell (g := b) (j := 4) (fun _ => .inl rfl) _)
  have M3 := hide (M2.out.keep (((Keep.refl (fun x => x = b) v2).setCell (g := b) (j := 3) (fun _ => rfl) (.int .i64 L)).setCell (g := b) (j := 4) (fun _ => rfl) (.int .i64 H)) (fun q => hne q.symm))
  clear C2 M2 K2
  go_wp2_with (at_delete; refine wpList_delete_own _ rfl _ _ 114 3 rfl 2 lawK Tryz.underlying114 (plainElem (H := Unit) Tryz.prog 2) m _ (mapD e.nets) rfl M3.out _ _ rfl (keyI HX.out) ?_; intro v4 hown4 hturn4; rw [mapD_del] at hown4)
  go_ret
  have kt := turned_keep hturn4
  refine ⟨rfl, K3.out.trans kt (fun _ _ q => .inr q), ?_, ?_, HOK.out⟩
  · have q := C3.out.keep kt hne
    have e1 : g.lo = e.lo ∧ g.hi = e.hi := by rw [HY.out]; exact ⟨rfl, rfl⟩
    unfold escC at q ⊢
    rw [HLH.out.1, HLH.out.2, e1.1, e1.2, HB.out]
    simpa using q
  · have q := MapAt.of hown4
    have e2 : g.nets = delN e.nets tx := by rw [HY.out]
    rw [e2]
    exact q

theorem release_any (b m : Nat) (e : Esc) (tx : Int) (w : World) (h : PE w b m e) (hx : I64 tx) :
    Calls Tryz.prog 50 #[ptr b, .int .i64 tx] w fun r w' => r = .returned (.bool (holdB e.nets tx)) ∧ Keep (two b m) w w' ∧ PE w' b m (relN e tx) := by
  cases hh : holdB e.nets tx
  · have := release_no b m e tx w h hx hh
    rw [hh] at this
    exact this
  · have := release_yes b m e tx w h hx hh
    rw [hh] at this
    exact this
end Go.Proofs.YtaohdmaenplbpaaGreat
