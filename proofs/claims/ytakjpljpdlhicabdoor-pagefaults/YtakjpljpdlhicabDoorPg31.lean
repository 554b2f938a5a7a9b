import Derived.Test.YtakjpljpdlhicabDoorPg30
namespace Go.Proofs.YtakjpljpdlhicabDoor
open Go.RowKit Go.QK Go.Pg
set_option maxRecDepth 100000
theorem appB' {w : World} {ops : Array Oper} {rest : List Oper} {o : Oper} {a : Act} {Q : Exit → Act → World → Prop} (hgd : o.guard = none) (s x : Operand)
    (ho : o.op = .call { callee := .builtin .append, args := #[s, x], argTypes := #[29, 29] })
    (B : Nat) (v : Value) (l : List Nat) (hs : a.eval s = v) (hown : OwnB w B v l) (ax : Option Addr) (n c : Nat) (m : List Nat) (hm : m.length = n) (hx : a.eval x = .slice ax n c) (hseen : Bytes w ax m) (hnil : ax = none → c = 0)
    (hl : l.length + m.length ≤ 140737488355000) (hB : B ≤ w.heap.size)
    (h : ∀ v' w', OwnB w' B v' (l ++ m) → w.grownBy w' v.ownBlock → (v'.ownBlock = v.ownBlock ∨ v'.ownBlock = some w.heap.size) → wpList Tryd.prog ops Q rest (a.put o.dst v') w') : wpList Tryd.prog ops Q (o :: rest) a w := by
  refine append_own Tryd.underlying29 info5 hgd s x ho B v (ints l) hs hown ax n c (ints m) (by simpa using hm) hx hseen hnil (by unfold maxLen; simp; omega) (by simp; omega) hB ?_
  intro v' w' h1 h2 h3
  exact h v' w' (by unfold OwnB; rw [ints_append]; exact h1) h2 h3
theorem lit_own (w : World) (l : List Nat) (hl : l.length ≤ 1000) : OwnB (w.alloc (.cells ((ints l).map (Value.int .u8)).toArray 5)) w.heap.size (.slice (some ⟨w.heap.size, 0, none⟩) l.length l.length) l := by
  have := World.ownsRow_lit (base := w.heap.size) (e := 5) (size := 1) w ((ints l).map (Value.int .u8)).toArray l.length (Nat.le_refl _) (by unfold maxLen; omega) (by simp)
  simpa [Owns] using this
def marks3 : List Nat := [201, 202, 203]
set_option maxHeartbeats 2000000 in
theorem lend_any (a : Option Addr) (l : List Nat) (cap : Nat) (w : World) (hs : Bytes w a l) (hn : a = none → cap = 0) (hl : l.length ≤ 140737488351232) :
    Calls Tryd.prog 13 #[.slice a l.length cap] w fun e w' => ∃ g c, e = .returned (.slice (some ⟨g, 0, none⟩) l.length c) ∧ Bytes w' (some ⟨g, 0, none⟩) (l ++ marks3) ∧ l.length + 3 ≤ c ∧ Below w.heap.size w w' := by
  have hl0 : ([] : List Nat).length + l.length ≤ 140737488355000 := by simp; omega
  have hl3 : l.length + marks3.length ≤ 140737488355000 := by simp [marks3]; omega
  go_enter Tryd.func13, Tryd.ntmps13
  go_wp2_with (at_builtin; refine appB' rfl (.tmp 4) (.tmp 5) rfl w.heap.size _ [] rfl (Owns.nil _ _ _ _) a l.length cap l rfl rfl hs hn hl0 (Nat.le_refl _) ?_)
  intro v1 w1 o1 g1 _
  have b1 : Below w.heap.size w w1 := (Below.refl _ _).grown g1 (Nat.le_refl _) (by nofun)
  have hs1 := b1.size
  have HO1 : Hid (OwnB w1 w.heap.size v1 l) := o1
  have L1 : OwnB (w1.alloc (.cells #[.int .u8 201, .int .u8 202, .int .u8 203] 5)) w1.heap.size (.slice (some ⟨w1.heap.size, 0, none⟩) 3 3) marks3 := lit_own w1 marks3 (by decide)
  have HL1 : Hid (Bytes (w1.alloc (.cells #[.int .u8 201, .int .u8 202, .int .u8 203] 5)) (some ⟨w1.heap.size, 0, none⟩) marks3) := Owns.seen_at L1
  clear o1 g1 L1 hs
  go_wp2_with (at_builtin; refine appB' rfl (.tmp 7) (.tmp 8) rfl w.heap.size v1 l rfl (HO1.out.alloc _) (some ⟨w1.heap.size, 0, none⟩) 3 3 marks3 rfl rfl HL1.out nofun hl3 (by simp; omega) ?_)
  intro v2 w2 o2 g2 _
  have b2 : Below w.heap.size w w2 := (b1.alloc hs1 _).grown g2 (by simp; omega) (fun j hj => (World.ownsRow.lt HO1.out j hj).1)
  obtain ⟨g, c, hv, hc, hg⟩ := Owns.form o2 (by simp [marks3])
  have hlen : (ints (l ++ marks3)).length = l.length + 3 := by simp [marks3]
  rw [hlen] at hv hc
  subst hv
  have HO2 := hide (Owns.seen_at o2)
  have B2 := hide b2
  have hlc : l.length ≤ c := by omega
  have hc3 : l.length + 3 ≤ c := hc
  clear o2 g2 HO1 HL1 hg hlen hc b2
  go_wp2_with fail
  go_ret
  exact ⟨g, c, rfl, HO2.out, hc3, B2.out⟩
set_option maxHeartbeats 2000000 in
theorem still_any (g : Nat) (c : Nat) (a : Option Addr) (cb : Nat) (l : List Nat) (w : World) (hg : Bytes w (some ⟨g, 0, none⟩) (l ++ marks3)) (hs : Bytes w a l) (hc : l.length + 3 ≤ c) (hl : l.length ≤ 140737488351232) :
    Calls Tryd.prog 17 #[.slice (some ⟨g, 0, none⟩) l.length c, .slice a l.length cb] w fun e w' => e = .returned (.bool true) ∧ w' = w := by
  have m0 : (l ++ marks3).getD (l.length + 0) 0 = 201 := by rw [List.getD_eq_getElem?_getD, List.getElem?_append_right (by omega)]; simp [marks3]
  have m1 : (l ++ marks3).getD (l.length + 1) 0 = 202 := by rw [List.getD_eq_getElem?_getD, List.getElem?_append_right (by omega)]; simp [marks3]
  have m2 : (l ++ marks3).getD (l.length + 2) 0 = 203 := by rw [List.getD_eq_getElem?_getD, List.getElem?_append_right (by omega)]; simp [marks3]
  have hln : (l ++ marks3).length = l.length + 3 := by simp [marks3]
  have g0 : w.cell? ⟨g, l.length, none⟩ = some (.int .u8 201) := by
    obtain ⟨b, o, e, _, q⟩ := hg.at (i := l.length + 0) (by omega)
    cases e
    rw [m0] at q
    simpa using q
  have g1 : w.cell? ⟨g, l.length + 1, none⟩ = some (.int .u8 202) := by
    obtain ⟨b, o, e, _, q⟩ := hg.at (i := l.length + 1) (by omega)
    cases e
    rw [m1] at q
    simpa using q
  have g2 : w.cell? ⟨g, l.length + 2, none⟩ = some (.int .u8 203) := by
    obtain ⟨b, o, e, _, q⟩ := hg.at (i := l.length + 2) (by omega)
    cases e
    rw [m2] at q
    simpa using q
  have ht : Bytes w (some ⟨g, 0, none⟩) l := by
    have := hg.take l.length
    rwa [List.take_left] at this
  have cv1 := conv_any (some ⟨g, 0, none⟩) l c w ht
  have cv2 := conv_any a l cb w hs
  generalize strOf l = SL at *
  generalize l.length = n at *
  clear m0 m1 m2 hln hg hs ht
  have e1 : IntKind.i64.wrap ((n : Int) + 3) = (n : Int) + 3 := by rw [IntKind.wrap_i64]; omega
  have e2 : IntKind.i64.wrap ((n : Int) + 1) = (n : Int) + 1 := by rw [IntKind.wrap_i64]; omega
  have e3 : IntKind.i64.wrap ((n : Int) + 2) = (n : Int) + 2 := by rw [IntKind.wrap_i64]; omega
  go_enter Tryd.func17, Tryd.ntmps17
  go_wp2_with fail
  go_ret
  exact ⟨by simp, rfl⟩
end Go.Proofs.YtakjpljpdlhicabDoor
