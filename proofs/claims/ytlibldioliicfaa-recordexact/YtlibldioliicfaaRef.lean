import Derived.Test.YtlibldioliicfaaOps
namespace Go.Proofs.Ytlibldioliicfaa
open Go.RowKit Go.QK

set_option maxRecDepth 100000 in
theorem rNew_any (a : Option Addr) (l : List Nat) (cap : Nat) (w : World) (hs : Bytes w a l) (ha : a = none → cap = 0) (hl : l.length ≤ 1000000) (hb : AllB l) :
    Calls Try.prog 60 #[.slice a l.length cap] w fun e w' => ∃ p a' c', e = .returned (.pointer (some ⟨p, 0, none⟩)) ∧ w.heap.size ≤ p ∧ (∀ ad, a' = some ad → w.heap.size ≤ ad.block) ∧ Rd w' p a' c' l 0 0 ∧ Below w.heap.size w w' := by
  have hl0 : ([] : List Nat).length + l.length ≤ 2000000 := by simp; omega
  go_enter Try.func60, Try.ntmps60
  go_wp2_with (at_builtin; refine appB rfl (.const (.slice none 0 0)) (.tmp 3) rfl w.heap.size _ [] rfl (Owns.nil _ _ _ _) a l.length cap l rfl rfl hs ha hl0 (Nat.le_refl _) ?_)
  intro v w1 o g1 _
  have b : Below w.heap.size w w1 := (Below.refl _ _).grown g1 (Nat.le_refl _) (by nofun)
  obtain ⟨a', c', rfl, s', ha', hc', hm'⟩ := o.seen
  rw [ints_length] at hc'
  have hblk : ∀ ad, a' = some ad → w.heap.size ≤ ad.block ∧ ad.block < w1.heap.size := by
    intro ad q
    subst q
    have hf : (Value.slice (some ad) (ints l).length c').ownBlock = some ad.block := rfl
    exact World.ownsRow.lt o _ hf
  have HR : Hid (Rd (w1.alloc (.cells #[.slice a' l.length c', .int .i64 0, .int .i64 0] 117)) w1.heap.size a' c' l 0 0) :=
    ⟨Cells.new _ _ _, Seen.below s' (alloc_below _ _), hc', ha', hm', (by omega), Nat.zero_le _, hb, fun ad q => by have := hblk ad q; omega⟩
  have hsz := b.size
  have HB : Hid (Below w.heap.size w (w1.alloc (.cells #[.slice a' l.length c', .int .i64 0, .int .i64 0] 117))) := b.alloc hsz _
  clear o s' ha' hc' hm' hs ha hl g1
  rw [ints_length]
  go_wp2_with fail
  go_ret
  exact ⟨_, a', c', rfl, hsz, fun ad q => (hblk ad q).1, HR.out, HB.out⟩

set_option maxHeartbeats 1000000 in
set_option maxRecDepth 100000 in
theorem rForm_any (n : Nat) (w : World) (hn : n < 18446744073709551616) :
    Calls Try.prog 79 #[.int .u64 (n : Int)] w fun e w' => ∃ v, e = .returned v ∧ OwnB w' w.heap.size v (form n) ∧ Below w.heap.size w w' := by
  go_enter Try.func79, Try.ntmps79
  go_wp2_with fail
  go_loopw [0, 3] (fun i u wr => ∃ (m : Nat) (pre : List Nat), i = .int .u64 (m : Int) ∧ m < 18446744073709551616 ∧ form n = pre ++ form m ∧ OwnB wr w.heap.size u pre ∧ Below w.heap.size w wr) (fun i _ _ => (intOf i).toNat)
  case atStart => exact ⟨n, [], rfl, hn, rfl, Owns.nil _ _ _ _, Below.refl _ _⟩
  case round =>
    obtain ⟨m, pre, rfl, hm, hf, ho, hbl⟩ := hrel
    have hlen : pre.length ≤ 10 := by
      have := (form_len hn).2
      rw [hf] at this
      simp at this
      omega
    have hll : pre.length ≤ 2000000 := by omega
    have hsz := hbl.size
    have HO : Hid (OwnB wr w.heap.size u3 pre) := ho
    clear ho
    by_cases hlt : m < 128
    · have hg : ¬ ((128 : Int) ≤ (m : Int)) := by omega
      have e1 : IntKind.u8.wrap (m : Int) = ((m : Nat) : Int) := by rw [IntKind.wrap_u8]; omega
      have HF : Hid (form n = pre ++ [m]) := by rw [form_small hlt] at hf; exact hf
      clear hf
      go_wp2_with (at_builtin; refine pushB rfl (.tmp 15) (.tmp 18) rfl w.heap.size u3 pre rfl ⟨wr.heap.size, 0, none⟩ m rfl (HO.out.alloc _) (by simp [go_sem]) hll (by simp; omega) ?_)
      intro v' w1 hown hg hv
      have HB1 : Hid (Below w.heap.size w w1) := (hbl.alloc hsz _).grown hg (by simp; omega) (fun j hj => (World.ownsRow.lt HO.out j hj).1)
      have HO1 : Hid (OwnB w1 w.heap.size v' (form n)) := by unfold Hid; rw [HF.out]; exact hown
      clear hown hg hv HO
      go_wp2_with fail
      go_ret
      exact ⟨_, rfl, HO1.out, HB1.out⟩
    · have hg : (128 : Int) ≤ (m : Int) := by omega
      obtain ⟨y, hy⟩ : ∃ y, y = m % 128 + 128 := ⟨_, rfl⟩
      have e1 : IntKind.u8.wrap ((m : Int) % 128) = (m : Int) % 128 := by rw [IntKind.wrap_u8]; omega
      have e2 : IntKind.u8.wrap ((m : Int) % 128 + 128) = (y : Int) := by rw [IntKind.wrap_u8]; omega
      have HF : Hid (form n = pre ++ ([y] ++ form (m / 128))) := by unfold Hid; rw [form_big hlt] at hf; rw [hy]; exact hf
      clear hf hy
      go_wp2_with (at_builtin; refine pushB rfl (.tmp 6) (.tmp 11) rfl w.heap.size u3 pre rfl ⟨wr.heap.size, 0, none⟩ y rfl (HO.out.alloc _) (by simp [go_sem]) hll (by simp; omega) ?_)
      intro v' w1 hown hg hv
      have HB1 : Hid (Below w.heap.size w w1) := (hbl.alloc hsz _).grown hg (by simp; omega) (fun j hj => (World.ownsRow.lt HO.out j hj).1)
      have HO1 : Hid (OwnB w1 w.heap.size v' (pre ++ [y])) := hown
      clear hown hg hv HO
      go_wp2_with fail
      go_roundw
      case rel => exact ⟨m / 128, pre ++ [y], by go_num, by omega, by rw [HF.out]; simp, HO1.out, HB1.out⟩
      case measure => simp [intOf]; omega

set_option maxRecDepth 100000 in
theorem rSign_any (n : Int) (w : World) (h1 : -9223372036854775808 ≤ n) (h2 : n ≤ 9223372036854775807) :
    Calls Try.prog 80 #[.int .i64 n] w fun e w' => e = .returned (.int .u64 ((sgn n : Nat) : Int)) ∧ w' = w := by
  by_cases h : 0 ≤ n
  · obtain ⟨x, rfl⟩ := Int.eq_ofNat_of_zero_le h
    have hz : sgn (x : Int) = 2 * x := by unfold sgn; split <;> omega
    have e1 : IntKind.u64.wrap (x : Int) = (x : Int) := by rw [IntKind.wrap_u64]; omega
    obtain ⟨y, hy⟩ : ∃ y : Nat, y = 2 * x := ⟨_, rfl⟩
    have e2 : IntKind.u64.wrap (2 * (x : Int)) = (y : Int) := by rw [IntKind.wrap_u64]; omega
    rw [hz, ← hy]
    clear hy hz
    go_enter Try.func80, Try.ntmps80
    go_wp2_with fail
    go_ret
    exact ⟨rfl, rfl⟩
  · obtain ⟨x, hx⟩ : ∃ x : Nat, (x : Int) = -(n + 1) := ⟨(-(n + 1)).toNat, by omega⟩
    obtain ⟨z, hz⟩ : ∃ z : Nat, z = sgn n := ⟨_, rfl⟩
    have hzx : (z : Int) = 2 * (x : Int) + 1 := by rw [hz]; unfold sgn; split <;> omega
    have e0 : IntKind.i64.wrap (n + 1) = n + 1 := by rw [IntKind.wrap_i64]; omega
    have e1 : IntKind.i64.wrap (-(n + 1)) = -(n + 1) := by rw [IntKind.wrap_i64]; omega
    have e2 : IntKind.u64.wrap (-(n + 1)) = (x : Int) := by rw [IntKind.wrap_u64]; omega
    have e3 : IntKind.u64.wrap (2 * (x : Int)) = 2 * (x : Int) := by rw [IntKind.wrap_u64]; omega
    have e4 : IntKind.u64.wrap (2 * (x : Int) + 1) = (z : Int) := by rw [IntKind.wrap_u64]; omega
    rw [← hz]
    clear hz hzx hx
    go_enter Try.func80, Try.ntmps80
    go_wp2_with fail
    go_ret
    exact ⟨rfl, rfl⟩

set_option maxRecDepth 100000 in
theorem rUnsign_any (n : Nat) (w : World) (h : n < 18446744073709551616) :
    Calls Try.prog 87 #[.int .u64 (n : Int)] w fun e w' => e = .returned (.int .i64 (uns n)) ∧ w' = w := by
  have e1 : IntKind.i64.wrap ((n : Int) / 2) = (n : Int) / 2 := by rw [IntKind.wrap_i64]; omega
  by_cases q : n % 2 = 0
  · have q1 : (n : Int) % 2 = 0 := by omega
    have e3 : uns n = (n : Int) / 2 := by
      unfold uns
      rw [if_pos (by omega)]
      omega
    rw [e3]
    clear e3
    go_enter Try.func87, Try.ntmps87
    go_wp2_with fail
    go_ret
    exact ⟨rfl, rfl⟩
  · have q1 : ¬ (n : Int) % 2 = 0 := by omega
    have q2 : (n : Int) % 2 = 1 := by omega
    have e3 : uns n = -((n : Int) / 2) - 1 := by
      unfold uns
      rw [if_neg (by omega)]
      omega
    have e4 : IntKind.i64.wrap (-((n : Int) / 2)) = -((n : Int) / 2) := by rw [IntKind.wrap_i64]; omega
    have e5 : IntKind.i64.wrap (-((n : Int) / 2) - 1) = -((n : Int) / 2) - 1 := by rw [IntKind.wrap_i64]; omega
    rw [e3]
    clear e3
    go_enter Try.func87, Try.ntmps87
    go_wp2_with fail
    go_ret
    exact ⟨rfl, rfl⟩

set_option maxHeartbeats 1000000 in
set_option maxRecDepth 100000 in
theorem rEnd_any (p : Nat) (a : Option Addr) (c : Nat) (l : List Nat) (pos e : Nat) (w : World) (h : Rd w p a c l pos e) :
    Calls Try.prog 67 #[.pointer (some ⟨p, 0, none⟩)] w fun x w' => x = .returned (.tuple #[]) ∧ Rd w' p a c l pos (endE l pos e) ∧ Keep (fun k => k = p) w w' := by
  have h0 := h
  obtain ⟨h1, h2, h3, h4, h5, h6, h7, h8, h9⟩ := h
  obtain ⟨c0, _⟩ := h1.get 0 _ rfl
  obtain ⟨c1, f1⟩ := h1.get 1 _ rfl
  obtain ⟨c2, f2⟩ := h1.get 2 _ rfl
  have HR := fun n => Rd.fault (w := w.drewN n) h0 21
  have HR0 := fun n => (Rd.keep (w' := w.drewN n) h0 (S := fun _ => False) ⟨rfl, rfl, rfl, Nat.le_refl _, fun _ _ _ => rfl⟩ id (fun _ _ => id))
  have HH : Hid _ := HR
  have HI : Hid _ := HR0
  clear HR HR0 h0 h1 h2 h4 h8 h9
  unfold endE
  by_cases he : e = 0
  · subst he
    have g0 : ((0 : Nat) : Int) = 0 := rfl
    rw [g0] at c2
    by_cases hp : pos < l.length
    · have hp1 : (pos : Int) < (l.length : Int) := by omega
      rw [if_pos ⟨rfl, hp⟩]
      go_enter Try.func67, Try.ntmps67
      go_wp2_with fail
      go_quiet (fail)
      go_wp2_with fail
      go_end0
      exact ⟨rfl, HH.out _, keepDrew _ _ _ _ _⟩
    · have hp1 : decide ((pos : Int) < (l.length : Int)) = false := by simp; omega
      rw [if_neg (by omega)]
      go_enter Try.func67, Try.ntmps67
      go_wp2_with fail
      go_quiet (fail)
      go_wp2_with fail
      go_end0
      exact ⟨rfl, HI.out _, ⟨rfl, rfl, rfl, Nat.le_refl _, fun _ _ _ => rfl⟩⟩
  · have he1 : ((e : Int) == 0) = false := by simp; omega
    rw [if_neg (by omega)]
    go_enter Try.func67, Try.ntmps67
    go_wp2_with fail
    go_quiet (fail)
    go_wp2_with fail
    go_end0
    exact ⟨rfl, HI.out _, ⟨rfl, rfl, rfl, Nat.le_refl _, fun _ _ _ => rfl⟩⟩

end Go.Proofs.Ytlibldioliicfaa
