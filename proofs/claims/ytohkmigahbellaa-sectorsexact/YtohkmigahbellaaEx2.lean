import Derived.Test.YtohkmigahbellaaEx1
namespace Go.Proofs.Ytohkmigahbellaa
open Go.RowKit Go.QK

set_option maxHeartbeats 1000000 in
set_option maxRecDepth 100000 in
theorem lent_any (l : Loss) (a : Option Addr) (c : Nat) (w : World) (hl : LossAt w l a c) (hkl : l.keep.length ≤ 17592186044415) :
    Calls Try.prog 46 #[.agg #[.slice a l.keep.length c, .int .i64 l.torn, .int .i64 l.off]] w fun e w' => ∃ gl cl, e = .returned (.agg #[.slice (some ⟨gl, 0, none⟩) l.keep.length cl, .int .i64 l.torn, .int .i64 l.off]) ∧ OwnW w' w.heap.size (.slice (some ⟨gl, 0, none⟩) (l.keep.length + 1) cl) (l.keep ++ [23130]) ∧ l.keep.length + 1 ≤ cl ∧ Below w.heap.size w w' := by
  have B0 := alloc_below w (.cells #[.slice a l.keep.length c, .int .i64 l.torn, .int .i64 l.off] 26)
  have C0 := Cells.new w #[.slice a l.keep.length c, .int .i64 l.torn, .int .i64 l.off] 26
  have B1 := alloc_below (w.alloc (.cells #[.slice a l.keep.length c, .int .i64 l.torn, .int .i64 l.off] 26)) (.cells #[.slice none 0 0, .int .i64 0, .int .i64 0] 26)
  have C1 := Cells.new (w.alloc (.cells #[.slice a l.keep.length c, .int .i64 l.torn, .int .i64 l.off] 26)) #[.slice none 0 0, .int .i64 0, .int .i64 0] 26
  have C0 := C0.below B1
  have BB := bnext B0 B1 (Nat.le_refl _)
  have sz : ((w.alloc (.cells #[.slice a l.keep.length c, .int .i64 l.torn, .int .i64 l.off] 26)).alloc (.cells #[.slice none 0 0, .int .i64 0, .int .i64 0] 26)).heap.size = w.heap.size + 2 := by simp
  have SN := hide ((hl.seen.below B0).below B1)
  rw [World.size_alloc] at C1
  obtain ⟨W, hW⟩ : ∃ W, W = (w.alloc (.cells #[.slice a l.keep.length c, .int .i64 l.torn, .int .i64 l.off] 26)).alloc (.cells #[.slice none 0 0, .int .i64 0, .int .i64 0] 26) := ⟨_, rfl⟩
  rw [← hW] at C0 C1 BB sz SN
  have HW := hide hW.symm
  have SZ := hide sz
  clear sz
  have HC0 := hide C0
  have HC1 := hide C1
  obtain ⟨z0, _⟩ := C0.get 0 _ rfl
  clear C0 C1 B0 B1 hW
  have hnil := hl.nil
  clear hl
  go_enter Try.func46, Try.ntmps46
  go_upto_region 1 with fail
  rw [HW.out]
  go_wp2_with (at_builtin; refine append_own Try.underlying24 info79 rfl (.const (.slice none 0 0)) (.tmp 5) rfl W.heap.size _ [] rfl (Owns.nil _ _ _ _) a l.keep.length c (ints l.keep) (by simp) rfl SN.out hnil ?c1 ?c2 (Nat.le_refl _) ?_)
  case c1 => unfold maxLen; simp; omega
  case c2 => first | (simp; omega) | omega
  intro v1 w1 o1 g1 _
  (try rw [List.nil_append] at o1)
  have b1 : Below W.heap.size W w1 := (Below.refl _ _).grown g1 (Nat.le_refl _) (by nofun)
  have O1 := hide (o1.alloc (.cells #[.int .u64 23130] 79))
  have HC2 := hide (HC0.out.below b1)
  have HC3 := hide (HC1.out.below b1)
  have HB := hide (bnext BB b1 (Nat.le_refl _))
  have hlt1 : ∀ b, v1.ownBlock = some b → W.heap.size ≤ b ∧ b < w1.heap.size := fun b hb => World.ownsRow.lt o1 b hb
  have z1 := b1.size
  clear o1 g1 b1 z0 HC0 HC1
  go_wp2_with (at_builtin; refine push_own Try.underlying24 info79 rfl (.tmp 6) (.tmp 7) rfl W.heap.size v1 (ints l.keep) rfl ⟨w1.heap.size, 0, none⟩ 23130 rfl O1.out ?d1 ?d2 ?d3 ?d4 ?_)
  case d1 => rw [World.cell?_alloc_new]; rfl
  case d2 => unfold maxLen; first | (simp; omega) | omega
  case d3 => first | (simp; omega) | omega
  case d4 => first | (simp; omega) | omega
  intro v2 w2 o2 g2 m2
  have sz := SZ.out
  have bA := alloc_below w1 (.cells #[.int .u64 23130] 79)
  have k2 : Keep (fun b => v1.ownBlock = some b) w1 w2 := ((Keep.refl (fun b => v1.ownBlock = some b) w1).alloc _).grown g2 (fun _ q _ => q)
  obtain ⟨gl, cl, hv2, hcl, hBg, hgl⟩ := o2.form (by simp)
  have hlen : (ints l.keep ++ [23130]).length = l.keep.length + 1 := by simp
  rw [hlen] at hv2 hcl
  subst hv2
  have hcm : cl ≤ maxLen := by
    obtain ⟨_, cp, hv, _, _, _, hm⟩ := o2.seen
    rw [hlen] at hv
    cases hv
    exact hm
  have C4 := HC2.out.keep k2 (fun q => by have := hlt1 _ q; omega)
  have C5 := HC3.out.keep k2 (fun q => by have := hlt1 _ q; omega)
  have HB2 := hide (HB.out.trans (k2.below (by omega) (fun j hj q => by have := hlt1 _ q; omega)))
  have O2 := hide o2
  obtain ⟨y0, _⟩ := C4.get 0 _ rfl
  obtain ⟨y1, _⟩ := C4.get 1 _ rfl
  obtain ⟨y2, _⟩ := C4.get 2 _ rfl
  obtain ⟨x0, f0⟩ := C5.get 0 _ rfl
  obtain ⟨x1, f1⟩ := C5.get 1 _ rfl
  obtain ⟨x2, f2⟩ := C5.get 2 _ rfl
  have HC5 := hide C5
  clear sz o2 g2 m2 bA k2 C4 C5 HC2 HC3 HB O1 hlen hlt1
  unfold maxLen at hcm
  have e2 : wrap64 (l.keep.length : Int) = (l.keep.length : Int) := by unfold wrap64; omega
  have e3 : IntKind.i64.wrap (l.keep.length : Int) = (l.keep.length : Int) := by rw [IntKind.wrap_i64]; omega
  have e4 : (l.keep.length : Int) ≤ (cl : Int) := by omega
  have e5 : l.keep.length ≤ cl := by omega
  generalize hn : l.keep.length = n at *
  have HN := hide hn
  clear hn
  go_upto_region 2 with fail
  go_region
  go_wp2_with fail
  have v0 := World.cell?_setCell_same w2 ⟨w.heap.size + 1, 0, none⟩ (.slice (some ⟨gl, 0, none⟩) n cl) x0
  have v1 := (((HC5.out.stored (j := 0) (by simp) (.slice (some ⟨gl, 0, none⟩) n cl)).stored (j := 1) (by simp) (.int .i64 l.torn)).get 1 _ rfl).1
  have v2 := ((((HC5.out.stored (j := 0) (by simp) (.slice (some ⟨gl, 0, none⟩) n cl)).stored (j := 1) (by simp) (.int .i64 l.torn)).stored (j := 2) (by simp) (.int .i64 l.off)).get 2 _ rfl).1
  have KD : Keep (fun b => b = w.heap.size + 1) w2 (((w2.setCell ⟨w.heap.size + 1, 0, none⟩ (.slice (some ⟨gl, 0, none⟩) n cl)).setCell ⟨w.heap.size + 1, 1, none⟩ (.int .i64 l.torn)).setCell ⟨w.heap.size + 1, 2, none⟩ (.int .i64 l.off)) := (((Keep.refl (fun b => b = w.heap.size + 1) w2).setCell (fun _ => rfl) _).setCell (fun _ => rfl) _).setCell (fun _ => rfl) _
  have sz := SZ.out
  refine bodyPost_ret (v := .agg #[.slice (some ⟨gl, 0, none⟩) n cl, .int .i64 l.torn, .int .i64 l.off]) (by simp [results, Try.results46, go_sem, v0, v1, v2]) rfl ⟨gl, cl, by rw [HN.out], ?_, by rw [HN.out]; exact hcl, ?_⟩
  · have o := Owns.keep (Owns.base O2.out (show w.heap.size ≤ W.heap.size by omega)) KD (fun b hb q => by
      have e : gl = b := Option.some.inj hb
      omega)
    have e : ints (l.keep ++ [23130]) = ints l.keep ++ [23130] := by simp [ints]
    unfold OwnW
    rw [e, HN.out]
    exact o
  · exact (HB2.out.trans (KD.below HB2.out.size (fun j hj q => by omega))).drew

set_option maxHeartbeats 1000000 in
set_option maxRecDepth 100000 in
theorem spoilt_any (l : Loss) (a : Option Addr) (c gl cl B : Nat) (tn off : Int) (w : World) (hs : Seen .u64 w a (ints l.keep)) (hkl : l.keep.length ≤ 17592186044415) (ho : OwnW w B (.slice (some ⟨gl, 0, none⟩) (l.keep.length + 1) cl) (l.keep ++ [23130])) (hcl : l.keep.length + 1 ≤ cl) :
    Calls Try.prog 55 #[.agg #[.slice (some ⟨gl, 0, none⟩) l.keep.length cl, .int .i64 tn, .int .i64 off], .agg #[.slice a l.keep.length c, .int .i64 l.torn, .int .i64 l.off]] w fun e w' => e = .returned (.bool true) ∧ Keep (fun b => b = gl) w w' := by
  have B0 := alloc_below w (.cells #[.slice (some ⟨gl, 0, none⟩) l.keep.length cl, .int .i64 tn, .int .i64 off] 26)
  have C0 := Cells.new w #[.slice (some ⟨gl, 0, none⟩) l.keep.length cl, .int .i64 tn, .int .i64 off] 26
  have B1 := alloc_below (w.alloc (.cells #[.slice (some ⟨gl, 0, none⟩) l.keep.length cl, .int .i64 tn, .int .i64 off] 26)) (.cells #[.slice a l.keep.length c, .int .i64 l.torn, .int .i64 l.off] 26)
  have C1 := Cells.new (w.alloc (.cells #[.slice (some ⟨gl, 0, none⟩) l.keep.length cl, .int .i64 tn, .int .i64 off] 26)) #[.slice a l.keep.length c, .int .i64 l.torn, .int .i64 l.off] 26
  have C0 := C0.below B1
  have BB := bnext B0 B1 (Nat.le_refl _)
  have sz : ((w.alloc (.cells #[.slice (some ⟨gl, 0, none⟩) l.keep.length cl, .int .i64 tn, .int .i64 off] 26)).alloc (.cells #[.slice a l.keep.length c, .int .i64 l.torn, .int .i64 l.off] 26)).heap.size = w.heap.size + 2 := by simp
  have SN := hide ((hs.below B0).below B1)
  have HO := hide (Owns.below (Owns.below ho B0) B1)
  have hgl : gl < w.heap.size := (World.ownsRow.lt ho gl rfl).2
  rw [World.size_alloc] at C1
  obtain ⟨W, hW⟩ : ∃ W, W = ((w.alloc (.cells #[.slice (some ⟨gl, 0, none⟩) l.keep.length cl, .int .i64 tn, .int .i64 off] 26)).alloc (.cells #[.slice a l.keep.length c, .int .i64 l.torn, .int .i64 l.off] 26)) := ⟨_, rfl⟩
  rw [← hW] at C0 C1 BB sz SN HO
  have HW := hide hW.symm
  obtain ⟨z0, _⟩ := C0.get 0 _ rfl
  obtain ⟨y0, _⟩ := C1.get 0 _ rfl
  have HC0 := hide C0
  have HC1 := hide C1
  have SZ := hide sz
  clear C0 C1 B0 B1 hW ho hs sz
  have e1 : IntKind.i64.wrap ((l.keep.length : Int) + 1) = (l.keep.length : Int) + 1 := by rw [IntKind.wrap_i64]; omega
  have e4 : (l.keep.length : Int) + 1 ≤ (cl : Int) := by omega
  have mk : W.cell? ⟨gl, l.keep.length, none⟩ = some (.int .u64 23130) := by
    obtain ⟨b, o, hab, _, hc⟩ := Seen.at (Owns.seen_at HO.out) (i := l.keep.length) (by simp)
    cases hab
    rw [Nat.zero_add] at hc
    rw [hc]
    simp [ints]
  have LK := hide (fun j (hj : j < l.keep.length) => show W.cell? ⟨gl, j, none⟩ = some (.int .u64 ((l.keep.getD j 0 : Nat) : Int)) by
    obtain ⟨b, o, hab, _, hc⟩ := Seen.at (Owns.seen_at HO.out) (i := j) (by simp; omega)
    cases hab
    rw [Nat.zero_add] at hc
    rw [hc]
    simp [ints, hj])
  have LA := hide (fun j (hj : j < l.keep.length) => show ∃ b o, a = some ⟨b, o, none⟩ ∧ b < W.heap.size ∧ W.cell? ⟨b, o + j, none⟩ = some (.int .u64 ((l.keep.getD j 0 : Nat) : Int)) by
    obtain ⟨b, o, hab, hb, hc⟩ := Seen.at SN.out (i := j) (by simpa using hj)
    rw [ints_getD] at hc
    exact ⟨b, o, hab, hb, hc⟩)
  have LEN := hide (show (ints (l.keep ++ [23130])).length = l.keep.length + 1 by simp)
  have HO2 : Hid (∃ L : List Int, L.length = l.keep.length + 1 ∧ Owns .u64 79 W B (.slice (some ⟨gl, 0, none⟩) (l.keep.length + 1) cl) L) := ⟨_, LEN.out, HO.out⟩
  generalize l.keep.length = n at *
  clear HO SN LEN
  go_enter Try.func55, Try.ntmps55
  go_upto_region 1 with fail
  rw [HW.out]
  go_wp2_with fail
  go_loopw [6, 7] (fun q j wr => ∃ k : Nat, k ≤ n ∧ q = .bool true ∧ j = .int .i64 (k : Int) ∧ Below W.heap.size W wr) (fun _ j _ => n - (intOf j).toNat)
  case atStart => exact ⟨0, Nat.zero_le _, by simp, rfl, Below.refl _ _⟩
  case round =>
    obtain ⟨k, hk, rfl, rfl, hb⟩ := hrel
    have sz := SZ.out
    have u1 := (hb.cell (p := ⟨w.heap.size + 1, 0, none⟩) (by show w.heap.size + 1 < _; omega)).trans y0
    by_cases hlt : k < n
    · have x1 := (hb.cell (p := ⟨gl, k, none⟩) (by show gl < _; omega)).trans (LK.out k hlt)
      obtain ⟨ab, ao, rfl, hab, hac⟩ := LA.out k hlt
      have x2 := (hb.cell (p := ⟨ab, ao + k, none⟩) hab).trans hac
      generalize l.keep.getD k 0 = x at *
      have hlk : (k : Int) < (n : Int) := by omega
      have hlk2 : (k : Int) < (n : Int) + 1 := by omega
      clear hac sz
      go_upto_region 6 with fail
      go_quiet (fail)
      go_wp2_with fail
      go_roundw
      case rel => exact ⟨k + 1, by omega, by simp, by go_num, below_drewN hb _⟩
      case measure => simp [intOf]; omega
    · obtain rfl : k = n := by omega
      have HB := hide hb
      have K1 : Hid (Keep (fun b => b = gl) W wr) := Keep.of_below hb
      obtain ⟨L0, l0, o0⟩ := HO2.out
      have O1 := hide (Owns.below o0 hb)
      clear o0 hb sz HO2
      go_wp2_with fail
      go_loopw [8] (fun j wr => ∃ q : Nat, q ≤ k + 1 ∧ j = .int .i64 (q : Int) ∧ ∃ L : List Int, L.length = k + 1 ∧ Owns .u64 79 wr B (.slice (some ⟨gl, 0, none⟩) (k + 1) cl) L ∧ Keep (fun b => b = gl) W wr) (fun j _ => k + 1 - (intOf j).toNat)
      case atStart => exact ⟨0, Nat.zero_le _, rfl, L0, l0, O1.out, K1.out⟩
      case round =>
        obtain ⟨q, hq, rfl, L, hL, hown, hkeep⟩ := hrel
        by_cases hlt : q < k + 1
        · obtain ⟨b2, off2, hab, hb2, hc2⟩ := Seen.at (Owns.seen_at hown) (i := q) (by omega)
          cases hab
          rw [Nat.zero_add] at hc2
          obtain ⟨z, hz⟩ : ∃ z, wr.cell? ⟨gl, q, none⟩ = some (.int .u64 z) := ⟨_, hc2⟩
          clear hc2
          have hfz := Owns.frozen hown q
          have O2 := hide (Owns.stored hown q 119)
          have K2 := hide (hkeep.setCell (fun _ => rfl) (j := q) (g := gl) (.int .u64 119))
          have hlk : (q : Int) < (k : Int) + 1 := by omega
          clear hown hkeep
          go_wp2_with fail
          go_roundw
          case rel => exact ⟨q + 1, by omega, by go_num, _, by simpa using hL, O2.out, K2.out⟩
          case measure => simp [intOf]; omega
        · obtain rfl : q = k + 1 := by omega
          have KK := hide ((Keep.of_below BB).trans hkeep (fun _ _ q => q))
          clear hown hkeep
          go_wp2_with fail
          go_ret
          exact ⟨rfl, KK.out⟩
end Go.Proofs.Ytohkmigahbellaa
