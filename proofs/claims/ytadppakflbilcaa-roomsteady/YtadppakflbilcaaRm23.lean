import Derived.Test.YtadppakflbilcaaRm22
import Derived.Test.YtadppakflbilcaaRm7
namespace Go.Proofs.Ytadppakflbilcaa
open Go.RowKit Go.QK Go.Maps Go.QM Go.QR
set_option maxRecDepth 100000
/-- What a call on the blocks of U has done. -/
structure Step (U : Nat → Prop) (w w' : World) (U' : Nat → Prop) : Prop where
  sub : ∀ k, k < w.heap.size → U' k → U k
  keep : Keep U w w'
theorem Step.trans {U U1 U2 : Nat → Prop} {w w1 w2 : World} (a : Step U w w1 U1) (b : Step U1 w1 w2 U2) : Step U w w2 U2 :=
  ⟨fun k hk q => a.sub k hk (b.sub k (Nat.lt_of_lt_of_le hk a.keep.size) q), a.keep.trans b.keep (fun j hj q => a.sub j hj q)⟩
theorem Step.below {U : Nat → Prop} {w w' : World} (h : Below w.heap.size w w') : Step U w w' U := ⟨fun _ _ q => q, Keep.of_below h⟩
theorem Step.refl (U : Nat → Prop) (w : World) : Step U w w U := ⟨fun _ _ q => q, Keep.refl _ _⟩
/-- The program's room and the book, in the blocks of U. -/
structure DuoB (w : World) (U : Nat → Prop) (p r : Nat) (L L' : List Tx) : Prop where
  lt : ∀ k, U k → k < w.heap.size
  both : ∃ S1 S2, Room w S1 p L ∧ Lst bookL w S2 r L' ∧ (∀ k, S1 k → U k) ∧ (∀ k, S2 k → U k) ∧ ∀ k, S1 k → ¬ S2 k
section
variable {w w' : World} {U T : Nat → Prop} {p r : Nat} {L L' : List Tx}
theorem DuoB.keep (h : DuoB w U p r L L') (hk : Keep T w w') (hn : ∀ k, U k → ¬ T k) : DuoB w' U p r L L' := by
  obtain ⟨S1, S2, h1, h2, h3, h4, h5⟩ := h.both
  exact ⟨fun k q => Nat.lt_of_lt_of_le (h.lt k q) hk.size, S1, S2, h1.keep hk (fun k q => hn k (h3 k q)), h2.keep hk (fun k q => hn k (h4 k q)), h3, h4, h5⟩
theorem DuoB.below (h : DuoB w U p r L L') (hk : Below w.heap.size w w') : DuoB w' U p r L L' := h.keep (Keep.of_below (S := fun _ => False) hk) (fun _ _ => id)
theorem DuoB.ok (h : DuoB w U p r L L') : Ok L := by obtain ⟨S1, S2, h1, _⟩ := h.both; exact h1.ok
theorem DuoB.prog (h : DuoB w U p r L L') : ∃ S1, Room w S1 p L ∧ ∀ L2 w', Out w S1 p L2 w' → ∃ U', DuoB w' U' p r L2 L' ∧ Step U w w' U' := by
  obtain ⟨S1, S2, h1, h2, h3, h4, h5⟩ := h.both
  refine ⟨S1, h1, fun L2 w' o => ?_⟩
  obtain ⟨S', o1, o2, o3⟩ := o
  refine ⟨fun k => S' k ∨ S2 k, ⟨fun k q => q.elim (o1.lt k) (fun q => Nat.lt_of_lt_of_le (h2.lt k q) o3.size), S', S2, o1, h2.keep o3 (fun k q z => h5 k z q), fun k q => .inl q, fun k q => .inr q, fun k q z => h5 k (o2 k (h2.lt k z) q) z⟩, ⟨fun k hk q => q.elim (fun q => h3 k (o2 k hk q)) (h4 k), o3.mono (fun k _ q => h3 k q)⟩⟩
theorem DuoB.ref (h : DuoB w U p r L L') : ∃ S2, Lst bookL w S2 r L' ∧ ∀ L2 w', OutL bookL w S2 r L2 w' → ∃ U', DuoB w' U' p r L L2 ∧ Step U w w' U' := by
  obtain ⟨S1, S2, h1, h2, h3, h4, h5⟩ := h.both
  refine ⟨S2, h2, fun L2 w' o => ?_⟩
  obtain ⟨S', o1, o2, o3⟩ := o
  refine ⟨fun k => S1 k ∨ S' k, ⟨fun k q => q.elim (fun q => Nat.lt_of_lt_of_le (h1.lt k q) o3.size) (o1.lt k), S1, S', h1.keep o3 (fun k q z => h5 k q z), o1, fun k q => .inl q, fun k q => .inr q, fun k q z => h5 k q (o2 k (h1.lt k q) z)⟩, ⟨fun k hk q => q.elim (h3 k) (fun q => h4 k (o2 k hk q)), o3.mono (fun k _ q => h4 k q)⟩⟩
end
set_option maxHeartbeats 1000000 in
theorem brought_any (x : Int) (n : Nat) (w : World) (hx : I64 x) (h1 : 1 ≤ n) (h2 : n ≤ 1000000) : Calls Try.prog 19 #[.int .i64 x, .int .i64 (n : Int)] w fun e w' => ∃ j : Nat, e = .returned (.int .i64 (j : Int)) ∧ j < n ∧ (x = 1 → n = 2 → j = 1) ∧ w = w' := by
  have b1 := Int.tmod_lt_of_pos x (show (0 : Int) < (n : Int) by omega)
  have b2 := Int.lt_tmod_of_pos x (show (0 : Int) < (n : Int) by omega)
  have h0 : ((n : Int) == 0) = false := by simp; omega
  have b3 : x = 1 → n = 2 → Int.tmod x n = 1 := fun a b => by subst a; subst b; decide
  have B3 := hide b3
  have hn0 : ¬ (n : Int) = 0 := by omega
  have hw : wrap64 (Int.tmod x n) = Int.tmod x n := wrapI (by unfold I64; omega)
  have HH := hide (And.intro b1 b2)
  clear b1 b2 b3
  go_enter Try.func19, Try.ntmps19
  go_upto_region 2 with fail
  have b1 := HH.out.1
  have b2 := HH.out.2
  clear HH
  generalize Int.tmod x (n : Int) = r at *
  by_cases q : r < 0
  · have e1 : decide (r < 0) = true := by simpa using q
    have hw2 : wrap64 (r + n) = r + n := wrapI (by unfold I64; omega)
    go_wp2_with fail
    go_ret
    exact ⟨(r + n).toNat, ret_int (by omega), by omega, fun a b => by have := B3.out a b; omega, rfl⟩
  · have e1 : decide (r < 0) = false := by simpa using q
    go_wp2_with fail
    go_ret
    exact ⟨r.toNat, ret_int (by omega), by omega, fun a b => by have := B3.out a b; omega, rfl⟩
set_option maxHeartbeats 4000000 in
theorem grown_any (xs : List OpX) (sa : Option Addr) (sc : Nat) (w : World) (hL : Lies w sa (rowsC OpX.cs xs)) (hok : ∀ o ∈ xs, o.Ok) : Calls Try.prog 15 #[.slice sa xs.length sc] w fun e w' => ∃ p b U L, e = .returned (.tuple #[ptr p, ptr b]) ∧ DuoB w' U p b L L ∧ (∀ k, U k → w.heap.size ≤ k) ∧ Below w.heap.size w w' := by
  have K1 := new_any w
  have pe := ptr_eql
  have HL := hide hL
  have HO := hide hok
  clear hL hok
  go_enter Try.func15, Try.ntmps15
  go_wp2_with fail
  refine K1.mono ?_
  rintro e w1 ⟨rfl, R1, b1, sz1⟩
  obtain ⟨p, hp⟩ : ∃ p, p = w.heap.size + 1 := ⟨_, rfl⟩
  rw [← hp] at R1 ⊢
  have SZ := hide sz1
  have HP := hide hp
  clear sz1 hp
  obtain ⟨w2, hw2⟩ : ∃ w2, w2 = w1.alloc (.cells #[.slice none 0 0] 32) := ⟨_, rfl⟩
  obtain ⟨b, hb⟩ : ∃ b, b = w1.heap.size := ⟨_, rfl⟩
  have A2 : Below w1.heap.size w1 w2 := by rw [hw2]; exact alloc_below _ _
  have D2 : DuoB w2 (fun k => w.heap.size ≤ k ∧ k < w2.heap.size) p b [] [] := by
    have sz := SZ.out
    have sz2 : w2.heap.size = w1.heap.size + 1 := by rw [hw2]; simp
    refine ⟨fun k q => q.2, _, fun k => k = b, R1.below A2, ⟨.slice none 0 0, [], ⟨fun k q => by omega, rfl, ?_, World.ownsRow_nil _ _ _ _, nofun, nofun, nofun, List.Pairwise.nil⟩, rfl⟩, fun k q => by omega, fun k q => by omega, fun k q z => by omega⟩
    rw [hw2, hb]
    exact Cells.new w1 #[.slice none 0 0] 32
  have B2 : Below w.heap.size w w2 := b1.trans (A2.mono b1.size)
  have HD := hide D2
  have HB := hide B2
  clear D2 B2 A2 R1 b1 SZ HP K1
  go_upto_region 6 with fail
  rw [← hw2, ← hb]
  clear hw2 hb
  go_loopw [6] (fun vi wr => ∃ (k : Nat) (U : Nat → Prop) (L : List Tx), vi = .int .i64 (k : Int) ∧ k ≤ xs.length ∧ k ≤ 3000 ∧ DuoB wr U p b L L ∧ (∀ k, U k → w.heap.size ≤ k) ∧ Below w.heap.size w wr) (fun vi _ => 3000 - (intOf vi).toNat)
  case atStart => exact ⟨0, _, [], rfl, Nat.zero_le _, Nat.zero_le _, HD.out, fun k q => q.1, HB.out⟩
  case round =>
    obtain ⟨k, U, L, rfl, hk, hk3, DD, UB, BB⟩ := hrel
    clear HD HB
    by_cases hgo : k < xs.length ∧ k < 3000
    · obtain ⟨hlt, h3⟩ := hgo
      obtain ⟨gb, off, rfl, hgb, hcl⟩ := op_at HL.out hlt
      have blk : wr.heap[gb]? = w.heap[gb]? := BB.block gb hgb
      have OKX := HO.out _ (List.getElem_mem hlt)
      have HCL := hide hcl
      generalize xs[k] = o at *
      have HBB := hide BB
      have HUB := hide UB
      have okD := DD.ok
      obtain ⟨S1, R1, st1⟩ := DD.prog
      have KA := asked_any S1 p L o wr R1 OKX
      have SAME := hide (fun (h : askE L o ≠ 0) => ask_same h)
      have NOTE := hide (fun (S2 : Nat → Prop) (w5 : World) (h5 : Lst bookL w5 S2 b L) (h0 : askE L o = 0) => notes_any S2 b L o w5 h5 okD h0)
      obtain ⟨okind, otwo, otx, octr, owhat, ofree, omore⟩ := o
      have q0 : wr.cell? ⟨gb, off + k * 7, none⟩ = some (.int .i64 okind) := hcl wr blk 0 _ rfl
      have q1 : wr.cell? ⟨gb, off + k * 7 + 1, none⟩ = some (.bool otwo) := hcl wr blk 1 _ rfl
      have q2 : wr.cell? ⟨gb, off + k * 7 + 2, none⟩ = some (.int .i64 otx) := hcl wr blk 2 _ rfl
      have q3 : wr.cell? ⟨gb, off + k * 7 + 3, none⟩ = some (.int .i64 octr) := hcl wr blk 3 _ rfl
      have q4 : wr.cell? ⟨gb, off + k * 7 + 4, none⟩ = some (.int .i64 owhat) := hcl wr blk 4 _ rfl
      have q5 : wr.cell? ⟨gb, off + k * 7 + 5, none⟩ = some (.int .i64 ofree) := hcl wr blk 5 _ rfl
      have q6 : wr.cell? ⟨gb, off + k * 7 + 6, none⟩ = some (.int .i64 omore) := hcl wr blk 6 _ rfl
      simp only [OpX.cs] at KA
      obtain ⟨E, hE⟩ : ∃ E, E = askE L ⟨okind, otwo, otx, octr, owhat, ofree, omore⟩ := ⟨_, rfl⟩
      obtain ⟨LL, hLL⟩ : ∃ LL, LL = askL L ⟨okind, otwo, otx, octr, owhat, ofree, omore⟩ := ⟨_, rfl⟩
      rw [← hE, ← hLL] at KA
      rw [← hE] at SAME NOTE
      rw [← hLL] at SAME
      have HLL := hide hLL
      have ST1 := hide st1
      clear hE hLL hcl DD UB st1 R1 OKX okD blk BB
      go_upto_region 9 with (go_at_call 11; refine KA.mono ?_; rintro e w3 ⟨rfl, o3⟩)
      clear q0 q1 q2 q3 q4 q5 q6 KA
      obtain ⟨U3, D3, s3⟩ := ST1.out _ _ o3
      have UB3 : ∀ k, U3 k → w.heap.size ≤ k := fun k q => by
        by_cases z : k < wr.heap.size
        · exact HUB.out k (s3.sub k z q)
        · have := HBB.out.size; omega
      have BB3 : Below w.heap.size w w3 := HBB.out.trans (s3.keep.below HBB.out.size (fun k hk q => by have := HUB.out k q; omega))
      clear o3 s3
      by_cases e0 : E = 0
      · have q : (E == 0) = true := by simpa using e0
        have blk : w3.heap[gb]? = w.heap[gb]? := BB3.block gb hgb
        have q0 : w3.cell? ⟨gb, off + k * 7, none⟩ = some (.int .i64 okind) := HCL.out w3 blk 0 _ rfl
        have q1 : w3.cell? ⟨gb, off + k * 7 + 1, none⟩ = some (.bool otwo) := HCL.out w3 blk 1 _ rfl
        have q2 : w3.cell? ⟨gb, off + k * 7 + 2, none⟩ = some (.int .i64 otx) := HCL.out w3 blk 2 _ rfl
        have q3 : w3.cell? ⟨gb, off + k * 7 + 3, none⟩ = some (.int .i64 octr) := HCL.out w3 blk 3 _ rfl
        have q4 : w3.cell? ⟨gb, off + k * 7 + 4, none⟩ = some (.int .i64 owhat) := HCL.out w3 blk 4 _ rfl
        have q5 : w3.cell? ⟨gb, off + k * 7 + 5, none⟩ = some (.int .i64 ofree) := HCL.out w3 blk 5 _ rfl
        have q6 : w3.cell? ⟨gb, off + k * 7 + 6, none⟩ = some (.int .i64 omore) := HCL.out w3 blk 6 _ rfl
        obtain ⟨S2, R2, st2⟩ := D3.ref
        have KN := NOTE.out S2 w3 R2 e0
        simp only [OpX.cs] at KN
        rw [← HLL.out] at KN
        have ST2 := hide st2
        have UB3' := hide UB3
        have BB3' := hide BB3
        clear R2 st2 D3 UB3 BB3 blk e0
        go_wp2_with (go_at_call 12; refine KN.mono ?_; rintro e w4 ⟨rfl, o4⟩)
        obtain ⟨U4, D4, s4⟩ := ST2.out _ _ o4
        have UB4 : ∀ k, U4 k → w.heap.size ≤ k := fun k q => by
          by_cases z : k < w3.heap.size
          · exact UB3'.out k (s4.sub k z q)
          · have := BB3'.out.size; omega
        have BB4 : Below w.heap.size w w4 := BB3'.out.trans (s4.keep.below BB3'.out.size (fun k hk q => by have := UB3'.out k q; omega))
        clear o4 s4
        go_roundw
        case rel => first | exact ⟨k + 1, U4, LL, by go_num, by omega, by omega, D4, UB4, BB4⟩ | ((repeat apply Exists.intro); exact ⟨⟨k + 1, U4, LL, by go_num, by omega, by omega, D4, UB4, BB4⟩, rfl⟩)
        case measure => simp [intOf]; omega
      · have q : (E == 0) = false := by simpa using e0
        have EL : LL = L := SAME.out e0
        subst EL
        go_wp2_with fail
        go_roundw
        case rel => first | exact ⟨k + 1, U3, LL, by go_num, by omega, by omega, D3, UB3, BB3⟩ | ((repeat apply Exists.intro); exact ⟨⟨k + 1, U3, LL, by go_num, by omega, by omega, D3, UB3, BB3⟩, rfl⟩)
        case measure => simp [intOf]; omega
    · by_cases hlt : k < xs.length
      · have h3 : ¬ k < 3000 := fun z => hgo ⟨hlt, z⟩
        go_wp2_with fail
        go_ret2
        exact ⟨p, b, U, L, rfl, DD, UB, BB⟩
      · go_wp2_with fail
        go_ret2
        exact ⟨p, b, U, L, rfl, DD, UB, BB⟩
end Go.Proofs.Ytadppakflbilcaa
