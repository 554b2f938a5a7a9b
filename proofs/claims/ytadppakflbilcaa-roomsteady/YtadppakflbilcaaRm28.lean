import Derived.Test.YtadppakflbilcaaRm23
namespace Go.Proofs.Ytadppakflbilcaa
open Go.RowKit Go.QK Go.Maps Go.QM Go.QR
set_option maxRecDepth 100000
/-- Two rooms and a book in the blocks of U. -/
structure Trio (w : World) (U : Nat → Prop) (p q b : Nat) (L1 L2 L3 : List Tx) : Prop where
  lt : ∀ k, U k → k < w.heap.size
  all : ∃ S1 S2 S3, Room w S1 p L1 ∧ Room w S2 q L2 ∧ Lst bookL w S3 b L3 ∧ (∀ k, S1 k → U k) ∧ (∀ k, S2 k → U k) ∧ (∀ k, S3 k → U k) ∧ (∀ k, S1 k → ¬ S2 k) ∧ (∀ k, S1 k → ¬ S3 k) ∧ ∀ k, S2 k → ¬ S3 k
section
variable {w w' : World} {U T : Nat → Prop} {p q b : Nat} {L1 L2 L3 : List Tx}
theorem Trio.keep (h : Trio w U p q b L1 L2 L3) (hk : Keep T w w') (hn : ∀ k, U k → ¬ T k) : Trio w' U p q b L1 L2 L3 := by
  obtain ⟨S1, S2, S3, h1, h2, h3, u1, u2, u3, d⟩ := h.all
  exact ⟨fun k q => Nat.lt_of_lt_of_le (h.lt k q) hk.size, S1, S2, S3, h1.keep hk (fun k q => hn k (u1 k q)), h2.keep hk (fun k q => hn k (u2 k q)), h3.keep hk (fun k q => hn k (u3 k q)), u1, u2, u3, d⟩
theorem Trio.below (h : Trio w U p q b L1 L2 L3) (hk : Below w.heap.size w w') : Trio w' U p q b L1 L2 L3 := h.keep (Keep.of_below (S := fun _ => False) hk) (fun _ _ => id)
theorem Trio.ok (h : Trio w U p q b L1 L2 L3) : Ok L1 ∧ Ok L2 := by obtain ⟨S1, S2, S3, h1, h2, _⟩ := h.all; exact ⟨h1.ok, h2.ok⟩
theorem Trio.r (h : Trio w U p q b L1 L2 L3) : ∃ S1, Room w S1 p L1 ∧ ∀ L w', Out w S1 p L w' → ∃ U', Trio w' U' p q b L L2 L3 ∧ Step U w w' U' := by
  obtain ⟨S1, S2, S3, h1, h2, h3, u1, u2, u3, d12, d13, d23⟩ := h.all
  refine ⟨S1, h1, fun L w' o => ?_⟩
  obtain ⟨S', o1, o2, o3⟩ := o
  refine ⟨fun k => S' k ∨ S2 k ∨ S3 k, ⟨?_, S', S2, S3, o1, h2.keep o3 (fun k q z => d12 k z q), h3.keep o3 (fun k q z => d13 k z q), fun k q => .inl q, fun k q => .inr (.inl q), fun k q => .inr (.inr q), fun k q z => d12 k (o2 k (h2.lt k z) q) z, fun k q z => d13 k (o2 k (h3.lt k z) q) z, d23⟩, ⟨?_, o3.mono (fun k _ q => u1 k q)⟩⟩
  · rintro k (q | q | q)
    · exact o1.lt k q
    · exact Nat.lt_of_lt_of_le (h2.lt k q) o3.size
    · exact Nat.lt_of_lt_of_le (h3.lt k q) o3.size
  · rintro k hk (q | q | q)
    · exact u1 k (o2 k hk q)
    · exact u2 k q
    · exact u3 k q
theorem Trio.flip (h : Trio w U p q b L1 L2 L3) : Trio w U q p b L2 L1 L3 := by
  obtain ⟨S1, S2, S3, h1, h2, h3, u1, u2, u3, d12, d13, d23⟩ := h.all
  exact ⟨h.lt, S2, S1, S3, h2, h1, h3, u2, u1, u3, fun k q z => d12 k z q, d23, d13⟩
theorem Trio.s (h : Trio w U p q b L1 L2 L3) : ∃ S1, Room w S1 q L2 ∧ ∀ L w', Out w S1 q L w' → ∃ U', Trio w' U' p q b L1 L L3 ∧ Step U w w' U' := by
  obtain ⟨S1, h1, h2⟩ := h.flip.r
  refine ⟨S1, h1, fun L w' o => ?_⟩
  obtain ⟨U', a, c⟩ := h2 L w' o
  exact ⟨U', a.flip, c⟩
theorem Trio.bk (h : Trio w U p q b L1 L2 L3) : ∃ S3, Lst bookL w S3 b L3 ∧ ∀ L w', OutL bookL w S3 b L w' → ∃ U', Trio w' U' p q b L1 L2 L ∧ Step U w w' U' := by
  obtain ⟨S1, S2, S3, h1, h2, h3, u1, u2, u3, d12, d13, d23⟩ := h.all
  refine ⟨S3, h3, fun L w' o => ?_⟩
  obtain ⟨S', o1, o2, o3⟩ := o
  refine ⟨fun k => S1 k ∨ S2 k ∨ S' k, ⟨?_, S1, S2, S', h1.keep o3 (fun k q z => d13 k q z), h2.keep o3 (fun k q z => d23 k q z), o1, fun k q => .inl q, fun k q => .inr (.inl q), fun k q => .inr (.inr q), d12, fun k q z => d13 k q (o2 k (h1.lt k q) z), fun k q z => d23 k q (o2 k (h2.lt k q) z)⟩, ⟨?_, o3.mono (fun k _ q => u3 k q)⟩⟩
  · rintro k (q | q | q)
    · exact Nat.lt_of_lt_of_le (h1.lt k q) o3.size
    · exact Nat.lt_of_lt_of_le (h2.lt k q) o3.size
    · exact o1.lt k q
  · rintro k hk (q | q | q)
    · exact u1 k q
    · exact u2 k q
    · exact u3 k (o2 k hk q)
end
/-- Two rooms and a book made behind w, and the last call in its variable. -/
structure Kept3 (w wr : World) (U : Nat → Prop) (p q b nl : Nat) (o : OpX) (L1 L2 L3 : List Tx) : Prop where
  trio : Trio wr U p q b L1 L2 L3
  up : ∀ k, U k → w.heap.size ≤ k
  bel : Below w.heap.size w wr
  last : Cells wr nl o.cs
  out : ¬ U nl
section
variable {w wr wz : World} {U U' : Nat → Prop} {p q b nl : Nat} {o : OpX} {L1 L2 L3 M1 M2 M3 : List Tx}
theorem Kept3.below (h : Kept3 w wr U p q b nl o L1 L2 L3) (hb : Below wr.heap.size wr wz) : Kept3 w wz U p q b nl o L1 L2 L3 := ⟨h.trio.below hb, h.up, h.bel.trans (hb.mono h.bel.size), h.last.keep (Keep.of_below (S := fun _ => False) hb) id, h.out⟩
theorem Kept3.step (h : Kept3 w wr U p q b nl o L1 L2 L3) (hs : Step U wr wz U') (hd : Trio wz U' p q b M1 M2 M3) : Kept3 w wz U' p q b nl o M1 M2 M3 := by
  refine ⟨hd, fun k y => ?_, h.bel.trans (hs.keep.below h.bel.size (fun k hk y => by have := h.up k y; omega)), h.last.keep hs.keep h.out, fun y => h.out (hs.sub nl h.last.1 y)⟩
  by_cases z : k < wr.heap.size
  · exact h.up k (hs.sub k z y)
  · have := h.bel.size; omega
theorem Step.cells (hs : Step U wr wz U') {n : Nat} {cs : List Value} (hc : Cells wr n cs) (hn : ¬ U n) : Cells wz n cs ∧ ¬ U' n := ⟨hc.keep hs.keep hn, fun y => hn (hs.sub n hc.1 y)⟩
end
set_option maxHeartbeats 8000000 in
theorem law_steady (xs : List OpX) (sa : Option Addr) (sc : Nat) (lo : OpX) (w : World) (hL : Lies w sa (rowsC OpX.cs xs)) (hok : ∀ o ∈ xs, o.Ok) (hlo : lo.Ok) : Calls Try.prog 4 #[.slice sa xs.length sc, .agg lo.cs.toArray] w fun e w' => e = .returned (.bool true) ∧ Below w.heap.size w w' := by
  have pe := ptr_eql
  have HL := hide hL
  have HO := hide hok
  have HLO := hide hlo
  clear hL hok hlo
  obtain ⟨w1, hw1⟩ : ∃ w1, w1 = w.alloc (.cells lo.cs.toArray 26) := ⟨_, rfl⟩
  obtain ⟨nl, hnl⟩ : ∃ nl, nl = w.heap.size := ⟨_, rfl⟩
  have A1 : Below w.heap.size w w1 := by rw [hw1]; exact alloc_below _ _
  have C1 : Cells w1 nl lo.cs := by rw [hw1, hnl]; exact Cells.new w lo.cs.toArray 26
  have sz1 : w1.heap.size = w.heap.size + 1 := by rw [hw1]; simp
  have K1 := new_any w1
  have HSZ := hide sz1
  have HNL := hide hnl
  clear sz1
  simp only [OpX.cs] at hw1
  go_enter Try.func4, Try.ntmps4
  go_upto_region 1 with fail
  simp only [OpX.cs]
  rw [← hw1, ← hnl]
  clear hw1 hnl
  go_wp2_with fail
  refine K1.mono ?_
  rintro e w2 ⟨rfl, R2, b2, sz2⟩
  have K2 := new_any w2
  obtain ⟨p, hp⟩ : ∃ p, p = w1.heap.size + 1 := ⟨_, rfl⟩
  rw [← hp] at R2 ⊢
  have HSZ2 := hide sz2
  clear sz2 K1 hp
  go_wp2_with fail
  refine K2.mono ?_
  rintro e w3 ⟨rfl, R3, b3, sz3⟩
  obtain ⟨q, hq⟩ : ∃ q, q = w2.heap.size + 1 := ⟨_, rfl⟩
  rw [← hq] at R3 ⊢
  have HSZ3 := hide sz3
  clear sz3 K2 hq
  have K9 := awake_any w3
  go_upto_region 5 with (go_at_call 9; refine K9.mono ?_; rintro e w4 ⟨rfl, b4⟩)
  clear K9
  obtain ⟨w5, hw5⟩ : ∃ w5, w5 = w4.alloc (.cells #[.slice none 0 0] 32) := ⟨_, rfl⟩
  obtain ⟨b, hb⟩ : ∃ b, b = w4.heap.size := ⟨_, rfl⟩
  have A5 : Below w4.heap.size w4 w5 := by rw [hw5]; exact alloc_below _ _
  have TB : Kept3 w w5 (fun k => w1.heap.size ≤ k ∧ k < w5.heap.size) p q b nl lo [] [] [] := by
    have sz1 := HSZ.out
    have sz2 := HSZ2.out
    have sz3 := HSZ3.out
    have s4 := b4.size
    have hnl := HNL.out
    have sz5 : w5.heap.size = w4.heap.size + 1 := by rw [hw5]; simp
    have B2 : Below w.heap.size w w2 := A1.trans (b2.mono (by omega))
    have B3 := B2.trans (b3.mono (by omega))
    have B4 := B3.trans (b4.mono (by omega))
    refine ⟨⟨fun k y => y.2, _, _, fun k => k = b, ((R2.below b3).below b4).below A5, (R3.below b4).below A5, ⟨.slice none 0 0, [], ⟨fun k y => by omega, rfl, ?_, World.ownsRow_nil _ _ _ _, nofun, nofun, nofun, List.Pairwise.nil⟩, rfl⟩, fun k y => by omega, fun k y => by omega, fun k y => by omega, fun k y z => by omega, fun k y z => by omega, fun k y z => by omega⟩, fun k y => by omega, B4.trans (A5.mono (by omega)), ?_, fun y => by omega⟩
    · rw [hw5, hb]
      exact Cells.new w4 #[.slice none 0 0] 32
    · exact (((C1.keep (Keep.of_below (S := fun _ => False) b2) id).keep (Keep.of_below (S := fun _ => False) b3) id).keep (Keep.of_below (S := fun _ => False) b4) id).keep (Keep.of_below (S := fun _ => False) A5) id
  have HT := hide TB
  go_upto_region 7 with fail
  rw [← hw5, ← hb]
  clear hw5 hb TB A5 A1 C1 R2 R3 b2 b3 b4 HSZ HSZ2 HSZ3 HNL
  go_loopw [8] (fun vi wr => ∃ (k : Nat) (U : Nat → Prop) (L : List Tx), vi = .int .i64 (k : Int) ∧ k ≤ xs.length ∧ k ≤ 3000 ∧ Kept3 w wr U p q b nl lo L L L) (fun vi _ => 3000 - (intOf vi).toNat)
  case atStart => exact ⟨0, _, [], rfl, Nat.zero_le _, Nat.zero_le _, HT.out⟩
  case round =>
    clear HT
    obtain ⟨k, U, L, rfl, hk, hk3, TT⟩ := hrel
    have HT := hide TT
    have okL := TT.trio.ok.1
    have HOK := hide okL
    by_cases hgo : k < xs.length ∧ k < 3000
    · obtain ⟨hlt, h3⟩ := hgo
      obtain ⟨gb, off, rfl, hgb, hcl⟩ := op_at HL.out hlt
      have blk : wr.heap[gb]? = w.heap[gb]? := TT.bel.block gb hgb
      have OKX := HO.out _ (List.getElem_mem hlt)
      generalize xs[k] = o at *
      have lgb : gb < wr.heap.size := Nat.lt_of_lt_of_le hgb TT.bel.size
      obtain ⟨okind, otwo, otx, octr, owhat, ofree, omore⟩ := o
      have q0 : wr.cell? ⟨gb, off + k * 7, none⟩ = some (.int .i64 okind) := hcl wr blk 0 _ rfl
      have q1 : wr.cell? ⟨gb, off + k * 7 + 1, none⟩ = some (.bool otwo) := hcl wr blk 1 _ rfl
      have q2 : wr.cell? ⟨gb, off + k * 7 + 2, none⟩ = some (.int .i64 otx) := hcl wr blk 2 _ rfl
      have q3 : wr.cell? ⟨gb, off + k * 7 + 3, none⟩ = some (.int .i64 octr) := hcl wr blk 3 _ rfl
      have q4 : wr.cell? ⟨gb, off + k * 7 + 4, none⟩ = some (.int .i64 owhat) := hcl wr blk 4 _ rfl
      have q5 : wr.cell? ⟨gb, off + k * 7 + 5, none⟩ = some (.int .i64 ofree) := hcl wr blk 5 _ rfl
      have q6 : wr.cell? ⟨gb, off + k * 7 + 6, none⟩ = some (.int .i64 omore) := hcl wr blk 6 _ rfl
      have HOX := hide OKX
      clear hcl blk TT okL OKX
      go_upto_region 10 with fail
      refine named (P := Code.wp _ _ _ _) ?_
      intro wx hwx
      have bx : Below wr.heap.size wr wx := by rw [hwx]; exact alloc_below _ _
      have HCX := hide (show Cells wx wr.heap.size (OpX.cs ⟨okind, otwo, otx, octr, owhat, ofree, omore⟩) from by rw [hwx]; exact Cells.new wr (OpX.cs ⟨okind, otwo, otx, octr, owhat, ofree, omore⟩).toArray 26)
      have HNX := hide (show ¬ U wr.heap.size from fun y => by have := HT.out.trio.lt _ y; omega)
      have HTX := hide (HT.out.below bx)
      obtain ⟨nx, hnx⟩ : ∃ nx, nx = wr.heap.size := ⟨_, rfl⟩
      rw [← hnx] at HCX HNX ⊢
      clear hwx hnx bx HT q0 q1 q2 q3 q4 q5 q6
      obtain ⟨E, hE⟩ : ∃ E, E = askE L ⟨okind, otwo, otx, octr, owhat, ofree, omore⟩ := ⟨_, rfl⟩
      obtain ⟨LL, hLL⟩ : ∃ LL, LL = askL L ⟨okind, otwo, otx, octr, owhat, ofree, omore⟩ := ⟨_, rfl⟩
      have SAME := hide (show E ≠ 0 → LL = L from fun h => by rw [hLL]; exact ask_same (by rw [← hE]; exact h))
      have KA := fun (S1 : Nat → Prop) (p : Nat) (wq : World) (R : Room wq S1 p L) => asked_any S1 p L ⟨okind, otwo, otx, octr, owhat, ofree, omore⟩ wq R HOX.out
      have KN := fun (S1 : Nat → Prop) (wq : World) (R : Lst bookL wq S1 b L) (h0 : E = 0) => notes_any S1 b L ⟨okind, otwo, otx, octr, owhat, ofree, omore⟩ wq R HOK.out (by rw [← hE]; exact h0)
      rw [← hE, ← hLL] at KA
      rw [← hLL] at KN
      simp only [OpX.cs] at KA KN HCX
      clear hE hLL
      obtain ⟨S1, R1, st1⟩ := HTX.out.trio.r
      have ST1 := hide st1
      have K11 := KA S1 p wx R1
      obtain ⟨o0, -⟩ := HCX.out.get 0 _ rfl
      obtain ⟨o1, -⟩ := HCX.out.get 1 _ rfl
      obtain ⟨o2, -⟩ := HCX.out.get 2 _ rfl
      obtain ⟨o3, -⟩ := HCX.out.get 3 _ rfl
      obtain ⟨o4, -⟩ := HCX.out.get 4 _ rfl
      obtain ⟨o5, -⟩ := HCX.out.get 5 _ rfl
      obtain ⟨o6, -⟩ := HCX.out.get 6 _ rfl
      clear R1 st1
      go_upto_region 11 with (go_at_call 11; refine K11.mono ?_; rintro e w3 ⟨rfl, oo⟩)
      obtain ⟨U3, D3, s3⟩ := ST1.out _ _ oo
      have HT3 := hide (HTX.out.step s3 D3)
      obtain ⟨c3, n3⟩ := s3.cells HCX.out HNX.out
      have HC3 := hide c3
      have HN3 := hide n3
      clear oo D3 s3 c3 n3 HTX HCX HNX K11 ST1 o0 o1 o2 o3 o4 o5 o6
      by_cases e1 : 0 < E
      · have d1 : decide (0 < E) = true := by simpa using e1
        have EL : LL = L := SAME.out (by omega)
        subst EL
        clear KA KN
        go_wp2_with fail
        go_roundw
        case rel => first | exact ⟨k + 1, U3, LL, by go_num, by omega, by omega, HT3.out⟩ | ((repeat apply Exists.intro); exact ⟨⟨k + 1, U3, LL, by go_num, by omega, by omega, HT3.out⟩, rfl⟩)
        case measure => simp [intOf]; omega
      have d1 : decide (0 < E) = false := by simpa using e1
      go_upto_region 12 with fail
      go_upto_if 46 with fail
      go_cut [] (fun w' => ∃ U4, Kept3 w w' U4 p q b nl lo LL L LL ∧ Cells w' nx [.int .i64 okind, .bool otwo, .int .i64 otx, .int .i64 octr, .int .i64 owhat, .int .i64 ofree, .int .i64 omore] ∧ ¬ U4 nx)
      case first =>
        by_cases e0 : E = 0
        · have d2 : (E == 0) = true := by simpa using e0
          obtain ⟨S3, R3, st3⟩ := HT3.out.trio.bk
          have ST3 := hide st3
          have K12 := KN S3 w3 R3 e0
          obtain ⟨o0, -⟩ := HC3.out.get 0 _ rfl
          obtain ⟨o1, -⟩ := HC3.out.get 1 _ rfl
          obtain ⟨o2, -⟩ := HC3.out.get 2 _ rfl
          obtain ⟨o3, -⟩ := HC3.out.get 3 _ rfl
          obtain ⟨o4, -⟩ := HC3.out.get 4 _ rfl
          obtain ⟨o5, -⟩ := HC3.out.get 5 _ rfl
          obtain ⟨o6, -⟩ := HC3.out.get 6 _ rfl
          clear R3 st3 KA KN e0
          rw [d2]
          go_wp2_with (go_at_call 12; refine K12.mono ?_; rintro e w4 ⟨rfl, oo⟩)
          go_meet
          obtain ⟨U4, D4, s4⟩ := ST3.out _ _ oo
          obtain ⟨c4, n4⟩ := s4.cells HC3.out HN3.out
          exact ⟨U4, HT3.out.step s4 D4, c4, n4⟩
        · have d2 : (E == 0) = false := by simpa using e0
          have EL : LL = L := SAME.out e0
          clear KA KN
          rw [d2]
          go_wp2_with fail
          go_meet
          subst EL
          exact ⟨U3, HT3.out, HC3.out, HN3.out⟩
      case rest =>
        obtain ⟨U4, t4, c4, n4⟩ := hcut
        have HT4 := hide t4
        have HC4 := hide c4
        have HN4 := hide n4
        clear t4 c4 n4 HT3 HC3 HN3 KN
        obtain ⟨S2, R2, st2⟩ := HT4.out.trio.s
        have ST2 := hide st2
        have K11 := KA S2 q _ R2
        obtain ⟨o0, -⟩ := HC4.out.get 0 _ rfl
        obtain ⟨o1, -⟩ := HC4.out.get 1 _ rfl
        obtain ⟨o2, -⟩ := HC4.out.get 2 _ rfl
        obtain ⟨o3, -⟩ := HC4.out.get 3 _ rfl
        obtain ⟨o4, -⟩ := HC4.out.get 4 _ rfl
        obtain ⟨o5, -⟩ := HC4.out.get 5 _ rfl
        obtain ⟨o6, -⟩ := HC4.out.get 6 _ rfl
        clear R2 st2 KA
        have e2 : (E != E) = false := by simp
        go_wp2_with fail
        refine K11.mono ?_
        rintro e w5 ⟨rfl, oo⟩
        obtain ⟨U5, D5, s5⟩ := ST2.out _ _ oo
        have HT5 := hide (HT4.out.step s5 D5)
        clear oo D5 s5 HT4 HC4 HN4 K11 ST2 o0 o1 o2 o3 o4 o5 o6
        obtain ⟨S1, R1, -⟩ := HT5.out.trio.r
        have K13 := Promised_any S1 p LL w5 R1
        clear R1
        go_wp2_with fail
        refine K13.mono ?_
        rintro e w6 ⟨rfl, b6⟩
        have HT6 := hide (HT5.out.below b6)
        clear K13 b6 HT5
        obtain ⟨S1, R1, -⟩ := HT6.out.trio.s
        have K13 := Promised_any S1 q LL w6 R1
        clear R1
        go_wp2_with fail
        refine K13.mono ?_
        rintro e w7 ⟨rfl, b7⟩
        have HT7 := hide (HT6.out.below b7)
        clear K13 b7 HT6
        go_wp2_with fail
        go_roundw
        case rel => first | exact ⟨k + 1, U5, LL, by go_num, by omega, by omega, HT7.out⟩ | ((repeat apply Exists.intro); exact ⟨⟨k + 1, U5, LL, by go_num, by omega, by omega, HT7.out⟩, rfl⟩)
        case measure => simp [intOf]; omega
    · have hend : (k < xs.length → ¬ k < 3000) := fun y z => hgo ⟨y, z⟩
      go_upto_region 7 with fail
      go_cut [33] from 26 to 61 (fun s w' => s = .bool false ∧ wr = w')
      case first =>
        by_cases hlt : k < xs.length
        · have h3 := hend hlt
          have h4 : decide ((k : Int) < 3000) = false := decide_eq_false (by omega)
          go_wp2_with fail
          go_meet
          exact ⟨by first | rfl | rw [h4], rfl⟩
        · go_wp2_with fail
          go_meet
          exact ⟨rfl, rfl⟩
      case rest =>
        obtain ⟨rfl, hw⟩ := hcut
        subst hw
        clear hend hgo TT okL hk hk3
        have few := HOK.out.few
        go_upto_region 17 with fail
        go_loopw [11] (fun vi wq => ∃ k : Nat, vi = .int .i64 (k : Int) ∧ k ≤ L.length ∧ Below wr.heap.size wr wq) (fun vi _ => L.length - (intOf vi).toNat)
        case atStart => exact ⟨0, rfl, Nat.zero_le _, Below.refl _ _⟩
        case round =>
          obtain ⟨k, rfl, hk, hb⟩ := hrel
          have HT2 := hide (HT.out.below hb)
          have HB2 := hide hb
          clear hb
          obtain ⟨S2, R2, -⟩ := HT2.out.trio.bk
          obtain ⟨v, P, hL, e⟩ := R2
          have hlen := map_len e
          obtain ⟨a, cap, rfl, -⟩ := hL.form
          obtain ⟨k0, -⟩ := hL.box.get 0 _ rfl
          rw [hlen] at k0
          clear hlen
          by_cases hlt : k < L.length
          · obtain ⟨vk, hpk⟩ := map_at e (List.getElem?_eq_getElem hlt)
            have hx := tx_i64 (HOK.out.each _ (List.getElem_mem hlt))
            obtain ⟨g0, cap0, ev0, -⟩ := hL.bookAt hpk
            cases ev0
            have HLL := hide hL
            have HPK := hide hpk
            have HLN := hide (map_len e)
            clear hL hpk e
            generalize L[k] = t at *
            go_upto_region 19 with fail
            refine named (P := Code.wp _ _ _ _) ?_
            intro wt hwt
            subst hwt
            refine wp_region_held_drew (S := fun wq => Below wt.heap.size wt wq) (by kernel_rfl) (Below.refl _ _).drew (fun hS => ?_)
            refine take_at 0 (some 71) (v := ?_) rfl rfl (by kernel_rfl) (by kernel_rfl) (by kernel_rfl) (fun _ _ _ h => h) ⟨by rfl, ?_⟩ hS ?_
            rotate_left
            · intro wq hSw; go_simp; try rfl
            simp only [Act.put, List.setIfInBounds_toArray, List.set_cons_zero, List.set_cons_succ]
            refine take_at 1 (some 72) (v := ?_) rfl rfl (by kernel_rfl) (by kernel_rfl) (by kernel_rfl) (fun _ _ _ h => h) ⟨by rfl, ?_⟩ hS ?_
            rotate_left
            · intro wq hSw; go_simp; try rfl
            simp only [Act.put, List.setIfInBounds_toArray, List.set_cons_zero, List.set_cons_succ]
            refine take_at 2 (some 73) (v := ?_) rfl rfl (by kernel_rfl) (by kernel_rfl) (by kernel_rfl) (fun _ _ _ h => h) ⟨by rfl, ?_⟩ hS ?_
            rotate_left
            · intro wq hSw; go_simp; try rfl
            simp only [Act.put, List.setIfInBounds_toArray, List.set_cons_zero, List.set_cons_succ]
            refine take_at 3 (some 74) (v := ?_) rfl rfl (by kernel_rfl) (by kernel_rfl) (by kernel_rfl) (fun _ _ _ h => h) ⟨by rfl, ?_⟩ hS ?_
            rotate_left
            · intro wq hSw; go_simp; try rfl
            simp only [Act.put, List.setIfInBounds_toArray, List.set_cons_zero, List.set_cons_succ]
            refine take_at 4 (some 75) (v := ?_) rfl rfl (by kernel_rfl) (by kernel_rfl) (by kernel_rfl) (fun _ _ _ h => h) ⟨by rfl, ?_⟩ hS ?_
            rotate_left
            · intro wq hSw; have q := ((HLL.out.below hSw).box.get 0 _ rfl).1; rw [HLN.out] at q; go_simp; try rfl
            simp only [Act.put, List.setIfInBounds_toArray, List.set_cons_zero, List.set_cons_succ]
            refine take_at 5 (some 76) (v := ?_) rfl rfl (by kernel_rfl) (by kernel_rfl) (by kernel_rfl) (fun _ _ _ h => h) ⟨by rfl, ?_⟩ hS ?_
            rotate_left
            · intro wq hSw; go_simp; try rfl
            simp only [Act.put, List.setIfInBounds_toArray, List.set_cons_zero, List.set_cons_succ]
            refine take_at 6 (some 77) (v := ?_) rfl rfl (by kernel_rfl) (by kernel_rfl) (by kernel_rfl) (fun _ _ _ h => h) ⟨by rfl, ?_⟩ hS ?_
            rotate_left
            · intro wq hSw; go_simp; try rfl
            simp only [Act.put, List.setIfInBounds_toArray, List.set_cons_zero, List.set_cons_succ]
            refine take_at 7 (some 78) (v := ?_) rfl rfl (by kernel_rfl) (by kernel_rfl) (by kernel_rfl) (fun _ _ _ h => h) ⟨by rfl, ?_⟩ hS ?_
            rotate_left
            · intro wq hSw; go_simp; try rfl
            simp only [Act.put, List.setIfInBounds_toArray, List.set_cons_zero, List.set_cons_succ]
            refine take_at 8 (some 79) (v := ?_) rfl rfl (by kernel_rfl) (by kernel_rfl) (by kernel_rfl) (fun _ _ _ h => h) ⟨by rfl, ?_⟩ hS ?_
            rotate_left
            · intro wq hSw; obtain ⟨g9, cap9, ev9, -, q9, -⟩ := (HLL.out.below hSw).bookAt HPK.out; cases ev9; go_simp; try rfl
            simp only [Act.put, List.setIfInBounds_toArray, List.set_cons_zero, List.set_cons_succ]
            refine take_at 10 (some 81) (v := ?_) rfl rfl (by kernel_rfl) (by kernel_rfl) (by kernel_rfl) (fun _ _ _ h => h) ⟨by rfl, ?_⟩ hS ?_
            rotate_left
            · intro wq hSw; go_simp; try rfl
            simp only [Act.put, List.setIfInBounds_toArray, List.set_cons_zero, List.set_cons_succ]
            refine take_at 11 (some 82) (v := ?_) rfl rfl (by kernel_rfl) (by kernel_rfl) (by kernel_rfl) (fun _ _ _ h => h) ⟨by rfl, ?_⟩ hS ?_
            rotate_left
            · intro wq hSw; go_simp; try rfl
            simp only [Act.put, List.setIfInBounds_toArray, List.set_cons_zero, List.set_cons_succ]
            refine take_at 12 (some 83) (v := ?_) rfl rfl (by kernel_rfl) (by kernel_rfl) (by kernel_rfl) (fun _ _ _ h => h) ⟨by rfl, ?_⟩ hS ?_
            rotate_left
            · intro wq hSw; go_simp; try rfl
            simp only [Act.put, List.setIfInBounds_toArray, List.set_cons_zero, List.set_cons_succ]
            refine take_at 13 (some 84) (v := ?_) rfl rfl (by kernel_rfl) (by kernel_rfl) (by kernel_rfl) (fun _ _ _ h => h) ⟨by rfl, ?_⟩ hS ?_
            rotate_left
            · intro wq hSw; go_simp; try rfl
            simp only [Act.put, List.setIfInBounds_toArray, List.set_cons_zero, List.set_cons_succ]
            refine take_at 14 (some 85) (v := ?_) rfl rfl (by kernel_rfl) (by kernel_rfl) (by kernel_rfl) (fun _ _ _ h => h) ⟨by rfl, ?_⟩ hS ?_
            rotate_left
            · intro wq hSw; have q := ((HLL.out.below hSw).box.get 0 _ rfl).1; rw [HLN.out] at q; go_simp; try rfl
            simp only [Act.put, List.setIfInBounds_toArray, List.set_cons_zero, List.set_cons_succ]
            refine take_at 15 (some 86) (v := ?_) rfl rfl (by kernel_rfl) (by kernel_rfl) (by kernel_rfl) (fun _ _ _ h => h) ⟨by rfl, ?_⟩ hS ?_
            rotate_left
            · intro wq hSw; go_simp; try rfl
            simp only [Act.put, List.setIfInBounds_toArray, List.set_cons_zero, List.set_cons_succ]
            refine take_at 16 (some 87) (v := ?_) rfl rfl (by kernel_rfl) (by kernel_rfl) (by kernel_rfl) (fun _ _ _ h => h) ⟨by rfl, ?_⟩ hS ?_
            rotate_left
            · intro wq hSw; go_simp; try rfl
            simp only [Act.put, List.setIfInBounds_toArray, List.set_cons_zero, List.set_cons_succ]
            refine take_at 17 (some 88) (v := ?_) rfl rfl (by kernel_rfl) (by kernel_rfl) (by kernel_rfl) (fun _ _ _ h => h) ⟨by rfl, ?_⟩ hS ?_
            rotate_left
            · intro wq hSw; go_simp; try rfl
            simp only [Act.put, List.setIfInBounds_toArray, List.set_cons_zero, List.set_cons_succ]
            refine take_at 18 (some 89) (v := ?_) rfl rfl (by kernel_rfl) (by kernel_rfl) (by kernel_rfl) (fun _ _ _ h => h) ⟨by rfl, ?_⟩ hS ?_
            rotate_left
            · intro wq hSw; obtain ⟨g9, cap9, ev9, -, q9, -⟩ := (HLL.out.below hSw).bookAt HPK.out; cases ev9; go_simp; try rfl
            simp only [Act.put, List.setIfInBounds_toArray, List.set_cons_zero, List.set_cons_succ]
            have D2 := hide (HT2.out.trio.below (Below.refl _ _).drew)
            have B2 := hide hS
            clear hS
            generalize wt.drew = x2 at *
            obtain ⟨S1, R1, -⟩ := D2.out.r
            have KP := Of_any S1 p L t.n x2 R1 hx
            refine wpAnyH_ready (rs := [9]) (by kernel_rfl) (by simp) ?_
            refine AllReadyH.cons rfl (fun K hK => ?_) AllReadyH.nil
            go_simp
            go_wp2_with fail
            refine KP.mono ?_
            rintro e x3 ⟨rfl, oo⟩
            have D3 := hide (D2.out.below oo)
            have B3 := hide (B2.out.trans (oo.mono B2.out.size))
            clear oo R1 KP D2 B2
            go_wp2_with fail
            refine hK.out _ _ B3.out (fun hS => ?_)
            clear hK K hS
            (try simp only [Act.put, List.setIfInBounds_toArray, List.set_cons_zero, List.set_cons_succ])
            obtain ⟨S1, R1, -⟩ := D3.out.s
            have KP := Of_any S1 q L t.n x3 R1 hx
            refine wpAnyH_ready (rs := [19]) (by kernel_rfl) (by simp) ?_
            refine AllReadyH.cons rfl (fun K hK => ?_) AllReadyH.nil
            go_simp
            go_wp2_with fail
            refine KP.mono ?_
            rintro e x4 ⟨rfl, oo⟩
            have B4 := hide (B3.out.trans (oo.mono B3.out.size))
            clear oo R1 KP D3 B3
            go_wp2_with fail
            refine hK.out _ _ B4.out (fun hS => ?_)
            clear hK K
            (try simp only [Act.put, List.setIfInBounds_toArray, List.set_cons_zero, List.set_cons_succ])
            refine take_at 20 (some 91) (v := ?_) rfl rfl (by kernel_rfl) (by kernel_rfl) (by kernel_rfl) (fun _ _ _ h => h) ⟨by rfl, ?_⟩ hS ?_
            rotate_left
            · intro wq hSw; go_simp; try rfl
            simp only [Act.put, List.setIfInBounds_toArray, List.set_cons_zero, List.set_cons_succ]
            refine wpAnyH_done (by kernel_rfl) ?_ _
            have BF := hide (HB2.out.trans (B4.out.mono HB2.out.size))
            clear hS B4
            go_wp2_with fail
            go_roundw
            case rel => exact ⟨k + 1, by go_num, by omega, BF.out⟩
            case measure => simp [intOf]; omega
          · clear hL e
            go_upto_region 21 with fail
            refine named (P := Code.wp _ _ _ _) ?_
            intro wt hwt
            subst hwt
            have HE := hide (show ∀ S1 p (wq : World), Room wq S1 p L → Calls Try.prog 11 #[ptr p, .agg lo.cs.toArray] wq fun r w' => r = .returned (.int .i64 (askE L lo)) ∧ Out wq S1 p (askL L lo) w' from fun S1 p wq R => asked_any S1 p L lo wq R HLO.out)
            obtain ⟨E, hE⟩ : ∃ E, E = askE L lo := ⟨_, rfl⟩
            obtain ⟨LL, hLL⟩ : ∃ LL, LL = askL L lo := ⟨_, rfl⟩
            rw [← hE, ← hLL] at HE
            clear hE hLL HLO HO HL
            obtain ⟨okind, otwo, otx, octr, owhat, ofree, omore⟩ := lo
            simp only [OpX.cs] at HE
            refine wp_region_held_drew (S := fun wq => Keep (fun z => U z) wt wq) (by kernel_rfl) (Keep.refl _ _).drew (fun hS => ?_)
            refine take_at 0 (some 92) (v := ?_) rfl rfl (by kernel_rfl) (by kernel_rfl) (by kernel_rfl) (fun _ _ _ h => h) ⟨by rfl, ?_⟩ hS ?_
            rotate_left
            · intro wq hSw; go_simp; try rfl
            simp only [Act.put, List.setIfInBounds_toArray, List.set_cons_zero, List.set_cons_succ]
            refine take_at 1 (some 93) (v := ?_) rfl rfl (by kernel_rfl) (by kernel_rfl) (by kernel_rfl) (fun _ _ _ h => h) ⟨by rfl, ?_⟩ hS ?_
            rotate_left
            · intro wq hSw; have hc9 := HT2.out.last.keep hSw HT2.out.out; have q0 : wq.cell? ⟨nl, 0, none⟩ = some (.int .i64 okind) := (hc9.get 0 _ rfl).1; have q1 : wq.cell? ⟨nl, 1, none⟩ = some (.bool otwo) := (hc9.get 1 _ rfl).1; have q2 : wq.cell? ⟨nl, 2, none⟩ = some (.int .i64 otx) := (hc9.get 2 _ rfl).1; have q3 : wq.cell? ⟨nl, 3, none⟩ = some (.int .i64 octr) := (hc9.get 3 _ rfl).1; have q4 : wq.cell? ⟨nl, 4, none⟩ = some (.int .i64 owhat) := (hc9.get 4 _ rfl).1; have q5 : wq.cell? ⟨nl, 5, none⟩ = some (.int .i64 ofree) := (hc9.get 5 _ rfl).1; have q6 : wq.cell? ⟨nl, 6, none⟩ = some (.int .i64 omore) := (hc9.get 6 _ rfl).1; go_simp; try rfl
            simp only [Act.put, List.setIfInBounds_toArray, List.set_cons_zero, List.set_cons_succ]
            refine take_at 3 (some 95) (v := ?_) rfl rfl (by kernel_rfl) (by kernel_rfl) (by kernel_rfl) (fun _ _ _ h => h) ⟨by rfl, ?_⟩ hS ?_
            rotate_left
            · intro wq hSw; go_simp; try rfl
            simp only [Act.put, List.setIfInBounds_toArray, List.set_cons_zero, List.set_cons_succ]
            refine take_at 4 (some 96) (v := ?_) rfl rfl (by kernel_rfl) (by kernel_rfl) (by kernel_rfl) (fun _ _ _ h => h) ⟨by rfl, ?_⟩ hS ?_
            rotate_left
            · intro wq hSw; have hc9 := HT2.out.last.keep hSw HT2.out.out; have q0 : wq.cell? ⟨nl, 0, none⟩ = some (.int .i64 okind) := (hc9.get 0 _ rfl).1; have q1 : wq.cell? ⟨nl, 1, none⟩ = some (.bool otwo) := (hc9.get 1 _ rfl).1; have q2 : wq.cell? ⟨nl, 2, none⟩ = some (.int .i64 otx) := (hc9.get 2 _ rfl).1; have q3 : wq.cell? ⟨nl, 3, none⟩ = some (.int .i64 octr) := (hc9.get 3 _ rfl).1; have q4 : wq.cell? ⟨nl, 4, none⟩ = some (.int .i64 owhat) := (hc9.get 4 _ rfl).1; have q5 : wq.cell? ⟨nl, 5, none⟩ = some (.int .i64 ofree) := (hc9.get 5 _ rfl).1; have q6 : wq.cell? ⟨nl, 6, none⟩ = some (.int .i64 omore) := (hc9.get 6 _ rfl).1; go_simp; try rfl
            simp only [Act.put, List.setIfInBounds_toArray, List.set_cons_zero, List.set_cons_succ]
            have D2 := hide (HT2.out.trio.below (Below.refl _ _).drew)
            have K2 := hide hS
            have BB := hide (HT2.out.bel.trans ((Below.refl wt.heap.size wt).drew.mono HT2.out.bel.size))
            have UU := hide HT2.out.up
            clear hS HT2
            have SZ := hide (show wt.heap.size ≤ wt.drew.heap.size from Nat.le_refl _)
            have S0 := hide (Step.refl U wt.drew)
            generalize wt.drew = x2 at *
            obtain ⟨S1, R1, st1⟩ := D2.out.r
            have KP := HE.out S1 p x2 R1
            refine wpAnyH_ready (rs := [2]) (by kernel_rfl) (by simp) ?_
            refine AllReadyH.cons rfl (fun K hK => ?_) AllReadyH.nil
            go_simp
            go_wp2_with fail
            refine KP.mono ?_
            rintro e x3 ⟨rfl, oo⟩
            obtain ⟨U3, D3, s3⟩ := st1 _ _ oo
            have HD3 := hide D3
            have HS3 := hide (S0.out.trans s3)
            have K3 := hide (K2.out.trans s3.keep (fun _ _ y => y))
            clear oo D3 s3 st1 R1 KP D2
            go_wp2_with fail
            refine hK.out _ _ K3.out (fun hS => ?_)
            clear hK K hS
            (try simp only [Act.put, List.setIfInBounds_toArray, List.set_cons_zero, List.set_cons_succ])
            obtain ⟨S1, R1, st1⟩ := HD3.out.s
            have KP := HE.out S1 q x3 R1
            refine wpAnyH_ready (rs := [5]) (by kernel_rfl) (by simp) ?_
            refine AllReadyH.cons rfl (fun K hK => ?_) AllReadyH.nil
            go_simp
            go_wp2_with fail
            refine KP.mono ?_
            rintro e x4 ⟨rfl, oo⟩
            obtain ⟨U4, D4, s4⟩ := st1 _ _ oo
            have HD4 := hide D4
            have HS4 := hide (HS3.out.trans s4)
            have K4 := hide (K2.out.trans HS4.out.keep (fun _ _ y => y))
            clear oo D4 s4 st1 R1 KP HD3 K3 HS3
            go_wp2_with fail
            refine hK.out _ _ K4.out (fun hS => ?_)
            clear hK K
            (try simp only [Act.put, List.setIfInBounds_toArray, List.set_cons_zero, List.set_cons_succ])
            refine take_at 6 (some 98) (v := ?_) rfl rfl (by kernel_rfl) (by kernel_rfl) (by kernel_rfl) (fun _ _ _ h => h) ⟨by rfl, ?_⟩ hS ?_
            rotate_left
            · intro wq hSw; go_simp; try rfl
            simp only [Act.put, List.setIfInBounds_toArray, List.set_cons_zero, List.set_cons_succ]
            refine take_at 7 (some 99) (v := ?_) rfl rfl (by kernel_rfl) (by kernel_rfl) (by kernel_rfl) (fun _ _ _ h => h) ⟨by rfl, ?_⟩ hS ?_
            rotate_left
            · intro wq hSw; go_simp; try rfl
            simp only [Act.put, List.setIfInBounds_toArray, List.set_cons_zero, List.set_cons_succ]
            refine take_at 8 (some 100) (v := ?_) rfl rfl (by kernel_rfl) (by kernel_rfl) (by kernel_rfl) (fun _ _ _ h => h) ⟨by rfl, ?_⟩ hS ?_
            rotate_left
            · intro wq hSw; go_simp; try rfl
            simp only [Act.put, List.setIfInBounds_toArray, List.set_cons_zero, List.set_cons_succ]
            refine take_at 10 (some 102) (v := ?_) rfl rfl (by kernel_rfl) (by kernel_rfl) (by kernel_rfl) (fun _ _ _ h => h) ⟨by rfl, ?_⟩ hS ?_
            rotate_left
            · intro wq hSw; go_simp; try rfl
            simp only [Act.put, List.setIfInBounds_toArray, List.set_cons_zero, List.set_cons_succ]
            clear hS
            obtain ⟨S1, R1, -⟩ := HD4.out.r
            have KP := Promised_any S1 p LL x4 R1
            refine wpAnyH_ready (rs := [9]) (by kernel_rfl) (by simp) ?_
            refine AllReadyH.cons rfl (fun K hK => ?_) AllReadyH.nil
            go_simp
            go_wp2_with fail
            refine KP.mono ?_
            rintro e x5 ⟨rfl, oo⟩
            have HD5 := hide (HD4.out.below oo)
            have HS5 := hide (HS4.out.trans (Step.below oo))
            have K5 := hide (K4.out.then_below oo)
            clear oo R1 KP HD4 K4 HS4
            go_wp2_with fail
            refine hK.out _ _ K5.out (fun hS => ?_)
            clear hK K hS
            (try simp only [Act.put, List.setIfInBounds_toArray, List.set_cons_zero, List.set_cons_succ])
            obtain ⟨S1, R1, -⟩ := HD5.out.s
            have KP := Promised_any S1 q LL x5 R1
            refine wpAnyH_ready (rs := [11]) (by kernel_rfl) (by simp) ?_
            refine AllReadyH.cons rfl (fun K hK => ?_) AllReadyH.nil
            go_simp
            go_wp2_with fail
            refine KP.mono ?_
            rintro e x6 ⟨rfl, oo⟩
            have HS6 := hide (HS5.out.trans (Step.below oo))
            have K6 := hide (K5.out.then_below oo)
            clear oo R1 KP HD5 K5 HS5
            go_wp2_with fail
            refine hK.out _ _ K6.out (fun hS => ?_)
            clear hK K
            (try simp only [Act.put, List.setIfInBounds_toArray, List.set_cons_zero, List.set_cons_succ])
            refine take_at 12 (some 104) (v := ?_) rfl rfl (by kernel_rfl) (by kernel_rfl) (by kernel_rfl) (fun _ _ _ h => h) ⟨by rfl, ?_⟩ hS ?_
            rotate_left
            · intro wq hSw; go_simp; try rfl
            simp only [Act.put, List.setIfInBounds_toArray, List.set_cons_zero, List.set_cons_succ]
            refine take_at 13 (some 105) (v := ?_) rfl rfl (by kernel_rfl) (by kernel_rfl) (by kernel_rfl) (fun _ _ _ h => h) ⟨by rfl, ?_⟩ hS ?_
            rotate_left
            · intro wq hSw; go_simp; try rfl
            simp only [Act.put, List.setIfInBounds_toArray, List.set_cons_zero, List.set_cons_succ]
            refine take_at 14 (some 4) (v := ?_) rfl rfl (by kernel_rfl) (by kernel_rfl) (by kernel_rfl) (fun _ _ _ h => h) ⟨by rfl, ?_⟩ hS ?_
            rotate_left
            · intro wq hSw; go_simp; try rfl
            simp only [Act.put, List.setIfInBounds_toArray, List.set_cons_zero, List.set_cons_succ]
            refine wpAnyH_done (by kernel_rfl) ?_ _
            have FIN := hide (BB.out.trans (HS6.out.keep.below BB.out.size (fun k hk y => by have := UU.out k y; omega)))
            clear hS K6 HS6
            go_wp2_with fail
            go_ret
            exact ⟨rfl, FIN.out⟩
end Go.Proofs.Ytadppakflbilcaa
