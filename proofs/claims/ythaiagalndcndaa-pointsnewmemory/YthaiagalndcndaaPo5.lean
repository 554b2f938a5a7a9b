import Derived.Test.YthaiagalndcndaaPo4
namespace Go.Proofs.Ythaiagalndcndaa
open Go.RowKit Go.QK Go.Maps Go.QM Go.QP
set_option maxRecDepth 100000
theorem lies_two (w : World) (u v : Value) (t : TypeId) : Lies (w.alloc (.cells #[u, v] t)) (some ⟨w.heap.size, 0, none⟩) [u, v] := by
  have h := Cells.new w #[u, v] t
  refine .inr ⟨w.heap.size, 0, rfl, h.1, fun i hi => ?_⟩
  have q := (h.2 i (by simpa using hi)).1
  rw [Nat.zero_add]
  exact q
theorem two_ok {w : World} {x y : Ent} (hx : EntOk w x) (hy : EntOk w y) : ∀ z ∈ [x, y], EntOk w z := by
  intro z hz
  simp at hz
  rcases hz with rfl | rfl
  · exact hx
  · exact hy
theorem flat_two (x y : Ent) : flat [x, y] = x.l ++ y.l := by simp [flat]
theorem fault_two (a b : Option Addr) (ca cb : Nat) (la lb : List Dr) (w : World) (ha : EntOk w ⟨a, ca, la⟩) (hb : EntOk w ⟨b, cb, lb⟩) :
    Calls Try.prog 25 #[.slice (some ⟨w.heap.size, 0, none⟩) 2 2] (w.alloc (.cells #[.slice a la.length ca, .slice b lb.length cb] 23)) fun e w' => e = .returned (.int .i64 (faultE (la ++ lb))) ∧ Below (w.heap.size + 1) (w.alloc (.cells #[.slice a la.length ca, .slice b lb.length cb] 23)) w' := by
  have h := faultOf_any [⟨a, ca, la⟩, ⟨b, cb, lb⟩] (some ⟨w.heap.size, 0, none⟩) 2 (w.alloc (.cells #[.slice a la.length ca, .slice b lb.length cb] 23)) (lies_two w _ _ _) (two_ok (ha.below (alloc_below _ _)) (hb.below (alloc_below _ _))) (by simp)
  rw [flat_two] at h
  simpa using h
set_option maxHeartbeats 1000000 in
theorem merge_no (a b : Option Addr) (ca cb : Nat) (la lb : List Dr) (w : World) (ha : EntOk w ⟨a, ca, la⟩) (hb : EntOk w ⟨b, cb, lb⟩) (he : faultE (la ++ lb) ≠ 0) :
    Calls Try.prog 19 #[.slice a la.length ca, .slice b lb.length cb] w fun e w' => e = .returned (.tuple #[.slice none 0 0, .int .i64 (faultE (la ++ lb))]) ∧ Below w.heap.size w w' := by
  have KF := fault_two a b ca cb la lb w ha hb
  generalize faultE (la ++ lb) = q at *
  have e1 : (q != 0) = true := by simpa using he
  obtain ⟨na, hna⟩ : ∃ n, n = la.length := ⟨_, rfl⟩
  obtain ⟨nb, hnb⟩ : ∃ n, n = lb.length := ⟨_, rfl⟩
  rw [← hna, ← hnb] at KF ⊢
  clear ha hb hna hnb
  go_enter Try.func19, Try.ntmps19
  go_wp2_with fail
  refine KF.mono ?_
  rintro e w1 ⟨rfl, b1⟩
  have B1 := hide ((alloc_below w (.cells #[.slice a na ca, .slice b nb cb] 23)).trans (b1.mono (by omega)))
  clear b1 KF
  go_wp2_with fail
  go_ret2
  exact ⟨rfl, B1.out⟩
theorem EntOk.keepM {w w' : World} {x : Ent} {m : Nat} {f : Int → Option Value} {ks : List Int} (h : EntOk w x) (hc : CM w m f ks) (hk : Keep (fun k => k = m) w w') : EntOk w' x := ⟨h.1.keepM hc hk, h.2⟩
theorem DRow.ent {w : World} {B : Nat} {v : Value} {l : List Dr} (h : DRow w B v l) (hl : l.length ≤ 100000) : ∃ a c, v = .slice a l.length c ∧ EntOk w ⟨a, c, l⟩ := by
  obtain ⟨a, c, e, hli, h1, h2, h3, h4⟩ := GRow.lies h
  exact ⟨a, c, e, hli, hl, fun q => by have := h3 q; exact ⟨this, by show l.length = 0; omega⟩⟩
set_option maxHeartbeats 2000000 in
theorem merge_yes (a b : Option Addr) (ca cb : Nat) (la lb : List Dr) (w : World) (ha : EntOk w ⟨a, ca, la⟩) (hb : EntOk w ⟨b, cb, lb⟩) (he : faultE (la ++ lb) = 0) :
    Calls Try.prog 19 #[.slice a la.length ca, .slice b lb.length cb] w fun e w' => ∃ v, e = .returned (.tuple #[v, .int .i64 0]) ∧ DRow w' w.heap.size v (mergeL la lb) ∧ Below w.heap.size w w' := by
  have KF := fault_two a b ca cb la lb w ha hb
  rw [he] at KF
  have hf := (fault_fine _).1 he
  have hfa : Fine la := fun d hd => hf d (List.mem_append_left _ hd)
  have hfb : Fine lb := fun d hd => hf d (List.mem_append_right _ hd)
  have K1 := fun m f ks w' h1 h2 => tidy_any m f ks a ca la w' h1 h2 hfa (by have := ha.2.1; simp only at this; omega)
  have K2 := fun m f ks w' h1 h2 => tidy_any m f ks b cb lb w' h1 h2 hfb (by have := hb.2.1; simp only at this; omega)
  have HA := hide ha
  have HB := hide hb
  have HF := hide (And.intro hfa hfb)
  obtain ⟨na, hna⟩ : ∃ n, n = la.length := ⟨_, rfl⟩
  obtain ⟨nb, hnb⟩ : ∃ n, n = lb.length := ⟨_, rfl⟩
  rw [← hna] at KF K1 ⊢
  rw [← hnb] at KF K2 ⊢
  clear ha hb hna hnb he hf hfa hfb
  have hmm := @run_makeMap Try.prog
  go_enter Try.func19, Try.ntmps19
  go_wp2_with fail
  refine KF.mono ?_
  rintro e w1 ⟨rfl, b1⟩
  have B1 := hide ((alloc_below w (.cells #[.slice a na ca, .slice b nb cb] 23)).trans (b1.mono (by omega)))
  clear b1 KF
  go_wp2_with fail
  have C2 := CM.made w1
  have A2 := (HA.out.below (B1.out)).below (alloc_below w1 (.map #[] 0))
  have HB2 := hide ((HB.out.below (B1.out)).below (alloc_below w1 (.map #[] 0)))
  have B2 := hide (B1.out.alloc B1.out.size (.map #[] 0))
  have hs2 : (w1.alloc (.map #[] 0)).heap.size = w1.heap.size + 1 := by simp
  have hmB : w.heap.size ≤ w1.heap.size := B1.out.size
  refine (K1 w1.heap.size _ _ _ C2 A2.1).mono ?_
  rintro e w3 ⟨v1, rfl, r1, d1, k1⟩
  have HB3 := hide (HB2.out.keepM C2 k1)
  have B3 := hide (B2.out.trans (k1.below (by rw [hs2]; omega) (fun z hz q => by omega)))
  obtain ⟨ks3, c3, -⟩ := d1
  have r1' := hide (GRow.mono r1 (show w1.heap.size + 1 ≤ (w1.alloc (.map #[] 0)).heap.size by omega))
  have hs3 : w1.heap.size + 1 ≤ w3.heap.size := by have := k1.size; omega
  clear r1 k1 C2 A2 HB2 B2 K1 HA B1 hs2
  go_wp2_with fail
  refine (K2 w1.heap.size _ _ _ c3 HB3.out.1).mono ?_
  rintro e w4 ⟨v2, rfl, r2, d2, k2⟩
  have B4 := hide (B3.out.trans (k2.below B3.out.size (fun z hz q => by omega)))
  have R1 := GRow.keep r1'.out k2 (fun g hg q => by have := (World.ownsRow.lt r1'.out g hg).1; omega)
  have R1' := hide R1
  have hs4 := k2.size
  obtain ⟨a1, c1, e1, x1⟩ := DRow.ent R1 (by have := tidy_len la; omega)
  obtain ⟨a2, c2, e2, x2⟩ := DRow.ent r2 (by have := tidy_len lb; omega)
  obtain ⟨n1, hn1⟩ : ∃ n, n = (tidy la).length := ⟨_, rfl⟩
  obtain ⟨n2, hn2⟩ : ∃ n, n = (tidy lb).length := ⟨_, rfl⟩
  rw [← hn1] at e1
  rw [← hn2] at e2
  subst e1 e2
  have X1 := hide (x1.below (alloc_below w4 (.cells #[.slice a1 n1 c1, .slice a2 n2 c2] 23)))
  have X2 := hide (x2.below (alloc_below w4 (.cells #[.slice a1 n1 c1, .slice a2 n2 c2] 23)))
  have D4 := hide (d2.below (alloc_below w4 (.cells #[.slice a1 n1 c1, .slice a2 n2 c2] 23)))
  have KC := concat_any [⟨a1, c1, tidy la⟩, ⟨a2, c2, tidy lb⟩] (some ⟨w4.heap.size, 0, none⟩) 2 (w4.alloc (.cells #[.slice a1 n1 c1, .slice a2 n2 c2] 23)) (by have := lies_two w4 (.slice a1 n1 c1) (.slice a2 n2 c2) 23; rw [hn1, hn2] at this ⊢; exact this) (two_ok X1.out X2.out) (by simp)
  rw [flat_two] at KC
  have KC' : Calls Try.prog 27 #[.slice (some ⟨w4.heap.size, 0, none⟩) 2 2] (w4.alloc (.cells #[.slice a1 n1 c1, .slice a2 n2 c2] 23)) _ := KC
  have B5 := hide (B4.out.alloc B4.out.size (.cells #[.slice a1 n1 c1, .slice a2 n2 c2] 23))
  have hs5 : (w4.alloc (.cells #[.slice a1 n1 c1, .slice a2 n2 c2] 23)).heap.size = w4.heap.size + 1 := by simp
  have HS5 := hide hs5
  clear r1' r2 d2 k2 c3 x1 x2 R1 R1' KC hn1 hn2 HB3 B3 K2 B4 hs5
  go_wp2_with fail
  refine KC'.mono ?_
  rintro e w6 ⟨v3, rfl, r3, b6⟩
  have B6 := hide (B5.out.trans (b6.mono B5.out.size))
  obtain ⟨ks6, c6, -⟩ := D4.out.below b6
  have hlen : (tidy la ++ tidy lb).length ≤ 128 := by have := tidy_len la; have := tidy_len lb; rw [List.length_append]; omega
  obtain ⟨a3, c3, e3, x3⟩ := DRow.ent r3 (show (tidy la ++ tidy lb).length ≤ 100000 by omega)
  have KT := tidy_any w1.heap.size _ _ a3 c3 (tidy la ++ tidy lb) w6 c6 x3.1 ((tidy_fine HF.out.1).append (tidy_fine HF.out.2)) (by omega)
  obtain ⟨n3, hn3⟩ : ∃ n, n = (tidy la ++ tidy lb).length := ⟨_, rfl⟩
  rw [← hn3] at e3 KT
  subst e3
  have hs6 := b6.size
  have HS6 := hide (show w.heap.size ≤ w6.heap.size by have := HS5.out; omega)
  clear r3 b6 c6 x3 hn3 KC' X1 X2 D4 B5 HS5 hlen hs6
  go_wp2_with fail
  refine KT.mono ?_
  rintro e w7 ⟨v4, rfl, r4, -, k4⟩
  have R4 := hide (GRow.mono r4 HS6.out)
  have B7 := hide (B6.out.trans (k4.below HS6.out (fun z hz q => by omega)))
  clear r4 k4 KT
  go_wp2_with fail
  go_ret2
  exact ⟨v4, rfl, R4.out, B7.out⟩
end Go.Proofs.Ythaiagalndcndaa
