import Derived.Test.YtakjpljpdlhicaaDoorPg15
import Derived.Test.YtakjpljpdlhicaaDoorPg11
import Derived.Test.YtakjpljpdlhicaaDoorPg6
namespace Go.Proofs.YtakjpljpdlhicaaDoor
open Go.RowKit Go.QK Go.Pg
set_option maxRecDepth 100000
theorem headE_all {n0 n1 n2 n3 n4 n5 n6 s : Nat} {number : Int} (h : headE [n0, n1, n2, n3, n4, n5, n6] number s = 0) : n0 = 113 ∧ (n1 = 1 ∨ n1 = 2) ∧ n6 = s ∧ (n2 : Int) = number ∧ 1 ≤ n3 ∧ n3 ≤ (if n1 = 1 then 31 else 84) ∧ 1 ≤ n5 ∧ n5 ≤ 2147483647 := by
  unfold headE at h
  simp only [List.getD_cons_zero, List.getD_cons_succ] at h
  by_cases r0 : n0 ≠ 113
  · rw [if_pos r0] at h; simp at h
  rw [if_neg r0] at h
  by_cases r1 : n1 ≠ 1 ∧ n1 ≠ 2
  · rw [if_pos r1] at h; simp at h
  rw [if_neg r1] at h
  by_cases r2 : n6 ≠ s
  · rw [if_pos r2] at h; simp at h
  rw [if_neg r2] at h
  by_cases r3 : (n2 : Int) ≠ number
  · rw [if_pos r3] at h; simp at h
  rw [if_neg r3] at h
  by_cases r4 : n3 < 1 ∨ (if n1 = 1 then 31 else 84) < n3 ∨ n5 < 1 ∨ 2147483647 < n5
  · rw [if_pos r4] at h; simp at h
  simp only [ne_eq, Decidable.not_not] at r0 r2 r3
  refine ⟨r0, by omega, r2, r3, ?_⟩
  generalize (if n1 = 1 then 31 else 84) = q at *
  omega
theorem readC_fit : (k : Nat) → (b : List Nat) → AllB b → 32 * k ≤ b.length → ∀ c ∈ readC k b, c.Fit
  | 0, b, _, _, c, hc => by simp [readC] at hc
  | k + 1, b, hb, hl, c, hc => by
    rw [readC] at hc
    rcases List.mem_cons.1 hc with rfl | hc
    · have hf := takeN_fit ctrS b hb (by simp [ctrS, total]; omega)
      obtain ⟨n0, n1, n2, n3, n4, hn⟩ := five (takeN_length ctrS b)
      rw [hn] at hf ⊢
      obtain ⟨f0, f1, f2, f3, f4, _⟩ := hf
      have g0 := lt4 f0
      have g1 := lt4 f1
      exact ⟨sg_fit (by simp; omega), sg_fit (by simp; omega), sg_fit (lt8 f2), sg_fit (lt8 f3), sg_fit (lt8 f4)⟩
    · exact readC_fit k _ (hb.drop 32) (by simp; omega) c hc
theorem readG_fit : (k : Nat) → (b : List Nat) → AllB b → 12 * k ≤ b.length → ∀ c ∈ readG k b, c.Fit
  | 0, b, _, _, c, hc => by simp [readG] at hc
  | k + 1, b, hb, hl, c, hc => by
    rw [readG] at hc
    rcases List.mem_cons.1 hc with rfl | hc
    · have hf := takeN_fit grpS b hb (by simp [grpS, total]; omega)
      obtain ⟨n0, n1, hn⟩ := two (takeN_length grpS b)
      rw [hn] at hf ⊢
      obtain ⟨f0, f1, _⟩ := hf
      have g0 := lt4 f0
      exact ⟨sg_fit (by simp; omega), sg_fit (lt8 f1)⟩
    · exact readG_fit k _ (hb.drop 12) (by simp; omega) c hc
theorem seven {l : List Nat} (h : l.length = 7) : ∃ a b c d e f g, l = [a, b, c, d, e, f, g] := by
  match l, h with
  | [a, b, c, d, e, f, g], _ => exact ⟨a, b, c, d, e, f, g, rfl⟩
/-- A page that was handed out. -/
def PageOut (w : World) (B : Nat) (v : Value) (p : PageM) : Prop :=
  ∃ v1 v2, v = .agg #[.int .i64 p.num, .int .i64 p.lsn, v1, v2] ∧ GRow w B 57 5 v1 p.cs.length (ctrsC p.cs) ∧ GRow w B 59 2 v2 p.gs.length (grpsC p.gs)
theorem PageOut.nil (w : World) (B : Nat) (n : Int) : PageOut w B (.agg #[.int .i64 n, .int .i64 0, .slice none 0 0, .slice none 0 0]) ⟨n, 0, [], []⟩ := ⟨_, _, rfl, World.ownsRow_nil _ _ _ _, World.ownsRow_nil _ _ _ _⟩
theorem PageOut.below {w w' : World} {B : Nat} {v : Value} {p : PageM} (h : PageOut w B v p) (b : Below w.heap.size w w') : PageOut w' B v p := by
  obtain ⟨v1, v2, h1, h2, h3⟩ := h
  exact ⟨v1, v2, h1, h2.below b, h3.below b⟩
theorem PageOut.in_ {w : World} {B : Nat} {v : Value} {p : PageM} (h : PageOut w B v p) (hf : p.Fit) : ∃ t, v = pageV p t ∧ PageIn w p t := by
  obtain ⟨v1, v2, rfl, h2, h3⟩ := h
  obtain ⟨a, c, rfl, l1, -⟩ := GRow.lies h2
  obtain ⟨b, d, rfl, l2, -⟩ := GRow.lies h3
  exact ⟨⟨a, c, b, d⟩, rfl, l1, l2, hf⟩

set_option maxHeartbeats 4000000 in
theorem decode_place (a : Option Addr) (c : Nat) (l : List Nat) (number : Int) (w : World) (hn : number < 0 ∨ 63 < number) :
    Calls Tryd.prog 10 #[.slice a l.length c, .int .i64 number] w fun e w' => ∃ v, e = .returned (.tuple #[v, .int .i64 (decE l number)]) ∧ PageOut w' w.heap.size v (decP l number) ∧ Below w.heap.size w w' := by
  have hE : decE l number = 4 := by unfold decE; rw [if_pos hn]
  have hP : decP l number = zeroP := by unfold decP; rw [hE]; simp
  rw [hE, hP]
  have F0 : ∀ w, Calls Tryd.prog 24 #[.int .i64 0, .int .i64 number, .int .i64 63] w fun e w' => e = .returned (.bool false) ∧ w' = w := by
    have q : (decide ((0 : Int) ≤ number) && decide (number ≤ 63)) = false := by simp; omega
    rw [← q]
    exact fun w => from_any 0 number 63 w
  clear hE hP hn
  generalize l.length = n
  go_enter Tryd.func10, Tryd.ntmps10
  go_wp2_with fail
  refine (F0 _).mono ?_
  rintro e w1 ⟨rfl, rfl⟩
  go_wp2_with fail
  exact bodyPost_ret (v := .tuple #[.agg #[.int .i64 0, .int .i64 0, .slice none 0 0, .slice none 0 0], .int .i64 4]) (by simp [results, Tryd.results10, go_sem]) rfl ⟨_, rfl, PageOut.nil _ _ _, alloc_below _ _⟩
theorem inRange {number : Int} (hn : ¬ (number < 0 ∨ 63 < number)) : ∀ w, Calls Tryd.prog 24 #[.int .i64 0, .int .i64 number, .int .i64 63] w fun e w' => e = .returned (.bool true) ∧ w' = w := by
  have q : (decide ((0 : Int) ≤ number) && decide (number ≤ 63)) = true := by simp; omega
  rw [← q]
  exact fun w => from_any 0 number 63 w
set_option maxHeartbeats 4000000 in
theorem decode_data (a : Option Addr) (c : Nat) (l : List Nat) (number : Int) (w : World) (hn : ¬ (number < 0 ∨ 63 < number)) (hl : l.length ≠ 1024) :
    Calls Tryd.prog 10 #[.slice a l.length c, .int .i64 number] w fun e w' => ∃ v, e = .returned (.tuple #[v, .int .i64 (decE l number)]) ∧ PageOut w' w.heap.size v (decP l number) ∧ Below w.heap.size w w' := by
  have hE : decE l number = 42 := by unfold decE; rw [if_neg hn, if_pos hl]
  have hP : decP l number = zeroP := by unfold decP; rw [hE]; simp
  rw [hE, hP]
  have F0 := inRange hn
  clear hE hP hn
  generalize l.length = n at *
  have hd : ((n : Int) != 1024) = true := by simp; omega
  go_enter Tryd.func10, Tryd.ntmps10
  go_wp2_with fail
  refine (F0 _).mono ?_
  rintro e w1 ⟨rfl, rfl⟩
  go_wp2_with fail
  exact bodyPost_ret (v := .tuple #[.agg #[.int .i64 0, .int .i64 0, .slice none 0 0, .slice none 0 0], .int .i64 42]) (by simp [results, Tryd.results10, go_sem]) rfl ⟨_, rfl, PageOut.nil _ _ _, alloc_below _ _⟩
set_option maxHeartbeats 4000000 in
theorem decode_zero (a : Option Addr) (c : Nat) (l : List Nat) (number : Int) (w : World) (hs : Bytes w a l) (hb : AllB l) (hn : ¬ (number < 0 ∨ 63 < number)) (hl : l.length = 1024) (hz : allZ l = true) :
    Calls Tryd.prog 10 #[.slice a l.length c, .int .i64 number] w fun e w' => ∃ v, e = .returned (.tuple #[v, .int .i64 (decE l number)]) ∧ PageOut w' w.heap.size v (decP l number) ∧ Below w.heap.size w w' := by
  have hE : decE l number = 0 := by unfold decE; rw [if_neg hn, if_neg (by omega), if_pos hz]
  have hP : decP l number = ⟨number, 0, [], []⟩ := by unfold decP; rw [hE, if_neg (by simp), if_pos hz]
  rw [hE, hP]
  have F0 := inRange hn
  have AZ := fun w' (b : Below w.heap.size w w') => allZeros_any a c l w' (hs.below b) hb (by omega)
  rw [hz, hl] at AZ
  rw [hl]
  clear hE hP hn hs hb hl hz
  go_enter Tryd.func10, Tryd.ntmps10
  go_wp2_with fail
  refine (F0 _).mono ?_
  rintro e w1 ⟨rfl, rfl⟩
  go_wp2_with fail
  refine (AZ _ (alloc_below _ _)).mono ?_
  rintro e w1 ⟨rfl, rfl⟩
  go_wp2_with fail
  exact bodyPost_ret (v := .tuple #[.agg #[.int .i64 number, .int .i64 0, .slice none 0 0, .slice none 0 0], .int .i64 0]) (by simp [results, Tryd.results10, go_sem]) rfl ⟨_, rfl, PageOut.nil _ _ _, alloc_below _ _⟩
theorem decE_head {l : List Nat} {number : Int} {n0 n1 n2 n3 n4 n5 n6 : Nat} (hn : ¬ (number < 0 ∨ 63 < number)) (hl : l.length = 1024) (hz : allZ l = false) (hh : takeN headS l = [n0, n1, n2, n3, n4, n5, n6]) :
    decE l number = if headE [n0, n1, n2, n3, n4, n5, n6] number (psum l) ≠ 0 then headE [n0, n1, n2, n3, n4, n5, n6] number (psum l) else if slotsE (pageOf [n0, n1, n2, n3, n4, n5, n6] (l.drop 16)).cs (pageOf [n0, n1, n2, n3, n4, n5, n6] (l.drop 16)).gs ≠ 0 then slotsE (pageOf [n0, n1, n2, n3, n4, n5, n6] (l.drop 16)).cs (pageOf [n0, n1, n2, n3, n4, n5, n6] (l.drop 16)).gs else if n4 ≠ 0 ∨ allZ ((l.drop 16).drop (endOf [n0, n1, n2, n3, n4, n5, n6])) = false then 23 else 0 := by
  unfold decE
  rw [if_neg hn, if_neg (by omega), hz, if_neg (by simp), hh]
  rfl
set_option maxHeartbeats 8000000 in
theorem decode_head (a : Option Addr) (c n0 n1 n2 n3 n4 n5 n6 : Nat) (l : List Nat) (number : Int) (w : World) (hs : Bytes w a l) (hb : AllB l) (ht : Tab w) (hn : ¬ (number < 0 ∨ 63 < number)) (hl : l.length = 1024) (hc : 1024 ≤ c) (hz : allZ l = false) (hh : takeN headS l = [n0, n1, n2, n3, n4, n5, n6]) (he : headE [n0, n1, n2, n3, n4, n5, n6] number (psum l) ≠ 0) :
    Calls Tryd.prog 10 #[.slice a 1024 c, .int .i64 number] w fun e w' => ∃ v, e = .returned (.tuple #[v, .int .i64 (decE l number)]) ∧ PageOut w' w.heap.size v (decP l number) ∧ Below w.heap.size w w' := by
  have hE : decE l number = headE [n0, n1, n2, n3, n4, n5, n6] number (psum l) := by rw [decE_head hn hl hz hh, if_pos he]
  have hP : decP l number = zeroP := by unfold decP; rw [hE, if_pos he]
  rw [hE, hP]
  have F0 := inRange hn
  have AZ := fun w' (b : Below w.heap.size w w') => allZeros_any a c l w' (hs.below b) hb (by omega)
  have RH := fun w' (b : Below w.heap.size w w') => readHead_any a c n0 n1 n2 n3 n4 n5 n6 l w' (hs.below b) hb hl hc hh
  have SM := fun w' (b : Below w.heap.size w w') => sumOf_any a c l w' (hs.below b) hb hl hc (ht.below b)
  have hps := psum_lt hb
  obtain ⟨nn, rfl⟩ : ∃ nn : Nat, number = (nn : Int) := ⟨number.toNat, by omega⟩
  have CH := fun w => checkHead_any n0 n1 n2 n3 n4 n5 n6 nn (psum l) w (by omega) hps
  rw [hz] at AZ
  rw [hl] at AZ RH
  obtain ⟨HE, hHE⟩ : ∃ e, e = headE [n0, n1, n2, n3, n4, n5, n6] (nn : Int) (psum l) := ⟨_, rfl⟩
  rw [← hHE] at CH
  rw [← hHE] at he ⊢
  have hd : (HE != 0) = true := by simp; exact he
  clear hE hP hHE he hps hn hh hs hb ht hl hz
  go_enter Tryd.func10, Tryd.ntmps10
  go_wp2_with fail
  refine (F0 _).mono ?_
  rintro e w1 ⟨rfl, rfl⟩
  go_wp2_with fail
  refine (AZ _ (alloc_below _ _)).mono ?_
  rintro e w1 ⟨rfl, rfl⟩
  go_wp2_with fail
  refine (RH _ (alloc_below _ _)).mono ?_
  rintro e w3 ⟨a3, rfl, hb3, b3⟩
  have c3 : Cells w3 w.heap.size [.int .i64 0, .int .i64 0, .slice none 0 0, .slice none 0 0] := (Cells.new w #[.int .i64 0, .int .i64 0, .slice none 0 0, .slice none 0 0] 27).below b3
  have z3 := b3.size
  have bw3 := bnext (alloc_below _ _) b3 (Nat.le_refl _)
  obtain ⟨w4, hw4⟩ : ∃ w4, w4 = w3.alloc (.cells #[.int .u64 (n0 : Int), .int .u64 (n1 : Int), .int .u64 (n2 : Int), .int .u64 (n3 : Int), .int .u64 (n4 : Int), .int .u64 (n5 : Int), .int .u64 (n6 : Int)] 65) := ⟨_, rfl⟩
  have b4 : Below w3.heap.size w3 w4 := by rw [hw4]; exact alloc_below _ _
  have h4 : Cells w4 w3.heap.size [.int .u64 (n0 : Int), .int .u64 (n1 : Int), .int .u64 (n2 : Int), .int .u64 (n3 : Int), .int .u64 (n4 : Int), .int .u64 (n5 : Int), .int .u64 (n6 : Int)] := by rw [hw4]; exact Cells.new w3 _ _
  have HW4 := hide hw4
  have C4 := hide ((c3.below b4).drew)
  have H4 := hide h4.drew
  have BW4 := hide ((bnext bw3 b4 (Nat.le_refl _)).drew)
  have HB3 := hide hb3
  obtain ⟨G, hG⟩ : ∃ G, G = w3.heap.size := ⟨_, rfl⟩
  rw [← hG] at H4 h4
  have HG := hide hG
  have ZG := hide (show w.heap.size < G by rw [hG]; simp at z3; omega)
  have FX := hide (show w4.cell? ⟨G, 0, none⟩ = some (.int .u64 (n0 : Int)) ∧ w4.cell? ⟨G, 1, none⟩ = some (.int .u64 (n1 : Int)) ∧ w4.cell? ⟨G, 2, none⟩ = some (.int .u64 (n2 : Int)) ∧ w4.cell? ⟨G, 3, none⟩ = some (.int .u64 (n3 : Int)) ∧ w4.cell? ⟨G, 4, none⟩ = some (.int .u64 (n4 : Int)) ∧ w4.cell? ⟨G, 5, none⟩ = some (.int .u64 (n5 : Int)) ∧ w4.cell? ⟨G, 6, none⟩ = some (.int .u64 (n6 : Int)) from ⟨(h4.get 0 _ rfl).1, (h4.get 1 _ rfl).1, (h4.get 2 _ rfl).1, (h4.get 3 _ rfl).1, (h4.get 4 _ rfl).1, (h4.get 5 _ rfl).1, (h4.get 6 _ rfl).1⟩)
  clear hw4 h4 b4 bw3 z3 c3 b3 hb3 hG
  go_upto_region 8 with fail
  rw [← HW4.out, ← HG.out]
  refine wp_region_held_drew (S := fun wq => wq.cell? ⟨G, 0, none⟩ = some (.int .u64 (n0 : Int)) ∧ wq.cell? ⟨G, 1, none⟩ = some (.int .u64 (n1 : Int)) ∧ wq.cell? ⟨G, 2, none⟩ = some (.int .u64 (n2 : Int)) ∧ wq.cell? ⟨G, 3, none⟩ = some (.int .u64 (n3 : Int)) ∧ wq.cell? ⟨G, 4, none⟩ = some (.int .u64 (n4 : Int)) ∧ wq.cell? ⟨G, 5, none⟩ = some (.int .u64 (n5 : Int)) ∧ wq.cell? ⟨G, 6, none⟩ = some (.int .u64 (n6 : Int))) (by kernel_rfl) FX.out (fun hS => ?_)
  generalize w4.drew = w5 at *
  clear FX HW4 HG
  refine take_at 1 (some 32) (v := ?_) rfl rfl (by kernel_rfl) (by kernel_rfl) (by kernel_rfl) (fun _ _ _ h => h) ⟨by rfl, ?_⟩ hS ?_
  rotate_left
  · intro wq hSw; go_simp; try rfl
  simp only [Act.put, List.setIfInBounds_toArray, List.set_cons_zero, List.set_cons_succ]
  refine take_at 2 (some 33) (v := ?_) rfl rfl (by kernel_rfl) (by kernel_rfl) (by kernel_rfl) (fun _ _ _ h => h) ⟨by rfl, ?_⟩ hS ?_
  rotate_left
  · intro wq hSw; go_simp; try rfl
  simp only [Act.put, List.setIfInBounds_toArray, List.set_cons_zero, List.set_cons_succ]
  refine take_at 0 (some 31) (v := ?_) rfl rfl (by kernel_rfl) (by kernel_rfl) (by kernel_rfl) (fun _ _ _ h => h) ⟨by rfl, ?_⟩ hS ?_
  rotate_left
  · intro wq hSw; obtain ⟨y0, y1, y2, y3, y4, y5, y6⟩ := hSw; go_simp; try rfl
  simp only [Act.put, List.setIfInBounds_toArray, List.set_cons_zero, List.set_cons_succ]
  refine wpAnyH_ready (rs := [3]) (by kernel_rfl) (by simp) ?_
  refine AllReadyH.cons rfl (fun K hK => ?_) AllReadyH.nil
  go_simp
  go_wp2_with fail
  refine (SM w5 BW4.out).mono ?_
  rintro e w6 ⟨rfl, b6⟩
  have H6 := hide (H4.out.below b6)
  have C6 := hide (C4.out.below b6)
  have BW6 := hide (bnext BW4.out b6 (Nat.le_refl _))
  clear b6
  go_wp2_with fail
  refine hK.out _ _ (⟨(H6.out.get 0 _ rfl).1, (H6.out.get 1 _ rfl).1, (H6.out.get 2 _ rfl).1, (H6.out.get 3 _ rfl).1, (H6.out.get 4 _ rfl).1, (H6.out.get 5 _ rfl).1, (H6.out.get 6 _ rfl).1⟩) (fun hS => ?_)
  clear hK K
  (try simp only [Act.put, List.setIfInBounds_toArray, List.set_cons_zero, List.set_cons_succ])
  refine wpAnyH_ready (rs := [4]) (by kernel_rfl) (by simp) ?_
  refine AllReadyH.cons rfl (fun K hK => ?_) AllReadyH.nil
  go_simp
  go_wp2_with fail
  refine (CH w6).mono ?_
  rintro e w7 ⟨rfl, b7⟩
  have H7 := hide (H6.out.below b7)
  have C7 := hide (C6.out.below b7)
  have BW7 := hide (bnext BW6.out b7 (Nat.le_refl _))
  clear b7
  go_wp2_with fail
  refine hK.out _ _ (⟨(H7.out.get 0 _ rfl).1, (H7.out.get 1 _ rfl).1, (H7.out.get 2 _ rfl).1, (H7.out.get 3 _ rfl).1, (H7.out.get 4 _ rfl).1, (H7.out.get 5 _ rfl).1, (H7.out.get 6 _ rfl).1⟩) (fun hS => ?_)
  clear hK K
  (try simp only [Act.put, List.setIfInBounds_toArray, List.set_cons_zero, List.set_cons_succ])
  refine take_at 5 (some 8) (v := ?_) rfl rfl (by kernel_rfl) (by kernel_rfl) (by kernel_rfl) (fun _ _ _ h => h) ⟨by rfl, ?_⟩ hS ?_
  rotate_left
  · intro wq hSw; go_simp; try rfl
  simp only [Act.put, List.setIfInBounds_toArray, List.set_cons_zero, List.set_cons_succ]
  refine wpAnyH_done (by kernel_rfl) ?_ _
  obtain ⟨g0, xg0⟩ := C7.out.get 0 _ rfl
  obtain ⟨g1, xg1⟩ := C7.out.get 1 _ rfl
  obtain ⟨g2, xg2⟩ := C7.out.get 2 _ rfl
  obtain ⟨g3, xg3⟩ := C7.out.get 3 _ rfl
  have K8 := ((((Keep.refl (fun i => i = w.heap.size) w7).setCell (g := w.heap.size) (j := 0) (fun _ => rfl) (.int .i64 0)).setCell (g := w.heap.size) (j := 1) (fun _ => rfl) (.int .i64 0)).setCell (g := w.heap.size) (j := 2) (fun _ => rfl) (.slice none 0 0)).setCell (g := w.heap.size) (j := 3) (fun _ => rfl) (.slice none 0 0)
  have C8 := (((C7.out.stored (j := 0) (by simp) (.int .i64 0)).stored (j := 1) (by simp) (.int .i64 0)).stored (j := 2) (by simp) (.slice none 0 0)).stored (j := 3) (by simp) (.slice none 0 0)
  obtain ⟨k0, _⟩ := C8.get 0 _ rfl
  obtain ⟨k1, _⟩ := C8.get 1 _ rfl
  obtain ⟨k2, _⟩ := C8.get 2 _ rfl
  obtain ⟨k3, _⟩ := C8.get 3 _ rfl
  have BF := hide (BW7.out.trans (K8.below BW7.out.size (fun i hi q => by omega)))
  clear K8 C8
  go_wp2_with fail
  refine bodyPost_ret (v := .tuple #[.agg #[.int .i64 0, .int .i64 0, .slice none 0 0, .slice none 0 0], .int .i64 HE]) (by simp only [results, Tryd.results10]; simp [go_sem, k0, k1, k2, k3]) rfl ?_
  exact ⟨_, rfl, PageOut.nil _ _ _, BF.out⟩
end Go.Proofs.YtakjpljpdlhicaaDoor
