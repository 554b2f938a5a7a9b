import Derived.Test.YtehbpmibllpkhaaGreatDoorUdT2
set_option linter.all false
namespace Go.Proofs.YtehbpmibllpkhaaGreatDoor
open Go.RowKit Go.QK Go.Maps Go.QM Go.QU
set_option maxRecDepth 100000
theorem info133 : (Tryz.prog.info? 133).map (fun i => (i.zero, i.size, i.bytes)) = some (some (.agg #[.int .i64 0, .int .i64 0, .bool false, .slice none 0 0, .slice none 0 0]), 5, 72) := by kernel_rfl
theorem rowsC_len {α : Type} (f : α → List Value) (n : Nat) (hf : ∀ x, (f x).length = n) (ls : List α) : (rowsC f ls).length = ls.length * n := by
  induction ls with
  | nil => simp [rowsC]
  | cons l ls ih =>
    simp only [rowsC, List.flatMap_cons, List.length_append, List.length_cons, hf] at ih ⊢
    rw [ih, Nat.succ_mul]; omega
theorem rowsC_app {α : Type} (f : α → List Value) (a b : List α) : rowsC f (a ++ b) = rowsC f a ++ rowsC f b := by simp [rowsC]
theorem lies_takeG {α : Type} (f : α → List Value) {w : World} {a : Option Addr} {l : List α} (h : Lies w a (rowsC f l)) (k : Nat) : Lies w a (rowsC f (l.take k)) := by
  have e : rowsC f l = rowsC f (l.take k) ++ rowsC f (l.drop k) := by rw [← rowsC_app, List.take_append_drop]
  rcases h with q | ⟨b, off, ea, hb, hc⟩
  · rw [q] at e
    exact .inl (List.append_eq_nil_iff.1 e.symm).1
  · refine .inr ⟨b, off, ea, hb, fun i hi => ?_⟩
    have hi2 : i < (rowsC f l).length := by rw [e, List.length_append]; omega
    rw [hc i hi2]
    congr 1
    have z : (rowsC f l)[i]? = (rowsC f (l.take k))[i]? := by rw [e, List.getElem?_append_left hi]
    rw [List.getElem?_eq_getElem hi2, List.getElem?_eq_getElem hi] at z
    exact Option.some.inj z
theorem lies_tailG {α : Type} (f : α → List Value) (n : Nat) (hf : ∀ x, (f x).length = n) (hn : 0 < n) {w : World} {b off k : Nat} {ad : Addr} {l : List α} (h : Lies w (some ⟨b, off, none⟩) (rowsC f l)) (hk : k ≤ l.length) (e : k < l.length → ad = ⟨b, off + k * n, none⟩) : Lies w (some ad) (rowsC f (l.drop k)) := by
  by_cases hl : k < l.length
  · obtain rfl := e hl
    have es : rowsC f l = rowsC f (l.take k) ++ rowsC f (l.drop k) := by rw [← rowsC_app, List.take_append_drop]
    have ls : (rowsC f (l.take k)).length = k * n := by rw [rowsC_len f n hf, List.length_take, Nat.min_eq_left hk]
    rcases h with q | ⟨b', off', ea, hb, hc⟩
    · have := rowsC_len f n hf l
      rw [q] at this
      have h2 : 0 < l.length * n := Nat.mul_pos (by omega) hn
      simp at this
      omega
    · cases ea
      refine .inr ⟨b, off + k * n, rfl, hb, fun i hi => ?_⟩
      have hi2 : k * n + i < (rowsC f l).length := by rw [es, List.length_append, ls]; omega
      have q := hc (k * n + i) hi2
      rw [Nat.add_assoc]
      rw [q]
      congr 1
      have z : (rowsC f l)[k * n + i]? = (rowsC f (l.drop k))[i]? := by
        rw [es, List.getElem?_append_right (by omega), ls]
        congr 1
        omega
      rw [List.getElem?_eq_getElem hi2, List.getElem?_eq_getElem hi] at z
      exact Option.some.inj z
  · have : l.drop k = [] := List.drop_eq_nil_of_le (by omega)
    rw [this]
    exact .inl rfl
theorem slice71 {b n cap : Nat} (k : Nat) (w : World) (h : k ≤ cap) :
    (Instr.slice 71 (.slice (some ⟨b, 0, none⟩) n cap) none (some (.int .i64 k)) none).run Tryz.prog w = .ok (.slice (some ⟨b, 0, none⟩) k cap) w := by
  go_simp
theorem tail71 {b n c k : Nat} (hk : k ≤ n) (hn : n ≤ c) : ∃ ad : Addr, (∀ w : World, (Instr.slice 71 (.slice (some ⟨b, 0, none⟩) n c) (some (.int .i64 (k : Int))) none none).run Tryz.prog w = .ok (.slice (some ad) (n - k) (c - k)) w) ∧ (k < n → ad = ⟨b, 0 + k * 5, none⟩) := by
  by_cases h : c = k
  · refine ⟨⟨b, 0, none⟩, fun w => ?_, fun q => by omega⟩
    go_simp
    (try simp [h])
  · refine ⟨⟨b, 0 + k * 5, none⟩, fun w => ?_, fun _ => rfl⟩
    go_simp
    (try simp [h, Addr.add])
theorem opC_one {B : Nat} {w : World} {vS : Value} {l : List OpM} (h : ∀ o ∈ l, OpOk w B vS o) : ∀ u ∈ rowsC opC l, u.oneCell' = true := by
  intro u hu
  obtain ⟨o, ho, hu⟩ := List.mem_flatMap.1 hu
  obtain ⟨a, c, a2, c2, e1, e2⟩ := nets_open (h o ho)
  simp only [opC, e1, e2, List.mem_cons, List.not_mem_nil, or_false] at hu
  rcases hu with rfl | rfl | rfl | rfl | rfl <;> rfl
set_option maxHeartbeats 8000000 in
theorem leaves_any {w : World} {B sb : Nat} {s : SV} (h : Sty w B sb s) (t : Nat) (ht : t < s.V.length) (hB : B ≤ w.heap.size) (hV : s.V.length ≤ 1000) :
    Calls Tryz.prog 55 #[ptr sb, .int .i64 (t : Int)] w fun e w' => e = .returned (.tuple #[]) ∧ (∃ v', Sty w' B sb { s with vV := v', V := cutAt s.V t }) ∧ Below B w w' := by
  obtain ⟨g, c, eV, hcap⟩ := grow_open h.v (by omega)
  have hv := h.v
  rw [eV] at hv
  obtain ⟨_, _, e1, li, -⟩ := GRow.lies hv
  cases e1
  obtain ⟨n, hn⟩ : ∃ z, z = s.V.length := ⟨_, rfl⟩
  rw [← hn] at eV hcap ht hV
  have HN := hide hn
  have H := hide h
  have EV := hide eV
  have LI := hide li
  have HC := hide hcap
  have q5 := ((RBox.cells H.out.box).get 5 _ rfl).1
  rw [eV] at q5
  have s1 := fun wq => slice71 (b := g) (n := n) (cap := c) t wq (by omega)
  have LT := hide (lies_takeG opC li t)
  have MT := hide (show (rowsC opC (s.V.take t)).length = t * 5 by rw [rowsC_len opC 5 opC_len, List.length_take, ← hn, Nat.min_eq_left (by omega)])
  have ONE := hide (opC_one h.op)
  clear h hv li eV hn
  go_enter Tryz.func55, Tryz.ntmps55
  go_upto_region 2 with (first
    | (at_builtin; refine wpList_appW Tryz.underlying71 info133 rfl (by decide) (by decide) rfl (.tmp 5) (.tmp 11) rfl w.heap.size (.slice none 0 0) 0 [] rfl (World.ownsRow_nil _ _ _ _) _ t c _ rfl MT.out LT.out (fun u hu => ONE.out u (by
        obtain ⟨o, ho, hu⟩ := List.mem_flatMap.1 hu
        exact List.mem_flatMap.2 ⟨o, List.mem_of_mem_take ho, hu⟩)) nofun (by omega) (Nat.le_refl _) ?_; intro v4 w4 p1 p2 p3; rw [Nat.zero_add, List.nil_append] at p1; obtain ⟨a4, c4, e4, -⟩ := GRow.lies p1; subst e4; have G4 := hide p1; have B4 := hide (show Below w.heap.size w w4 from (Below.refl _ _).grown p2 (Nat.le_refl _) (by nofun)); clear p1 p2 p3)
    | fail)
  clear s1 LT MT q5
  have H4 := hide (H.out.below B4.out)
  have q5 := ((RBox.cells H4.out.box).get 5 _ rfl).1
  rw [EV.out] at q5
  obtain ⟨M, hM⟩ : ∃ z, z = t + 1 := ⟨_, rfl⟩
  have e9 : IntKind.i64.wrap ((t : Int) + 1) = ((M : Nat) : Int) := by rw [IntKind.wrap_i64]; omega
  have e10 : (t : Int) + 1 = ((M : Nat) : Int) := by omega
  obtain ⟨ad, s2, ead⟩ := tail71 (b := g) (n := n) (c := c) (k := M) (by omega) HC.out
  have LT := hide (lies_tailG opC 5 opC_len (by decide) (LI.out.below B4.out) (k := M) (ad := ad) (by rw [← HN.out]; omega) (fun q => ead (by rw [HN.out]; exact q)))
  have MT := hide (show (rowsC opC (s.V.drop M)).length = (n - M) * 5 by rw [rowsC_len opC 5 opC_len, List.length_drop, ← HN.out])
  have HMM := hide hM
  clear ead hM
  go_wp2_with (first
    | (at_builtin; refine wpList_appW Tryz.underlying71 info133 rfl (by decide) (by decide) rfl (.tmp 14) (.tmp 21) rfl w.heap.size (.slice a4 t c4) t _ rfl G4.out _ (n - M) (c - M) _ rfl MT.out LT.out (fun u hu => ONE.out u (by
        obtain ⟨o, ho, hu⟩ := List.mem_flatMap.1 hu
        exact List.mem_flatMap.2 ⟨o, List.mem_of_mem_drop ho, hu⟩)) nofun (by have := HMM.out; omega) B4.out.size ?_; intro v5 w5 p1 p2 p3; obtain ⟨a5, c5, e5, -⟩ := GRow.lies p1; subst e5; have G5 := hide p1; have B5 := hide (B4.out.trans ((grown_keep p2).below B4.out.size (fun z hz q => by have := (World.ownsRow.lt G4.out z q).1; omega))); clear p1 p2 p3 q5; have H5 := hide (H.out.below B5.out); obtain ⟨y5, f5⟩ := (RBox.cells H5.out.box).get 5 _ rfl)
    | fail)
  have en : t + (n - M) = (cutAt s.V t).length := by unfold cutAt; rw [List.length_append, List.length_take, List.length_drop, ← HN.out, HMM.out]; omega
  have g5 := G5.out
  rw [← rowsC_app, en, HMM.out] at g5
  have g6 := GRow.mono g5 hB
  have H6 := hide (H5.out.setV (L' := cutAt s.V t) g6 (Keep.refl _ _) (fun o ho => H5.out.op o (by
    rcases List.mem_append.1 ho with q | q
    · exact List.mem_of_mem_take q
    · exact List.mem_of_mem_drop q)))
  have HBS := hide H5.out.hb
  clear g5 g6 y5 f5
  go_end0
  refine ⟨rfl, ⟨_, by rw [← en] at H6; exact H6.out⟩, bkeep (B5.out.mono hB) ((Keep.refl (fun z => z = sb) w5).setCell (g := sb) (j := 5) (fun _ => rfl) _) hB (fun j hj => by have := HBS.out; omega)⟩
end Go.Proofs.YtehbpmibllpkhaaGreatDoor
