import Derived.RangeFuncNested
import Derived.RangeFuncBound
import Derived.RangeFuncCalls
import Derived.RangeFuncLeaves
import Derived.Shelf.Abstract
import Derived.Shelf.RegionOpen
import Derived.OwnWalkIn
import Derived.TacticsInMore
import Derived.LoopNIn
import Derived.LoopIn
import Derived.Test.YtgpmghdoofcpaaaGreatG14
namespace Go.Proofs.YtgpmghdoofcpaaaGreat.Dv
open Go.RowKit Go.Shelf Go.QK

attribute [local go_sem] Oper.semAt_some

def pe0 : PE := ⟨0, 0, 0, []⟩
/-- What has come behind k rounds: from the end on. -/
def downto (ps : List PE) (k : Nat) : List (Nat × PE) := (List.range k).map fun j => (ps.length - 1 - j, (ps[ps.length - 1 - j]?).getD pe0)
theorem downto_succ (ps : List PE) (k : Nat) : downto ps (k + 1) = downto ps k ++ [(ps.length - 1 - k, (ps[ps.length - 1 - k]?).getD pe0)] := by simp [downto, List.range_succ]
theorem downto_length (ps : List PE) (k : Nat) : (downto ps k).length = k := by simp [downto]
def encP (x : Nat × PE) : Array Value := #[.int .i64 (x.1 : Int), .agg #[.int .i64 (x.2.s : Int), .slice (some ⟨x.2.k, 0, none⟩) x.2.b.length x.2.c]]

set_option maxRecDepth 100000 in
set_option maxHeartbeats 2000000 in
theorem back1_in (F : Fence) (n : Nat) (h69 : F.fn 121) (hro : F.round = none) (hn : 1 ≤ n) (l Bs n₀ b cap : Nat) (ps : List PE) (hlen : ps.length ≤ 1000000) (hb : b < n₀) (J Jx : List (Nat × PE) → World → Prop)
    (hY : ∀ pre x W, J pre W → pre.length < ps.length → YieldAt F (n - 1) Tryz.prog l (encP x) W fun e W' =>
      (e = .returned (.bool true) ∧ J (pre ++ [x]) W' ∧ Below n₀ W W') ∨ (e = .returned (.bool false) ∧ Jx (pre ++ [x]) W'))
    (W : World) (hBs : W.cell? ⟨Bs, 0, none⟩ = some (.slice (some ⟨b, 0, none⟩) ps.length cap)) (hBn : ∀ W', Below n₀ W W' → W'.cell? ⟨Bs, 0, none⟩ = some (.slice (some ⟨b, 0, none⟩) ps.length cap))
    (hc : ∀ j (h : j < ps.length), W.cell? ⟨b, j * 2, none⟩ = some (.int .i64 (ps[j].s : Int)) ∧ W.cell? ⟨b, j * 2 + 1, none⟩ = some ps[j].v) (h0 : J [] W) :
    CallsIn F n Tryz.prog 121 #[.func (.yield l) #[] #[], .pointer (some ⟨Bs, 0, none⟩)] W fun e W' => (∃ v, e = .returned v) ∧
      ((∃ ys, ys = downto ps ps.length ∧ J ys W') ∨ (∃ pre, (∃ k, k ≤ ps.length ∧ pre = downto ps k) ∧ Jx pre W')) := by
  refine callsIn_of_wp Tryz.func121 rfl h69 ?_ hro
  simp only [Tryz.ntmps121, List.size_toArray, List.length_cons, List.length_nil, Nat.reduceAdd, Nat.reduceSub, Array.replicate_succ, Array.replicate_zero, List.push_toArray, List.append_toArray, List.nil_append, List.cons_append]
  gi_wp2
  gi_loopw [3] (fun i wr => ∃ k : Nat, k ≤ ps.length ∧ i = .int .i64 ((ps.length : Int) - 1 - (k : Int)) ∧ J (downto ps k) wr ∧ Below n₀ W wr)
    (fun i _ => (intOf i + 1).toNat)
  case atStart => exact ⟨0, Nat.zero_le _, by simp, h0, Below.refl _ _⟩
  case round =>
    obtain ⟨k, hk, rfl, hJs, hnx⟩ := hrel
    have hbs := hBn wr hnx
    by_cases hlt : k < ps.length
    · obtain ⟨m, hm⟩ : ∃ m, m = ps.length - 1 - k := ⟨_, rfl⟩
      have hml : m < ps.length := by omega
      have em : (ps.length : Int) - 1 - (k : Int) = (m : Int) := by omega
      obtain ⟨p0, p1⟩ := hc m hml
      have q0 := (hnx.cell (p := ⟨b, m * 2, none⟩) hb).trans p0
      have q1 := (hnx.cell (p := ⟨b, m * 2 + 1, none⟩) hb).trans p1
      unfold PE.v at q1
      obtain ⟨fn, tmps, assign, body, hy, hR⟩ := hY _ (m, ps[m]) wr hJs (by rw [downto_length]; exact hlt)
      unfold encP at hy
      dsimp only at hy
      have STEP := hide (show downto ps (k + 1) = downto ps k ++ [(m, ps[m])] by rw [downto_succ, ← hm]; simp [hml])
      have e2 : IntKind.i64.wrap ((m : Int) - 1) = (m : Int) - 1 := by rw [IntKind.wrap_i64]; omega
      rw [em]
      have HM := hide hm
      have EM := hide em
      clear p0 p1 hm em
      generalize ps[m] = p at *
      gi_wp2
      refine hR.mono ?_
      rintro e W3 (⟨rfl, hJ3, hk3⟩ | ⟨rfl, hJx3⟩)
      · gi_wp2
        go_roundw
        case rel => exact ⟨k + 1, by omega, by have := EM.out; simp; omega, by rw [STEP.out]; exact hJ3, hnx.trans hk3⟩
        case measure => simp [intOf]
      · gi_wp2
        refine bodyPost_ret (results_none rfl _ _ _) rfl ?_
        exact ⟨⟨_, rfl⟩, .inr ⟨_, ⟨k + 1, by omega, STEP.out.symm⟩, hJx3⟩⟩
    · obtain rfl : k = ps.length := by omega
      have em : (ps.length : Int) - 1 - (ps.length : Int) = -1 := by omega
      rw [em]
      gi_wp2
      go_end0
      exact ⟨⟨_, rfl⟩, .inl ⟨_, rfl, hJs⟩⟩

set_option maxRecDepth 100000 in
set_option maxHeartbeats 1000000 in
theorem back1_nil_in (F : Fence) (n : Nat) (h69 : F.fn 121) (hro : F.round = none) (l Bs : Nat) (J : List (Nat × PE) → World → Prop) (W : World) (hBs : W.cell? ⟨Bs, 0, none⟩ = some (.slice none 0 0)) (h0 : J [] W) :
    CallsIn F n Tryz.prog 121 #[.func (.yield l) #[] #[], .pointer (some ⟨Bs, 0, none⟩)] W fun e W' => (∃ v, e = .returned v) ∧ J [] W' := by
  refine callsIn_of_wp Tryz.func121 rfl h69 ?_ hro
  simp only [Tryz.ntmps121, List.size_toArray, List.length_cons, List.length_nil, Nat.reduceAdd, Nat.reduceSub, Array.replicate_succ, Array.replicate_zero, List.push_toArray, List.append_toArray, List.nil_append, List.cons_append]
  gi_wp2
  gi_loopw [3] (fun i wr => i = .int .i64 (-1) ∧ J [] wr) (fun _ _ => 0)
  case atStart => exact ⟨rfl, h0⟩
  case round =>
    obtain ⟨rfl, hJs⟩ := hrel
    gi_wp2
    go_end0
    exact ⟨⟨_, rfl⟩, hJs⟩

set_option maxRecDepth 100000 in
theorem back_in (F : Fence) (n : Nat) (h62 : F.fn 106) (hro : F.round = none) (a : Option Addr) (len cap : Nat) (w : World) :
    CallsIn F n Tryz.prog 106 #[.slice a len cap] w fun e w' => e = .returned (.func (.func 121) #[] #[.pointer (some ⟨w.heap.size, 0, none⟩)]) ∧ w' = w.alloc (.cells #[.slice a len cap] 78) := by
  refine callsIn_of_wp Tryz.func106 rfl h62 ?_ hro
  simp only [Tryz.ntmps106, List.size_toArray, List.length_cons, List.length_nil, Nat.reduceAdd, Nat.reduceSub, Array.replicate_succ, Array.replicate_zero, List.push_toArray, List.append_toArray, List.nil_append, List.cons_append]
  gi_wp2
  go_ret
  exact ⟨rfl, rfl⟩

/-- The iterator over a row of pending writes, from its end on. -/
theorem back_stops (F : Fence) (n : Nat) (h69 : F.fn 121) (hro : F.round = none) (hn : 1 ≤ n) (Bs n₀ B : Nat) (v : Value) (ps : List PE) (hlen : ps.length ≤ 1000000) (w : World) (hBs : Bs < n₀) (hn₀ : n₀ ≤ w.heap.size)
    (hc : w.cell? ⟨Bs, 0, none⟩ = some v) (hv : PRow w B v ps) (hvn : ∀ b, v.ownBlock = some b → b < n₀) :
    SeqStopsK F n Tryz.prog 121 #[.pointer (some ⟨Bs, 0, none⟩)] encP (Below n₀) (fun ys => ys = downto ps ps.length) (fun pre => ∃ k, k ≤ ps.length ∧ pre = downto ps k) ps.length w := fun l J Jx W hW _ _ hY h0 => by
  have hc' := (hW.cell (p := ⟨Bs, 0, none⟩) (by show Bs < _; omega)).trans hc
  have hvW := hv.keep (S := fun _ => False) (Keep.of_below hW) (fun _ _ q => q)
  rcases hvW.2 with ⟨rfl, hn0⟩ | ⟨g, cap, cur, rfl, _⟩
  · have : ps = [] := List.eq_nil_of_length_eq_zero hn0
    subst this
    exact (back1_nil_in F n h69 hro l Bs J W hc' h0).mono fun e W' ⟨he, hj⟩ => ⟨he, .inl ⟨_, rfl, hj⟩⟩
  · have hg := hvn g rfl
    refine (back1_in F n h69 hro hn l Bs n₀ g cap ps hlen hg J Jx hY W hc' (fun W' hb => (hb.cell (p := ⟨Bs, 0, none⟩) hBs).trans hc') (fun j hj => ?_) h0).mono ?_
    · obtain ⟨b, e, _, h1, h2⟩ := hvW.form' j hj
      cases e
      exact ⟨h1, h2⟩
    · rintro e W' ⟨he, ⟨ys, hys, hj⟩ | ⟨pre, hk, hj⟩⟩
      · exact ⟨he, .inl ⟨_, hys, hj⟩⟩
      · exact ⟨he, .inr ⟨_, hk, hj⟩⟩
end Go.Proofs.YtgpmghdoofcpaaaGreat.Dv

namespace Go.Proofs.YtgpmghdoofcpaaaGreat.Dv
open Go.RowKit Go.Shelf Go.QK

attribute [local go_sem] Oper.semAt_some

def NF (i : Nat) (pre : List (Nat × PE)) : Prop := ∀ x ∈ pre, x.2.s ≠ i
def Hit (i : Nat) (pre : List (Nat × PE)) : Prop := ∃ pre' x, pre = pre' ++ [x] ∧ NF i pre' ∧ x.2.s = i
def lastV (pre : List (Nat × PE)) : Value := match pre.getLast? with | some x => x.2.v | none => .slice none 0 0
theorem lastV_snoc (pre : List (Nat × PE)) (x : Nat × PE) : lastV (pre ++ [x]) = x.2.v := by simp [lastV]

theorem nf_content (img : List Nat) (i : Nat) (ps : List PE) : ∀ k, k ≤ ps.length → NF i (downto ps k) → contentOf img i (ps.map PE.out) = contentOf img i ((ps.map PE.out).take (ps.length - k))
  | 0, _, _ => by rw [List.take_of_length_le (by simp)]
  | k + 1, hk, h => by
    rw [downto_succ] at h
    have h1 : NF i (downto ps k) := fun x hx => h x (by simp [hx])
    have h2 := h _ (by simp : (ps.length - 1 - k, (ps[ps.length - 1 - k]?).getD pe0) ∈ downto ps k ++ [(ps.length - 1 - k, (ps[ps.length - 1 - k]?).getD pe0)])
    have hm : ps.length - 1 - k < ps.length := by omega
    have e := contentOf_take img i (ps.map PE.out) (ps.length - 1 - k) (by simpa using hm)
    rw [nf_content img i ps k (by omega) h1, show ps.length - k = ps.length - 1 - k + 1 by omega, e, if_neg, show ps.length - (k + 1) = ps.length - 1 - k by omega]
    simp [hm] at h2
    simpa [PE.out] using h2
theorem nf_all (img : List Nat) (i : Nat) (ps : List PE) (h : NF i (downto ps ps.length)) : contentOf img i (ps.map PE.out) = sector img i := by
  rw [nf_content img i ps ps.length (Nat.le_refl _) h]
  simp [contentOf]
theorem hit_content (img : List Nat) (i : Nat) (ps : List PE) (k : Nat) (hk : k ≤ ps.length) (h : Hit i (downto ps k)) : ∃ p ∈ ps, contentOf img i (ps.map PE.out) = p.b ∧ lastV (downto ps k) = p.v := by
  obtain ⟨pre', x, e, h1, h2⟩ := h
  cases k with
  | zero => simp [downto] at e
  | succ k =>
    have e' := e
    rw [downto_succ] at e
    obtain ⟨e1, e2⟩ := List.append_inj' e rfl
    have hm : ps.length - 1 - k < ps.length := by omega
    simp [hm] at e2
    subst e1
    subst e2
    refine ⟨ps[ps.length - 1 - k], List.getElem_mem hm, ?_, ?_⟩
    · have e := contentOf_take img i (ps.map PE.out) (ps.length - 1 - k) (by simpa using hm)
      rw [nf_content img i ps k (by omega) h1, show ps.length - k = ps.length - 1 - k + 1 by omega, e, if_pos]
      · simp [PE.out]
      · simpa [PE.out] using h2
    · rw [e', lastV_snoc]

set_option maxRecDepth 100000 in
set_option maxHeartbeats 1000000 in
theorem content_any {w : World} {S : Nat → Prop} {d : Nat} {g : Dev} (h : PDev w S d g) (i : Nat) (hi : 512 * i + 512 ≤ g.img.length) (hpl : g.pend.length ≤ 1000000) :
    Calls Tryz.prog 80 #[.pointer (some ⟨d, 0, none⟩), .int .i64 (i : Int)] w fun e w' => ∃ a c, e = .returned (.slice a 512 c) ∧ Bytes w a (g.content i) ∧ (a = none → c = 0) ∧ 512 ≤ c ∧ Below w.heap.size w w' := by
  obtain ⟨ib, ic, pv, ps, kv, tn, off, hc, hb, hp, ok⟩ := h
  obtain ⟨pa, pc, hpv, hpn, hple, hpm, hrow⟩ := hb.row.form
  subst hpv
  obtain ⟨c0, _⟩ := hc.get 0 _ rfl
  obtain ⟨c1, _⟩ := hc.get 1 _ rfl
  have hdl := hc.1
  have HC := hide hc
  have HB := hide hb
  clear hc hb hrow
  have h1 : 1 ≤ 5 := by omega
  refine (callsIn_wide (n := 5)).1 ?_
  refine callsIn_of_wp_marks Tryz.func80 rfl trivial ?_ rfl
  simp only [Tryz.ntmps80, List.size_toArray, List.length_cons, List.length_nil, Nat.reduceAdd, Nat.reduceSub, Array.replicate_succ, Array.replicate_zero, List.push_toArray, List.append_toArray, List.nil_append, List.cons_append]
  gi_wp2
  refine ⟨trivial, ?_⟩
  refine (back_in Fence.wide 4 trivial rfl _ _ _ _).mono ?_
  rintro e w' ⟨rfl, rfl⟩
  gi_wp2
  have hsz : (((w.alloc (.cells #[.int .i64 (i : Int)] 3)).alloc (.cells #[.slice none 0 0] 80)).alloc (.cells #[.slice pa ps.length pc] 78)).heap.size = w.heap.size + 3 := by simp
  have bI := ((Boxed.new w 3 (.int .i64 (i : Int))).alloc (.cells #[.slice none 0 0] 80)).alloc (.cells #[.slice pa ps.length pc] 78)
  have bR := (Boxed.new (w.alloc (.cells #[.int .i64 (i : Int)] 3)) 80 (.slice none 0 0)).alloc (.cells #[.slice pa ps.length pc] 78)
  have bP := Boxed.new ((w.alloc (.cells #[.int .i64 (i : Int)] 3)).alloc (.cells #[.slice none 0 0] 80)) 78 (.slice pa ps.length pc)
  simp only [World.size_alloc] at bR bP
  have hB0 : Below w.heap.size w (((w.alloc (.cells #[.int .i64 (i : Int)] 3)).alloc (.cells #[.slice none 0 0] 80)).alloc (.cells #[.slice pa ps.length pc] 78)) := (((Below.refl _ w).alloc (Nat.le_refl _) _).alloc (by simp) _).alloc (by simp; omega) _
  obtain ⟨W0, hW0⟩ : ∃ W0, (((w.alloc (.cells #[.int .i64 (i : Int)] 3)).alloc (.cells #[.slice none 0 0] 80)).alloc (.cells #[.slice pa ps.length pc] 78)) = W0 := ⟨_, rfl⟩
  rw [hW0] at bI bR bP hB0 hsz ⊢
  clear hW0
  have row0 := HB.out.row.keep (S := fun _ => False) (Keep.of_below hB0) (fun _ _ q => q)
  have rlt : ∀ b, (Value.slice pa ps.length pc).ownBlock = some b → b < W0.heap.size := fun b hb => (row0.lt b hb).2
  have hps : ps.length ≤ 1000000 := by rw [hp] at hpl; simpa using hpl
  refine wpIn_rangeFunc_ownH rfl h1 (gf := 121) (lb := #[.pointer (some ⟨w.heap.size + 1 + 1, 0, none⟩)]) rfl trivial (enters_of Tryz.func121 (by kernel_rfl) rfl)
    (back_stops Fence.wide 4 trivial rfl (by omega) (w.heap.size + 1 + 1) W0.heap.size 0 (.slice pa ps.length pc) ps hps W0 (by omega) (Nat.le_refl _) bP.cell row0 rlt) belowK_t (belowK_b (Nat.le_refl _)) (Below.refl _ _) (fun _ => rfl)
    (fun pre W => (NF i pre ∧ (Boxed W w.heap.size 3 (.int .i64 (i : Int)) ∧ (Boxed W (w.heap.size + 1) 80 (.slice none 0 0) ∧ Boxed W (w.heap.size + 1 + 1) 78 (.slice pa ps.length pc)))) ∧ Below w.heap.size w W)
    (fun c pre W => ((c = .ret ∧ Hit i pre) ∧ Boxed W (w.heap.size + 1) 80 (lastV pre)) ∧ Below w.heap.size w W)
    (OwnFrom.and (OwnFrom.and (ownFrom_pure _ _) (OwnFrom.and (Own.from (boxed_own _ _ _) _) (OwnFrom.and (Own.from (boxed_own _ _ _) _) (Own.from (boxed_own _ _ _) _)))) (ownFrom_below (Nat.le_refl _) (by omega)))
    (fun c => OwnFrom.and (OwnFrom.and (ownFrom_pure _ _) (Own.from (boxed_own _ _ _) _)) (ownFrom_below (Nat.le_refl _) (by omega)))
    ⟨⟨nofun, bI, bR, bP⟩, hB0⟩
    (fun x a' W => ∃ Bx, w.heap.size + 2 < Bx ∧ (W.cell? ⟨Bx, 0, none⟩ = some (.int .i64 (x.2.s : Int)) ∧ W.cell? ⟨Bx, 1, none⟩ = some (.slice (some ⟨x.2.k, 0, none⟩) x.2.b.length x.2.c)) ∧ a' = { tmps := #[.pointer (some ⟨d, 0, none⟩), .int .i64 (i : Int), undef, .pointer (some ⟨w.heap.size, 0, none⟩), .pointer (some ⟨w.heap.size + 1, 0, none⟩), undef, .pointer (some ⟨Bx, 0, none⟩), .pointer (some ⟨d, 0, none⟩), .pointer (some ⟨d, 0, none⟩), .pointer (some ⟨d, 1, none⟩), .slice pa ps.length pc, .func (.func 121) #[] #[.pointer (some ⟨w.heap.size + 1 + 1, 0, none⟩)], .int .i64 (x.1 : Int), .agg #[.int .i64 (x.2.s : Int), .slice (some ⟨x.2.k, 0, none⟩) x.2.b.length x.2.c], undef, undef, undef, undef, undef, undef, undef, undef, undef], defers := [] })
    (fun x a' _ X Y row hs hg hr => by
      obtain ⟨Bx, h1, ⟨h2, h2'⟩, h3⟩ := hs
      exact ⟨Bx, h1, ⟨cell_kept h2 hg (fun r e => (hr r e).2), cell_kept h2' hg (fun r e => (hr r e).2)⟩, h3⟩)
    ?assign ?body ?done ?stop
  case assign =>
    rintro l pre x W K ⟨⟨nf, b1, b2, b3⟩, hB1⟩ hK
    simp only [encP]
    have hgt : w.heap.size + 1 + 1 < W.heap.size := b3.lt
    gi_wp2
    exact hK _ _ ((KeepsOthers.alloc _ _).from _) ((Below.refl _ W).alloc (by omega) _) ⟨⟨nf, b1.alloc _, b2.alloc _, b3.alloc _⟩, hB1.alloc hB1.size _⟩ ⟨W.heap.size, hgt, ⟨by rw [World.cell?_alloc_new]; rfl, by rw [World.cell?_alloc_new]; rfl⟩, rfl⟩
  case body =>
    rintro l pre x a' W hl ⟨r, hr⟩ ⟨⟨nf, b1, b2, b3⟩, hB1⟩ ⟨Bx, hBx, ⟨x0, x1⟩, rfl⟩ hlt
    have k1 := b1.cell
    have k2 := b2.cell
    have f2 := b2.frozen
    by_cases hx : x.2.s = i
    · have hx' : ((x.2.s : Int) == (i : Int)) = true := by simp [hx]
      have HX := hide hx
      clear hx
      gi_wp2
      exact ⟨(KeepsOthers.setCell _ _ _).from _, ⟨⟨rfl, pre, x, rfl, nf, HX.out⟩, by rw [lastV_snoc]; exact b2.set _⟩, hB1.setCell (p := ⟨w.heap.size + 1, 0, none⟩) (by simp) _⟩
    · have hx' : ((x.2.s : Int) == (i : Int)) = false := by simp; omega
      gi_wp2
      exact ⟨KeepsFrom.refl _ _, Below.refl _ _, ⟨fun y hy => by
        rcases List.mem_append.1 hy with q | q
        · exact nf y q
        · simp at q; subst q; exact hx, b1, b2, b3⟩, hB1⟩
  case done =>
    rintro D ys W hD rfl ⟨⟨nf, b1, b2, b3⟩, hB1⟩ hK
    have k1 := b1.cell
    have k2 := b2.cell
    have f2 := b2.frozen
    obtain ⟨a0, cap0, hv0, hs0, _, hle0, _⟩ := HB.out.img.seen
    rw [ints_length] at hv0 hle0
    cases hv0
    have hcon : g.content i = sector g.img i := by
      unfold Dev.content
      rw [hp]
      exact nf_all _ _ _ nf
    have hbs : Bytes w (some ⟨ib, 512 * i, none⟩) (g.content i) := by
      rw [hcon]
      have q := (Bytes.drop (cap := ic) hs0 (512 * i) hle0).take 512
      have e : dropA (some ⟨ib, 0, none⟩) ic (512 * i) = some ⟨ib, 512 * i, none⟩ := by
        unfold dropA
        rw [if_neg (by omega)]
        simp [addr_add]
      rw [e] at q
      exact q
    have HBS := hide hbs
    clear hbs hcon hs0
    gi_wp2
    refine ⟨trivial, ?_⟩
    refine (callsIn_wide.2 (durable_at i (by exact (hB1.cell (p := ⟨d, 0, none⟩) hdl).trans c0) hi hle0 (img_le' ok))).mono ?_
    rintro e w2 ⟨rfl, hw2⟩
    obtain rfl : W = w2 := hw2.symm
    gi_wp2
    have hK' := (KeepsOthers.setCell W ⟨w.heap.size + 1, 0, none⟩ (.slice (some ⟨ib, 512 * i, none⟩) 512 (ic - 512 * i))).same D _ hK rfl
    refine ⟨by simp, .inl ⟨_, _, rfl, run_takeDeferred hK', ?_⟩⟩
    have hc5 := cell_kept (b2.set (.slice (some ⟨ib, 512 * i, none⟩) 512 (ic - 512 * i))).cell (grownBy_putObj' _ D (.deferred none)) (fun r e => by cases e; exact ⟨_, hK', rfl⟩)
    refine ⟨.slice (some ⟨ib, 512 * i, none⟩) 512 (ic - 512 * i), ?_, _, _, rfl, HBS.out, nofun, by omega, (hB1.setCell (p := ⟨w.heap.size + 1, 0, none⟩) (by simp) _).trans (belowK_b (w := w) (Nat.le_refl _) _ D _ _ (by omega) hK' rfl rfl)⟩
    simp [results, Tryz.f80, go_sem, hc5]
  case stop =>
    rintro D c pre W hD ⟨k, hk, rfl⟩ ⟨⟨⟨rfl, hit⟩, b2⟩, hB1⟩ hK
    obtain ⟨p, hpm, hpc, hpv⟩ := hit_content g.img i ps k hk hit
    rw [hpv] at b2
    obtain ⟨e1, e2, e3, _⟩ := HB.out.en p hpm
    have hbl : p.b.length = 512 := (ok.pend p.out (by rw [hp]; exact List.mem_map.2 ⟨p, hpm, rfl⟩)).2.1
    gi_wp2
    refine ⟨by simp, .inl ⟨_, _, rfl, run_takeDeferred hK, ?_⟩⟩
    have hc5 := cell_kept b2.cell (grownBy_putObj' _ D (.deferred none)) (fun r e => by cases e; exact ⟨_, hK, rfl⟩)
    refine ⟨p.v, ?_, some ⟨p.k, 0, none⟩, p.c, ?_, ?_, nofun, by omega, hB1.trans (belowK_b (w := w) (Nat.le_refl _) W D _ _ (by omega) hK rfl rfl)⟩
    · simp [results, Tryz.f80, go_sem, hc5]
    · unfold PE.v; rw [hbl]
    · unfold Dev.content
      rw [hp, hpc]
      exact e1
end Go.Proofs.YtgpmghdoofcpaaaGreat.Dv
