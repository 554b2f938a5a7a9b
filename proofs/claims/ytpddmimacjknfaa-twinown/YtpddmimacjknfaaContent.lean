import Derived.Test.YtpddmimacjknfaaBackward
namespace Go.Proofs.Ytpddmimacjknfaa
open Go.RowKit Go.Shelf Go.QK

attribute [local go_sem] Oper.semAt_some

def NF (i : Nat) (pre : List (Nat × PE)) : Prop := ∀ x ∈ pre, x.2.s ≠ i
def Hit (i : Nat) (pre : List (Nat × PE)) : Prop := ∃ pre' x, pre = pre' ++ [x] ∧ NF i pre' ∧ x.2.s = i
def lastV (pre : List (Nat × PE)) : Value := match pre.getLast? with | some x => x.2.v | none => .slice none 0 0
theorem lastV_snoc (pre : List (Nat × PE)) (x : Nat × PE) : lastV (pre ++ [x]) = x.2.v := by simp [lastV]

theorem nf_content (img : List Nat) (i : Nat) (ps : List PE) : ∀ k, k ≤ ps.length → NF i (downto ps k) → contentOf img i (ps.map PE.out) = contentOf img i ((ps.map PE.out).take (ps.length - k))
  | 0, _, _ => by rw [List.take_of_length_le (by simp)]
  | k + 1, hk, h => by
    rw [downto_succ] at h
    have h1 : NF i (downto ps k) := fun x hx => h x (by simp [hx])
    have h2 := h _ (by simp : (ps.length - 1 - k, (ps[ps.length - 1 - k]?).getD pe0) ∈ downto ps k ++ [(ps.length - 1 - k, (ps[ps.length - 1 - k]?).getD pe0)])
    have hm : ps.length - 1 - k < ps.length := by omega
    have e := contentOf_take img i (ps.map PE.out) (ps.length - 1 - k) (by simpa using hm)
    rw [nf_content img i ps k (by omega) h1, show ps.length - k = ps.length - 1 - k + 1 by omega, e, if_neg, show ps.length - (k + 1) = ps.length - 1 - k by omega]
    simp [hm] at h2
    simpa [PE.out] using h2
theorem nf_all (img : List Nat) (i : Nat) (ps : List PE) (h : NF i (downto ps ps.length)) : contentOf img i (ps.map PE.out) = sector img i := by
  rw [nf_content img i ps ps.length (Nat.le_refl _) h]
  simp [contentOf]
theorem hit_content (img : List Nat) (i : Nat) (ps : List PE) (k : Nat) (hk : k ≤ ps.length) (h : Hit i (downto ps k)) : ∃ p ∈ ps, contentOf img i (ps.map PE.out) = p.b ∧ lastV (downto ps k) = p.v := by
  obtain ⟨pre', x, e, h1, h2⟩ := h
  cases k with
  | zero => simp [downto] at e
  | succ k =>
    have e' := e
    rw [downto_succ] at e
    obtain ⟨e1, e2⟩ := List.append_inj' e rfl
    have hm : ps.length - 1 - k < ps.length := by omega
    simp [hm] at e2
    subst e1
    subst e2
    refine ⟨ps[ps.length - 1 - k], List.getElem_mem hm, ?_, ?_⟩
    · have e := contentOf_take img i (ps.map PE.out) (ps.length - 1 - k) (by simpa using hm)
      rw [nf_content img i ps k (by omega) h1, show ps.length - k = ps.length - 1 - k + 1 by omega, e, if_pos]
      · simp [PE.out]
      · simpa [PE.out] using h2
    · rw [e', lastV_snoc]

set_option maxRecDepth 100000 in
set_option maxHeartbeats 1000000 in
theorem content_any {w : World} {S : Nat → Prop} {d : Nat} {g : Dev} (h : PDev w S d g) (i : Nat) (hi : 512 * i + 512 ≤ g.img.length) (hpl : g.pend.length ≤ 1000000) :
    Calls Try.prog 83 #[.pointer (some ⟨d, 0, none⟩), .int .i64 (i : Int)] w fun e w' => ∃ a c, e = .returned (.slice a 512 c) ∧ Bytes w a (g.content i) ∧ (a = none → c = 0) ∧ 512 ≤ c ∧ Below w.heap.size w w' := by
  obtain ⟨ib, ic, pv, ps, kv, tn, off, hc, hb, hp, ok⟩ := h
  obtain ⟨pa, pc, hpv, hpn, hple, hpm, hrow⟩ := hb.row.form
  subst hpv
  obtain ⟨c0, _⟩ := hc.get 0 _ rfl
  obtain ⟨c1, _⟩ := hc.get 1 _ rfl
  have hdl := hc.1
  have HC := hide hc
  have HB := hide hb
  clear hc hb hrow
  have h1 : 1 ≤ 5 := by omega
  refine (callsIn_wide (n := 5)).1 ?_
  refine callsIn_of_wp_marks Try.func83 rfl trivial ?_ rfl
  simp only [Try.ntmps83, List.size_toArray, List.length_cons, List.length_nil, Nat.reduceAdd, Nat.reduceSub, Array.replicate_succ, Array.replicate_zero, List.push_toArray, List.append_toArray, List.nil_append, List.cons_append]
  gi_wp2
  refine ⟨trivial, ?_⟩
  refine (back_in Fence.wide 4 trivial rfl _ _ _ _).mono ?_
  rintro e w' ⟨rfl, rfl⟩
  gi_wp2
  have hsz : (((w.alloc (.cells #[.int .i64 (i : Int)] 3)).alloc (.cells #[.slice none 0 0] 22)).alloc (.cells #[.slice pa ps.length pc] 79)).heap.size = w.heap.size + 3 := by simp
  have bI := ((Boxed.new w 3 (.int .i64 (i : Int))).alloc (.cells #[.slice none 0 0] 22)).alloc (.cells #[.slice pa ps.length pc] 79)
  have bR := (Boxed.new (w.alloc (.cells #[.int .i64 (i : Int)] 3)) 22 (.slice none 0 0)).alloc (.cells #[.slice pa ps.length pc] 79)
  have bP := Boxed.new ((w.alloc (.cells #[.int .i64 (i : Int)] 3)).alloc (.cells #[.slice none 0 0] 22)) 79 (.slice pa ps.length pc)
  simp only [World.size_alloc] at bR bP
  have hB0 : Below w.heap.size w (((w.alloc (.cells #[.int .i64 (i : Int)] 3)).alloc (.cells #[.slice none 0 0] 22)).alloc (.cells #[.slice pa ps.length pc] 79)) := (((Below.refl _ w).alloc (Nat.le_refl _) _).alloc (by simp) _).alloc (by simp; omega) _
  obtain ⟨W0, hW0⟩ : ∃ W0, (((w.alloc (.cells #[.int .i64 (i : Int)] 3)).alloc (.cells #[.slice none 0 0] 22)).alloc (.cells #[.slice pa ps.length pc] 79)) = W0 := ⟨_, rfl⟩
  rw [hW0] at bI bR bP hB0 hsz ⊢
  clear hW0
  have row0 := HB.out.row.keep (S := fun _ => False) (Keep.of_below hB0) (fun _ _ q => q)
  have rlt : ∀ b, (Value.slice pa ps.length pc).ownBlock = some b → b < W0.heap.size := fun b hb => (row0.lt b hb).2
  have hps : ps.length ≤ 1000000 := by rw [hp] at hpl; simpa using hpl
  refine wpIn_rangeFunc_ownH rfl h1 (gf := 89) (lb := #[.pointer (some ⟨w.heap.size + 1 + 1, 0, none⟩)]) rfl trivial (enters_of Try.func89 (by kernel_rfl) rfl)
    (back_stops Fence.wide 4 trivial rfl (by omega) (w.heap.size + 1 + 1) W0.heap.size 0 (.slice pa ps.length pc) ps hps W0 (by omega) (Nat.le_refl _) bP.cell row0 rlt) belowK_t (belowK_b (Nat.le_refl _)) (Below.refl _ _) (fun _ => rfl)
    (fun pre W => (NF i pre ∧ (Boxed W w.heap.size 3 (.int .i64 (i : Int)) ∧ (Boxed W (w.heap.size + 1) 22 (.slice none 0 0) ∧ Boxed W (w.heap.size + 1 + 1) 79 (.slice pa ps.length pc)))) ∧ Below w.heap.size w W)
    (fun c pre W => ((c = .ret ∧ Hit i pre) ∧ Boxed W (w.heap.size + 1) 22 (lastV pre)) ∧ Below w.heap.size w W)
    (OwnFrom.and (OwnFrom.and (ownFrom_pure _ _) (OwnFrom.and (Own.from (boxed_own _ _ _) _) (OwnFrom.and (Own.from (boxed_own _ _ _) _) (Own.from (boxed_own _ _ _) _)))) (ownFrom_below (Nat.le_refl _) (by omega)))
    (fun c => OwnFrom.and (OwnFrom.and (ownFrom_pure _ _) (Own.from (boxed_own _ _ _) _)) (ownFrom_below (Nat.le_refl _) (by omega)))
    ⟨⟨nofun, bI, bR, bP⟩, hB0⟩
    (fun x a' W => ∃ Bx, w.heap.size + 2 < Bx ∧ (W.cell? ⟨Bx, 0, none⟩ = some (.int .i64 (x.2.s : Int)) ∧ W.cell? ⟨Bx, 1, none⟩ = some (.slice (some ⟨x.2.k, 0, none⟩) x.2.b.length x.2.c)) ∧ a' = { tmps := #[.pointer (some ⟨d, 0, none⟩), .int .i64 (i : Int), undef, .pointer (some ⟨w.heap.size, 0, none⟩), .pointer (some ⟨w.heap.size + 1, 0, none⟩), undef, .pointer (some ⟨Bx, 0, none⟩), .pointer (some ⟨d, 0, none⟩), .pointer (some ⟨d, 0, none⟩), .pointer (some ⟨d, 1, none⟩), .slice pa ps.length pc, .func (.func 89) #[] #[.pointer (some ⟨w.heap.size + 1 + 1, 0, none⟩)], .int .i64 (x.1 : Int), .agg #[.int .i64 (x.2.s : Int), .slice (some ⟨x.2.k, 0, none⟩) x.2.b.length x.2.c], undef, undef, undef, undef, undef, undef, undef, undef, undef], defers := [] })
    (fun x a' _ X Y row hs hg hr => by
      obtain ⟨Bx, h1, ⟨h2, h2'⟩, h3⟩ := hs
      exact ⟨Bx, h1, ⟨cell_kept h2 hg (fun r e => (hr r e).2), cell_kept h2' hg (fun r e => (hr r e).2)⟩, h3⟩)
    ?assign ?body ?done ?stop
  case assign =>
    rintro l pre x W K ⟨⟨nf, b1, b2, b3⟩, hB1⟩ hK
    simp only [encP]
    have hgt : w.heap.size + 1 + 1 < W.heap.size := b3.lt
    gi_wp2
    exact hK _ _ ((KeepsOthers.alloc _ _).from _) ((Below.refl _ W).alloc (by omega) _) ⟨⟨nf, b1.alloc _, b2.alloc _, b3.alloc _⟩, hB1.alloc hB1.size _⟩ ⟨W.heap.size, hgt, ⟨by rw [World.cell?_alloc_new]; rfl, by rw [World.cell?_alloc_new]; rfl⟩, rfl⟩
  case body =>
    rintro l pre x a' W hl ⟨r, hr⟩ ⟨⟨nf, b1, b2, b3⟩, hB1⟩ ⟨Bx, hBx, ⟨x0, x1⟩, rfl⟩ hlt
    have k1 := b1.cell
    have k2 := b2.cell
    have f2 := b2.frozen
    by_cases hx : x.2.s = i
    · have hx' : ((x.2.s : Int) == (i : Int)) = true := by simp [hx]
      have HX := hide hx
      clear hx
      gi_wp2
      exact ⟨(KeepsOthers.setCell _ _ _).from _, ⟨⟨rfl, pre, x, rfl, nf, HX.out⟩, by rw [lastV_snoc]; exact b2.set _⟩, hB1.setCell (p := ⟨w.heap.size + 1, 0, none⟩) (by simp) _⟩
    · have hx' : ((x.2.s : Int) == (i : Int)) = false := by simp; omega
      gi_wp2
      exact ⟨KeepsFrom.refl _ _, Below.refl _ _, ⟨fun y hy => by
        rcases List.mem_append.1 hy with q | q
        · exact nf y q
        · simp at q; subst q; exact hx, b1, b2, b3⟩, hB1⟩
  case done =>
    rintro D ys W hD rfl ⟨⟨nf, b1, b2, b3⟩, hB1⟩ hK
    have k1 := b1.cell
    have k2 := b2.cell
    have f2 := b2.frozen
    obtain ⟨a0, cap0, hv0, hs0, _, hle0, _⟩ := HB.out.img.seen
    rw [ints_length] at hv0 hle0
    cases hv0
    have hcon : g.content i = sector g.img i := by
      unfold Dev.content
      rw [hp]
      exact nf_all _ _ _ nf
    have hbs : Bytes w (some ⟨ib, 512 * i, none⟩) (g.content i) := by
      rw [hcon]
      have q := (Bytes.drop (cap := ic) hs0 (512 * i) hle0).take 512
      have e : dropA (some ⟨ib, 0, none⟩) ic (512 * i) = some ⟨ib, 512 * i, none⟩ := by
        unfold dropA
        rw [if_neg (by omega)]
        simp [addr_add]
      rw [e] at q
      exact q
    have HBS := hide hbs
    clear hbs hcon hs0
    gi_wp2
    refine ⟨trivial, ?_⟩
    refine (callsIn_wide.2 (durable_at i (by exact (hB1.cell (p := ⟨d, 0, none⟩) hdl).trans c0) hi hle0 (img_le' ok))).mono ?_
    rintro e w2 ⟨rfl, hw2⟩
    obtain rfl : W = w2 := hw2.symm
    gi_wp2
    have hK' := (KeepsOthers.setCell W ⟨w.heap.size + 1, 0, none⟩ (.slice (some ⟨ib, 512 * i, none⟩) 512 (ic - 512 * i))).same D _ hK rfl
    refine ⟨by simp, .inl ⟨_, _, rfl, run_takeDeferred hK', ?_⟩⟩
    have hc5 := cell_kept (b2.set (.slice (some ⟨ib, 512 * i, none⟩) 512 (ic - 512 * i))).cell (grownBy_putObj' _ D (.deferred none)) (fun r e => by cases e; exact ⟨_, hK', rfl⟩)
    refine ⟨.slice (some ⟨ib, 512 * i, none⟩) 512 (ic - 512 * i), ?_, _, _, rfl, HBS.out, nofun, by omega, (hB1.setCell (p := ⟨w.heap.size + 1, 0, none⟩) (by simp) _).trans (belowK_b (w := w) (Nat.le_refl _) _ D _ _ (by omega) hK' rfl rfl)⟩
    simp [results, Try.f83, go_sem, hc5]
  case stop =>
    rintro D c pre W hD ⟨k, hk, rfl⟩ ⟨⟨⟨rfl, hit⟩, b2⟩, hB1⟩ hK
    obtain ⟨p, hpm, hpc, hpv⟩ := hit_content g.img i ps k hk hit
    rw [hpv] at b2
    obtain ⟨e1, e2, e3, _⟩ := HB.out.en p hpm
    have hbl : p.b.length = 512 := (ok.pend p.out (by rw [hp]; exact List.mem_map.2 ⟨p, hpm, rfl⟩)).2.1
    gi_wp2
    refine ⟨by simp, .inl ⟨_, _, rfl, run_takeDeferred hK, ?_⟩⟩
    have hc5 := cell_kept b2.cell (grownBy_putObj' _ D (.deferred none)) (fun r e => by cases e; exact ⟨_, hK, rfl⟩)
    refine ⟨p.v, ?_, some ⟨p.k, 0, none⟩, p.c, ?_, ?_, nofun, by omega, hB1.trans (belowK_b (w := w) (Nat.le_refl _) W D _ _ (by omega) hK rfl rfl)⟩
    · simp [results, Try.f83, go_sem, hc5]
    · unfold PE.v; rw [hbl]
    · unfold Dev.content
      rw [hp, hpc]
      exact e1
end Go.Proofs.Ytpddmimacjknfaa
