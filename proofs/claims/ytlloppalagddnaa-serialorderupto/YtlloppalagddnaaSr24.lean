import Derived.Test.YtlloppalagddnaaSr22
set_option linter.all false
namespace Go.Proofs.Ytlloppalagddnaa
open Go.RowKit Go.QK Quota Go.Maps Go.QM Go.QS
set_option maxRecDepth 100000
theorem grow_ty {w : World} {B e size n g : Nat} {v : Value} {xs : List Value} (h : GRow w B e size v n xs) (hg : v.ownBlock = some g) : ∃ cur, w.heap[g]? = some (.cells cur e (0, 0)) := by
  rcases h.2 with ⟨q, _⟩ | ⟨g', cap, cur, q, _, h2, _⟩
  · rw [q] at hg; cases hg
  · rw [q] at hg; cases hg; exact ⟨cur, h2⟩
theorem grow_apart {w : World} {B e size n B' e' size' n' : Nat} {v v' : Value} {xs xs' : List Value} (h : GRow w B e size v n xs) (h' : GRow w B' e' size' v' n' xs') (he : e ≠ e') : ∀ g, v.ownBlock = some g → v'.ownBlock ≠ some g := by
  intro g q q'
  obtain ⟨c1, e1⟩ := grow_ty h q
  obtain ⟨c2, e2⟩ := grow_ty h' q'
  rw [e1] at e2
  cases e2
  exact he rfl

abbrev mkC : Cn := ⟨-78, 0, 0, 0, 0⟩
theorem cns_len (l : List Cn) : (cns l).length = l.length * 5 := rowsC_n cnC 5 (fun _ => rfl) l
theorem cns_one (l : List Cn) : ∀ u ∈ cns l, u.oneCell' = true := rowsC_one cnC (fun _ => rfl) l
theorem cns_app (a b : List Cn) : cns (a ++ b) = cns a ++ cns b := rowsC_app cnC a b
theorem hns_len (l : List Hn) : (hns l).length = l.length * 3 := rowsC_n hnC 3 (fun _ => rfl) l
theorem hns_one (l : List Hn) : ∀ u ∈ hns l, u.oneCell' = true := rowsC_one hnC (fun _ => rfl) l
theorem hns_app (a b : List Hn) : hns (a ++ b) = hns a ++ hns b := rowsC_app hnC a b
theorem slice35 {a : Option Addr} {n cap : Nat} (k : Nat) (w : World) (h : k ≤ cap) (h4 : a = none → cap = 0) : (Instr.slice 35 (.slice a n cap) none (some (.int .i64 k)) none).run Try.prog w = .ok (.slice a k cap) w := by
  cases a with
  | none =>
    obtain rfl := h4 rfl
    obtain rfl : k = 0 := by omega
    go_simp
  | some ad =>
    obtain ⟨b, off, sp⟩ := ad
    go_simp
theorem slice30 {g : Nat} {n cap : Nat} (k : Nat) (w : World) (h : k ≤ cap) : (Instr.slice 30 (.slice (some ⟨g, 0, none⟩) n cap) none (some (.int .i64 k)) none).run Try.prog w = .ok (.slice (some ⟨g, 0, none⟩) k cap) w := by go_simp
theorem slice25 {g : Nat} {n cap : Nat} (k : Nat) (w : World) (h : k ≤ cap) : (Instr.slice 25 (.slice (some ⟨g, 0, none⟩) n cap) none (some (.int .i64 k)) none).run Try.prog w = .ok (.slice (some ⟨g, 0, none⟩) k cap) w := by go_simp
set_option maxHeartbeats 8000000 in
/-- 'lent': a copy with a mark behind it. -/
theorem lentC_any (xs : List Cn) (a : Option Addr) (c : Nat) (w : World) (h : Lies w a (cns xs)) (hna : a = none → c = 0 ∧ xs.length = 0) (hl : (xs.length + 1) * 40 ≤ 140737488355328) :
    Calls Try.prog 14 #[.slice a xs.length c] w fun e w' => ∃ g c', e = .returned (.slice (some ⟨g, 0, none⟩) xs.length c') ∧ xs.length + 1 ≤ c' ∧ GRow w' w.heap.size 65 5 (.slice (some ⟨g, 0, none⟩) (xs.length + 1) c') (xs.length + 1) (cns (xs ++ [mkC])) ∧ Below w.heap.size w w' := by
  obtain ⟨N, hN⟩ : ∃ n, n = xs.length := ⟨_, rfl⟩
  have hlen : (cns xs).length = N * 5 := by rw [cns_len, hN]
  rw [← hN] at hl hna ⊢
  have HX := hide h
  have HA := hide hna
  clear hN h hna
  go_enter Try.func14, Try.ntmps14
  go_upto_region 3 with (at_builtin; refine wpList_appW Try.underlying35 info65 rfl (by decide) (by decide) rfl (.tmp 4) (.tmp 5) rfl w.heap.size (.slice none 0 0) 0 [] rfl (World.ownsRow_nil _ _ _ _) a N c (cns xs) rfl hlen HX.out (cns_one xs) HA.out (by omega) (Nat.le_refl _) ?_; intro v5 w5 q1 q2 q3; rw [Nat.zero_add, List.nil_append] at q1; obtain ⟨a1, c1, e1, -⟩ := GRow.lies q1; subst e1; have b5 : Below w.heap.size w w5 := (Below.refl _ _).grown q2 (Nat.le_refl _) (by nofun))
  have G5 := hide (GRow.below q1 (alloc_below w5 (.cells #[.int .i64 (-78), .int .i64 0, .int .i64 0, .int .i64 0, .int .i64 0] 65)))
  have B5 := hide (b5.trans ((alloc_below w5 (.cells #[.int .i64 (-78), .int .i64 0, .int .i64 0, .int .i64 0, .int .i64 0] 65)).mono b5.size))
  clear q1 q2 q3 b5
  go_upto_region 4 with ((at_builtin; refine wpList_appW Try.underlying35 info65 rfl (by decide) (by decide) rfl (.tmp 7) (.tmp 9) rfl w.heap.size (.slice a1 N c1) N (cns xs) rfl G5.out (some ⟨w5.heap.size, 0, none⟩) 1 1 (cns [mkC]) rfl rfl (lies_one cnC w5 mkC #[.int .i64 (-78), .int .i64 0, .int .i64 0, .int .i64 0, .int .i64 0] 65 rfl) (cns_one [mkC]) nofun (by omega) B5.out.size ?_; intro v6 w6 q1 q2 q3; obtain ⟨g, c2, e1, hc2⟩ := grow_open q1 (Nat.succ_pos _); subst e1; have b6 : Below w.heap.size w w6 := B5.out.trans ((grown_keep q2).below B5.out.size (fun z hz e => by have := (World.ownsRow.lt G5.out z e).1; omega))))
  rw [← cns_app] at q1
  have G6 := hide q1
  have B6 := hide b6
  have s1 := fun wq => slice35 (a := some ⟨g, 0, none⟩) (n := N + 1) (cap := c2) N wq (by omega) nofun
  clear q1 q2 q3 b6
  go_wp2_with fail
  go_ret
  exact ⟨g, c2, rfl, hc2, G6.out, B6.out⟩

abbrev mkH : Hn := (-79, 0, 0)
def rk (r : RI) : Int × List Hn := (r.tx, r.l)
abbrev mkR : RI := ⟨-80, none, 0, []⟩
/-- A run's nets, a mark behind them. -/
def NR (w : World) (B : Nat) (r : RI) : Prop := ∃ g, r.a = some ⟨g, 0, none⟩ ∧ r.l.length + 1 ≤ r.c ∧ GRow w B 74 3 (.slice r.a (r.l.length + 1) r.c) (r.l.length + 1) (hns (r.l ++ [mkH]))
theorem NR.keep {w w' : World} {B : Nat} {r : RI} {S : Nat → Prop} (h : NR w B r) (hk : Keep S w w') (hn : ∀ g, r.a = some ⟨g, 0, none⟩ → ¬ S g) : NR w' B r := by
  obtain ⟨g, h1, h2, h3⟩ := h
  refine ⟨g, h1, h2, GRow.keep h3 hk (fun z hz => ?_)⟩
  rw [h1] at hz
  cases hz
  exact hn g h1
theorem NR.lt {w : World} {B : Nat} {r : RI} (h : NR w B r) : ∀ g, r.a = some ⟨g, 0, none⟩ → B ≤ g ∧ g < w.heap.size := by
  obtain ⟨g, h1, h2, h3⟩ := h
  intro z hz
  exact World.ownsRow.lt h3 z (by rw [hz]; rfl)
theorem NR.lies {w : World} {B : Nat} {r : RI} (h : NR w B r) : Lies w r.a (hns (r.l ++ [mkH])) ∧ ∀ ad, r.a = some ad → ad.block < w.heap.size := by
  obtain ⟨g, h1, h2, h3⟩ := h
  have h4 := World.ownsRow.lt h3 g (by rw [h1]; rfl)
  obtain ⟨a, c, e, hl, _⟩ := GRow.lies h3
  cases e
  exact ⟨hl, fun ad e => by rw [h1] at e; cases e; exact h4.2⟩
theorem NR.apart {x : World} {B B' n : Nat} {v : Value} {xs : List Value} {r : RI} (h : GRow x B' 32 2 v n xs) (hr : NR x B r) : ∀ g, r.a = some ⟨g, 0, none⟩ → ¬ v.ownBlock = some g := by
  obtain ⟨g2, h1, h2, h3⟩ := hr
  intro g hg q
  exact grow_apart h h3 (by decide) g q (by rw [hg]; rfl)
/-- One more run in a row of runs. -/
theorem run_ri (x : World) (B : Nat) (v : Value) (rs : List RI) (hown : GRow x B 32 2 v rs.length (rowsC riC rs)) (r : RI) (hl : (rs.length + 1) * 32 ≤ 140737488355328) (hB : B ≤ x.heap.size) :
    ∃ v' x', (Builtin.append_ #[25, 25] 25 #[v, .slice (some ⟨x.heap.size, 0, none⟩) 1 1]).run Try.prog (x.alloc (.cells #[.int .i64 r.tx, .slice r.a r.l.length r.c] 32)) = .ok v' x' ∧ GRow x' B 32 2 v' (rs ++ [r]).length (rowsC riC (rs ++ [r])) ∧ Keep (fun z => v.ownBlock = some z) x x' := by
  obtain ⟨v', x', h1, h2, h3, h4⟩ := run_pushW Try.underlying25 info32 rfl (by decide) 25 (x.alloc (.cells #[.int .i64 r.tx, .slice r.a r.l.length r.c] 32)) B v rs.length (rowsC riC rs) (GRow.below hown (alloc_below _ _)) ⟨x.heap.size, 0, none⟩ 1 1 (rowsC riC [r]) rfl (lies_one riC x r #[.int .i64 r.tx, .slice r.a r.l.length r.c] 32 rfl) (rowsC_one riC (fun _ => rfl) _) hl (by decide) (by simp; omega)
  exact ⟨v', x', h1, by rw [rowsC_app, List.length_append]; exact h2, ((Keep.refl (fun z => v.ownBlock = some z) x).alloc _).grown h3 (fun g hg _ => hg)⟩
/-- Runs whose nets may point anywhere where they are empty. -/
structure RunsI (w : World) (a : Option Addr) (rs : List RI) : Prop where
  row : Lies w a (rowsC riC rs)
  nets : ∀ r ∈ rs, Lies w r.a (hns r.l)
  fit : ∀ r ∈ rs, ∀ x ∈ r.l, I64 x.2.1 ∧ I64 x.2.2
theorem RunsI.below {w w' : World} {a : Option Addr} {rs : List RI} (h : RunsI w a rs) (k : Below w.heap.size w w') : RunsI w' a rs :=
  ⟨h.row.below k, fun r hr => (h.nets r hr).below k, h.fit⟩
set_option maxHeartbeats 16000000 in
theorem lentRuns_any (ra : Option Addr) (rcap : Nat) (rs : List RI) (w : World) (h : RunsI w ra rs) (hl : (rs.length + 1) * 32 ≤ 140737488355328) (hn : ∀ r ∈ rs, (r.l.length + 1) * 24 ≤ 140737488355328) (hz : ∀ r ∈ rs, r.a = none → r.c = 0 ∧ r.l.length = 0) :
    Calls Try.prog 15 #[.slice ra rs.length rcap] w fun e w' => ∃ g c rs2, e = .returned (.slice (some ⟨g, 0, none⟩) rs.length c) ∧ rs.length + 1 ≤ c ∧ rs2.map rk = rs.map rk ∧ GRow w' w.heap.size 32 2 (.slice (some ⟨g, 0, none⟩) (rs.length + 1) c) (rs.length + 1) (rowsC riC (rs2 ++ [mkR])) ∧ (∀ r ∈ rs2, NR w' w.heap.size r) ∧ Below w.heap.size w w' := by
  have HR := hide h
  have HNN := hide hn
  have HZ := hide hz
  clear h hn hz
  go_enter Try.func15, Try.ntmps15
  generalize hN : w.heap.size = N at *
  have HN := hide hN
  clear hN
  go_wp2_with fail
  go_loopw [4, 3] (fun i lv wr => ∃ k : Nat, k ≤ rs.length ∧ i = .int .i64 k ∧ ∃ rs2 : List RI, rs2.map rk = (rs.map rk).take k ∧ GRow wr N 32 2 lv k (rowsC riC rs2) ∧ (∀ r ∈ rs2, NR wr N r) ∧ Below N w wr) (fun i _ _ => rs.length - (intOf i).toNat)
  case atStart => exact ⟨0, Nat.zero_le _, rfl, [], rfl, World.ownsRow_nil _ _ _ _, (fun r hr => by cases hr), Below.refl _ _⟩
  case round =>
    obtain ⟨k, hk, rfl, rs2, hm2, hrow, hnr, hb⟩ := hrel
    have hlen2 : rs2.length = k := by have := congrArg List.length hm2; simp at this; omega
    have hmap := hide hm2
    have swr : N ≤ wr.heap.size := by have := hb.size; have := HN.out; omega
    by_cases hlt : k < rs.length
    · have HTK := hide (show (rs.map rk).take (k + 1) = (rs.map rk).take k ++ [rk rs[k]] from by rw [List.take_succ_eq_append_getElem (by simpa using hlt)]; simp)
      have hmem : rs[k] ∈ rs := List.getElem_mem hlt
      have rw1 := HR.out.below (show Below w.heap.size w wr by rw [HN.out]; exact hb)
      obtain ⟨ab, ao, e2, hbl, c0, c1⟩ := ri_at rw1.row k hlt
      have abl : ab < N := by
        obtain ⟨ab2, ao2, e3, hbl2, _, _⟩ := ri_at HR.out.row k hlt
        rw [e2] at e3
        cases e3
        have := HN.out
        omega
      have hne := rw1.nets _ hmem
      have hnn := HNN.out _ hmem
      have hzz := HZ.out _ hmem
      subst e2
      generalize rs[k] = r at *
      obtain ⟨rt, raa, rcc, rl⟩ := r
      simp only at c0 c1 hne hnn hzz
      have HNE := hide hne
      have R0 := hide hrow
      have O0 := hide hnr
      have HB := hide hb
      clear hrow hnr hb rw1 hmem hne hm2
      go_upto_region 7 with (at_builtin; refine wpList_appW Try.underlying30 info74 rfl (by decide) (by decide) rfl (.tmp 12) (.tmp 17) rfl N (.slice none 0 0) 0 [] rfl (World.ownsRow_nil _ _ _ _) raa rl.length rcc (hns rl) rfl (hns_len rl) HNE.out (hns_one rl) hzz (by omega) swr ?_; intro v5 w5 q1 q2 q3; rw [Nat.zero_add, List.nil_append] at q1; obtain ⟨a1, c1', e1, -⟩ := GRow.lies q1; subst e1)
      have b5 : Below wr.heap.size wr w5 := (Below.refl _ _).grown q2 (Nat.le_refl _) (by nofun)
      have hfr : ∀ z, (Value.slice a1 rl.length c1').ownBlock = some z → wr.heap.size ≤ z := fun z hz2 => by
        rcases q3 with r | r
        · rw [r] at hz2; cases hz2
        · rw [r] at hz2; cases hz2; exact Nat.le_refl _
      have c0 := (b5.cell (p := ⟨ab, ao + k * 2, none⟩) (by show ab < _; omega)).trans c0
      have c1 := (b5.cell (p := ⟨ab, ao + k * 2 + 1, none⟩) (by show ab < _; omega)).trans c1
      have G5 := hide (GRow.below q1 (alloc_below w5 (.cells #[.int .i64 (-79), .int .i64 0, .int .i64 0] 74)))
      have R1 := hide (GRow.below R0.out b5)
      have O1 := hide (fun r hr => (O0.out r hr).keep (Keep.of_below (S := fun _ => False) b5) (fun _ _ q => q))
      have ofr := hide (fun r hr g hg => (NR.lt (O0.out r hr) g hg).2)
      have lvfr := hide (fun z (hz2 : u3.ownBlock = some z) => (World.ownsRow.lt R0.out z hz2).2)
      have B1 := hide (HB.out.trans (b5.mono swr))
      have s5 := b5.size
      clear q1 q2 q3 b5 R0 O0 HB HNE
      go_upto_region 8 with (at_builtin; refine wpList_appW Try.underlying30 info74 rfl (by decide) (by decide) rfl (.tmp 19) (.tmp 21) rfl N (.slice a1 rl.length c1') rl.length (hns rl) rfl G5.out (some ⟨w5.heap.size, 0, none⟩) 1 1 (hns [mkH]) rfl rfl (lies_one hnC w5 mkH #[.int .i64 (-79), .int .i64 0, .int .i64 0] 74 rfl) (hns_one [mkH]) nofun (by omega) (by simp; omega) ?_; intro v6 x5 q1 q2 q3; obtain ⟨gb, cb, e1, hcb⟩ := grow_open q1 (Nat.succ_pos _); subst e1)
      rw [← hns_app] at q1
      have ka := (Keep.refl (fun z => (Value.slice a1 rl.length c1').ownBlock = some z) w5).alloc (.cells #[.int .i64 (-79), .int .i64 0, .int .i64 0] 74)
      have kx := ka.grown q2 (fun g hg _ => hg)
      have N5 := hide q1
      have R5 := hide (GRow.keep R1.out kx (fun g hg q => by have := hfr _ q; have := lvfr.out _ hg; omega))
      have O5 := hide (fun r hr => (O1.out r hr).keep kx (fun g hg q => by have := hfr _ q; have := ofr.out r hr g hg; omega))
      have sN5 : N ≤ x5.heap.size := by have := kx.size; omega
      have B5 := hide (B1.out.trans (kx.below (B := N) (by omega) (fun z hz2 q => by have := hfr _ q; omega)))
      have c0 := (kx.cell (p := ⟨ab, ao + k * 2, none⟩) (by show ab < _; omega) (fun q => by have : wr.heap.size ≤ ab := hfr _ q; omega)).trans c0
      have c1 := (kx.cell (p := ⟨ab, ao + k * 2 + 1, none⟩) (by show ab < _; omega) (fun q => by have : wr.heap.size ≤ ab := hfr _ q; omega)).trans c1
      clear q1 q2 q3 ka kx G5 R1 O1 B1 ofr lvfr hfr
      refine wp_region_held_drew (S := fun wq => wq.cell? ⟨ab, ao + k * 2, none⟩ = some (.int .i64 rt) ∧ wq.cell? ⟨ab, ao + k * 2 + 1, none⟩ = some (.slice raa rl.length rcc)) (by kernel_rfl) ⟨c0, c1⟩ (fun hS => ?_)
      have R6 := hide (GRow.below R5.out (Below.refl _ _).drew)
      have N6 := hide (GRow.below N5.out (Below.refl _ _).drew)
      have O6 := hide (fun r (hr : r ∈ rs2) => (O5.out r hr).keep (Keep.of_below (S := fun _ => False) (Below.refl x5.heap.size x5).drew) (fun _ _ q => q))
      have B6 := hide B5.out.drew
      have d0 : x5.drew.cell? ⟨ab, ao + k * 2, none⟩ = some (.int .i64 rt) := c0
      have d1 : x5.drew.cell? ⟨ab, ao + k * 2 + 1, none⟩ = some (.slice raa rl.length rcc) := c1
      have sN6 : N ≤ x5.drew.heap.size := sN5
      clear R5 N5 O5 B5 c0 c1 sN5
      generalize x5.drew = x6 at *
      have s30 := fun wq => slice30 (g := gb) (n := rl.length + 1) (cap := cb) rl.length wq (by omega)
      refine take_at 0 (some 23) (v := ?_) rfl rfl (by kernel_rfl) (by kernel_rfl) (by kernel_rfl) (fun _ _ _ h => h) ⟨by rfl, ?_⟩ hS ?_
      rotate_left
      · intro wq hSw; go_simp; try rfl
      simp only [Act.put, List.setIfInBounds_toArray, List.set_cons_zero, List.set_cons_succ]
      refine take_at 1 (some 24) (v := ?_) rfl rfl (by kernel_rfl) (by kernel_rfl) (by kernel_rfl) (fun _ _ _ h => h) ⟨by rfl, ?_⟩ hS ?_
      rotate_left
      · intro wq hSw; go_simp; try rfl
      simp only [Act.put, List.setIfInBounds_toArray, List.set_cons_zero, List.set_cons_succ]
      refine take_at 2 (some 25) (v := ?_) rfl rfl (by kernel_rfl) (by kernel_rfl) (by kernel_rfl) (fun _ _ _ h => h) ⟨by rfl, ?_⟩ hS ?_
      rotate_left
      · intro wq hSw; go_simp; try rfl
      simp only [Act.put, List.setIfInBounds_toArray, List.set_cons_zero, List.set_cons_succ]
      refine take_at 3 (some 26) (v := ?_) rfl rfl (by kernel_rfl) (by kernel_rfl) (by kernel_rfl) (fun _ _ _ h => h) ⟨by rfl, ?_⟩ hS ?_
      rotate_left
      · intro wq hSw; go_simp; try rfl
      simp only [Act.put, List.setIfInBounds_toArray, List.set_cons_zero, List.set_cons_succ]
      refine take_at 4 (some 27) (v := ?_) rfl rfl (by kernel_rfl) (by kernel_rfl) (by kernel_rfl) (fun _ _ _ h => h) ⟨by rfl, ?_⟩ hS ?_
      rotate_left
      · intro wq hSw; go_simp; try rfl
      simp only [Act.put, List.setIfInBounds_toArray, List.set_cons_zero, List.set_cons_succ]
      refine take_at 5 (some 28) (v := ?_) rfl rfl (by kernel_rfl) (by kernel_rfl) (by kernel_rfl) (fun _ _ _ h => h) ⟨by rfl, ?_⟩ hS ?_
      rotate_left
      · intro wq hSw; obtain ⟨r0, r1⟩ := hSw; go_simp; try rfl
      simp only [Act.put, List.setIfInBounds_toArray, List.set_cons_zero, List.set_cons_succ]
      refine take_at 6 (some 29) (v := ?_) rfl rfl (by kernel_rfl) (by kernel_rfl) (by kernel_rfl) (fun _ _ _ h => h) ⟨by rfl, ?_⟩ hS ?_
      rotate_left
      · intro wq hSw; go_simp; try rfl
      simp only [Act.put, List.setIfInBounds_toArray, List.set_cons_zero, List.set_cons_succ]
      refine take_at 7 (some 30) (v := ?_) rfl rfl (by kernel_rfl) (by kernel_rfl) (by kernel_rfl) (fun _ _ _ h => h) ⟨by rfl, ?_⟩ hS ?_
      rotate_left
      · intro wq hSw; go_simp; try rfl
      simp only [Act.put, List.setIfInBounds_toArray, List.set_cons_zero, List.set_cons_succ]
      refine take_at 8 (some 31) (v := ?_) rfl rfl (by kernel_rfl) (by kernel_rfl) (by kernel_rfl) (fun _ _ _ h => h) ⟨by rfl, ?_⟩ hS ?_
      rotate_left
      · intro wq hSw; go_simp; try rfl
      simp only [Act.put, List.setIfInBounds_toArray, List.set_cons_zero, List.set_cons_succ]
      refine take_at 9 (some 32) (v := ?_) rfl rfl (by kernel_rfl) (by kernel_rfl) (by kernel_rfl) (fun _ _ _ h => h) ⟨by rfl, ?_⟩ hS ?_
      rotate_left
      · intro wq hSw; go_simp; try rfl
      simp only [Act.put, List.setIfInBounds_toArray, List.set_cons_zero, List.set_cons_succ]
      refine take_at 10 (some 33) (v := ?_) rfl rfl (by kernel_rfl) (by kernel_rfl) (by kernel_rfl) (fun _ _ _ h => h) ⟨by rfl, ?_⟩ hS ?_
      rotate_left
      · intro wq hSw; go_simp; try rfl
      simp only [Act.put, List.setIfInBounds_toArray, List.set_cons_zero, List.set_cons_succ]
      refine take_at 11 (some 34) (v := ?_) rfl rfl (by kernel_rfl) (by kernel_rfl) (by kernel_rfl) (fun _ _ _ h => h) ⟨by rfl, ?_⟩ hS ?_
      rotate_left
      · intro wq hSw; obtain ⟨r0, r1⟩ := hSw; go_simp; try rfl
      simp only [Act.put, List.setIfInBounds_toArray, List.set_cons_zero, List.set_cons_succ]
      refine take_at 12 (some 35) (v := ?_) rfl rfl (by kernel_rfl) (by kernel_rfl) (by kernel_rfl) (fun _ _ _ h => h) ⟨by rfl, ?_⟩ hS ?_
      rotate_left
      · intro wq hSw; go_simp; try rfl
      simp only [Act.put, List.setIfInBounds_toArray, List.set_cons_zero, List.set_cons_succ]
      refine take_at 13 (some 36) (v := ?_) rfl rfl (by kernel_rfl) (by kernel_rfl) (by kernel_rfl) (fun _ _ _ h => h) ⟨by rfl, ?_⟩ hS ?_
      rotate_left
      · intro wq hSw; go_simp; try rfl
      simp only [Act.put, List.setIfInBounds_toArray, List.set_cons_zero, List.set_cons_succ]
      refine take_at 14 (some 37) (v := ?_) rfl rfl (by kernel_rfl) (by kernel_rfl) (by kernel_rfl) (fun _ _ _ h => h) ⟨by rfl, ?_⟩ hS ?_
      rotate_left
      · intro wq hSw; go_simp; try rfl
      simp only [Act.put, List.setIfInBounds_toArray, List.set_cons_zero, List.set_cons_succ]
      obtain ⟨v7, x7, hap, hr7, hk7⟩ := run_ri x6 N u3 rs2 (by rw [hlen2]; exact R6.out) ⟨rt, some ⟨gb, 0, none⟩, cb, rl⟩ (by omega) sN6
      have ab6 := alloc_below x6 (.cells #[.int .i64 rt, .slice (some ⟨gb, 0, none⟩) rl.length cb] 32)
      have abN : ab < N := abl
      have nab : ∀ z, u3.ownBlock = some z → N ≤ z := fun z hz => (World.ownsRow.lt R6.out z hz).1
      have e0 := hide ((ab6.cell (p := ⟨ab, ao + k * 2, none⟩) (by show ab < _; omega)).trans d0)
      have e1 := hide ((ab6.cell (p := ⟨ab, ao + k * 2 + 1, none⟩) (by show ab < _; omega)).trans d1)
      have f0 := hide ((hk7.cell (p := ⟨ab, ao + k * 2, none⟩) (by show ab < _; omega) (fun q => by have : N ≤ ab := nab _ q; omega)).trans d0)
      have f1 := hide ((hk7.cell (p := ⟨ab, ao + k * 2 + 1, none⟩) (by show ab < _; omega) (fun q => by have : N ≤ ab := nab _ q; omega)).trans d1)
      have HAP := hide hap
      have K7 := hide hk7
      have R7 := hide hr7
      clear hap hk7 hr7 ab6
      refine wpAnyH_ready (rs := [15]) (by kernel_rfl) (by simp) ?_
      refine AllReadyH.cons rfl (fun K hK => ?_) AllReadyH.nil
      go_simp
      go_wp2_with fail
      refine hK.out _ _ ⟨e0.out, e1.out⟩ (fun hS => ?_)
      clear hK K
      (try simp only [Act.put, List.setIfInBounds_toArray, List.set_cons_zero, List.set_cons_succ])
      refine wpAnyH_ready (rs := [16]) (by kernel_rfl) (by simp) ?_
      refine AllReadyH.cons rfl (fun K hK => ?_) AllReadyH.nil
      refine wp_run 39 (.tmp 23) (.tmp 38) rfl rfl rfl rfl rfl HAP.out ?_
      refine hK.out _ _ ⟨f0.out, f1.out⟩ (fun hS => ?_)
      clear hK K
      (try simp only [Act.put, List.setIfInBounds_toArray, List.set_cons_zero, List.set_cons_succ])
      refine take_at 17 (some 3) (v := ?_) rfl rfl (by kernel_rfl) (by kernel_rfl) (by kernel_rfl) (fun _ _ _ h => h) ⟨by rfl, ?_⟩ hS ?_
      rotate_left
      · intro wq hSw; go_simp; try rfl
      simp only [Act.put, List.setIfInBounds_toArray, List.set_cons_zero, List.set_cons_succ]
      refine wpAnyH_done (by kernel_rfl) ?_ _
      have ap := fun (r : RI) (hr : NR x6 N r) => NR.apart R6.out hr
      have N7 := hide (show ∀ r ∈ rs2 ++ [(⟨rt, some ⟨gb, 0, none⟩, cb, rl⟩ : RI)], NR x7 N r from fun r hr => by
        rcases List.mem_append.1 hr with q | q
        · exact (O6.out r q).keep K7.out (fun g hg => ap r (O6.out r q) g hg)
        · simp at q
          subst q
          have nr : NR x6 N (⟨rt, some ⟨gb, 0, none⟩, cb, rl⟩ : RI) := ⟨gb, rfl, hcb, N6.out⟩
          exact nr.keep K7.out (fun g hg => ap _ nr g hg))
      have B7 := hide (B6.out.trans (K7.out.below sN6 (fun z hz q => by have := nab _ q; omega)))
      clear ap hS e0 e1 f0 f1 d0 d1 HAP O6 R6 N6 s30
      go_wp2_with fail
      go_roundw
      case rel =>
        refine ⟨k + 1, hlt, by go_num, rs2 ++ [(⟨rt, some ⟨gb, 0, none⟩, cb, rl⟩ : RI)], ?_, ?_, N7.out, ?_⟩
        · rw [List.map_append, hmap.out, HTK.out]; rfl
        · have := R7.out; rw [List.length_append, hlen2] at this; exact this
        · exact B7.out
      case measure => simp [intOf]; omega
    · have hek : k = rs.length := by omega
      subst hek
      have hfull : (rs.map rk).take rs.length = rs.map rk := by
        have e : (rs.map rk).length = rs.length := List.length_map _
        rw [← e, List.take_length]
      have HM := hide (show rs2.map rk = rs.map rk by rw [hmap.out, hfull])
      have R0 := hide hrow
      have O0 := hide hnr
      have HB := hide hb
      clear hrow hnr hb hm2
      obtain ⟨v7, x7, hap, hr7, hk7⟩ := run_ri wr N u3 rs2 (by rw [hlen2]; exact R0.out) mkR (by omega) swr
      rw [List.length_append, hlen2] at hr7
      obtain ⟨g, c, e1, hc⟩ := grow_open hr7 (Nat.succ_pos _)
      subst e1
      have s25 := fun wq => slice25 (g := g) (n := rs.length + 1) (cap := c) rs.length wq (by omega)
      have ap := fun (r : RI) (hr : NR wr N r) => NR.apart R0.out hr
      have N7 := hide (show ∀ r ∈ rs2, NR x7 N r from fun r hr => (O0.out r hr).keep hk7 (fun g hg => ap r (O0.out r hr) g hg))
      have B7 := hide (HB.out.trans (hk7.below swr (fun z hz2 q => by have := (World.ownsRow.lt R0.out _ q).1; omega)))
      have R7 := hide hr7
      have HAP := hide hap
      clear hap hr7 hk7 ap O0 R0 HB
      go_wp2_with (refine wpList_run rfl _ _ rfl rfl rfl HAP.out ?_)
      go_ret
      exact ⟨g, c, rfl, hc, rs2, HM.out, R7.out, N7.out, B7.out⟩
end Go.Proofs.Ytlloppalagddnaa
