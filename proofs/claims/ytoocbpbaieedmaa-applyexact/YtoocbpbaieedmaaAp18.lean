import Derived.Test.YtoocbpbaieedmaaAp14
namespace Go.Proofs.Ytoocbpbaieedmaa
open Go.RowKit Go.QK Quota
set_option maxRecDepth 100000
abbrev recL (r : Rc) : List Value := (recA r).toList
/-- A store into block b leaves the page. -/
def Off (p : Pg) (t : At) (b : Nat) : Prop := ∀ x x', PIn x p t → Keep (fun k => k = b) x x' → PIn x' p t
theorem off_of {w0 : World} {p : Pg} {t : At} {b : Nat} (h : PIn w0 p t) (hb : w0.heap.size ≤ b) : Off p t b := by
  intro x x' hx hk
  refine ⟨?_, ?_, hx.nc, hx.ng, hx.cc, hx.cg⟩
  · rcases h.lc with q | ⟨bk, off, ha, hlt, -⟩
    · exact .inl q
    · exact hx.lc.keep hk (fun ad e => by rw [ha] at e; cases e; show ¬ bk = b; omega)
  · rcases h.lg with q | ⟨bk, off, ha, hlt, -⟩
    · exact .inl q
    · exact hx.lg.keep hk (fun ad e => by rw [ha] at e; cases e; show ¬ bk = b; omega)
theorem off_new {p : Pg} {t : At} {b : Nat} (h : ∀ ad : Addr, (t.a = some ad ∨ t.b = some ad) → b < ad.block) : Off p t b := fun _ _ hx hk => hx.keep hk (fun ad e => by have := h ad (.inl e); omega) (fun ad e => by have := h ad (.inr e); omega)
theorem run_snoc (p : Pg) (l : List Rc) (r : Rc) : runP p (l ++ [r]) = stepP (runP p l) r := by simp [runP]
theorem run_fit {p : Pg} (h : p.Fit) : (l : List Rc) → (∀ r ∈ l, r.Fit) → (runP p l).Fit := by
  intro l
  induction l generalizing p with
  | nil => exact fun _ => h
  | cons r l ih => exact fun hr => ih (step_fit h (hr r List.mem_cons_self)) (fun x hx => hr x (List.mem_cons_of_mem _ hx))
theorem take_next {α : Type} (l : List α) (k : Nat) (h : k < l.length) : l.take (k + 1) = l.take k ++ [l[k]] := by rw [List.take_add_one, List.getElem?_eq_getElem h]; rfl
structure AO (w wr : World) (N : Nat) (P : Pg) (u : At) : Prop where
  be : Below w.heap.size w wr
  pc : Cells wr N [.int .i64 P.num, .int .i64 P.lsn, .slice u.a P.cs.length u.c, .slice u.b P.gs.length u.d]
  rc : Cells wr (N + 1) [.int .i64 0, .int .i64 0, .slice none 0 0, .slice none 0 0]
  st : ∀ w', Keep (fun k => k = N ∨ k = N + 1) wr w' → PIn w' P u
theorem AO.below {w wr wz : World} {N : Nat} {P : Pg} {u : At} (h : AO w wr N P u) (hb : Below wr.heap.size wr wz) : AO w wz N P u := ⟨h.be.trans (hb.mono h.be.size), h.pc.below hb, h.rc.below hb, fun w' q => h.st w' ((Keep.of_below (S := fun k => k = N ∨ k = N + 1) hb).trans q (fun _ _ z => z))⟩
theorem AO.pin {w wr : World} {N : Nat} {P : Pg} {u : At} (h : AO w wr N P u) : PIn wr P u := h.st wr (Keep.refl _ _)
set_option maxHeartbeats 16000000 in
theorem allOf_any (p : Pg) (t : At) (l : List Rc) (sa : Option Addr) (sc : Nat) (w : World) (h : PIn w p t) (hf : p.Fit) (hl : Lies w sa (rowsC recL l)) (hr : ∀ r ∈ l, r.Fit) (hn : l.length ≤ 1000) : Calls Try.prog 16 #[pgV p t, .slice sa l.length sc] w fun e w' => ∃ u, e = .returned (pgV (runP p l) u) ∧ PIn w' (runP p l) u ∧ (∀ b, b < w.heap.size → Off p t b → Off (runP p l) u b) ∧ Below w.heap.size w w' := by
  show Calls Try.prog 16 #[.agg (pgA p.num p.lsn (.slice t.a p.cs.length t.c) (.slice t.b p.gs.length t.d)), .slice sa l.length sc] w _
  have HL := hide hl
  have HF := hide hf
  have HR := hide hr
  have HIN := hide h
  clear hl hf hr h
  go_enter Try.func16, Try.ntmps16
  go_upto_region 1 with fail
  refine named (P := Code.wp _ _ _ _) ?_
  intro w1 hw1
  obtain ⟨N, hN⟩ : ∃ N, N = w.heap.size := ⟨_, rfl⟩
  have b1 : Below w.heap.size w w1 := by rw [hw1]; exact bnext (alloc_below _ _) (alloc_below _ _) (Nat.le_refl _)
  have A1 := hide (show AO w w1 N p t from ⟨b1, by rw [hw1, hN]; exact (Cells.new w (pgA p.num p.lsn (.slice t.a p.cs.length t.c) (.slice t.b p.gs.length t.d)) 40).below (alloc_below _ _), by
    rw [hw1, hN]
    have q := Cells.new (w.alloc (.cells (pgA p.num p.lsn (.slice t.a p.cs.length t.c) (.slice t.b p.gs.length t.d)) 40)) #[.int .i64 0, .int .i64 0, .slice none 0 0, .slice none 0 0] 40
    rw [World.size_alloc] at q
    exact q, fun w' q => HIN.out.below (b1.trans (q.below b1.size (fun k hk z => by omega)))⟩)
  have HN := hide hN
  rw [← hN]
  clear hN hw1 b1 HIN
  go_wp2_with fail
  go_loopw [5] (fun v wr => ∃ (k : Nat) (u : At), v = .int .i64 (k : Int) ∧ k ≤ l.length ∧ AO w wr N (runP p (l.take k)) u ∧ (∀ b, b < w.heap.size → Off p t b → Off (runP p (l.take k)) u b)) (fun v _ => l.length - (intOf v).toNat)
  case atStart => exact ⟨0, t, rfl, Nat.zero_le _, by simpa [runP] using A1.out, fun b _ q => by simpa [runP] using q⟩
  case round =>
    clear A1
    obtain ⟨k, u0, rfl, hk, hA, hO⟩ := hrel
    have OK := hide hO
    clear hO
    have AK := hide hA
    have PF := hide (run_fit HF.out (l.take k) (fun r hr => HR.out r (List.mem_of_mem_take hr)))
    by_cases hlt : k < l.length
    · have nx := run_snoc p (l.take k) l[k]
      rw [← take_next l k hlt] at nx
      have NX := hide nx
      have FR := hide (HR.out l[k] (List.getElem_mem hlt))
      obtain ⟨sb, so, rfl, slt, sel⟩ := Lies.rowAt recL 17 (fun _ => rfl) HL.out k hlt (by decide)
      clear hA nx
      generalize l[k] = r at *
      obtain ⟨P, hP⟩ : ∃ P, P = runP p (l.take k) := ⟨_, rfl⟩
      rw [← hP] at AK PF NX OK
      obtain ⟨RA, hRA⟩ : ∃ A, A = recA r := ⟨_, rfl⟩
      have SR := hide (show RA.size = 17 by rw [hRA]; rfl)
      have RC := hide (show ∀ wq, Below wr.heap.size wr wq → ∀ j v, RA.toList[j]? = some v → wq.cell? ⟨sb, so + k * 17 + j, none⟩ = some v from fun wq hq j v hv => by
        rw [hRA] at hv
        have hb := AK.out.be
        exact ((hb.trans (hq.mono hb.size)).cell (p := ⟨sb, so + k * 17 + j, none⟩) slt).trans (sel j v hv))
      have KD := fun u w' h => done_at P u r w' h PF.out FR.out
      simp only [recV] at KD
      rw [← hRA] at KD
      obtain ⟨Q, hQ⟩ : ∃ Q, Q = doP P r := ⟨_, rfl⟩
      obtain ⟨E, hE⟩ : ∃ E, E = doE P r := ⟨_, rfl⟩
      obtain ⟨Y, hY⟩ : ∃ Y, Y = didB P r := ⟨_, rfl⟩
      rw [← hQ, ← hE, ← hY] at KD
      have ST := hide (show stepP P r = if E = 0 then Q else P by rw [hE, hQ]; rfl)
      clear hP hRA sel slt hQ hE hY
      go_upto_region 4 with fail
      go_cut [6, 7, 8] from 9 to 26 (fun v7 v8 v9 w' => ∃ qb u, v7 = ptr qb ∧ v8 = .bool Y ∧ v9 = .bool (E == 0) ∧ Cells w' qb [.int .i64 Q.num, .int .i64 Q.lsn, .slice u.a Q.cs.length u.c, .slice u.b Q.gs.length u.d] ∧ PIn w' Q u ∧ (∀ ad : Addr, (u.a = some ad ∨ u.b = some ad) → wr.heap.size ≤ ad.block) ∧ wr.heap.size ≤ qb ∧ Below wr.heap.size wr w')
      case first =>
        refine wp_region_held_drew (S := fun wq => Below wr.heap.size wr wq) (by kernel_rfl) (Below.refl _ _).drew (fun hS => ?_)
        generalize wr.drew = y0 at *
        have D6 : decide ((k : Int) < (l.length : Int)) = true := by simpa using hlt
        refine take_at 0 (some 16) (v := ?_) rfl rfl (by kernel_rfl) (by kernel_rfl) (by kernel_rfl) (fun _ _ _ h => h) ⟨by rfl, ?_⟩ hS ?_
        rotate_left
        · intro wq hSw; have qq := (AK.out.below hSw).pc; obtain ⟨q0, _⟩ := qq.get 0 _ rfl; obtain ⟨q1, _⟩ := qq.get 1 _ rfl; obtain ⟨q2, _⟩ := qq.get 2 _ rfl; obtain ⟨q3, _⟩ := qq.get 3 _ rfl; clear qq; go_simp; try rfl
        simp only [Act.put, List.setIfInBounds_toArray, List.set_cons_zero, List.set_cons_succ]
        refine take_at 1 (some 17) (v := ?_) rfl rfl (by kernel_rfl) (by kernel_rfl) (by kernel_rfl) (fun _ _ _ h => h) ⟨by rfl, ?_⟩ hS ?_
        rotate_left
        · intro wq hSw; go_simp; try rfl
        simp only [Act.put, List.setIfInBounds_toArray, List.set_cons_zero, List.set_cons_succ]
        refine take_at 2 (some 18) (v := ?_) rfl rfl (by kernel_rfl) (by kernel_rfl) (by kernel_rfl) (fun _ _ _ h => h) ⟨by rfl, ?_⟩ hS ?_
        rotate_left
        · intro wq hSw; go_simp; try rfl
        simp only [Act.put, List.setIfInBounds_toArray, List.set_cons_zero, List.set_cons_succ]
        refine take_at 3 (some 19) (v := ?_) rfl rfl (by kernel_rfl) (by kernel_rfl) (by kernel_rfl) (fun _ _ _ h => h) ⟨by rfl, ?_⟩ hS ?_
        rotate_left
        · intro wq hSw; go_simp; try rfl
        simp only [Act.put, List.setIfInBounds_toArray, List.set_cons_zero, List.set_cons_succ]
        refine take_at 4 (some 20) (v := .agg RA) rfl rfl (by kernel_rfl) (by kernel_rfl) (by kernel_rfl) (fun _ _ _ h => h) ⟨by rfl, fun wq hSw => exec_load38 rfl rfl (RC.out wq hSw) SR.out⟩ hS ?_
        simp only [Act.put, List.setIfInBounds_toArray, List.set_cons_zero, List.set_cons_succ]
        clear D6
        have LO := hide hS.size
        refine wpAnyH_ready (rs := [5, 10]) (by kernel_rfl) (by simp) ?_
        refine AllReadyH.cons rfl (fun K hK => ?_) (AllReadyH.cons rfl (fun K hK => ?_) AllReadyH.nil)
        · clear LO
          go_simp
          go_wp2_with fail
          refine (KD _ _ (AK.out.below hS).pin).mono ?_
          rintro e x3 ⟨u, rfl, i2, ub, hh⟩
          have s_x3 : Below wr.heap.size wr x3 := hS.trans (hh.mono hS.size)
          have J2 := hide i2
          have LBx := hide (show ∀ ad : Addr, (u.a = some ad ∨ u.b = some ad) → wr.heap.size ≤ ad.block from fun ad q => Nat.le_trans hS.size (ub ad q).1)
          clear i2
          have UB := hide ub
          clear ub
          clear hh hS
          go_wp2_with fail
          refine hK.out _ _ s_x3 (fun hS => ?_)
          clear hK K s_x3
          (try simp only [Act.put, List.setIfInBounds_toArray, List.set_cons_zero, List.set_cons_succ])
          refine take_at 6 (some 15) (v := ?_) rfl rfl (by kernel_rfl) (by kernel_rfl) (by kernel_rfl) (fun _ _ _ h => h) ⟨by rfl, ?_⟩ hS ?_
          rotate_left
          · intro wq hSw; go_simp; try rfl
          simp only [Act.put, List.setIfInBounds_toArray, List.set_cons_zero, List.set_cons_succ]
          refine take_at 7 (some 22) (v := ?_) rfl rfl (by kernel_rfl) (by kernel_rfl) (by kernel_rfl) (fun _ _ _ h => h) ⟨by rfl, ?_⟩ hS ?_
          rotate_left
          · intro wq hSw; go_simp; try rfl
          simp only [Act.put, List.setIfInBounds_toArray, List.set_cons_zero, List.set_cons_succ]
          refine take_at 8 (some 23) (v := ?_) rfl rfl (by kernel_rfl) (by kernel_rfl) (by kernel_rfl) (fun _ _ _ h => h) ⟨by rfl, ?_⟩ hS ?_
          rotate_left
          · intro wq hSw; go_simp; try rfl
          simp only [Act.put, List.setIfInBounds_toArray, List.set_cons_zero, List.set_cons_succ]
          refine take_at 9 (some 24) (v := ?_) rfl rfl (by kernel_rfl) (by kernel_rfl) (by kernel_rfl) (fun _ _ _ h => h) ⟨by rfl, ?_⟩ hS ?_
          rotate_left
          · intro wq hSw; go_simp; try rfl
          simp only [Act.put, List.setIfInBounds_toArray, List.set_cons_zero, List.set_cons_succ]
          have iu0 := J2
          clear J2
          have LO := hide hS.size
          refine wpAnyH_ready (rs := [10]) (by kernel_rfl) (by simp) ?_
          refine AllReadyH.cons rfl (fun K hK => ?_) AllReadyH.nil
          go_simp
          go_wp2_with fail
          refine hK.out _ _ (hS.alloc hS.size _) (fun hS => ?_)
          clear hK K
          (try simp only [Act.put, List.setIfInBounds_toArray, List.set_cons_zero, List.set_cons_succ])
          refine named (P := wpAnyH _ _ _ _ _ _ _ _) ?_
          intro xa hxa
          rw [← hxa] at hS
          obtain ⟨qb, hqb⟩ : ∃ qb, qb = x3.heap.size := ⟨_, rfl⟩
          have al : Below x3.heap.size x3 xa := by rw [hxa]; exact alloc_below _ _
          have Z := hide (show Cells xa qb [.int .i64 0, .int .i64 0, .slice none 0 0, .slice none 0 0] by rw [hxa, hqb]; exact Cells.new _ _ _)
          have J2 := hide (iu0.out.below al)
          have NQ := hide (show ∀ ad : Addr, (u.a = some ad ∨ u.b = some ad) → ¬ ad.block = qb from fun ad q => by have := (UB.out ad q).2; omega)
          have QB := hide (show wr.heap.size ≤ qb by rw [hqb]; exact LO.out)
          have UBx := hide (show ∀ ad : Addr, (u.a = some ad ∨ u.b = some ad) → ad.block < xa.heap.size from fun ad q => Nat.lt_of_lt_of_le (UB.out ad q).2 al.size)
          rw [← hqb]
          clear hxa hqb al iu0 LO
          have K8 := ((((Keep.refl (fun i => i = qb) xa).setCell (g := qb) (j := 0) (fun _ => rfl) (.int .i64 Q.num)).setCell (g := qb) (j := 1) (fun _ => rfl) (.int .i64 Q.lsn)).setCell (g := qb) (j := 2) (fun _ => rfl) (.slice u.a Q.cs.length u.c)).setCell (g := qb) (j := 3) (fun _ => rfl) (.slice u.b Q.gs.length u.d)
          have C8 := (((Z.out.stored (j := 0) (by simp) (.int .i64 Q.num)).stored (j := 1) (by simp) (.int .i64 Q.lsn)).stored (j := 2) (by simp) (.slice u.a Q.cs.length u.c)).stored (j := 3) (by simp) (.slice u.b Q.gs.length u.d)
          obtain ⟨y0, z0⟩ := Z.out.get 0 _ rfl
          obtain ⟨y1, z1⟩ := Z.out.get 1 _ rfl
          obtain ⟨y2, z2⟩ := Z.out.get 2 _ rfl
          obtain ⟨y3, z3⟩ := Z.out.get 3 _ rfl
          have HK8 := hide K8
          have HC8 := hide C8
          clear K8 C8
          have QLT := hide (Z.out.1)
          have S8 := hide (hS.trans (HK8.out.below hS.size (fun i hi q => by have := QB.out; omega)))
          clear hS
          refine wpAnyH_ready (rs := [11]) (by kernel_rfl) (by simp) ?_
          refine AllReadyH.cons rfl (fun K hK => ?_) AllReadyH.nil
          go_simp
          go_wp2_with fail
          refine hK.out _ _ S8.out (fun hS => ?_)
          clear hK K
          (try simp only [Act.put, List.setIfInBounds_toArray, List.set_cons_zero, List.set_cons_succ])
          refine take_at 12 (some 7) (v := ?_) rfl rfl (by kernel_rfl) (by kernel_rfl) (by kernel_rfl) (fun _ _ _ h => h) ⟨by rfl, ?_⟩ hS ?_
          rotate_left
          · intro wq hSw; go_simp; try rfl
          simp only [Act.put, List.setIfInBounds_toArray, List.set_cons_zero, List.set_cons_succ]
          refine take_at 13 (some 8) (v := ?_) rfl rfl (by kernel_rfl) (by kernel_rfl) (by kernel_rfl) (fun _ _ _ h => h) ⟨by rfl, ?_⟩ hS ?_
          rotate_left
          · intro wq hSw; go_simp; try rfl
          simp only [Act.put, List.setIfInBounds_toArray, List.set_cons_zero, List.set_cons_succ]
          clear hS
          refine wpAnyH_done (by kernel_rfl) ?_ _
          clear y0 z0 y1 z1 y2 z2 y3 z3
          have JF := hide (J2.out.keep HK8.out (fun ad q => NQ.out ad (.inl q)) (fun ad q => NQ.out ad (.inr q)))
          go_wp2_with fail
          go_meet
          exact ⟨qb, u, rfl, rfl, rfl, HC8.out, JF.out, LBx.out, QB.out, S8.out⟩
        · go_simp
          go_wp2_with fail
          refine hK.out _ _ (hS.alloc hS.size _) (fun hS => ?_)
          clear hK K
          (try simp only [Act.put, List.setIfInBounds_toArray, List.set_cons_zero, List.set_cons_succ])
          refine named (P := wpAnyH _ _ _ _ _ _ _ _) ?_
          intro xa hxa
          rw [← hxa] at hS
          obtain ⟨qb, hqb⟩ : ∃ qb, qb = y0.heap.size := ⟨_, rfl⟩
          have al : Below y0.heap.size y0 xa := by rw [hxa]; exact alloc_below _ _
          have Z := hide (show Cells xa qb [.int .i64 0, .int .i64 0, .slice none 0 0, .slice none 0 0] by rw [hxa, hqb]; exact Cells.new _ _ _)
          have QB := hide (show wr.heap.size ≤ qb by rw [hqb]; exact LO.out)
          rw [← hqb]
          clear hxa hqb al
          refine wpAnyH_ready (rs := [5]) (by kernel_rfl) (by simp) ?_
          refine AllReadyH.cons rfl (fun K hK => ?_) AllReadyH.nil
          go_simp
          go_wp2_with fail
          refine (KD _ _ (AK.out.below hS).pin).mono ?_
          rintro e x3 ⟨u, rfl, i2, ub, hh⟩
          have s_x3 : Below wr.heap.size wr x3 := hS.trans (hh.mono hS.size)
          have Zx3 := hide (Z.out.below hh)
          have J2 := hide i2
          have LBx := hide (show ∀ ad : Addr, (u.a = some ad ∨ u.b = some ad) → wr.heap.size ≤ ad.block from fun ad q => Nat.le_trans hS.size (ub ad q).1)
          clear i2
          have NQ := hide (show ∀ ad : Addr, (u.a = some ad ∨ u.b = some ad) → ¬ ad.block = qb from fun ad q => by have := (ub ad q).1; have := Z.out.1; omega)
          have UBx := hide (fun (ad : Addr) (q : u.a = some ad ∨ u.b = some ad) => (ub ad q).2)
          clear ub
          clear Z
          have Z := Zx3
          clear Zx3
          clear hh hS
          go_wp2_with fail
          refine hK.out _ _ s_x3 (fun hS => ?_)
          clear hK K s_x3
          (try simp only [Act.put, List.setIfInBounds_toArray, List.set_cons_zero, List.set_cons_succ])
          refine take_at 6 (some 15) (v := ?_) rfl rfl (by kernel_rfl) (by kernel_rfl) (by kernel_rfl) (fun _ _ _ h => h) ⟨by rfl, ?_⟩ hS ?_
          rotate_left
          · intro wq hSw; go_simp; try rfl
          simp only [Act.put, List.setIfInBounds_toArray, List.set_cons_zero, List.set_cons_succ]
          refine take_at 7 (some 22) (v := ?_) rfl rfl (by kernel_rfl) (by kernel_rfl) (by kernel_rfl) (fun _ _ _ h => h) ⟨by rfl, ?_⟩ hS ?_
          rotate_left
          · intro wq hSw; go_simp; try rfl
          simp only [Act.put, List.setIfInBounds_toArray, List.set_cons_zero, List.set_cons_succ]
          refine take_at 8 (some 23) (v := ?_) rfl rfl (by kernel_rfl) (by kernel_rfl) (by kernel_rfl) (fun _ _ _ h => h) ⟨by rfl, ?_⟩ hS ?_
          rotate_left
          · intro wq hSw; go_simp; try rfl
          simp only [Act.put, List.setIfInBounds_toArray, List.set_cons_zero, List.set_cons_succ]
          refine take_at 9 (some 24) (v := ?_) rfl rfl (by kernel_rfl) (by kernel_rfl) (by kernel_rfl) (fun _ _ _ h => h) ⟨by rfl, ?_⟩ hS ?_
          rotate_left
          · intro wq hSw; go_simp; try rfl
          simp only [Act.put, List.setIfInBounds_toArray, List.set_cons_zero, List.set_cons_succ]
          have K8 := ((((Keep.refl (fun i => i = qb) x3).setCell (g := qb) (j := 0) (fun _ => rfl) (.int .i64 Q.num)).setCell (g := qb) (j := 1) (fun _ => rfl) (.int .i64 Q.lsn)).setCell (g := qb) (j := 2) (fun _ => rfl) (.slice u.a Q.cs.length u.c)).setCell (g := qb) (j := 3) (fun _ => rfl) (.slice u.b Q.gs.length u.d)
          have C8 := (((Z.out.stored (j := 0) (by simp) (.int .i64 Q.num)).stored (j := 1) (by simp) (.int .i64 Q.lsn)).stored (j := 2) (by simp) (.slice u.a Q.cs.length u.c)).stored (j := 3) (by simp) (.slice u.b Q.gs.length u.d)
          obtain ⟨y0, z0⟩ := Z.out.get 0 _ rfl
          obtain ⟨y1, z1⟩ := Z.out.get 1 _ rfl
          obtain ⟨y2, z2⟩ := Z.out.get 2 _ rfl
          obtain ⟨y3, z3⟩ := Z.out.get 3 _ rfl
          have HK8 := hide K8
          have HC8 := hide C8
          clear K8 C8
          have QLT := hide (Z.out.1)
          have S8 := hide (hS.trans (HK8.out.below hS.size (fun i hi q => by have := QB.out; omega)))
          clear hS
          refine wpAnyH_ready (rs := [11]) (by kernel_rfl) (by simp) ?_
          refine AllReadyH.cons rfl (fun K hK => ?_) AllReadyH.nil
          go_simp
          go_wp2_with fail
          refine hK.out _ _ S8.out (fun hS => ?_)
          clear hK K
          (try simp only [Act.put, List.setIfInBounds_toArray, List.set_cons_zero, List.set_cons_succ])
          refine take_at 12 (some 7) (v := ?_) rfl rfl (by kernel_rfl) (by kernel_rfl) (by kernel_rfl) (fun _ _ _ h => h) ⟨by rfl, ?_⟩ hS ?_
          rotate_left
          · intro wq hSw; go_simp; try rfl
          simp only [Act.put, List.setIfInBounds_toArray, List.set_cons_zero, List.set_cons_succ]
          refine take_at 13 (some 8) (v := ?_) rfl rfl (by kernel_rfl) (by kernel_rfl) (by kernel_rfl) (fun _ _ _ h => h) ⟨by rfl, ?_⟩ hS ?_
          rotate_left
          · intro wq hSw; go_simp; try rfl
          simp only [Act.put, List.setIfInBounds_toArray, List.set_cons_zero, List.set_cons_succ]
          clear hS
          refine wpAnyH_done (by kernel_rfl) ?_ _
          clear y0 z0 y1 z1 y2 z2 y3 z3
          have JF := hide (J2.out.keep HK8.out (fun ad q => NQ.out ad (.inl q)) (fun ad q => NQ.out ad (.inr q)))
          go_wp2_with fail
          go_meet
          exact ⟨qb, u, rfl, rfl, rfl, HC8.out, JF.out, LBx.out, QB.out, S8.out⟩
      case rest =>
        obtain ⟨qb, u, rfl, rfl, rfl, hc, hi, hub, hqb, hb⟩ := hcut
        have Q5 := hide hc
        have I5 := hide hi
        have UB := hide hub
        have A5 := hide (AK.out.below hb)
        have LT := hide (show N + 1 < wr.heap.size from AK.out.rc.1)
        have QB := hide hqb
        clear hc hi hub hb hqb KD RC
        by_cases he : E = 0
        · have he' : (E == 0) = true := by simpa using he
          obtain ⟨p0, -⟩ := Q5.out.get 0 _ rfl
          obtain ⟨p1, -⟩ := Q5.out.get 1 _ rfl
          obtain ⟨p2, -⟩ := Q5.out.get 2 _ rfl
          obtain ⟨p3, -⟩ := Q5.out.get 3 _ rfl
          have K8 := hide (((((Keep.refl (fun i => i = N) wc).setCell (g := N) (j := 0) (fun _ => rfl) (.int .i64 Q.num)).setCell (g := N) (j := 1) (fun _ => rfl) (.int .i64 Q.lsn)).setCell (g := N) (j := 2) (fun _ => rfl) (.slice u.a Q.cs.length u.c)).setCell (g := N) (j := 3) (fun _ => rfl) (.slice u.b Q.gs.length u.d))
          have C8 := hide ((((A5.out.pc.stored (j := 0) (by simp) (.int .i64 Q.num)).stored (j := 1) (by simp) (.int .i64 Q.lsn)).stored (j := 2) (by simp) (.slice u.a Q.cs.length u.c)).stored (j := 3) (by simp) (.slice u.b Q.gs.length u.d))
          obtain ⟨y0, z0⟩ := A5.out.pc.get 0 _ rfl
          obtain ⟨y1, z1⟩ := A5.out.pc.get 1 _ rfl
          obtain ⟨y2, z2⟩ := A5.out.pc.get 2 _ rfl
          obtain ⟨y3, z3⟩ := A5.out.pc.get 3 _ rfl
          go_wp2_with fail
          go_roundw
          case rel =>
            refine ⟨k + 1, u, by go_num, by omega, ?_⟩
            have hOF : ∀ b, b < w.heap.size → Off p t b → Off Q u b := fun b hb _ => off_new (fun ad q => by have := UB.out ad q; have := AK.out.be.size; omega)
            have hq : runP p (l.take (k + 1)) = Q := by rw [NX.out, ST.out, if_pos he]
            rw [hq]
            have lt := LT.out
            refine ⟨?_, hOF⟩
            exact ⟨A5.out.be.trans (K8.out.below A5.out.be.size (fun i hi q => by have := HN.out; omega)), C8.out, A5.out.rc.keep K8.out (by omega), fun w' q => I5.out.keep ((Keep.mono K8.out (fun _ _ z => Or.inl z)).trans q (fun _ _ z => z)) (fun ad z => by have := UB.out ad (.inl z); omega) (fun ad z => by have := UB.out ad (.inr z); omega)⟩
          case measure => simp [intOf]; omega
        · have he' : (E == 0) = false := by simpa using he
          go_wp2_with fail
          go_roundw
          case rel =>
            refine ⟨k + 1, u0, by go_num, by omega, ?_⟩
            have hq : runP p (l.take (k + 1)) = P := by rw [NX.out, ST.out, if_neg he]
            rw [hq]
            exact ⟨A5.out, OK.out⟩
          case measure => simp [intOf]; omega
    · have hkl : k = l.length := by omega
      rw [hkl, List.take_length] at AK OK
      clear hA PF HL
      obtain ⟨P, hP⟩ : ∃ P, P = runP p l := ⟨_, rfl⟩
      rw [← hP] at AK OK
      have HP := hide hP
      clear hP
      obtain ⟨p0, -⟩ := AK.out.pc.get 0 _ rfl
      obtain ⟨p1, -⟩ := AK.out.pc.get 1 _ rfl
      obtain ⟨p2, -⟩ := AK.out.pc.get 2 _ rfl
      obtain ⟨p3, -⟩ := AK.out.pc.get 3 _ rfl
      have K8 := hide (((((Keep.refl (fun i => i = N + 1) wr).setCell (g := N + 1) (j := 0) (fun _ => rfl) (.int .i64 P.num)).setCell (g := N + 1) (j := 1) (fun _ => rfl) (.int .i64 P.lsn)).setCell (g := N + 1) (j := 2) (fun _ => rfl) (.slice u0.a P.cs.length u0.c)).setCell (g := N + 1) (j := 3) (fun _ => rfl) (.slice u0.b P.gs.length u0.d))
      have C8 := (((AK.out.rc.stored (j := 0) (by simp) (.int .i64 P.num)).stored (j := 1) (by simp) (.int .i64 P.lsn)).stored (j := 2) (by simp) (.slice u0.a P.cs.length u0.c)).stored (j := 3) (by simp) (.slice u0.b P.gs.length u0.d)
      obtain ⟨k0, _⟩ := C8.get 0 _ rfl
      obtain ⟨k1, _⟩ := C8.get 1 _ rfl
      obtain ⟨k2, _⟩ := C8.get 2 _ rfl
      obtain ⟨k3, _⟩ := C8.get 3 _ rfl
      clear C8
      obtain ⟨y0, z0⟩ := AK.out.rc.get 0 _ rfl
      obtain ⟨y1, z1⟩ := AK.out.rc.get 1 _ rfl
      obtain ⟨y2, z2⟩ := AK.out.rc.get 2 _ rfl
      obtain ⟨y3, z3⟩ := AK.out.rc.get 3 _ rfl
      go_wp2_with fail
      refine bodyPost_ret (v := .agg #[.int .i64 P.num, .int .i64 P.lsn, .slice u0.a P.cs.length u0.c, .slice u0.b P.gs.length u0.d]) (by simp only [results, Try.results16]; simp [go_sem, k0, k1, k2, k3]) rfl ?_
      rw [← HP.out]
      exact ⟨u0, rfl, AK.out.st _ (Keep.mono K8.out (fun _ _ z => Or.inr z)), OK.out, AK.out.be.trans (K8.out.below AK.out.be.size (fun i hi q => by have := HN.out; omega))⟩
end Go.Proofs.Ytoocbpbaieedmaa
