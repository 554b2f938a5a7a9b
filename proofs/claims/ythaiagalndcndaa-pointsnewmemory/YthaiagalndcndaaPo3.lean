import Derived.Test.YthaiagalndcndaaPo2
namespace Go.Proofs.Ythaiagalndcndaa
open Go.RowKit Go.QK Go.Maps Go.QM Go.QP
set_option maxRecDepth 100000
/-! Lists of lists. -/
structure Ent where
  a : Option Addr
  c : Nat
  l : List Dr
def entV (x : Ent) : Value := .slice x.a x.l.length x.c
def EntOk (w : World) (x : Ent) : Prop := Lies w x.a (drs x.l) ∧ x.l.length ≤ 100000 ∧ (x.a = none → x.c = 0 ∧ x.l.length = 0)
theorem EntOk.below {w w' : World} {x : Ent} (h : EntOk w x) (hb : Below w.heap.size w w') : EntOk w' x := ⟨h.1.below hb, h.2⟩
abbrev flat (LL : List Ent) : List Dr := LL.flatMap Ent.l
theorem ent_at {w : World} {o : Option Addr} {LL : List Ent} (h : Lies w o (LL.map entV)) {k : Nat} (hk : k < LL.length) : ∃ b off, o = some ⟨b, off, none⟩ ∧ b < w.heap.size ∧ w.cell? ⟨b, off + k, none⟩ = some (entV LL[k]) :=
  h.cellAt k _ (by simp [hk])
theorem faultE_cons (d : Dr) (r : List Dr) : faultE (d :: r) = if mayE d = 0 then faultE r else mayE d := rfl
set_option maxHeartbeats 1000000 in
theorem faultOf_any (LL : List Ent) (o : Option Addr) (c : Nat) (w : World) (hL : Lies w o (LL.map entV)) (hE : ∀ x ∈ LL, EntOk w x) (hn : LL.length ≤ 1000) :
    Calls Try.prog 25 #[.slice o LL.length c] w fun e w' => e = .returned (.int .i64 (faultE (flat LL))) ∧ Below w.heap.size w w' := by
  have HL := hide hL
  have HE := hide hE
  obtain ⟨R, hR⟩ : ∃ R, R = faultE (flat LL) := ⟨_, rfl⟩
  rw [← hR]
  have HR := hide hR
  clear hL hE hR
  go_enter Try.func25, Try.ntmps25
  go_wp2
  go_loopw [10] (fun i wr => ∃ k : Nat, i = .int .i64 (k : Int) ∧ k ≤ LL.length ∧ R = faultE (flat (LL.drop k)) ∧ Below w.heap.size w wr) (fun i _ => LL.length - (intOf i).toNat)
  case atStart => exact ⟨0, rfl, Nat.zero_le _, HR.out, Below.refl _ _⟩
  case round =>
    obtain ⟨k, rfl, hk, hr, hb⟩ := hrel
    have HR1 := hide hr
    have B1 := hide hb
    clear hr hb HR
    by_cases hlt : k < LL.length
    · obtain ⟨b, off, rfl, hbl, hc0⟩ := ent_at HL.out hlt
      have hc : wr.cell? ⟨b, off + k, none⟩ = some (entV LL[k]) := (B1.out.cell (p := ⟨b, off + k, none⟩) hbl).trans hc0
      have hx := HE.out LL[k] (List.getElem_mem hlt)
      have hd : flat (LL.drop k) = LL[k].l ++ flat (LL.drop (k + 1)) := by rw [List.drop_eq_getElem_cons hlt]; rfl
      rw [hd] at HR1
      clear hd hc0
      generalize LL[k] = x at *
      obtain ⟨a, cx, l⟩ := x
      simp only [entV] at hc
      have HX := hide hx
      have hlen := hx.2.1
      simp only at hlen
      obtain ⟨rest, hrest⟩ : ∃ r, r = flat (LL.drop (k + 1)) := ⟨_, rfl⟩
      rw [← hrest] at HR1
      have HRE := hide hrest
      clear hrest
      clear hx
      go_wp2
      go_loopw [16] (fun i ws => ∃ j : Nat, i = .int .i64 (j : Int) ∧ j ≤ l.length ∧ R = faultE (l.drop j ++ rest) ∧ Below w.heap.size w ws) (fun i _ => l.length - (intOf i).toNat)
      case atStart => exact ⟨0, rfl, Nat.zero_le _, HR1.out, B1.out⟩
      case round =>
        obtain ⟨j, rfl, hj, hr, hb⟩ := hrel
        have HR2 := hide hr
        have B2 := hide hb
        clear hr hb HR1 B1 hc
        by_cases hjl : j < l.length
        · obtain ⟨b2, off2, ea, hb2, c0, c1⟩ := (HX.out.1.below B2.out).dr hjl
          simp only at ea
          subst ea
          have hd : l.drop j ++ rest = l[j] :: (l.drop (j + 1) ++ rest) := by rw [List.drop_eq_getElem_cons hjl]; rfl
          rw [hd, faultE_cons] at HR2
          generalize l[j] = d at *
          obtain ⟨p, s⟩ := d
          simp only at c0 c1
          have KM := fun w => gmay_any (p, s) w
          by_cases e0 : mayE (p, s) = 0
          · have HR3 := hide (HR2.out.trans (if_pos e0))
            rw [e0] at KM
            clear HR2 e0 hd
            go_wp2_with fail
            refine (KM _).mono ?_
            rintro e w2 ⟨rfl, q⟩
            have B3 := hide ((B2.out.alloc B2.out.size (.cells #[.int .i64 p, .int .i64 s] 28)).trans (q.mono (by have := B2.out.size; simp; omega)))
            clear q KM
            go_wp2_with fail
            go_roundw
            case rel => exact ⟨j + 1, by go_num, by omega, HR3.out, B3.out⟩
            case measure => simp [intOf]; omega
          · have HR3 := hide (HR2.out.trans (if_neg e0))
            generalize mayE (p, s) = q at *
            have e1 : (q != 0) = true := by simpa using e0
            clear HR2 hd
            go_wp2_with fail
            refine (KM _).mono ?_
            rintro e w2 ⟨rfl, qq⟩
            have B3 := hide ((B2.out.alloc B2.out.size (.cells #[.int .i64 p, .int .i64 s] 28)).trans (qq.mono (by have := B2.out.size; simp; omega)))
            clear qq KM
            go_wp2_with fail
            go_ret
            exact ⟨ret_int HR3.out.symm, B3.out⟩
        · have HR3 := hide (show R = faultE (flat (LL.drop (k + 1))) by have := HR2.out; rw [List.drop_of_length_le (by omega), HRE.out] at this; exact this)
          clear HR2
          go_wp2_with fail
          go_roundw
          case rel => first | exact ⟨k + 1, by go_num, by omega, HR3.out, B2.out⟩ | ((repeat apply Exists.intro); exact ⟨⟨k + 1, by go_num, by omega, HR3.out, B2.out⟩, rfl⟩)
          case measure => simp [intOf]; omega
    · have HR3 := hide (show R = 0 by have := HR1.out; rw [List.drop_of_length_le (by omega)] at this; exact this)
      clear HR1
      go_wp2
      go_ret
      exact ⟨ret_int HR3.out.symm, B1.out⟩

theorem own_empty {w : World} {B g cap : Nat} {cur : Array Value} (h : w.heap[g]? = some (.cells cur 28)) (hB : B ≤ g) (hs : cur.size = cap * 2) (hm : cap ≤ maxLen) : DRow w B (.slice (some ⟨g, 0, none⟩) 0 cap) [] :=
  ⟨rfl, .inr ⟨g, cap, cur, rfl, hB, h, Nat.zero_le _, hm, hs, rfl⟩⟩
theorem wpList_run2 {o : Oper} {a : Act} {x x' : World} {ops : Array Oper} {rest : List Oper} {Q : Exit → Act → World → Prop} {t t2 : TypeId} {v u v' : Value} (hgd : o.guard = none) (s r : Operand)
    (ho : o.op = .call { callee := .builtin .append, args := #[s, r], argTypes := #[t, t2] }) (hs : a.eval s = v) (hr : a.eval r = u) (hrun : (Builtin.append_ #[t, t2] o.type #[v, u]).run Try.prog x = .ok v' x')
    (h : wpList Try.prog ops Q rest (a.put o.dst v') x') : wpList Try.prog ops Q (o :: rest) a x := by
  refine wpList_plain hgd fun K hK => ?_
  have hrun : (execOp a.eval o).run Try.prog x = .ok (.value v') x' := by
    unfold execOp
    simp only [ho, resolve, invoke, builtin, Sem.run_bind, Sem.run_pure, Result.andThen_ok, List.map_toArray, List.map_cons, List.map_nil, hs, hr, hrun]
  unfold Oper.wp
  rw [hrun]
  exact hK _ _ h
theorem zeroCells_size (z : Array Value) (n : Nat) : (Builtin.zeroCells z n).size = n * z.size := by simp [Builtin.zeroCells]
set_option maxHeartbeats 1000000 in
theorem grow_any (n : Nat) (w : World) (hn : n ≤ 1000000) : Calls Try.prog 37 #[.slice none 0 0, .int .i64 (n : Int)] w fun e w' => ∃ v, e = .returned v ∧ DRow w' w.heap.size v [] ∧ Below w.heap.size w w' := by
  by_cases h0 : 0 < n
  · obtain ⟨i0, hi, hz0, hz1, hz2⟩ := info_parts info28
    have hrun := fun ty => Lib.run_append_nil_zeros (P := Try.prog) w 23 3 ty 28 i0 _ .i64 .i64 Try.underlying23 Try.underlying3 hi hz0 n h0 (by rw [hz1]; omega) (by omega) (by rw [hz2]; omega)
    obtain ⟨cap, hcap⟩ : ∃ cap, cap = grownCap w n 0 28 := ⟨_, rfl⟩
    have hc1 := grownCap_ge w n 0 28
    have hc2 := grownCap_le_maxLen w n 0 28 (by unfold maxLen; omega)
    rw [← hcap] at hrun hc1 hc2
    obtain ⟨cur, hcur⟩ : ∃ cur, cur = Builtin.zeroCells (Value.agg #[.int .i64 0, .int .i64 0]).cells n ++ Builtin.zeroCells (Value.agg #[.int .i64 0, .int .i64 0]).cells (cap - n) := ⟨_, rfl⟩
    have hsz : cur.size = cap * 2 := by
      have e2 : (Value.agg #[.int .i64 0, .int .i64 0]).cells.size = 2 := rfl
      rw [hcur, Array.size_append, zeroCells_size, zeroCells_size, e2, ← Nat.add_mul]
      congr 1
      omega
    rw [← hcur] at hrun
    have R := hide (show DRow (w.drew.alloc (.cells cur 28)) w.heap.size (.slice (some ⟨w.heap.size, 0, none⟩) 0 cap) [] from own_empty (by have := heap_alloc_last w.drew (.cells cur 28); exact this) (Nat.le_refl _) hsz hc2)
    have hB := hide (show Below w.heap.size w (w.drew.alloc (.cells cur 28)) from ((Below.refl w.heap.size w).drew).alloc (Nat.le_refl _) _)
    clear hcur hcap hsz hi hz0 hz1 hz2
    have HRUN := hide hrun
    clear hrun
    go_enter Try.func37, Try.ntmps37
    go_wp2_with (at_builtin; refine wpList_run2 rfl (.tmp _) (.tmp _) rfl rfl rfl (HRUN.out _) ?_)
    go_ret
    exact ⟨_, rfl, R.out, hB.out⟩
  · obtain rfl : n = 0 := by omega
    go_enter Try.func37, Try.ntmps37
    go_wp2
    go_ret
    exact ⟨_, rfl, World.ownsRow_nil w w.heap.size 28 2, Below.refl _ _⟩
end Go.Proofs.Ythaiagalndcndaa
