import Derived.Test.YtgpmghdoofcpaaaGreatG19
import Derived.Test.YtgpmghdoofcpaaaGreatG08
import Derived.Test.YtgpmghdoofcpaaaGreatG07
import Derived.Maps.AppendAt
namespace Go.Proofs.YtgpmghdoofcpaaaGreat.Lg
open Go.RowKit Go.QK
open Dv (hide bnext alloc_below load_arr store_arr slice_arr wp_load_arr wp_store_arr neq_arr)

section
variable {o : Oper} {a : Act} {w : World} {ops : Array Oper} {rest : List Oper} {Q : Exit → Act → World → Prop}
theorem wpList_load_arr (hgd : o.guard = none) (x : Operand) (ho : o.op = .load 150 x) (g : Nat) (hx : a.eval x = .pointer (some ⟨g, 0, none⟩)) (L : List Nat) (h : Arr w 150 g L) (hl : L.length = 512)
    (k : wpList Tryz.prog ops Q rest (a.put o.dst (.agg (bytesV L))) w) : wpList Tryz.prog ops Q (o :: rest) a w := by
  refine wpList_plain hgd fun K hK => ?_
  exact wp_load_arr x ho g hx L h hl (hK _ _ k)
theorem wpList_store_arr (hgd : o.guard = none) (x y : Operand) (ho : o.op = .store 150 x y) (g : Nat) (hx : a.eval x = .pointer (some ⟨g, 0, none⟩)) (L M : List Nat) (hy : a.eval y = .agg (bytesV M)) (h : Arr w 150 g L) (hl : L.length = 512) (hm : M.length = 512)
    (k : ∀ w', Arr w' 150 g M → Keep (fun b => b = g) w w' → wpList Tryz.prog ops Q rest (a.put o.dst undef) w') : wpList Tryz.prog ops Q (o :: rest) a w := by
  refine wpList_plain hgd fun K hK => ?_
  exact wp_store_arr x y ho g hx L M hy h hl hm fun w' h1 h2 => hK _ _ (k w' h1 h2)
theorem wpList_copy_arr (hgd : o.guard = none) (d s : Operand) (ho : o.op = .call { callee := .builtin .copy, args := #[d, s], argTypes := #[80, 80] }) (g off n c : Nat) (hd : a.eval d = .slice (some ⟨g, off, none⟩) n c)
    (sp : Option Addr) (b : List Nat) (sc : Nat) (hs : a.eval s = .slice sp b.length sc) (hb : Bytes w sp b) (L : List Nat) (h : Arr w 150 g L) (hl : L.length = 512) (hn : b.length ≤ n) (ho2 : off + n ≤ 512)
    (k : ∀ w', Arr w' 150 g (splice L off b) → Keep (fun b => b = g) w w' → wpList Tryz.prog ops Q rest (a.put o.dst (goInt b.length)) w') : wpList Tryz.prog ops Q (o :: rest) a w := by
  by_cases h0 : b = []
  · subst h0
    refine wpList_copy_nothing hgd d s 80 80 ho 5 Tryz.underlying80 (by kernel_rfl) _ _ _ _ _ _ hd hs (by simp) ?_
    exact k w (by rw [splice_nil]; exact h) (Keep.refl _ _)
  · rcases hb with hb | ⟨q, qo, rfl, hq, hc⟩
    · exact absurd (by simpa [ints] using hb) h0
    · have hg : w.heap[g]? = some (.cells (bytesV L) 150 (0, 0)) := h
      refine wpList_copy_own hgd d s 80 80 ho 5 Tryz.underlying80 (by kernel_rfl) g off n c ⟨q, qo, none⟩ b.length sc hd hs (bytesV L) 150 hg ((ints b).map (Value.int .u8)) (by rw [show b.length.min n = b.length from Nat.min_eq_left hn]; simp [ints]) ?_ (by simp [ints, hl]; omega) ?_ ?_
      · intro j v hj
        simp only [List.getElem?_map, Option.map_eq_some_iff] at hj
        obtain ⟨x, hx, rfl⟩ := hj
        obtain ⟨hlt, rfl⟩ := List.getElem?_eq_some_iff.1 hx
        have := hc j hlt
        rw [addr_add]
        simpa [hlt] using this
      · intro v hv
        simp only [List.mem_map] at hv
        obtain ⟨x, _, rfl⟩ := hv
        rfl
      · have e : ((bytesV L).toList.take off ++ ((ints b).map (Value.int .u8) ++ (bytesV L).toList.drop (off + ((ints b).map (Value.int .u8)).length))).toArray = bytesV (splice L off b) := by
          simp [bytesV, ints, splice]
        rw [e]
        have e2 : ((ints b).map (Value.int .u8)).length = b.length := by simp [ints]
        rw [e2]
        exact k _ (setRow_heap w g _ _ 150 (0, 0) h) (setRow_keep w g _)
end

set_option maxRecDepth 100000 in
set_option maxHeartbeats 1000000 in
theorem filled_any (s : Nat) (sp : Option Addr) (b : List Nat) (c : Nat) (w : World) (hs : s ≤ 1000000) (hb : Bytes w sp b) (hl : b.length ≤ 505) :
    Calls Tryz.prog 83 #[.int .i64 (s : Int), .slice sp b.length c] w fun e w' => e = .returned (.agg (bytesV (filledB s b))) ∧ Below w.heap.size w w' := by
  have Z := Dv.zero_run
  obtain ⟨w1, hw1⟩ : ∃ w1, w1 = w.alloc (.cells (bytesV zerosB) 150) := ⟨_, rfl⟩
  have b1 : Below w.heap.size w w1 := by rw [hw1]; exact alloc_below _ _
  have a1 : Arr w1 150 w.heap.size zerosB := by rw [hw1]; exact Arr.new w 150 zerosB
  have K1 := hide (frame_any s b.length w1 hs (by omega))
  have HW := hide hw1
  have lF := frameB_length s b.length
  have lB : (splice (frameB s b.length) 7 b).length = 512 := filledB_length hl
  have HB := hide hb
  clear hw1 hb
  show Calls _ _ _ _ fun e w' => e = .returned (.agg (bytesV (splice (frameB s b.length) 7 b))) ∧ _
  generalize frameB s b.length = F at *
  obtain ⟨G, hG⟩ : ∃ G, splice F 7 b = G := ⟨_, rfl⟩
  rw [hG] at lB ⊢
  have HG := hide hG
  clear hG
  go_enter Tryz.func83, Tryz.ntmps83
  go_wp2_with fail
  rw [← HW.out]
  refine K1.out.mono ?_
  rintro e w2 ⟨rfl, b2⟩
  have a2 := a1.below b2
  have B2 := bnext b1 b2 (Nat.le_refl _)
  have z2 := Nat.lt_of_lt_of_le a1.lt b2.size
  clear K1 HW a1 b1 b2
  have a3 := hide (a2.below (alloc_below w2 (.cells (bytesV zerosB) 150)))
  have B3 := hide (bnext B2 (alloc_below w2 (.cells (bytesV zerosB) 150)) (Nat.le_refl _))
  have d3 := hide (Arr.new w2 150 zerosB)
  go_wp2_with (refine wpList_store_arr rfl (.tmp 5) (.tmp 9) rfl w2.heap.size rfl zerosB F rfl d3.out zerosB_length lF ?_)
  intro w4 d4 k4
  have a4 := hide (a3.out.keep k4 (by omega))
  have B4 := hide (B3.out.trans (k4.below (by simp; omega) (fun k hk => by omega)))
  have D4 := hide d4
  clear a3 B3 d3 a2 B2 k4 d4
  go_wp2_with (refine wpList_copy_arr rfl (.tmp 10) (.tmp 11) rfl w2.heap.size 7 505 505 rfl sp b c rfl (Seen.below HB.out B4.out) F D4.out lF hl (by omega) ?_)
  intro w5 d5 k5
  have a5 := a4.out.keep k5 (by omega)
  have B5 := B4.out.trans (k5.below (by have := D4.out.lt; omega) (fun k hk => by omega))
  rw [HG.out] at d5
  have D5 := hide d5
  obtain ⟨w9, X9, h9, k9⟩ := Dv.cells_arr (M := G) a5 zerosB_length lB
  have B9 := hide (B5.trans (k9.below (by have := B5.size; omega) (fun k hk => by omega)))
  clear a4 B4 D4 k5 d5 HB a5
  go_wp2_with (refine wpList_load_arr rfl (.tmp 5) rfl w2.heap.size rfl G D5.out lB ?_)
  have L9 := load_arr h9 lB
  clear D5 B5 k9 h9
  go_wp2_with fail
  refine bodyPost_ret (v := .agg (bytesV G)) ?_ rfl ⟨rfl, B9.out⟩
  simp only [Instr.loadAt, Instr.sureAddr, Sem.run_bind, Sem.run_pure, Result.andThen] at L9
  simp [results, Tryz.results83, asAddr, L9]
end Go.Proofs.YtgpmghdoofcpaaaGreat.Lg

namespace Go.Proofs.YtgpmghdoofcpaaaGreat
open Go.RowKit Go.QK

set_option maxRecDepth 100000
theorem info63 : (Tryz.prog.info? 55).map (fun i => (i.zero, i.size, i.bytes)) = some (some (.agg #[.int .i64 0, .int .i64 0, .bool false, .bool false]), 4, 24) := by kernel_rfl
theorem info65 : (Tryz.prog.info? 57).map (fun i => (i.zero, i.size, i.bytes)) = some (some (.agg #[.int .i64 0, .int .i64 0]), 2, 16) := by kernel_rfl
theorem info_of {e : TypeId} {z : Value} {s b : Nat} (hin : (Tryz.prog.info? e).map (fun i => (i.zero, i.size, i.bytes)) = some (some z, s, b)) : ∃ i0, Tryz.prog.info? e = some i0 ∧ i0.zero = some z ∧ i0.size = s ∧ i0.bytes = b := by
  cases hq : Tryz.prog.info? e with
  | none => rw [hq] at hin; cases hin
  | some i0 =>
    rw [hq] at hin
    simp only [Option.map_some, Option.some.injEq, Prod.mk.injEq] at hin
    exact ⟨i0, rfl, hin⟩

/-- A row of the program's own: its cells. -/
abbrev GRow (w : World) (B : Nat) (e : TypeId) (size : Nat) (v : Value) (n : Nat) (xs : List Value) : Prop := w.ownsRow B e size v n xs
theorem GRow.keep {S : Nat → Prop} {w w' : World} {B : Nat} {e : TypeId} {size n : Nat} {v : Value} {xs : List Value} (h : GRow w B e size v n xs) (hb : Keep S w w') (hn : ∀ g, v.ownBlock = some g → ¬ S g) : GRow w' B e size v n xs := by
  refine ⟨h.1, ?_⟩
  rcases h.2 with q | ⟨g, cap, cur, q, hbg, hg, rest⟩
  · exact .inl q
  · have hlt := (World.ownsRow.lt h g (by rw [q]; rfl)).2
    exact .inr ⟨g, cap, cur, q, hbg, (hb.block g hlt (hn g (by rw [q]; rfl))).trans hg, rest⟩
theorem GRow.below {w w' : World} {B : Nat} {e : TypeId} {size n : Nat} {v : Value} {xs : List Value} (h : GRow w B e size v n xs) (hb : Below w.heap.size w w') : GRow w' B e size v n xs :=
  GRow.keep h (Keep.of_below (S := fun _ => False) hb) (fun _ _ => id)
theorem GRow.mono {w : World} {B B' : Nat} {e : TypeId} {size n : Nat} {v : Value} {xs : List Value} (h : GRow w B e size v n xs) (hb : B' ≤ B) : GRow w B' e size v n xs := by
  refine ⟨h.1, ?_⟩
  rcases h.2 with q | ⟨g, cap, cur, q, hbg, rest⟩
  · exact .inl q
  · exact .inr ⟨g, cap, cur, q, Nat.le_trans hb hbg, rest⟩
theorem GRow.lies {w : World} {B : Nat} {e : TypeId} {size n : Nat} {v : Value} {xs : List Value} (h : GRow w B e size v n xs) : ∃ a c, v = .slice a n c ∧ Lies w a xs ∧ n ≤ c ∧ c ≤ maxLen ∧ (a = none → c = 0) ∧ (∀ ad, a = some ad → ad.off = 0 ∧ ad.spot = none) := by
  have hlt := World.ownsRow.lt h
  have hcs := fun g (hg : v.ownBlock = some g) => World.ownsRow.cells h hg
  obtain ⟨h1, h2⟩ := h
  rcases h2 with ⟨rfl, rfl⟩ | ⟨g, cap, cur, rfl, hbg, hg, hn, hm, hs, ht⟩
  · exact ⟨none, 0, rfl, .inl (List.length_eq_zero_iff.1 (by simpa using h1)), Nat.le_refl _, by unfold maxLen; omega, fun _ => rfl, nofun⟩
  · refine ⟨some ⟨g, 0, none⟩, cap, rfl, ?_, hn, hm, nofun, ?_⟩
    · refine .inr ⟨g, 0, rfl, (hlt g rfl).2, fun i hi => ?_⟩
      have := hcs g rfl i xs[i] (List.getElem?_eq_getElem hi)
      rw [addr_add] at this
      exact this
    · intro ad q
      cases q
      exact ⟨rfl, rfl⟩

/-- 'append(v, x..)' of a row of the program's own. -/
theorem run_pushR {t e : TypeId} {z : Value} {size bytes : Nat} (hu : Tryz.prog.underlying t = some (.slice e)) (hin : (Tryz.prog.info? e).map (fun i => (i.zero, i.size, i.bytes)) = some (some z, size, bytes)) (hz : z.cells.size = size) (hs : 0 < size) (hby : bytes ≤ 100) (ty : TypeId) (x : World)
    (B : Nat) (v : Value) (n : Nat) (xs : List Value) (hown : GRow x B e size v n xs) (ad : Addr) (m c : Nat) (news : List Value) (hl : news.length = m * size) (hnews : Lies x (some ad) news) (h1 : ∀ u ∈ news, u.oneCell' = true) (h63 : n + m ≤ 2000000) (hB : B ≤ x.heap.size) :
    ∃ v' x', (Builtin.append_ #[t, t] ty #[v, .slice (some ad) m c]).run Tryz.prog x = .ok v' x' ∧ GRow x' B e size v' (n + m) (xs ++ news) ∧ x.grownBy x' v.ownBlock ∧ (v'.ownBlock = v.ownBlock ∨ v'.ownBlock = some x.heap.size) := by
  obtain ⟨i0, hi, h0, h2, h3⟩ := info_of hin
  obtain ⟨v', w', hr, q2, q3, q4, q5⟩ := run_append_own_at (P := Tryz.prog) x B t ty e i0 z size bytes hu hi h0 h2 h3 hz hs v n xs hown ad m c news hl
    (by
      intro j u hj
      obtain ⟨b, off, e1, _, hc⟩ := hnews.cellAt j u hj
      cases e1
      rw [addr_add]
      exact hc) h1 (by unfold maxLen; omega) (by
      have : (n + m) * bytes ≤ 2000000 * 100 := Nat.mul_le_mul h63 hby
      omega) hB
  exact ⟨v', w', hr, q2, q3, q5⟩
theorem liveC_one (l : LiveM) : ∀ u ∈ liveC l, u.oneCell' = true := by intro u hu; simp [liveC] at hu; rcases hu with rfl | rfl | rfl | rfl <;> rfl
theorem dirtyC_one (l : DirtyM) : ∀ u ∈ dirtyC l, u.oneCell' = true := by intro u hu; simp [dirtyC] at hu; rcases hu with rfl | rfl <;> rfl
abbrev LRow (w : World) (B : Nat) (v : Value) (ls : List LiveM) : Prop := GRow w B 55 4 v ls.length (liveCs ls)
abbrev DRow (w : World) (B : Nat) (v : Value) (ls : List DirtyM) : Prop := GRow w B 57 2 v ls.length (dirtyCs ls)
theorem run_pushL (ty : TypeId) (x : World) (B : Nat) (v : Value) (ls : List LiveM) (hown : LRow x B v ls) (ad : Addr) (y : LiveM) (hc : Lies x (some ad) (liveC y)) (h63 : ls.length + 1 ≤ 2000000) (hB : B ≤ x.heap.size) :
    ∃ v' x', (Builtin.append_ #[39, 39] ty #[v, .slice (some ad) 1 1]).run Tryz.prog x = .ok v' x' ∧ LRow x' B v' (ls ++ [y]) ∧ x.grownBy x' v.ownBlock ∧ (v'.ownBlock = v.ownBlock ∨ v'.ownBlock = some x.heap.size) := by
  obtain ⟨v', x', h1, h2, h3, h4⟩ := run_pushR Tryz.underlying39 info63 rfl (by decide) (by decide) ty x B v ls.length (liveCs ls) hown ad 1 1 (liveC y) rfl hc (liveC_one y) h63 hB
  exact ⟨v', x', h1, by simpa [LRow, liveCs] using h2, h3, h4⟩
theorem run_pushD (ty : TypeId) (x : World) (B : Nat) (v : Value) (ls : List DirtyM) (hown : DRow x B v ls) (ad : Addr) (y : DirtyM) (hc : Lies x (some ad) (dirtyC y)) (h63 : ls.length + 1 ≤ 2000000) (hB : B ≤ x.heap.size) :
    ∃ v' x', (Builtin.append_ #[40, 40] ty #[v, .slice (some ad) 1 1]).run Tryz.prog x = .ok v' x' ∧ DRow x' B v' (ls ++ [y]) ∧ x.grownBy x' v.ownBlock ∧ (v'.ownBlock = v.ownBlock ∨ v'.ownBlock = some x.heap.size) := by
  obtain ⟨v', x', h1, h2, h3, h4⟩ := run_pushR Tryz.underlying40 info65 rfl (by decide) (by decide) ty x B v ls.length (dirtyCs ls) hown ad 1 1 (dirtyC y) rfl hc (dirtyC_one y) h63 hB
  exact ⟨v', x', h1, by simpa [DRow, dirtyCs] using h2, h3, h4⟩
/-- A builtin whose run is known, in a drawn region and in a plain one. -/
theorem wp_run {o : Oper} {a : Act} {x x' : World} {K : Act → World → Prop} {Q : Exit → Act → World → Prop} {cond : Bool} {t : TypeId} {v u v' : Value} (d : Nat) (s r : Operand) (hc : cond = true) (hd : o.dst = some d)
    (ho : o.op = .call { callee := .builtin .append, args := #[s, r], argTypes := #[t, t] }) (hs : a.eval s = v) (hr : a.eval r = u) (hrun : (Builtin.append_ #[t, t] o.type #[v, u]).run Tryz.prog x = .ok v' x')
    (h : K (a.put (some d) v') x') : if cond = true then Oper.wp Tryz.prog o a x K Q else K (a.put o.dst undef) x := by
  rw [if_pos hc]
  have hrun : (execOp a.eval o).run Tryz.prog x = .ok (.value v') x' := by
    unfold execOp
    simp only [ho, resolve, invoke, builtin, Sem.run_bind, Sem.run_pure, Result.andThen_ok, List.map_toArray, List.map_cons, List.map_nil, hs, hr, hrun]
  unfold Oper.wp
  rw [hrun]
  show K (a.put o.dst v') x'
  rw [hd]
  exact h
theorem wpList_run {o : Oper} {a : Act} {x x' : World} {ops : Array Oper} {rest : List Oper} {Q : Exit → Act → World → Prop} {t : TypeId} {v u v' : Value} (hgd : o.guard = none) (s r : Operand)
    (ho : o.op = .call { callee := .builtin .append, args := #[s, r], argTypes := #[t, t] }) (hs : a.eval s = v) (hr : a.eval r = u) (hrun : (Builtin.append_ #[t, t] o.type #[v, u]).run Tryz.prog x = .ok v' x')
    (h : wpList Tryz.prog ops Q rest (a.put o.dst v') x') : wpList Tryz.prog ops Q (o :: rest) a x := by
  refine wpList_plain hgd fun K hK => ?_
  have hrun : (execOp a.eval o).run Tryz.prog x = .ok (.value v') x' := by
    unfold execOp
    simp only [ho, resolve, invoke, builtin, Sem.run_bind, Sem.run_pure, Result.andThen_ok, List.map_toArray, List.map_cons, List.map_nil, hs, hr, hrun]
  unfold Oper.wp
  rw [hrun]
  exact hK _ _ h
end Go.Proofs.YtgpmghdoofcpaaaGreat
