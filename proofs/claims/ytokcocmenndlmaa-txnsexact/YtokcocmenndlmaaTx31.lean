import Derived.Test.YtokcocmenndlmaaTx30
namespace Go.Proofs.Ytokcocmenndlmaa
open Go.RowKit Go.QK Go.Maps Go.QM Go.QT
set_option maxRecDepth 100000
abbrev dC (d : Int × Int) : List Value := [.int .i64 d.1, .int .i64 d.2]
theorem info130 : (Try.prog.info? 130).map (fun i => (i.zero, i.size, i.bytes)) = some (some (.agg #[.int .i64 0, .int .i64 0]), 2, 16) := by kernel_rfl
theorem lies_arr (w : World) (cs : Array Value) (t : TypeId) : Lies (w.alloc (.cells cs t)) (some ⟨w.heap.size, 0, none⟩) cs.toList := by
  have h := Cells.new w cs t
  refine .inr ⟨w.heap.size, 0, rfl, h.1, fun i hi => ?_⟩
  have q := (h.2 i (by simpa using hi)).1
  rw [Nat.zero_add]
  exact q
theorem rows2_one (l : List (Int × Int)) : ∀ u ∈ rowsC dC l, u.oneCell' = true := by
  intro u hu
  unfold rowsC at hu
  obtain ⟨x, -, hx⟩ := List.mem_flatMap.1 hu
  simp at hx
  rcases hx with rfl | rfl <;> rfl
theorem row_pos2 {w : World} {B n e sz : Nat} {v : Value} {xs : List Value} (h : GRow w B e sz v n xs) (hn : 0 < n) : ∃ g cap, v = .slice (some ⟨g, 0, none⟩) n cap ∧ B ≤ g ∧ g < w.heap.size ∧ Lies w (some ⟨g, 0, none⟩) xs ∧ n ≤ cap ∧ cap ≤ maxLen := by
  obtain ⟨a, c, ea, hl, h1, h2, -⟩ := GRow.lies h
  have hlt := World.ownsRow.lt h
  rcases h.2 with ⟨_, q⟩ | ⟨g, cap, cur, q, _⟩
  · omega
  · rw [q] at ea
    cases ea
    exact ⟨g, c, q, (hlt g (by rw [q]; rfl)).1, (hlt g (by rw [q]; rfl)).2, hl, h1, h2⟩
theorem slice_to2 {t e : TypeId} (ht : Try.prog.underlying t = some (.slice e)) (hz : ∀ w, (Go.sizeOf e).run Try.prog w = .ok 2 w) (a : Addr) (n cap k : Nat) (w : World) (h : k ≤ n) (h2 : n ≤ cap) :
    (Instr.slice t (.slice (some a) n cap) none (some (.int .i64 k)) none).run Try.prog w = .ok (.slice (some a) k cap) w := by
  have h3 : k ≤ cap := by omega
  go_simp
theorem lentFin {x0 x3 : World} {pb rb : Nat} {p z : List Value} (hp : Cells x0 pb p) (hz : Cells x0 rb z) (hne : pb ≠ rb) (hb : Below x0.heap.size x0 x3) (j : Nat) (hj : j < p.length) (u : Value) {e sz k : Nat} {v : Value} {xs : List Value} (hr : GRow x3 x0.heap.size e sz v k xs) :
    Cells (x3.setCell ⟨pb, j, none⟩ u) pb (p.set j u) ∧ Cells (x3.setCell ⟨pb, j, none⟩ u) rb z ∧ GRow (x3.setCell ⟨pb, j, none⟩ u) x0.heap.size e sz v k xs ∧ Keep (fun q => q = pb) x0 (x3.setCell ⟨pb, j, none⟩ u) := by
  have k1 : Keep (fun q => q = pb) x3 (x3.setCell ⟨pb, j, none⟩ u) := (Keep.refl (fun q => q = pb) x3).setCell (g := pb) (j := j) (fun _ => rfl) u
  refine ⟨(hp.below hb).stored hj u, (hz.below hb).keep k1 (fun q => hne q.symm), GRow.keep hr k1 (fun g hg q => ?_), (Keep.of_below (S := fun q => q = pb) hb).trans k1 (fun _ _ q => q)⟩
  have := (World.ownsRow.lt hr g hg).1
  have := hp.1
  omega
theorem push0L (x : World) (B : Nat) (a : Option Addr) (n c : Nat) (cs : List Value) (hcs : cs.length = n * 4) (hl : Lies x a cs) (hn : a = none → c = 0 ∧ n = 0) (h1 : ∀ u ∈ cs, u.oneCell' = true) (h100 : n ≤ 1000) (hB : B ≤ x.heap.size) :
    ∃ v1 x1, (Builtin.append_ #[33, 33] 33 #[.slice none 0 0, .slice a n c]).run Try.prog x = .ok v1 x1 ∧ GRow x1 B 26 4 v1 n cs ∧ x.grownBy x1 none := by
  cases a with
  | none =>
    obtain ⟨rfl, rfl⟩ := hn rfl
    obtain rfl : cs = [] := List.eq_nil_of_length_eq_zero (by omega)
    refine ⟨.slice none 0 0, x, ?_, World.ownsRow_nil _ _ _ _, World.grownBy.refl _ _⟩
    go_simp
  | some ad =>
    obtain ⟨v', x', r1, r2, r3, -⟩ := run_pushR Try.underlying33 info26 rfl (by decide) (by decide) 33 x B (.slice none 0 0) 0 [] (World.ownsRow_nil _ _ _ _) ad n c cs hcs hl h1 (by omega) hB
    exact ⟨v', x', r1, by simpa using r2, r3⟩
theorem lentAL (x0 : World) (a : Option Addr) (n c : Nat) (cs : List Value) (mk : Array Value) (hcs : cs.length = n * 4) (hmk : mk.toList.length = 1 * 4) (hl : Lies x0 a cs) (hn : a = none → c = 0 ∧ n = 0) (h1 : ∀ u ∈ cs, u.oneCell' = true) (h2 : ∀ u ∈ mk.toList, u.oneCell' = true) (h100 : n ≤ 1000) :
    ∃ v1 x1 g cap x3, (Builtin.append_ #[33, 33] 33 #[.slice none 0 0, .slice a n c]).run Try.prog x0 = .ok v1 x1 ∧ Below x0.heap.size x0 x1 ∧ (Builtin.append_ #[33, 33] 33 #[v1, .slice (some ⟨x1.heap.size, 0, none⟩) 1 1]).run Try.prog (x1.alloc (.cells mk 26)) = .ok (.slice (some ⟨g, 0, none⟩) (n + 1) cap) x3 ∧ Below x0.heap.size x0 x3 ∧ GRow x3 x0.heap.size 26 4 (.slice (some ⟨g, 0, none⟩) (n + 1) cap) (n + 1) (cs ++ mk.toList) ∧ n + 1 ≤ cap := by
  obtain ⟨v1, x1, r1, o1, g1⟩ := push0L x0 x0.heap.size a n c cs hcs hl hn h1 h100 (Nat.le_refl _)
  have b1 : Below x0.heap.size x0 x1 := (Below.refl x0.heap.size x0).grown g1 (Nat.le_refl _) (fun q hq => by cases hq)
  have b2 : Below x0.heap.size x0 (x1.alloc (.cells mk 26)) := b1.alloc b1.size _
  obtain ⟨v3, x3, r3, o3, g3, -⟩ := run_pushR Try.underlying33 info26 rfl (by decide) (by decide) 33 (x1.alloc (.cells mk 26)) x0.heap.size v1 n cs (GRow.below o1 (alloc_below _ _)) ⟨x1.heap.size, 0, none⟩ 1 1 mk.toList hmk (lies_arr _ _ _) h2 (by omega) b2.size
  obtain ⟨g, cap, rfl, -, -, -, hc, -⟩ := row_pos2 o3 (by omega)
  exact ⟨v1, x1, g, cap, x3, r1, b1, r3, b2.trans ((Below.refl x0.heap.size _).grown g3 b2.size (fun q hq => (World.ownsRow.lt o1 q hq).1)), o3, hc⟩
theorem lentBL (x0 : World) (a : Option Addr) (n c : Nat) (cs : List Value) (mk : Array Value) (hcs : cs.length = n * 4) (hmk : mk.toList.length = 1 * 4) (hl : Lies x0 a cs) (hn : a = none → c = 0 ∧ n = 0) (h1 : ∀ u ∈ cs, u.oneCell' = true) (h2 : ∀ u ∈ mk.toList, u.oneCell' = true) (h100 : n ≤ 1000) :
    ∃ v1 x1 g cap x3, (Builtin.append_ #[33, 33] 33 #[.slice none 0 0, .slice a n c]).run Try.prog (x0.alloc (.cells mk 26)) = .ok v1 x1 ∧ Below x0.heap.size x0 x1 ∧ (Builtin.append_ #[33, 33] 33 #[v1, .slice (some ⟨x0.heap.size, 0, none⟩) 1 1]).run Try.prog x1 = .ok (.slice (some ⟨g, 0, none⟩) (n + 1) cap) x3 ∧ Below x0.heap.size x0 x3 ∧ GRow x3 x0.heap.size 26 4 (.slice (some ⟨g, 0, none⟩) (n + 1) cap) (n + 1) (cs ++ mk.toList) ∧ n + 1 ≤ cap := by
  have b0 : Below x0.heap.size x0 (x0.alloc (.cells mk 26)) := alloc_below _ _
  obtain ⟨v1, x1, r1, o1, g1⟩ := push0L (x0.alloc (.cells mk 26)) x0.heap.size a n c cs hcs (hl.below b0) hn h1 h100 b0.size
  have b1' : Below (x0.alloc (.cells mk 26)).heap.size (x0.alloc (.cells mk 26)) x1 := (Below.refl _ _).grown g1 (Nat.le_refl _) (fun q hq => by cases hq)
  have b1 : Below x0.heap.size x0 x1 := b0.trans (b1'.mono b0.size)
  obtain ⟨v3, x3, r3, o3, g3, -⟩ := run_pushR Try.underlying33 info26 rfl (by decide) (by decide) 33 x1 x0.heap.size v1 n cs o1 ⟨x0.heap.size, 0, none⟩ 1 1 mk.toList hmk ((lies_arr _ _ _).below b1') h2 (by omega) b1.size
  obtain ⟨g, cap, rfl, -, -, -, hc, -⟩ := row_pos2 o3 (by omega)
  exact ⟨v1, x1, g, cap, x3, r1, b1, r3, b1.trans ((Below.refl x0.heap.size _).grown g3 b1.size (fun q hq => (World.ownsRow.lt o1 q hq).1)), o3, hc⟩
theorem push0D (x : World) (B : Nat) (a : Option Addr) (n c : Nat) (cs : List Value) (hcs : cs.length = n * 2) (hl : Lies x a cs) (hn : a = none → c = 0 ∧ n = 0) (h1 : ∀ u ∈ cs, u.oneCell' = true) (h100 : n ≤ 1000) (hB : B ≤ x.heap.size) :
    ∃ v1 x1, (Builtin.append_ #[24, 24] 24 #[.slice none 0 0, .slice a n c]).run Try.prog x = .ok v1 x1 ∧ GRow x1 B 130 2 v1 n cs ∧ x.grownBy x1 none := by
  cases a with
  | none =>
    obtain ⟨rfl, rfl⟩ := hn rfl
    obtain rfl : cs = [] := List.eq_nil_of_length_eq_zero (by omega)
    refine ⟨.slice none 0 0, x, ?_, World.ownsRow_nil _ _ _ _, World.grownBy.refl _ _⟩
    go_simp
  | some ad =>
    obtain ⟨v', x', r1, r2, r3, -⟩ := run_pushR Try.underlying24 info130 rfl (by decide) (by decide) 24 x B (.slice none 0 0) 0 [] (World.ownsRow_nil _ _ _ _) ad n c cs hcs hl h1 (by omega) hB
    exact ⟨v', x', r1, by simpa using r2, r3⟩
theorem lentAD (x0 : World) (a : Option Addr) (n c : Nat) (cs : List Value) (mk : Array Value) (hcs : cs.length = n * 2) (hmk : mk.toList.length = 1 * 2) (hl : Lies x0 a cs) (hn : a = none → c = 0 ∧ n = 0) (h1 : ∀ u ∈ cs, u.oneCell' = true) (h2 : ∀ u ∈ mk.toList, u.oneCell' = true) (h100 : n ≤ 1000) :
    ∃ v1 x1 g cap x3, (Builtin.append_ #[24, 24] 24 #[.slice none 0 0, .slice a n c]).run Try.prog x0 = .ok v1 x1 ∧ Below x0.heap.size x0 x1 ∧ (Builtin.append_ #[24, 24] 24 #[v1, .slice (some ⟨x1.heap.size, 0, none⟩) 1 1]).run Try.prog (x1.alloc (.cells mk 130)) = .ok (.slice (some ⟨g, 0, none⟩) (n + 1) cap) x3 ∧ Below x0.heap.size x0 x3 ∧ GRow x3 x0.heap.size 130 2 (.slice (some ⟨g, 0, none⟩) (n + 1) cap) (n + 1) (cs ++ mk.toList) ∧ n + 1 ≤ cap := by
  obtain ⟨v1, x1, r1, o1, g1⟩ := push0D x0 x0.heap.size a n c cs hcs hl hn h1 h100 (Nat.le_refl _)
  have b1 : Below x0.heap.size x0 x1 := (Below.refl x0.heap.size x0).grown g1 (Nat.le_refl _) (fun q hq => by cases hq)
  have b2 : Below x0.heap.size x0 (x1.alloc (.cells mk 130)) := b1.alloc b1.size _
  obtain ⟨v3, x3, r3, o3, g3, -⟩ := run_pushR Try.underlying24 info130 rfl (by decide) (by decide) 24 (x1.alloc (.cells mk 130)) x0.heap.size v1 n cs (GRow.below o1 (alloc_below _ _)) ⟨x1.heap.size, 0, none⟩ 1 1 mk.toList hmk (lies_arr _ _ _) h2 (by omega) b2.size
  obtain ⟨g, cap, rfl, -, -, -, hc, -⟩ := row_pos2 o3 (by omega)
  exact ⟨v1, x1, g, cap, x3, r1, b1, r3, b2.trans ((Below.refl x0.heap.size _).grown g3 b2.size (fun q hq => (World.ownsRow.lt o1 q hq).1)), o3, hc⟩
theorem lentBD (x0 : World) (a : Option Addr) (n c : Nat) (cs : List Value) (mk : Array Value) (hcs : cs.length = n * 2) (hmk : mk.toList.length = 1 * 2) (hl : Lies x0 a cs) (hn : a = none → c = 0 ∧ n = 0) (h1 : ∀ u ∈ cs, u.oneCell' = true) (h2 : ∀ u ∈ mk.toList, u.oneCell' = true) (h100 : n ≤ 1000) :
    ∃ v1 x1 g cap x3, (Builtin.append_ #[24, 24] 24 #[.slice none 0 0, .slice a n c]).run Try.prog (x0.alloc (.cells mk 130)) = .ok v1 x1 ∧ Below x0.heap.size x0 x1 ∧ (Builtin.append_ #[24, 24] 24 #[v1, .slice (some ⟨x0.heap.size, 0, none⟩) 1 1]).run Try.prog x1 = .ok (.slice (some ⟨g, 0, none⟩) (n + 1) cap) x3 ∧ Below x0.heap.size x0 x3 ∧ GRow x3 x0.heap.size 130 2 (.slice (some ⟨g, 0, none⟩) (n + 1) cap) (n + 1) (cs ++ mk.toList) ∧ n + 1 ≤ cap := by
  have b0 : Below x0.heap.size x0 (x0.alloc (.cells mk 130)) := alloc_below _ _
  obtain ⟨v1, x1, r1, o1, g1⟩ := push0D (x0.alloc (.cells mk 130)) x0.heap.size a n c cs hcs (hl.below b0) hn h1 h100 b0.size
  have b1' : Below (x0.alloc (.cells mk 130)).heap.size (x0.alloc (.cells mk 130)) x1 := (Below.refl _ _).grown g1 (Nat.le_refl _) (fun q hq => by cases hq)
  have b1 : Below x0.heap.size x0 x1 := b0.trans (b1'.mono b0.size)
  obtain ⟨v3, x3, r3, o3, g3, -⟩ := run_pushR Try.underlying24 info130 rfl (by decide) (by decide) 24 x1 x0.heap.size v1 n cs o1 ⟨x0.heap.size, 0, none⟩ 1 1 mk.toList hmk ((lies_arr _ _ _).below b1') h2 (by omega) b1.size
  obtain ⟨g, cap, rfl, -, -, -, hc, -⟩ := row_pos2 o3 (by omega)
  exact ⟨v1, x1, g, cap, x3, r1, b1, r3, b1.trans ((Below.refl x0.heap.size _).grown g3 b1.size (fun q hq => (World.ownsRow.lt o1 q hq).1)), o3, hc⟩
end Go.Proofs.Ytokcocmenndlmaa
