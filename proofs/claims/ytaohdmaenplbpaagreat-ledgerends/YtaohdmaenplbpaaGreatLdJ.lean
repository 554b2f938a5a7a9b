import Derived.Test.YtaohdmaenplbpaaGreatBC
import Derived.Laws.MakeOwn
set_option linter.all false
namespace Go.Proofs.YtaohdmaenplbpaaGreat
open Go.RowKit Go.QK Quota Go.Maps Go.QM
set_option maxRecDepth 100000

theorem sortO (B : Nat) (v : Value) (ks : List Int) (w : World) (h : Owns .i64 3 w B v ks) (hl : ks.length < 4611686018427387904) :
    Calls Tryz.prog 55 #[v] w fun r w' => r = .returned (.tuple #[]) ∧ Owns .i64 3 w' B v (ks.mergeSort fun x y => decide (x ≤ y)) ∧ Keep (fun x => v.ownBlock = some x) w w' := by
  rcases h.2 with ⟨q, q2⟩ | ⟨g, cap, cur, q, _⟩
  · have e : ks = [] := List.eq_nil_of_length_eq_zero q2
    subst q e
    refine (sort_nil w).mono ?_
    rintro r w' ⟨rfl, rfl⟩
    exact ⟨rfl, by simpa using h, Keep.refl _ _⟩
  · exact sort_any B v ks w h (by rw [q]; exact fun r => by cases r) hl
def netL (l : Led) (tx id : Int) : Int := match getM l.K id with | some x => netV x.c.e.nets tx | none => 0
abbrev hdC (l : Led) (tx id : Int) : List Value := [.int .i64 tx, .int .i64 id, .int .i64 (netL l tx id)]
theorem info53 : (Tryz.prog.info? 53).map (fun i => (i.zero, i.size, i.bytes)) = some (some (.agg #[.int .i64 0, .int .i64 0, .int .i64 0]), 3, 24) := by kernel_rfl
theorem lies_lit (w : World) (cs : Array Value) (t : TypeId) : Lies (w.alloc (.cells cs t)) (some ⟨w.heap.size, 0, none⟩) cs.toList := by
  have h := Cells.new w cs t
  refine .inr ⟨w.heap.size, 0, rfl, h.1, fun i hi => ?_⟩
  have q := (h.2 i (by simpa using hi)).1
  rw [Nat.zero_add]
  exact q
/-- What a transaction holds, by counter. -/
def heldKs (l : Led) (tx : Int) : List Int := (idsOf l.helds tx).mergeSort fun x y => decide (x ≤ y)
set_option maxHeartbeats 8000000 in
theorem holdings_any (lab : Nat → Nat) (B : Nat) (l : Led) (tx : Int) (w : World) (h : PL lab B w l) (hx : I64 tx) :
    Calls Tryz.prog 17 #[ptr l.lb, .int .i64 tx] w fun r w' => ∃ v, r = .returned v ∧ GRow w' w.heap.size 53 3 v (heldKs l tx).length (rowsC (hdC l tx) (heldKs l tx)) ∧ Below w.heap.size w w' := by
  obtain ⟨a, cap, hv, hseen, hnil, hcap, hmax⟩ := (h.heldO tx).seen
  have hlen := h.lenI tx
  have CL := cloneI_any a (idsOf l.helds tx) cap w hseen hcap hnil (by omega)
  have hr := any_run lawK Tryz.underlying106 zeroS h.hm (keyI hx)
  rw [h.heldD tx, hv] at hr
  obtain ⟨k2, _⟩ := h.box.get 2 _ rfl
  have hin : ∀ id, id ∈ heldKs l tx → ∃ x, getM l.K id = some x ∧ I64 id := fun id hid => by
    unfold heldKs at hid
    rw [List.mem_mergeSort] at hid
    obtain ⟨c, hc, _⟩ := (h.hok.iff tx id).1 hid
    have hi := (h.ok.ids _ (getM_mem hc)).1
    simp only at hi
    rw [getC] at hc
    cases q : getM l.K id with
    | none => rw [q] at hc; cases hc
    | some x => exact ⟨x, rfl, by unfold I64; omega⟩
  have hkl : (heldKs l tx).length = (idsOf l.helds tx).length := by unfold heldKs; rw [List.length_mergeSort]
  have hks : heldKs l tx = (idsOf l.helds tx).mergeSort fun x y => decide (x ≤ y) := rfl
  have HP := hide h
  have HL := hide h.lt
  generalize heldKs l tx = ks at *
  generalize idsOf l.helds tx = ids at *
  clear h hseen hnil hcap hmax hv
  go_enter Tryz.func17, Tryz.ntmps17
  go_wp2_with fail
  refine CL.mono ?_
  rintro r x1 ⟨v1, rfl, o1, _, b1⟩
  obtain ⟨a1, c1, rfl, -, -, -, -⟩ := o1.seen
  have S1 := hide (sortO w.heap.size _ ids x1 o1 (by omega))
  rw [← hks] at S1
  have HKL := hide hkl
  clear hks hkl
  have hB1 := hide (fun g hg => (World.ownsRow.lt o1 g hg).1)
  have P1 := hide (HP.out.below b1)
  have B1 := hide b1
  clear hr k2 CL o1 b1 HP
  go_wp2_with fail
  refine S1.out.mono ?_
  rintro r x2 ⟨rfl, o2, k2⟩
  have q2 : Below w.heap.size x1 x2 := k2.below B1.out.size (fun z hz q => by have := hB1.out z q; omega)
  have P2 := hide (plUnder P1.out q2 HL.out)
  have B2 := hide (B1.out.trans q2)
  have O2 := hide o2
  obtain ⟨i0, hi0, hz0, hz1, hz2⟩ := info_of info53
  obtain ⟨x3, hmk, o3, g3⟩ := run_makeSlice_owned (P := Tryz.prog) (w := x2) w.heap.size 48 53 i0 _ 3 Tryz.underlying48 hi0 hz0 hz1 .i64 .i64 ids.length (by omega) (by rw [hz2]; omega) (by unfold maxLen; omega) B2.out.size
  have b3 : Below x2.heap.size x2 x3 := (Below.refl _ _).grown g3 (Nat.le_refl _) (by nofun)
  have P3 := hide (P2.out.below b3)
  have O3 := hide (O2.out.below b3)
  have B3 := hide (B2.out.trans (b3.mono B2.out.size))
  have G3 := hide o3
  have D3 := hide (show ∀ g, (Value.slice a1 ids.length c1).ownBlock = some g → g ≠ x2.heap.size from fun g hg q => by have := (World.ownsRow.lt O2.out g hg).2; omega)
  clear S1 o2 k2 q2 P1 B1 P2 B2 o3 g3 b3 hi0 hz0 hz1 hz2 O2
  go_wp2_with fail
  clear hmk
  go_loopw [6, 25] (fun v6 v wr => ∃ (i : Nat) (a6 : Option Addr) (c6 : Nat), v = .int .i64 (i : Int) ∧ v6 = .slice a6 i c6 ∧ i ≤ ks.length ∧ GRow wr w.heap.size 53 3 (.slice a6 i c6) i (rowsC (hdC l tx) (ks.take i)) ∧ PL lab B wr l ∧ Owns .i64 3 wr w.heap.size (.slice a1 ids.length c1) ks ∧ (∀ g, (Value.slice a1 ids.length c1).ownBlock = some g → (Value.slice a6 i c6).ownBlock ≠ some g) ∧ Below w.heap.size w wr) (fun _ v _ => ks.length - (intOf v).toNat)
  case atStart => exact ⟨0, _, _, rfl, rfl, Nat.zero_le _, G3.out, P3.out, O3.out, fun g hg q => D3.out g hg (by cases q; rfl), B3.out⟩
  case round =>
    obtain ⟨i, a6, c6, rfl, rfl, hi, g6, p6, o6, d6, b6⟩ := hrel
    have G6 := hide g6
    have P6 := hide p6
    have O6 := hide o6
    have D6 := hide d6
    have B6 := hide b6
    clear g6 p6 o6 d6 b6 G3 P3 O3 B3 D3
    by_cases hlt : i < ids.length
    · have hlt2 : i + 1 ≤ ks.length := by have := HKL.out; omega
      obtain ⟨id, hid⟩ : ∃ id, ks[i]? = some id := ⟨_, List.getElem?_eq_getElem (by omega)⟩
      obtain ⟨x, hkx, hii⟩ := hin id (List.mem_of_getElem? hid)
      obtain ⟨g, cap', ha, _⟩ := O6.out.form (by omega)
      simp only [Value.slice.injEq] at ha
      obtain ⟨rfl, -, rfl⟩ := ha
      have c0 : wr.cell? ⟨g, i, none⟩ = some (.int .i64 id) := by
        have := World.ownsRow.cells O6.out rfl i (.int .i64 id) (by rw [List.getElem?_map, hid]; rfl)
        rw [addr_add] at this
        simpa using this
      have htake : ks.take (i + 1) = ks.take i ++ [id] := by rw [List.take_add_one, hid]; rfl
      have hnet : netL l tx id = netV x.c.e.nets tx := by unfold netL; rw [hkx]
      have KN := fun w' (h : PE w' x.b x.m x.c.e) => net_any x.b x.m x.c.e tx w' h hx
      have hr := any_run lawK Tryz.underlying104 zeroE P6.out.cm (keyI hii)
      rw [getM_mapV entV, hkx] at hr
      simp only [Option.map_some, Option.getD_some] at hr
      obtain ⟨b0, _⟩ := P6.out.box.get 0 _ rfl
      have hf : ∀ u : World, (Instr.field 110 (entV x) 1).run Tryz.prog u = .ok (ptr x.b) u := fun u => by kernel_rfl
      have hmem := getM_mem hkx
      generalize netV x.c.e.nets tx = nn at *
      generalize holdB x.c.e.nets tx = hh at *
      have HT := hide htake
      have HN := hide hnet
      clear htake hnet hid hkx hin
      go_wp2_with fail
      refine (KN _ (P6.out.esc _ hmem)).mono ?_
      rintro r x4 ⟨rfl, h4⟩
      have b5 := alloc_below x4 (.cells #[.int .i64 tx, .int .i64 id, .int .i64 nn] 53)
      have P5 := hide ((P6.out.below h4).below b5)
      have O5 := hide ((O6.out.below h4).below b5)
      have G5 := hide ((G6.out.below h4).below b5)
      have B5 := hide ((B6.out.trans (h4.mono B6.out.size)).alloc (Nat.le_trans B6.out.size h4.size) (.cells #[.int .i64 tx, .int .i64 id, .int .i64 nn] 53))
      have LI := hide (lies_lit x4 #[.int .i64 tx, .int .i64 id, .int .i64 nn] 53)
      have sz := Nat.le_trans B6.out.size h4.size
      clear h4 b5 P6 O6 G6 B6 KN hr b0 c0 hf
      go_wp2_with (at_builtin; refine wpList_appR Tryz.underlying48 info53 rfl (by decide) (by decide) rfl (.tmp _) (.tmp _) rfl w.heap.size _ i _ rfl G5.out (some ⟨x4.heap.size, 0, none⟩) 1 1 [.int .i64 tx, .int .i64 id, .int .i64 nn] rfl rfl LI.out (by simp [Value.oneCell']) (by nofun) (by omega) (by simp; omega) ?_; intro v' w5 q1 q2 q3; obtain ⟨av, cv, rfl, -, -, -, -, -⟩ := GRow.lies q1)
      have kp : Keep (fun z => (Value.slice a6 i c6).ownBlock = some z) (x4.alloc (.cells #[.int .i64 tx, .int .i64 id, .int .i64 nn] 53)) w5 := (Keep.refl _ _).grown q2 (fun g hg _ => hg)
      have kb : Below w.heap.size (x4.alloc (.cells #[.int .i64 tx, .int .i64 id, .int .i64 nn] 53)) w5 := kp.below (by simp; omega) (fun z hz q => by have := (World.ownsRow.lt G5.out z q).1; omega)
      have PZ := hide (plUnder P5.out kb HL.out)
      have OZ := hide (O5.out.keep kp (fun g hg q => D6.out g hg q))
      have BZ := hide (B5.out.trans kb)
      have GZ := hide q1
      have DZ := hide (show ∀ g', (Value.slice (some ⟨g, 0, none⟩) ids.length c1).ownBlock = some g' → (Value.slice av (i + 1) cv).ownBlock ≠ some g' from fun g' hg' q => by
        rcases q3 with r | r
        · rw [r] at q; exact D6.out g' hg' q
        · rw [r] at q
          have := (World.ownsRow.lt O5.out g' hg').2
          cases q
          omega)
      clear q1 q2 q3 kp kb P5 O5 G5 B5 LI D6
      go_wp2_with fail
      refine ⟨⟨i + 1, av, cv, by simp, rfl, by omega, ?_, PZ.out, OZ.out, DZ.out, BZ.out⟩, ?_⟩
      · rw [HT.out]
        unfold rowsC
        rw [List.flatMap_append]
        simp only [List.flatMap_cons, List.flatMap_nil, List.append_nil, hdC, HN.out]
        exact GZ.out
      · simp [intOf]
        omega
    · have E3 := hide (show ks.length = i by have := HKL.out; omega)
      have E2 := hide (show ks.take i = ks from List.take_of_length_le (by have := HKL.out; omega))
      clear hin
      go_wp2_with fail
      go_ret
      refine ⟨_, rfl, ?_, B6.out⟩
      have q := G6.out
      rw [E2.out] at q
      rw [E3.out]
      exact q
end Go.Proofs.YtaohdmaenplbpaaGreat
