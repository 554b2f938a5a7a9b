import Derived.Test.YtlloppalagddnaaSr17
set_option linter.all false
namespace Go.Proofs.Ytlloppalagddnaa
open Go.RowKit Go.QK Quota Go.Maps Go.QM Go.QS
set_option maxRecDepth 100000
/-! Start: the counters that a log creates. -/
def cnOf (r : RZ) : Cn := ⟨r.id, r.grp, r.lo, r.hi, r.val⟩
def crs (l : List RZ) : List Cn := (l.filter (fun r => r.kind == 2)).map cnOf
theorem crs_take {l : List RZ} (k : Nat) (hk : k < l.length) : crs (l.take (k + 1)) = crs (l.take k) ++ (if l[k].kind = 2 then [cnOf l[k]] else []) := by
  unfold crs
  rw [List.take_succ_eq_append_getElem hk, List.filter_append, List.map_append]
  congr 1
  by_cases h : l[k].kind = 2 <;> simp [h]
theorem crs_len (l : List RZ) : (crs l).length ≤ l.length := by
  unfold crs
  rw [List.length_map]
  exact List.length_filter_le _ _
theorem crs_ok {l : List RZ} (h : ∀ r ∈ l, (cnOf r).Ok) : ∀ x ∈ crs l, x.Ok := fun x hx => by
  obtain ⟨r, hr, rfl⟩ := List.mem_map.1 hx
  exact h r (List.mem_filter.1 hr).1
/-- One more counter. -/
theorem run_cn (x : World) (B : Nat) (v : Value) (X : List Cn) (hown : CRow x B v X) (c : Cn) (hl : (X.length + 1) * 40 ≤ 140737488355328) (hB : B ≤ x.heap.size) :
    ∃ v' x', (Builtin.append_ #[35, 35] 35 #[v, .slice (some ⟨x.heap.size, 0, none⟩) 1 1]).run Try.prog (x.alloc (.cells #[.int .i64 c.id, .int .i64 c.grp, .int .i64 c.lo, .int .i64 c.hi, .int .i64 c.val] 65)) = .ok v' x' ∧ CRow x' B v' (X ++ [c]) ∧ Keep (fun z => v.ownBlock = some z) x x' := by
  obtain ⟨v', x', h1, h2, h3, h4⟩ := run_pushW Try.underlying35 info65 rfl (by decide) 35 (x.alloc (.cells #[.int .i64 c.id, .int .i64 c.grp, .int .i64 c.lo, .int .i64 c.hi, .int .i64 c.val] 65)) B v X.length (cns X) (GRow.below hown (alloc_below _ _)) ⟨x.heap.size, 0, none⟩ 1 1 (cns [c]) rfl (lies_one cnC x c #[.int .i64 c.id, .int .i64 c.grp, .int .i64 c.lo, .int .i64 c.hi, .int .i64 c.val] 65 rfl) (rowsC_one cnC (fun _ => rfl) _) hl (by decide) (by simp; omega)
  refine ⟨v', x', h1, ?_, ((Keep.refl (fun z => v.ownBlock = some z) x).alloc _).grown h3 (fun g hg _ => hg)⟩
  show GRow x' B 65 5 v' (X ++ [c]).length (rowsC cnC (X ++ [c]))
  rw [List.length_append, rowsC_app]
  exact h2
def sttL (l : List RZ) : List Cn := if staE [] (crs l) = 0 then cnL (staC [] (crs l)) else []
set_option maxHeartbeats 8000000 in
theorem start_any (a : Option Addr) (cap : Nat) (l : List RZ) (w : World) (h : Lies w a (rzs l)) (hok : ∀ r ∈ l, (cnOf r).Ok) (hl : l.length * 168 ≤ 140737488355328) :
    Calls Try.prog 18 #[.slice a l.length cap] w fun e w' => (∃ v, e = .returned (.tuple #[v, .int .i64 (staE [] (crs l))]) ∧ CRow w' w.heap.size v (sttL l)) ∧ Below w.heap.size w w' := by
  have HL := hide h
  have HOK := hide hok
  clear h hok
  go_enter Try.func18, Try.ntmps18
  go_wp2_with fail
  go_loopw [11, 4] (fun i lv wr => ∃ k : Nat, k ≤ l.length ∧ i = .int .i64 k ∧ CRow wr w.heap.size lv (crs (l.take k)) ∧ Below w.heap.size w wr) (fun i _ _ => l.length - (intOf i).toNat)
  case atStart => exact ⟨0, Nat.zero_le _, rfl, World.ownsRow_nil _ _ _ _, Below.refl _ _⟩
  case round =>
    obtain ⟨k, hk, rfl, hrow, hb⟩ := hrel
    by_cases hlt : k < l.length
    · have HT := hide (crs_take k hlt)
      obtain ⟨ab, ao, e2, hbl, hcell⟩ := rz_at (HL.out.below hb) k hlt
      subst e2
      have hcl : (crs (l.take k)).length ≤ k := by have := crs_len (l.take k); rw [List.length_take] at this; omega
      generalize l[k] = r at *
      generalize crs (l.take k) = X at *
      have HR := hide hrow
      have HB := hide hb
      have HCE := hide hcell
      clear hrow hb hcell
      go_upto_region 5 with (first
        | refine wpList_ld (cs := rzA r) HCE.out rfl rfl ?_
        | (refine wpList_st (RBox.new _ _ _) rfl rfl rfl rfl rfl ?_; intro w3 rb3 k3; have RB3 := hide rb3; have K3 := hide k3; clear rb3 k3))
      have b3 := newBox K3.out
      have B3 := hide (HB.out.trans (b3.mono HB.out.size))
      have R3 := hide (GRow.below HR.out b3)
      obtain ⟨c1, _⟩ := RB3.out.cells.get 1 _ rfl
      obtain ⟨c9, _⟩ := RB3.out.cells.get 9 _ rfl
      obtain ⟨c10, _⟩ := RB3.out.cells.get 10 _ rfl
      obtain ⟨c11, _⟩ := RB3.out.cells.get 11 _ rfl
      obtain ⟨c12, _⟩ := RB3.out.cells.get 12 _ rfl
      obtain ⟨c13, _⟩ := RB3.out.cells.get 13 _ rfl
      clear b3 K3 HR HB HCE RB3
      by_cases hkd : r.kind = 2
      · rw [hkd] at c1
        rw [if_pos hkd] at HT
        obtain ⟨v', w4, hr, hr4, k4⟩ := run_cn w3 w.heap.size u4 X R3.out (cnOf r) (by omega) (by have := B3.out.size; exact this)
        have HRUN := hide hr
        have R4 := hide hr4
        have B4 := hide (B3.out.trans (k4.below B3.out.size (fun z hz q => by have := (World.ownsRow.lt R3.out z q).1; omega)))
        clear hr hr4 k4 hkd
        go_wp2_with (refine wpList_run rfl _ _ rfl rfl rfl HRUN.out ?_)
        go_roundw
        case rel => exact ⟨k + 1, hlt, by go_num, by rw [HT.out]; exact R4.out, B4.out⟩
        case measure => simp [intOf]; omega
      · have e0 : (r.kind == 2) = false := by simpa using hkd
        rw [if_neg hkd, List.append_nil] at HT
        generalize r.kind = kd at *
        clear hkd
        go_wp2_with fail
        go_roundw
        case rel => exact ⟨k + 1, hlt, by go_num, by rw [HT.out]; exact R3.out, B3.out⟩
        case measure => simp [intOf]; omega
    · have hek : k = l.length := by omega
      subst hek
      rw [List.take_length] at hrow
      obtain ⟨va, vc, hve, hvl, _, _, _, _⟩ := GRow.lies hrow
      subst hve
      have hco := crs_ok HOK.out
      have hcl : (crs l).length * 40 ≤ 140737488355328 := by have := crs_len l; omega
      have HB := hide hb
      clear hb hrow
      by_cases hE : staE [] (crs l) = 0
      · have KS := started_ok va vc (crs l) wr hvl hco hcl hE
        have HE := hide hE
        have CO := hide (CsOk.sta CsOk.nil hco hE)
        clear hvl hE
        go_wp2_with fail
        refine KS.mono ?_
        rintro e w2 ⟨m, rfl, hm, hlo, b2⟩
        have B2 := hide (HB.out.trans (b2.mono HB.out.size))
        have KT := told_any w2 m (staC [] (crs l)) (CsW.of CO.out) hm
        have S2 := hide (show w.heap.size ≤ w2.heap.size from B2.out.size)
        clear KS b2 hm
        go_wp2_with fail
        refine KT.mono ?_
        rintro e w3 ⟨v, rfl, r3, _, b3⟩
        have R3 := hide (GRow.mono r3 S2.out)
        have B3 := hide (B2.out.trans (b3.mono S2.out))
        clear KT r3 b3
        go_wp2_with fail
        go_ret2
        refine ⟨⟨v, by rw [HE.out]; rfl, ?_⟩, B3.out⟩
        unfold sttL
        rw [if_pos HE.out]
        exact R3.out
      · have KS := started_bad va vc (crs l) wr hvl hco hcl hE
        have HE := hide hE
        have h1 : (staE [] (crs l) != 0) = true := by simpa using hE
        have HS := hide (show sttL l = [] from if_neg hE)
        generalize hEE : staE [] (crs l) = E at *
        have HEE := hide hEE
        clear hvl hE hEE
        go_wp2_with fail
        refine KS.mono ?_
        rintro e w2 ⟨rfl, b2⟩
        have B2 := hide (HB.out.trans (b2.mono HB.out.size))
        clear KS b2
        go_wp2_with fail
        go_ret2
        refine ⟨⟨.slice none 0 0, by rw [HEE.out]; rfl, ?_⟩, B2.out⟩
        rw [HS.out]
        exact World.ownsRow_nil _ _ _ _
end Go.Proofs.Ytlloppalagddnaa
