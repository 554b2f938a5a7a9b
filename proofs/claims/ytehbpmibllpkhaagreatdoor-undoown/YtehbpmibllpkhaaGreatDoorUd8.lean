import Derived.Test.YtehbpmibllpkhaaGreatDoorUd7
set_option linter.all false
namespace Go.Proofs.YtehbpmibllpkhaaGreatDoor
open Go.RowKit Go.QK Go.Maps Go.QM Go.QU
set_option maxRecDepth 100000
theorem hid_one : ∀ r : RZ, ∀ u ∈ (rzA r).toList, u.oneCell' = true := by
  intro r u hu
  have : (rzA r).toList.all (·.oneCell') = true := rfl
  exact List.all_eq_true.1 this u hu
theorem getM_at {L : Prs Hd} (h : Up L) {i : Nat} (hi : i < L.length) : getM L L[i].1 = some L[i].2 := getM_of_mem h (List.getElem_mem hi)
theorem bytes53 {a b c : Nat} (h : a + b ≤ c) (hc : c < 800000000000) : (a + b) * 168 ≤ 140737488355328 := by omega
set_option maxHeartbeats 8000000 in
theorem undos_any (b m : Nat) (L : Prs Hd) (tx : Int) (w : World) (h : PB w b m L) (it : I64 tx) (iu : ∀ p ∈ L, I64 p.1) (hl : L.length * 168 ≤ 140737488355328) :
    Calls Tryz.prog 17 #[ptr b, .int .i64 tx] w fun r w' => ∃ v, r = .returned v ∧ GRow w' w.heap.size 53 17 v L.length (rzs (L.map (undZ tx))) ∧ Below w.heap.size w w' := by
  have KC := hide (counters_any b m L w h)
  have H := hide h
  clear h
  go_enter Tryz.func17, Tryz.ntmps17
  go_upto_region 2 with fail
  go_wp2_with fail
  refine KC.out.mono ?_
  rintro r w1 ⟨v, rfl, ho, hb1⟩
  obtain ⟨a, c, rfl, hls, hc1, hc2, hc3, hc4⟩ := GRow.lies (show GRow w1 w.heap.size 3 1 v (L.map (·.1)).length ((L.map (·.1)).map (Value.int .i64)) by simpa [Owns] using ho)
  have L1 := hide (show Lies w1 a ((L.map (·.1)).map (Value.int .i64)) from hls)
  have HB1 := hide hb1
  have N4 := hc4
  obtain ⟨N, hN⟩ : ∃ n, n = L.length := ⟨_, rfl⟩
  have eN : (L.map (·.1)).length = N := by rw [List.length_map, hN]
  have IU := hide iu
  have HN := hide hN
  have HC := hide (show N ≤ c by rw [eN] at hc1; exact hc1)
  simp only [eN]
  rw [← hN] at hl
  have HL := hide hl
  clear hls hb1 ho eN iu hN hl hc1 hc2 hc3 hc4
  go_wp2_with fail
  go_loopw [5, 12] (fun v5 v12 wr => ∃ k : Nat, v12 = .int .i64 (k : Int) ∧ k ≤ N ∧ GRow wr w1.heap.size 53 17 v5 k (rzs ((L.take k).map (undZ tx))) ∧ Below w1.heap.size w1 wr) (fun _ v12 _ => N + 1 - (intOf v12).toNat)
  case atStart => exact ⟨0, rfl, Nat.zero_le _, World.ownsRow_nil _ _ _ _, Below.refl _ _⟩
  case round =>
    obtain ⟨k, rfl, hk, hrow, hb⟩ := hrel
    by_cases hkN : k < N
    · have hd : decide ((k : Int) < (N : Int)) = true := decide_eq_true (by omega)
      have hkL : k < L.length := by rw [← HN.out]; exact hkN
      obtain ⟨id, hid⟩ : ∃ z, z = L[k].1 := ⟨_, rfl⟩
      obtain ⟨gn, g1, g2, g3, g4, hgot⟩ : ∃ gn g1 g2 g3 g4, L[k].2 = ⟨gn, g1, g2, g3, g4⟩ := ⟨_, _, _, _, _, rfl⟩
      obtain ⟨ga, off, rfl, hbl, q0⟩ := L1.out.cellAt k (.int .i64 id) (by simp [hid, hkL])
      obtain rfl := (N4 _ rfl).1
      have PBr := (H.out.below HB1.out).below hb
      have lk := PBr.look (x := id) (by rw [hid]; exact IU.out _ (List.getElem_mem hkL))
      have eg : gotH L id = ⟨gn, g1, g2, g3, g4⟩ := by unfold gotH; rw [hid, getM_at PBr.up hkL, hgot]; rfl
      rw [eg] at lk
      simp only [hdV] at lk
      have q1 := (PBr.box.get 0 _ rfl).1
      have q2 := (hb.cell (p := ⟨ga, 0 + k, none⟩) hbl).trans q0
      rw [Nat.zero_add] at q2
      have HID := hide hid
      have HGT := hide hgot
      have PBH := hide PBr
      have q1 := q1
      clear hid hgot q0 eg PBr
      obtain ⟨C5, h5⟩ : ∃ z, z = (Obj.cells #[.int .i64 gn, .int .i64 g1, .int .i64 g2, .int .i64 g3, .int .i64 g4] 98) := ⟨_, rfl⟩
      have hu : undZ tx L[k] = ⟨0, 4, tx, 0, g1, g2, g3, g4, gn, id, 0, 0, 0, 0, none, 0, 0, none, 0, 0, 0⟩ := by unfold undZ; rw [HGT.out, ← HID.out]
      have LZ := lies_rz (wr.alloc C5) (undZ tx L[k])
      have sz5 : (wr.alloc C5).heap.size = wr.heap.size + 1 := by simp
      rw [sz5, hu, h5] at LZ
      have hrow2 := ((World.ownsRow.alloc hrow C5).alloc (.cells (rzA (undZ tx L[k])) 53))
      rw [hu, h5] at hrow2
      have HU := hide hu
      clear h5 sz5 hu
      have hLL := HL.out
      go_wp2_with (first
        | (at_builtin; refine wpList_appW Tryz.underlying22 info53 rfl (by decide) (by decide) rfl (.tmp 22) (.tmp 33) rfl w1.heap.size _ k _ rfl hrow2 _ 1 1 _ rfl (by rfl) LZ (rzs_one _) nofun (by omega) (by have := hb.size; simp; omega) ?_; intro v' w3 hown' hg3 hnil3; go_frame)
        | fail)
      go_roundw
      case rel =>
        refine ⟨k + 1, by go_num, by omega, ?_, ((hb.alloc hb.size _).alloc (by have := hb.size; simp; omega) _).grown hg3 (by have := hb.size; simp; omega) (fun j hj => (hrow2.lt j hj).1)⟩
        rw [List.take_succ_eq_append_getElem hkL, List.map_append, rzs_app]
        have e : rzs ([L[k]].map (undZ tx)) = rzs [undZ tx L[k]] := rfl
        rw [e, HU.out]
        exact hown'
      case measure => simp [intOf]; omega
    · have hd : decide ((k : Int) < (N : Int)) = false := decide_eq_false (by omega)
      go_wp2_with fail
      obtain rfl : k = N := by omega
      go_ret
      refine ⟨_, rfl, ?_, HB1.out.trans (hb.mono HB1.out.size)⟩
      rw [List.take_of_length_le (by have := HN.out; omega)] at hrow
      have := HN.out
      rw [← this]
      exact GRow.mono hrow HB1.out.size
end Go.Proofs.YtehbpmibllpkhaaGreatDoor
