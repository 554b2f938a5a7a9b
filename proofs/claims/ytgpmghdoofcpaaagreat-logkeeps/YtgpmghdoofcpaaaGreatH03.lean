import Derived.Test.YtgpmghdoofcpaaaGreatLgG3
import Derived.Test.YtgpmghdoofcpaaaGreatLgPf
import Derived.Test.YtgpmghdoofcpaaaGreatH01
namespace Go.Proofs.YtgpmghdoofcpaaaGreat.Lg
open Go.RowKit Go.QK
open Dv (hide bnext alloc_below LossAt)
set_option maxRecDepth 100000

theorem LV.step {B : Nat} {w0 w w' : World} {S S' T : Nat → Prop} {l d : Nat} {g g' : Dev} {m : LogM} (h : LV B w0 w S T l d g m) (hd : PDev w' S' d g') (hs : Step w S w' S') : LV B w0 w' S' T l d g' m := by
  have hlt := h.ld.lt
  obtain ⟨rv, vs, h1, h2⟩ := h.ld.recs
  have hB := Nat.le_trans h.le h.bel.size
  refine ⟨⟨hd, ⟨rv, vs, h1.keep hs.1 (fun b q r => h.ld.ap b q r), h2.keep hs.1 h.ld.nS⟩, h.ld.nT, fun q => (hs.2 l q).elim h.ld.nS (fun r => by omega), fun b q r => (hs.2 b q).elim (fun q => h.ld.ap b q r) (fun q => by have := hlt.2.2 b r; omega)⟩, fun b q => (hs.2 b q).elim (h.fS b) (fun r => Nat.le_trans hB r), h.fT, h.fl, h.bel.trans (hs.1.below hB (fun j hj q => by have := h.fS j q; omega)), h.le⟩
theorem Gst.recsAt {B : Nat} {w0 w w' : World} {lab : Nat → Nat} {S T V : Nat → Prop} {l d : Nat} {g : Dev} {m : LogM} {aa : Option Addr} {n ac : Nat} {xs : List RecL} (h : Gst B w0 w lab S T l d g m (.slice aa n ac) xs) (hk : Keep V w w') (hV : ∀ b, V b → lab b = 0) : RecsAt w' aa xs := by
  obtain ⟨k1, _, k3, _⟩ := h.keep1 (L := 0) (lab' := lab) hk hV (fun _ _ => rfl)
  obtain ⟨a, c, hv, hL, _⟩ := GRow.lies (k1 (by decide))
  cases hv
  exact ⟨hL, fun x hx => ⟨((k3 (by decide)) x hx).1.lies, ((k3 (by decide)) x hx).2.lies⟩⟩
theorem Lies.front {w : World} {a : Option Addr} {cs ds : List Value} (h : Lies w a (cs ++ ds)) : Lies w a cs := by
  rcases h with h | ⟨b, off, e, hb, hc⟩
  · exact .inl (List.append_eq_nil_iff.1 h).1
  · exact .inr ⟨b, off, e, hb, fun i hi => by rw [hc i (by rw [List.length_append]; omega), List.getElem_append_left hi]⟩
theorem FallsAt.take {w : World} {a : Option Addr} {xs : List FallM} (h : FallsAt w a xs) (n : Nat) : FallsAt w a (xs.take n) := by
  refine ⟨?_, fun x hx => h.loss x (List.mem_of_mem_take hx)⟩
  have q := h.row
  rw [← List.take_append_drop n xs] at q
  unfold rowsC at q
  rw [List.flatMap_append] at q
  exact Lies.front q
theorem FallsAt.below {w w' : World} {a : Option Addr} {xs : List FallM} (h : FallsAt w a xs) (b : Below w.heap.size w w') : FallsAt w' a xs :=
  ⟨h.row.below b, fun x hx => ⟨(h.loss x hx).seen.below b, (h.loss x hx).nil, (h.loss x hx).cap, (h.loss x hx).ok⟩⟩
theorem _root_.Go.Proofs.YtgpmghdoofcpaaaGreat.Dv.LossAt.below {w w' : World} {l : Loss} {a : Option Addr} {c : Nat} (h : LossAt w l a c) (b : Below w.heap.size w w') : LossAt w' l a c := ⟨h.seen.below b, h.nil, h.cap, h.ok⟩
theorem _root_.Go.Proofs.YtgpmghdoofcpaaaGreat.Dv.LossAt.low {w : World} {l : Loss} {a : Option Addr} {c : Nat} (h : LossAt w l a c) (hk : l.keep ≠ []) : ∀ ad, a = some ad → ad.block < w.heap.size := by
  intro ad ha
  rcases h.seen with q | ⟨b, off, q1, q2, _⟩
  · exact absurd q (by simpa [ints] using hk)
  · rw [ha] at q1
    cases q1
    exact q2
theorem crash_calls (g : Dev) (l : Loss) : (g.crash l).calls ≤ g.calls + 1 := by
  unfold Dev.crash Dev.fall
  split <;> simp

theorem LD.step {w w' : World} {S S' T : Nat → Prop} {l d : Nat} {g g' : Dev} {m : LogM} (h : LD w S T l d g m) (hd : PDev w' S' d g') (hs : Step w S w' S') : LD w' S' T l d g' m := by
  have hlt := h.lt
  obtain ⟨rv, vs, h1, h2⟩ := h.recs
  exact ⟨hd, ⟨rv, vs, h1.keep hs.1 (fun b q r => h.ap b q r), h2.keep hs.1 h.nS⟩, h.nT, fun q => (hs.2 l q).elim h.nS (fun r => by omega), fun b q r => (hs.2 b q).elim (fun q => h.ap b q r) (fun q => by have := hlt.2.2 b r; omega)⟩
theorem LV.beside {B : Nat} {w0 w w' : World} {S T : Nat → Prop} {l d P : Nat} {g : Dev} {m : LogM} (h : LV B w0 w S T l d g m) (hk : Keep (fun b => b = P) w w') (hB : B ≤ P) (hS : ¬ S P) (hT : ¬ T P) (hl : P ≠ l) : LV B w0 w' S T l d g m := by
  have hB2 := Nat.le_trans h.le h.bel.size
  exact ⟨h.ld.keep hk (fun b e q => hS (by rw [← e]; exact q)) (fun b e q => hT (by rw [← e]; exact q)) (fun e => hl e.symm), h.fS, h.fT, h.fl, h.bel.trans (hk.below hB2 (fun k hk q => by omega)), h.le⟩

/-! What LogTwice lays beside the log. -/
def fillB (f : Nat) : List Nat := List.replicate 512 f
theorem fillB_length (f : Nat) : (fillB f).length = 512 := List.length_replicate
theorem fillB_allB (f : Nat) (h : f < 256) : AllB (fillB f) := by
  intro x hx
  have := List.eq_of_mem_replicate hx
  omega
theorem fillB_getD (f k : Nat) (h : k < 512) : (fillB f).getD k 0 = f := by
  show (List.replicate 512 f).getD k 0 = f
  rw [List.getD_eq_getElem?_getD, List.getElem?_replicate, if_pos h]
  rfl
def besP (n : Nat) : List (Nat × List Nat) := [(0, fillB 200), (1, fillB 201), (n + 2, fillB 202)]
def besD (n i : Nat) : Dev := ⟨List.replicate (512 * (n + 3)) 0, (besP n).take i, i, false, 0, none⟩
def besAt (n i : Nat) : Nat := [0, 1, n + 2].getD i 0
def besX (_ : Nat) : Nat → List Nat := fun i => if i = 0 then fillB 200 else if i = 1 then fillB 201 else fillB 202
theorem besD_n (n i : Nat) : (besD n i).n = n + 3 := by
  show (List.replicate (512 * (n + 3)) 0).length / 512 = n + 3
  rw [List.length_replicate]
  omega
theorem besAt_lt (n i : Nat) (hi : i < 3) : besAt n i < n + 3 := by
  match i, hi with
  | 0, _ => show 0 < n + 3; omega
  | 1, _ => show 1 < n + 3; omega
  | 2, _ => show n + 2 < n + 3; omega
theorem besX_at (n i : Nat) (hi : i < 3) (hn : 1 ≤ n) : besX n (besAt n i) = fillB (200 + i) := by
  match i, hi with
  | 0, _ => rfl
  | 1, _ => rfl
  | 2, _ => show (if n + 2 = 0 then fillB 200 else if n + 2 = 1 then fillB 201 else fillB 202) = fillB 202; rw [if_neg (by omega), if_neg (by omega)]
theorem besD_next (n i : Nat) (hi : i < 3) : (besD n i).writeE ((besAt n i : Nat) : Int) 512 = 0 ∧ (besD n i).write ((besAt n i : Nat) : Int) (fillB (200 + i)) = besD n (i + 1) := by
  rcases write_cases (g := besD n i) rfl (.inl rfl) (besAt n i) (by rw [besD_n]; exact besAt_lt n i hi) (fillB (200 + i)) (fillB_length _) with ⟨h1, h2⟩ | ⟨_, h2, _⟩
  · refine ⟨h1, h2.trans ?_⟩
    match i, hi with
    | 0, _ => rfl
    | 1, _ => rfl
    | 2, _ => rfl
  · exact absurd h2 (by show ¬ (0 = 1); decide)
theorem besP_fits (n : Nat) : ∀ p ∈ besP n, FitsW (512 * (n + 3)) p := by
  intro p hp
  simp [besP] at hp
  rcases hp with rfl | rfl | rfl
  · exact ⟨by simp; omega, fillB_length _⟩
  · exact ⟨by simp; omega, fillB_length _⟩
  · exact ⟨by simp; omega, fillB_length _⟩
theorem bes_sector (n i : Nat) (hi : i < n + 3) : sector (syncAll (besP n) (List.replicate (512 * (n + 3)) 0)) i = if i = n + 2 then fillB 202 else if i = 1 then fillB 201 else if i = 0 then fillB 200 else zerosB := by
  rw [sync_sector (m := 512 * (n + 3)) i (by omega) (besP n) _ List.length_replicate (besP_fits n)]
  have hz : sector (List.replicate (512 * (n + 3)) 0) i = zerosB := by
    have := new_content (n + 3) i hi
    exact this
  unfold contentOf besP
  simp only [List.foldl_cons, List.foldl_nil]
  rw [hz]
  by_cases h2 : i = n + 2
  · rw [if_pos h2.symm, if_pos h2]
  · rw [if_neg (fun e => h2 e.symm), if_neg h2]
    by_cases h1 : i = 1
    · rw [if_pos h1.symm, if_pos h1]
    · rw [if_neg (fun e => h1 e.symm), if_neg h1]
      by_cases h0 : i = 0
      · rw [if_pos h0.symm, if_pos h0]
      · rw [if_neg (fun e => h0 e.symm), if_neg h0]
theorem bes_sync (n : Nat) (hn : 1 ≤ n) (hn2 : n ≤ 40) : (besD n 3).syncE = 0 ∧ Grw (besD n 3).sync ⟨2, n, [], 0, false⟩ (besX n) ∧ (besD n 3).sync.calls = 4 ∧ (besD n 3).sync.img.length = 512 * (n + 3) := by
  rcases sync_cases (g := besD n 3) rfl (.inl rfl) with ⟨h1, h2⟩ | ⟨_, h2, _⟩
  · have hl0 : (syncAll (besP n) (List.replicate (512 * (n + 3)) 0)).length = 512 * (n + 3) := syncAll_len _ _ List.length_replicate (besP_fits n)
    refine ⟨h1, ?_, by rw [h2]; rfl, by rw [h2]; exact hl0⟩
    rw [h2]
    have hl : (syncAll (besP n) (List.replicate (512 * (n + 3)) 0)).length = 512 * (n + 3) := syncAll_len _ _ List.length_replicate (besP_fits n)
    have hnn : (syncAll (besP n) (List.replicate (512 * (n + 3)) 0)).length / 512 = n + 3 := by rw [hl]; omega
    refine ⟨⟨?_, ?_, Nat.zero_le _, nofun, fun j _ hj => ?_, fun i hi hi2 => ?_⟩, rfl, rfl, .inl rfl, rfl, ⟨Nat.zero_le _, by show 2 + n ≤ 10000; omega, Nat.le_refl _⟩⟩
    · show 512 * (2 + n) ≤ (syncAll (besP n) (List.replicate (512 * (n + 3)) 0)).length
      rw [hl]; omega
    · show (syncAll (besP n) (List.replicate (512 * (n + 3)) 0)).length = 512 * ((syncAll (besP n) (List.replicate (512 * (n + 3)) 0)).length / 512)
      rw [hnn, hl]
    · show sector (syncAll (besP n) (List.replicate (512 * (n + 3)) 0)) (2 + j) = zerosB
      have hj : j < n := hj
      rw [bes_sector n (2 + j) (by omega), if_neg (by omega), if_neg (by omega), if_neg (by omega)]
    · show sector (syncAll (besP n) (List.replicate (512 * (n + 3)) 0)) i = besX n i
      have hi2 : i < (syncAll (besP n) (List.replicate (512 * (n + 3)) 0)).length / 512 := hi2
      rw [hnn] at hi2
      have hi : i < 2 ∨ 2 + n ≤ i := hi
      rw [bes_sector n i hi2]
      unfold besX
      have : i = 0 ∨ i = 1 ∨ i = n + 2 := by omega
      rcases this with rfl | rfl | rfl
      · rw [if_neg (by omega), if_neg (by omega), if_pos rfl, if_pos rfl]
      · rw [if_neg (by omega), if_pos rfl, if_neg (by omega), if_pos rfl]
      · rw [if_pos rfl, if_neg (by omega), if_neg (by omega)]
  · exact absurd h2 (by show ¬ (0 = 1); decide)
end Go.Proofs.YtgpmghdoofcpaaaGreat.Lg

namespace Go.Proofs.YtgpmghdoofcpaaaGreat.Lg
open Go.RowKit Go.QK
open Dv (hide bnext alloc_below LossAt)
set_option maxRecDepth 100000

/-! The document's sector of a record. -/
def scL (s : Nat) : Nat → List Nat
  | 0 => zerosB.set 0 108
  | i + 1 => (scL s i).set (1 + i) (s / 256 ^ i % 256)
theorem scL_length (s : Nat) : (i : Nat) → (scL s i).length = 512
  | 0 => by show (zerosB.set 0 108).length = 512; rw [List.length_set, zerosB_length]
  | i + 1 => by show ((scL s i).set (1 + i) (s / 256 ^ i % 256)).length = 512; rw [List.length_set, scL_length s i]
def scF (s : Nat) (b : List Nat) : List Nat := (splice (((scL s 4).set 5 (b.length % 256)).set 6 (b.length / 256 % 256)) 7 b).set 511 165
theorem scF_eq (s : Nat) (b : List Nat) (hb : b.length ≤ 502) : scF s b = filledB s b := by
  have l1 : (((scL s 4).set 5 (b.length % 256)).set 6 (b.length / 256 % 256)).length = 512 := by rw [List.length_set, List.length_set, scL_length]
  have l2 : (splice (((scL s 4).set 5 (b.length % 256)).set 6 (b.length / 256 % 256)) 7 b).length = 512 := by rw [length_splice _ _ _ (by omega), l1]
  refine ext512 (by unfold scF; rw [List.length_set, l2]) (filledB_length (by omega)) (fun j hj => ?_)
  rw [filledB_getD s b j hb, frameB_getD]
  unfold scF
  rw [set_getD _ _ _ _ (by omega), splice_getD _ _ _ _ (by omega)]
  by_cases h5 : j = 511
  · rw [if_pos h5, if_neg (by omega), if_pos h5]
  · rw [if_neg h5]
    by_cases h7 : 7 ≤ j ∧ j < 7 + b.length
    · rw [if_pos h7, if_pos h7]
    · rw [if_neg h7, if_neg h7, if_neg h5, set_getD _ _ _ _ (by rw [List.length_set, scL_length]; omega), set_getD _ _ _ _ (by rw [scL_length]; omega)]
      have hs : ∀ i, i ≤ 4 → ∀ q, (scL s i).getD q 0 = if 1 ≤ q ∧ q < 1 + i then s / 256 ^ (q - 1) % 256 else if q = 0 then 108 else 0 := by
        intro i
        induction i with
        | zero =>
          intro _ q
          rw [if_neg (by omega)]
          show (zerosB.set 0 108).getD q 0 = _
          rw [set_getD _ _ _ _ (by rw [zerosB_length]; omega), zeros_getD]
        | succ i ih =>
          intro hi q
          show ((scL s i).set (1 + i) (s / 256 ^ i % 256)).getD q 0 = _
          rw [set_getD _ _ _ _ (by rw [scL_length]; omega), ih (by omega) q]
          by_cases e : q = 1 + i
          · rw [if_pos e, if_pos (by omega), e, show 1 + i - 1 = i by omega]
          · rw [if_neg e]
            by_cases e2 : 1 ≤ q ∧ q < 1 + i
            · rw [if_pos e2, if_pos (by omega)]
            · rw [if_neg e2, if_neg (show ¬ (1 ≤ q ∧ q < 1 + (i + 1)) from fun r => e2 ⟨r.1, by omega⟩)]
      rw [hs 4 (Nat.le_refl _) j]
      by_cases h6 : j = 6
      · rw [if_pos h6, if_pos (by omega), h6]
      · rw [if_neg h6]
        by_cases h55 : j = 5
        · rw [if_pos h55, if_pos (by omega), h55]
          simp
        · rw [if_neg h55, if_neg (show ¬ (5 ≤ j ∧ j < 7) by omega)]
set_option maxHeartbeats 4000000 in
theorem sector_any (s : Nat) (a : Option Addr) (b : List Nat) (c : Nat) (w : World) (hb : Bytes w a b) (hl1 : 1 ≤ b.length) (hl2 : b.length ≤ 502) (hs : s ≤ 1000) :
    Calls Tryz.prog 35 #[.int .i64 (s : Int), .slice a b.length c] w fun e w' => ∃ gb, e = .returned (.slice (some ⟨gb, 0, none⟩) 512 512) ∧ w.heap.size ≤ gb ∧ OwnB w' w.heap.size (.slice (some ⟨gb, 0, none⟩) 512 512) (filledB s b) ∧ Below w.heap.size w w' := by
  obtain ⟨w1, R1, O1, B1, Z1⟩ := Dv.makeB w 512 (by omega)
  obtain ⟨P, hP⟩ : ∃ P, P = w.heap.size := ⟨_, rfl⟩
  rw [← hP] at O1
  have R2 : (Instr.makeSlice 80 (.int .i64 512) (.int .i64 512)).run Tryz.prog w = .ok (.slice (some ⟨P, 0, none⟩) 512 512) w1 := by rw [hP]; exact R1
  rcases hb with hb | ⟨bb, bo, rfl, hbb, hbc⟩
  · have := congrArg List.length hb
    rw [ints_length] at this
    have hb0 : b = [] := by simpa using this
    rw [hb0] at hl1
    simp at hl1
  have HBS := hide (show Bytes w (some ⟨bb, bo, none⟩) b from .inr ⟨bb, bo, rfl, hbb, hbc⟩)
  have hbP : bb ≠ P := by omega
  obtain ⟨c0x, f0x⟩ := (show w1.cell? ⟨P, 0, none⟩ = some (.int .u8 0) ∧ w1.frozen? ⟨P, 0, none⟩ = false from by
    obtain ⟨b0, o0, e0, _, hc⟩ := Bytes.at (Owns.seen_at O1) (i := 0) (by rw [List.length_replicate]; decide)
    cases e0
    exact ⟨by rw [show (List.replicate 512 0).getD 0 0 = 0 from rfl] at hc; exact hc, Owns.frozen O1 0⟩)
  have HO1 := hide O1
  have HB1 := hide B1
  have HP := hide hP
  clear R1 O1 B1 hP hbc
  go_enter Tryz.func35, Tryz.ntmps35
  go_upto_region 3 with fail
  refine nameW (P := Code.wp _ _ _ _) ?_
  intro w2 hw2
  have O2 := hide (show OwnB w2 P (.slice (some ⟨P, 0, none⟩) 512 512) (scL s 0) from by
    rw [hw2]
    have q := Owns.stored HO1.out 0 ((108 : Nat) : Int)
    rw [← ints_set'] at q
    exact q)
  have K2 := hide (show Keep (fun b => b = P) w1 w2 from by rw [hw2]; exact (Keep.refl (fun b => b = P) w1).setCell (fun _ => rfl) _)
  clear hw2 c0x f0x HO1 R2
  go_wp2_with fail
  go_loopw [6] (fun iv wr => ∃ i : Nat, iv = .int .i64 (i : Int) ∧ i ≤ 4 ∧ OwnB wr P (.slice (some ⟨P, 0, none⟩) 512 512) (scL s i) ∧ Keep (fun b => b = P) w1 wr) (fun iv _ => (6 - (intOf iv).toNat))
  case atStart => exact ⟨0, rfl, Nat.zero_le _, O2.out, K2.out⟩
  case round =>
    obtain ⟨i, rfl, hi, ho, hk⟩ := hrel
    have HO := hide ho
    have HK := hide hk
    clear ho hk O2 K2
    by_cases hlt : i < 4
    · have d1 : decide ((i : Int) < 4) = true := by simp; omega
      have fr := Owns.frozen HO.out (1 + i)
      obtain ⟨b0, o0, e0, _, hcp⟩ := Bytes.at (Owns.seen_at HO.out) (i := 1 + i) (by rw [scL_length]; omega)
      cases e0
      rw [Nat.zero_add] at hcp
      have hi4 : i = 0 ∨ i = 1 ∨ i = 2 ∨ i = 3 := by omega
      rcases hi4 with rfl | rfl | rfl | rfl
      · go_wp2_with fail
        go_roundw
        case rel =>
          refine ⟨1, by go_num, by decide, ?_, HK.out.setCell (fun _ => rfl) _⟩
          have q := Owns.stored HO.out (1 + 0) ((s / 1 % 256 : Nat) : Int)
          rw [← ints_set'] at q
          have e : (s : Int) % 256 = ((s / 1 % 256 : Nat) : Int) := by omega
          (try rw [e])
          exact q
        case measure => simp [intOf]
      · go_wp2_with fail
        go_roundw
        case rel =>
          refine ⟨2, by go_num, by decide, ?_, HK.out.setCell (fun _ => rfl) _⟩
          have q := Owns.stored HO.out (1 + 1) ((s / 256 % 256 : Nat) : Int)
          rw [← ints_set'] at q
          have e : (s : Int) / 256 = ((s / 256 % 256 : Nat) : Int) := by omega
          (try rw [e])
          exact q
        case measure => simp [intOf]
      · go_wp2_with fail
        go_roundw
        case rel =>
          refine ⟨3, by go_num, by decide, ?_, HK.out.setCell (fun _ => rfl) _⟩
          have q := Owns.stored HO.out (1 + 2) ((s / 65536 % 256 : Nat) : Int)
          rw [← ints_set'] at q
          have e : (s : Int) / 65536 = ((s / 65536 % 256 : Nat) : Int) := by omega
          (try rw [e])
          exact q
        case measure => simp [intOf]
      · go_wp2_with fail
        go_roundw
        case rel =>
          refine ⟨4, by go_num, by decide, ?_, HK.out.setCell (fun _ => rfl) _⟩
          have q := Owns.stored HO.out (1 + 3) ((s / 16777216 % 256 : Nat) : Int)
          rw [← ints_set'] at q
          have e : (s : Int) / 16777216 = ((s / 16777216 % 256 : Nat) : Int) := by omega
          (try rw [e])
          exact q
        case measure => simp [intOf]
    · obtain rfl : i = 4 := by omega
      have d1 : decide (((4 : Nat) : Int) < 4) = false := by decide
      obtain ⟨bl, hbl⟩ : ∃ q, q = b.length := ⟨_, rfl⟩
      have HBL := hide hbl
      have fr5 := Owns.frozen HO.out 5
      have fr6 := Owns.frozen HO.out 6
      obtain ⟨b0, o0, e0, _, hc5⟩ := Bytes.at (Owns.seen_at HO.out) (i := 5) (by rw [scL_length]; omega)
      cases e0
      rw [Nat.zero_add] at hc5
      have O5 := Owns.stored HO.out 5 ((b.length % 256 : Nat) : Int)
      rw [← ints_set'] at O5
      have O6 := Owns.stored O5 6 ((b.length / 256 % 256 : Nat) : Int)
      rw [← ints_set'] at O6
      have HO6 := hide O6
      have HO0 := hide HO.out
      have HK6 := hide ((HK.out.setCell (g := P) (j := 5) (fun _ => rfl) (.int .u8 ((b.length % 256 : Nat) : Int))).setCell (g := P) (j := 6) (fun _ => rfl) (.int .u8 ((b.length / 256 % 256 : Nat) : Int)))
      clear O5 O6 HO HK
      obtain ⟨b0, o0, e0, _, hc6⟩ := Bytes.at (Owns.seen_at HO0.out) (i := 6) (by rw [scL_length]; omega)
      cases e0
      rw [Nat.zero_add] at hc6
      have e5 : ((b.length % 256 : Nat) : Int) = (b.length : Int) % 256 := by omega
      have e6 : ((b.length / 256 % 256 : Nat) : Int) = (b.length : Int) / 256 := by omega
      rw [e5, e6] at HO6 HK6
      clear e5 e6 HO0
      go_upto_region 9 with fail
      refine nameW (P := Code.wp _ _ _ _) ?_
      intro w7 hw7
      rw [← hw7] at HO6 HK6
      clear hw7 hc5 hc6 fr5 fr6
      have HS7 := hide (show Bytes w7 (some ⟨bb, bo, none⟩) b from Seen.keep (Seen.below HBS.out HB1.out) HK6.out (fun ad e => by cases e; exact hbP))
      obtain ⟨L6, hL6⟩ : ∃ q, q = ((scL s 4).set 5 (b.length % 256)).set 6 (b.length / 256 % 256) := ⟨_, rfl⟩
      rw [← hL6] at HO6
      have HL6 := hide hL6
      have hl6 : L6.length = 512 := by rw [hL6, List.length_set, List.length_set, scL_length]
      clear hL6
      have HMN := hide (show (ints b).length = Nat.min b.length 505 by rw [ints_length]; exact (show b.length.min 505 = b.length from Nat.min_eq_left (by omega)).symm)
      have HFT := hide (show 7 + (ints b).length ≤ 512 by rw [ints_length]; omega)
      obtain ⟨w8, R8, o8, k8⟩ := run_copy_own (P := Tryz.prog) (k := .u8) w7 80 80 3 5 Tryz.underlying80 (by kernel_rfl) P P 512 512 7 505 505 (ints L6) HO6.out ⟨bb, bo, none⟩ b.length c (ints b) HS7.out HMN.out HFT.out
      rw [ints_length] at R8
      go_upto_region 10 with fail
      clear R8
      rw [← Dv.splice_ints] at o8
      have K8 := hide (HK6.out.trans k8 (fun _ _ q => q))
      have hl8 : (splice L6 7 b).length = 512 := by rw [length_splice _ _ _ (by omega)]; exact hl6
      obtain ⟨b0, o0, e0, _, hc9⟩ := Bytes.at (Owns.seen_at o8) (i := 511) (by rw [hl8]; decide)
      cases e0
      rw [Nat.zero_add] at hc9
      have fr9 := Owns.frozen o8 511
      have O9 := Owns.stored o8 511 ((165 : Nat) : Int)
      rw [← ints_set'] at O9
      have FIN := hide (show OwnB (w8.setCell ⟨P, 511, none⟩ (.int .u8 165)) w.heap.size (.slice (some ⟨P, 0, none⟩) 512 512) (filledB s b) from by
        rw [← scF_eq s b hl2, ← HP.out]
        unfold scF
        rw [← HL6.out]
        exact O9)
      have BF := hide (show Below w.heap.size w (w8.setCell ⟨P, 511, none⟩ (.int .u8 165)) from HB1.out.trans ((K8.out.setCell (g := P) (j := 511) (fun _ => rfl) (.int .u8 165)).below (by have := HB1.out.size; omega) (fun k hk q => by have := HP.out; omega)))
      clear o8 k8 HO6 HK6 HS7 K8 O9
      go_wp2_with fail
      go_ret
      exact ⟨P, rfl, by rw [HP.out]; exact Nat.le_refl _, FIN.out, BF.out⟩
end Go.Proofs.YtgpmghdoofcpaaaGreat.Lg

namespace Go.Proofs.YtgpmghdoofcpaaaGreat.Lg
open Go.RowKit Go.QK
open Dv (hide bnext alloc_below LossAt)
set_option maxRecDepth 100000

theorem Bytes.sector {w : World} {ib i : Nat} {img : List Nat} (h : Bytes w (some ⟨ib, 0, none⟩) img) (hl : 512 * i + 512 ≤ img.length) : Bytes w (some ⟨ib, 512 * i, none⟩) (sector img i) := by
  have q := Bytes.take (Bytes.drop h (512 * i) (cap := img.length + 1) (by omega)) 512
  unfold dropA at q
  rw [if_neg (by omega)] at q
  simp only [Option.map_some, addr_add, Nat.zero_add] at q
  exact q
set_option maxHeartbeats 32000000 in
theorem law_keeps (c : Int) (ra : Option Addr) (rl : List RecL) (rc : Nat) (fa : Option Addr) (fl : List Int) (fc : Nat) (w : World) (hR : RecsAt w ra rl) (hrf : ∀ x ∈ rl, Fits x.r) (hrl : rl.length ≤ maxLen) (hF : Lies w fa (intCs fl)) :
    Calls Tryz.prog 5 #[.agg #[.int .i64 c, .slice ra rl.length rc, .slice fa fl.length fc]] w fun e w' => e = .returned (.bool true) ∧ Below w.heap.size w w' := by
  have hnn := lifeN_in c
  obtain ⟨w1, hw1⟩ : ∃ w1, w1 = w.alloc (.cells #[.int .i64 c, .slice ra rl.length rc, .slice fa fl.length fc] 25) := ⟨_, rfl⟩
  have b1 : Below w.heap.size w w1 := by rw [hw1]; exact alloc_below _ _
  have z1 : w1.heap.size = w.heap.size + 1 := by rw [hw1]; simp
  have R3 : RBox w1 w.heap.size 25 #[.int .i64 c, .slice ra rl.length rc, .slice fa fl.length fc] := by rw [hw1]; exact RBox.new w _ 25
  obtain ⟨b3, hb3⟩ : ∃ b, b = w.heap.size := ⟨_, rfl⟩
  rw [← hb3] at R3
  have h31 : b3 < w1.heap.size := by omega
  have HC3 := hide (show Cells w1 b3 [.int .i64 c, .slice ra rl.length rc, .slice fa fl.length fc] from R3.cells)
  have HR3 := hide R3
  have HR1 := hide (hR.below b1)
  have HF1 := hide (hF.below b1)
  have HRF := hide hrf
  have hrl' : (rl.length : Int) ≤ 9223372036854775807 := by unfold maxLen at hrl; omega
  have KO := hide (opened_any c ra fa rl.length rc fl.length fc w1)
  have KS := hide (fun (rv fv : Value) (w : World) => size_life c rv fv w)
  obtain ⟨n, hn⟩ : ∃ n, n = lifeN c := ⟨_, rfl⟩
  rw [← hn] at KO KS hnn
  have HN := hide hn
  have HW := hide hw1
  have HB3 := hide hb3
  have B1 := hide b1
  clear hw1 b1 z1 R3 hb3 hR hF hrf hrl hn
  obtain ⟨x0, _⟩ := HC3.out.get 0 _ rfl
  obtain ⟨x1, _⟩ := HC3.out.get 1 _ rfl
  obtain ⟨x2, _⟩ := HC3.out.get 2 _ rfl
  go_enter Tryz.func5, Tryz.ntmps5
  go_upto_region 1 with fail
  rw [← HW.out, ← HB3.out]
  clear HW HB3
  go_wp2_with fail
  refine KO.out.mono ?_
  rintro e w2 ⟨S2, T2, l, d, rfl, lv2⟩
  have L2 := hide lv2
  clear KO lv2 x0 x1 x2
  go_wp2_with fail
  refine (awake_any w2).mono ?_
  rintro e w3 ⟨rfl, b3w⟩
  have L3 := hide (L2.out.below b3w)
  clear b3w L2
  have HLC := hide (fun (wq : World) (hb : Below w1.heap.size w1 wq) => HC3.out.under h31 hb)
  have c3 := HLC.out _ L3.out.bel
  obtain ⟨x0, _⟩ := c3.get 0 _ rfl
  obtain ⟨x1, _⟩ := c3.get 1 _ rfl
  obtain ⟨x2, _⟩ := c3.get 2 _ rfl
  clear c3
  have KG := grows_any (X := fun _ => zerosB) c ra rl rc fa fl fc HR1.out HRF.out hrl' HF1.out (by rw [← HN.out]; exact L3.out) (by rw [← HN.out]; exact Grw.new (n + 3) 2 n (by omega) (by omega)) (Nat.zero_le _) (b3, 25, #[.int .i64 c, .slice ra rl.length rc, .slice fa fl.length fc]) ((L3.out.bel.block b3 h31).trans HR3.out) (fun q => by
    rcases q with q | q | q
    · have := L3.out.fS _ q; omega
    · have := L3.out.fT _ q; omega
    · have := L3.out.fl; omega) 0 (Nat.le_refl _) (512 * (n + 3)) List.length_replicate
  rw [← HN.out] at KG
  have KG := hide KG
  go_wp2_with fail
  refine KG.out.mono ?_
  rintro e w6 ⟨aa, i, ac, named, lab, S6, T6, g6, m6, xs, rfl, hG, _, _, hend⟩
  have hne : m6.ended = false := by
    cases hq : m6.ended
    · rfl
    · exact absurd rfl (hG.en hq)
  have hgw : Grw g6 m6 (fun _ => zerosB) := by
    rcases hG.dis with ⟨_, q⟩ | ⟨q, _⟩
    · exact q
    · rw [hne] at q; cases q
  have HG := hide hG
  have HEND := hide (hend hne)
  have HGW := hide hgw
  have hin := hG.hi
  have HMR := hide hG.recs
  have KLa := lastL_any hG.st.lv.ld
  rw [hG.recs] at KLa
  have KLa := hide KLa
  have RC6 := hide (hG.st.recsAt (V := fun _ => False) (Keep.refl _ w6) nofun)
  have HFX := hide (show (xs.map RecL.r).take i = xs.map RecL.r by rw [List.take_of_length_le (by rw [List.length_map, hG.len]; exact Nat.le_refl _)])
  clear KG hG hend L3 x0 x1 x2 hgw
  have KPf := prefix_any HG.out.st.lv.ld HG.out.ok hne aa ac xs RC6.out i (by rw [HG.out.len]; exact Nat.le_refl _) (by rw [HFX.out]; exact HG.out.holds) (by rw [HG.out.len]; omega) i (Nat.le_refl _)
  rw [HG.out.len] at KPf
  have KPf := hide KPf
  go_wp2_with fail
  refine KLa.out.mono ?_
  rintro e w7 ⟨rfl, hww⟩
  obtain rfl : w6 = w7 := hww.symm
  clear hww KLa
  go_wp2_with fail
  refine KPf.out.mono ?_
  rintro e w7 ⟨rfl, b7⟩
  have G7 := hide (HG.out.st.below b7 0)
  have FO := HGW.out.force (Holds.short HG.out.holds) i (by rw [HMR.out]; exact Nat.le_refl _)
  have FO := FO.resolve_right (fun q => by
    obtain ⟨_, _, _, _, _, _, _, _, q8⟩ := q
    have := HG.out.lf hne
    omega)
  have KF := hide (force_any G7.out.lv.ld HG.out.ok (i : Int) (by omega) (by rw [HG.out.pend]; exact Nat.zero_le _) (by have := HG.out.calls; have e0 : (Dev.new (n + 3)).calls = 0 := rfl; omega))
  obtain ⟨f1, f2, f3, f4, f5, f6, f7⟩ := FO
  have hf4 : (m6.forM g6 (i : Int)).forced = i := by rw [f4]; have := HGW.out.ok.fo; rw [HMR.out] at this; omega
  have F2 := hide f2
  have F1 := hide f1
  have F3 := hide f3
  have F4 := hide hf4
  have F5 := hide (show (m6.forM g6 (i : Int)).first = 2 from f5.trans HG.out.first)
  have F6 := hide (show (m6.forM g6 (i : Int)).count = n from f6.trans HG.out.count)
  clear f1 f2 f3 f4 f5 f6 f7 hf4 KPf b7
  go_wp2_with fail
  refine KF.out.mono ?_
  rintro e w8 ⟨S8, v8, rfl, hv8, ld8, k8, n8⟩
  obtain ⟨_, rfl⟩ : m6.forE g6 (i : Int) = 0 ∧ v8 = .nilIface := hv8.resolve_right (fun q => q.1 F1.out)
  have G8 := hide (G7.out.dsk ld8 k8 n8)
  clear KF hv8 ld8 k8 n8 F1 G7
  generalize m6.forM g6 (i : Int) = m8 at *
  generalize m6.forD g6 (i : Int) = g8 at *
  have HMOK := hide F2.out.ok
  have HM8E := hide F2.out.ended
  have HM8R := hide (show m8.recs.length = i by rw [F3.out]; exact HMR.out)
  have HM8C := hide F6.out
  have KFo := forced_any G8.out.lv.ld
  rw [F4.out] at KFo
  have KFo := hide KFo
  have KCh := hide (Dv.cache_any G8.out.lv.ld.dev (by rw [F2.out.pend]; exact Nat.zero_le _))
  go_wp2_with fail
  refine KFo.out.mono ?_
  rintro e w9 ⟨rfl, hww⟩
  obtain rfl : w8 = w9 := hww.symm
  clear hww KFo
  go_wp2_with fail
  refine KCh.out.mono ?_
  rintro e w9 ⟨qs, rfl, hqs, _, _, b9⟩
  have hq0 : qs = [] := by
    rw [F2.out.pend] at hqs
    exact List.map_eq_nil_iff.1 hqs
  subst hq0
  have G9 := hide (G8.out.below b9 0)
  clear KCh hqs b9 G8
  have KIm := hide (Dv.image_any G9.out.lv.ld.dev)
  go_wp2_with fail
  refine KIm.out.mono ?_
  rintro e w11 ⟨v11, rfl, o11, b11⟩
  obtain ⟨nn, hn1, hn2, himg⟩ := G9.out.lv.ld.dev.ok.size
  have hgn : 512 * (2 + n) ≤ g8.img.length := by have := F2.out.gi.len; rw [F5.out, F6.out] at this; exact this
  obtain ⟨ib, ic, rfl, hic, hbi, hib⟩ := o11.form (by rw [ints_length]; omega)
  rw [ints_length] at hic ⊢
  have IM := hide (show Bytes w11 (some ⟨ib, 0, none⟩) g8.img from Owns.seen_at o11)
  have G11 := hide (G9.out.below b11 0)
  have HLD := hide (show Dv.loads g8.img.length from ⟨by rw [himg]; omega, by rw [himg]; omega, by rw [himg]; omega⟩)
  have HAB := hide G9.out.lv.ld.dev.ok.bytes
  have KLd := Dv.load_ok (some ⟨ib, 0, none⟩) g8.img ic w11 IM.out hic nofun HAB.out HLD.out
  have hil16 : g8.img.length ≤ 5000000 := by omega
  obtain ⟨IL, hIL⟩ : ∃ q, q = g8.img.length := ⟨_, rfl⟩
  rw [← hIL] at hic KLd hil16 hgn ⊢
  have KLd := hide KLd
  have HIL := hide hIL
  clear KIm o11 b11 hbi hib G9 hIL himg
  go_wp2_with fail
  refine KLd.out.mono ?_
  rintro e w12 ⟨d2, S12, rfl, p12, f12, b12⟩
  have P12 := hide p12
  have G12 := hide (G11.out.below b12 0)
  have I12 := hide (IM.out.below b12)
  have HS12 := hide (show ∀ b, S12 b → w11.heap.size ≤ b from f12)
  have BL12 := hide (show Below w11.heap.size w11 w12 from b12)
  clear KLd p12 f12 b12
  go_wp2_with fail
  refine (num_any 0 w12).mono ?_
  rintro e w13 ⟨rfl, hww⟩
  obtain rfl : w12 = w13 := hww.symm
  clear hww
  have c3 := HLC.out _ G12.out.lv.bel
  obtain ⟨x0, _⟩ := c3.get 0 _ rfl
  obtain ⟨x1, _⟩ := c3.get 1 _ rfl
  obtain ⟨x2, _⟩ := c3.get 2 _ rfl
  clear c3
  go_wp2_with fail
  refine (KS.out _ _ w12).mono ?_
  rintro e w14 ⟨rfl, b14⟩
  have P14 := hide (P12.out.below b14)
  have BL14 := hide (bnext BL12.out b14 (Nat.le_refl _))
  clear x0 x1 x2 P12 BL12
  have WL := F2.out.load
  rw [F5.out, F6.out, F4.out] at WL
  have HLDS := hide (show Holds (xs.map RecL.r) m8.recs by rw [F3.out]; exact HG.out.holds)
  obtain ⟨o1, o2, o3⟩ := WL.open_ HLDS.out (by rw [List.length_map, HG.out.len]; exact Nat.le_refl _) rfl rfl (by decide)
  have o3 := o3.resolve_right (fun q => q.2.2.2.2 rfl)
  have KOp := hide (open_any P14.out 2 n hnn.1 WL.openn (Nat.zero_le _) (Nat.zero_le _))
  have O1 := hide o1
  have O3 := hide o3.1
  clear o1 o2 o3 WL
  go_wp2_with fail
  refine KOp.out.mono ?_
  rintro e w15 ⟨S15, p15, k15, n15, h15⟩
  rcases h15 with ⟨_, l15, T15, rfl, ld15, hl15, hT15⟩ | ⟨he, _⟩
  rotate_left
  · exact absurd O3.out he
  rw [O1.out] at ld15
  have HTK := hide (show m8.recs.take i = m8.recs by rw [List.take_of_length_le (by rw [F3.out, HMR.out]; exact Nat.le_refl _)])
  rw [HTK.out] at ld15
  have BL15 := hide (show Below w11.heap.size w11 w15 from BL14.out.trans (k15.below BL14.out.size (fun j hj q => by have := HS12.out j q; omega)))
  have LD15 := hide ld15
  have G15 := hide (G11.out.below BL15.out 0)
  have I15 := hide (show Bytes w15 (some ⟨ib, 0, none⟩) g8.img from IM.out.below BL15.out)
  clear KOp ld15 p15 k15 n15 hl15 hT15 P14 BL14 G12 I12 O1 O3 b14 HTK IM
  generalize openD (Dev.load g8.img) 2 n = g15 at *
  have hmr : m8.recs.length = i := by rw [F3.out]; exact HMR.out
  obtain ⟨m15, hm15⟩ : ∃ q : LogM, q = ⟨2, n, m8.recs, m8.recs.length, false⟩ := ⟨_, rfl⟩
  rw [← hm15] at LD15
  have HM15 := hide hm15
  have HMK := hide (show m15.Ok by rw [hm15]; exact ⟨by show m8.recs.length ≤ n; rw [hmr]; exact hin, by show 2 + n ≤ 10000; omega, Nat.le_refl _⟩)
  have HMRL := hide (show m15.recs.length = i by rw [hm15]; exact hmr)
  have HMC := hide (show m15.count = n by rw [hm15])
  have HHO := hide (show Holds ((xs.map RecL.r).take i) m15.recs by rw [HFX.out, hm15]; exact HLDS.out)
  have HEN := hide (show m15.ended = false by rw [hm15])
  clear hm15 hmr
  have DR : Below w15.heap.size w15 w15.drew := (Below.refl _ _).drew
  have G16 := hide (G15.out.below DR 0)
  have LD16 := hide (LD15.out.below DR)
  have I16 := hide (I15.out.below DR)
  have hS0 := hide (show w15.drew.cell? ⟨b3, 0, none⟩ = some (.int .i64 c) ∧ w15.drew.cell? ⟨b3, 1, none⟩ = some (.slice ra rl.length rc) ∧ w15.drew.cell? ⟨b3, 2, none⟩ = some (.slice fa fl.length fc) from (by have q := HLC.out _ G16.out.lv.bel; exact ⟨(q.get 0 _ rfl).1, (q.get 1 _ rfl).1, (q.get 2 _ rfl).1⟩))
  have KL := lastL_any LD16.out
  have KFr := free_any LD16.out HMK.out
  rw [HMRL.out] at KL KFr
  rw [HMC.out] at KFr
  obtain ⟨fr, hfr⟩ : ∃ q : Nat, q = n - i := ⟨_, rfl⟩
  rw [← hfr] at KFr
  have hfr2 : (n : Int) - (i : Int) = (fr : Int) := by omega
  have hfr3 : IntKind.i64.wrap ((n : Int) - (i : Int)) = (fr : Int) := by rw [IntKind.wrap_i64]; omega
  have hfr4 : IntKind.i64.wrap (fr : Int) = (fr : Int) := by rw [IntKind.wrap_i64]; omega
  have KL := hide KL
  have KFr := hide KFr
  clear hfr LD15 G15 I15
  go_upto_region 12 with fail
  refine wp_region_held_drew (S := fun wq => wq.cell? ⟨b3, 0, none⟩ = some (.int .i64 c) ∧ wq.cell? ⟨b3, 1, none⟩ = some (.slice ra rl.length rc) ∧ wq.cell? ⟨b3, 2, none⟩ = some (.slice fa fl.length fc)) (by kernel_rfl) hS0.out (fun hS => ?_)
  clear hS0 DR
  generalize w15.drew = w16 at *
  refine take_at 0 (some 94) (v := ?_) rfl rfl (by kernel_rfl) (by kernel_rfl) (by kernel_rfl) (fun _ _ _ h => h) ⟨by rfl, ?_⟩ hS ?_
  rotate_left
  · intro wq hSw; go_simp; try rfl
  simp only [Act.put, List.setIfInBounds_toArray, List.set_cons_zero, List.set_cons_succ]
  refine take_at 1 (some 95) (v := ?_) rfl rfl (by kernel_rfl) (by kernel_rfl) (by kernel_rfl) (fun _ _ _ h => h) ⟨by rfl, ?_⟩ hS ?_
  rotate_left
  · intro wq hSw; go_simp; try rfl
  simp only [Act.put, List.setIfInBounds_toArray, List.set_cons_zero, List.set_cons_succ]
  refine take_at 2 (some 96) (v := ?_) rfl rfl (by kernel_rfl) (by kernel_rfl) (by kernel_rfl) (fun _ _ _ h => h) ⟨by rfl, ?_⟩ hS ?_
  rotate_left
  · intro wq hSw; go_simp; try rfl
  simp only [Act.put, List.setIfInBounds_toArray, List.set_cons_zero, List.set_cons_succ]
  refine take_at 3 (some 97) (v := ?_) rfl rfl (by kernel_rfl) (by kernel_rfl) (by kernel_rfl) (fun _ _ _ h => h) ⟨by rfl, ?_⟩ hS ?_
  rotate_left
  · intro wq hSw; go_simp; try rfl
  simp only [Act.put, List.setIfInBounds_toArray, List.set_cons_zero, List.set_cons_succ]
  refine take_at 4 (some 98) (v := ?_) rfl rfl (by kernel_rfl) (by kernel_rfl) (by kernel_rfl) (fun _ _ _ h => h) ⟨by rfl, ?_⟩ hS ?_
  rotate_left
  · intro wq hSw; go_simp; try rfl
  simp only [Act.put, List.setIfInBounds_toArray, List.set_cons_zero, List.set_cons_succ]
  refine take_at 5 (some 99) (v := ?_) rfl rfl (by kernel_rfl) (by kernel_rfl) (by kernel_rfl) (fun _ _ _ h => h) ⟨by rfl, ?_⟩ hS ?_
  rotate_left
  · intro wq hSw; go_simp; try rfl
  simp only [Act.put, List.setIfInBounds_toArray, List.set_cons_zero, List.set_cons_succ]
  refine take_at 6 (some 100) (v := ?_) rfl rfl (by kernel_rfl) (by kernel_rfl) (by kernel_rfl) (fun _ _ _ h => h) ⟨by rfl, ?_⟩ hS ?_
  rotate_left
  · intro wq hSw; go_simp; try rfl
  simp only [Act.put, List.setIfInBounds_toArray, List.set_cons_zero, List.set_cons_succ]
  refine take_at 7 (some 101) (v := ?_) rfl rfl (by kernel_rfl) (by kernel_rfl) (by kernel_rfl) (fun _ _ _ h => h) ⟨by rfl, ?_⟩ hS ?_
  rotate_left
  · intro wq hSw; go_simp; try rfl
  simp only [Act.put, List.setIfInBounds_toArray, List.set_cons_zero, List.set_cons_succ]
  refine take_at 9 (some 103) (v := ?_) rfl rfl (by kernel_rfl) (by kernel_rfl) (by kernel_rfl) (fun _ _ _ h => h) ⟨by rfl, ?_⟩ hS ?_
  rotate_left
  · intro wq hSw; go_simp; try rfl
  simp only [Act.put, List.setIfInBounds_toArray, List.set_cons_zero, List.set_cons_succ]
  refine take_at 10 (some 104) (v := ?_) rfl rfl (by kernel_rfl) (by kernel_rfl) (by kernel_rfl) (fun _ _ _ h => h) ⟨by rfl, ?_⟩ hS ?_
  rotate_left
  · intro wq hSw; go_simp; try rfl
  simp only [Act.put, List.setIfInBounds_toArray, List.set_cons_zero, List.set_cons_succ]
  refine wpAnyH_ready (rs := [8]) (by kernel_rfl) (by simp) ?_
  refine AllReadyH.cons rfl (fun K hK => ?_) AllReadyH.nil
  go_simp
  go_wp2_with fail
  refine KL.out.mono ?_
  rintro e w17 ⟨rfl, hww⟩
  obtain rfl : w16 = w17 := hww.symm
  go_wp2_with fail
  refine hK.out _ _ hS (fun hS => ?_)
  clear hK K
  (try simp only [Act.put, List.setIfInBounds_toArray, List.set_cons_zero, List.set_cons_succ])
  refine take_at 11 (some 105) (v := ?_) rfl rfl (by kernel_rfl) (by kernel_rfl) (by kernel_rfl) (fun _ _ _ h => h) ⟨by rfl, ?_⟩ hS ?_
  rotate_left
  · intro wq hSw; go_simp; try rfl
  simp only [Act.put, List.setIfInBounds_toArray, List.set_cons_zero, List.set_cons_succ]
  refine take_at 12 (some 106) (v := ?_) rfl rfl (by kernel_rfl) (by kernel_rfl) (by kernel_rfl) (fun _ _ _ h => h) ⟨by rfl, ?_⟩ hS ?_
  rotate_left
  · intro wq hSw; go_simp; try rfl
  simp only [Act.put, List.setIfInBounds_toArray, List.set_cons_zero, List.set_cons_succ]
  refine take_at 13 (some 107) (v := ?_) rfl rfl (by kernel_rfl) (by kernel_rfl) (by kernel_rfl) (fun _ _ _ h => h) ⟨by rfl, ?_⟩ hS ?_
  rotate_left
  · intro wq hSw; go_simp; try rfl
  simp only [Act.put, List.setIfInBounds_toArray, List.set_cons_zero, List.set_cons_succ]
  refine take_at 14 (some 108) (v := ?_) rfl rfl (by kernel_rfl) (by kernel_rfl) (by kernel_rfl) (fun _ _ _ h => h) ⟨by rfl, ?_⟩ hS ?_
  rotate_left
  · intro wq hSw; go_simp; try rfl
  simp only [Act.put, List.setIfInBounds_toArray, List.set_cons_zero, List.set_cons_succ]
  refine take_at 16 (some 110) (v := ?_) rfl rfl (by kernel_rfl) (by kernel_rfl) (by kernel_rfl) (fun _ _ _ h => h) ⟨by rfl, ?_⟩ hS ?_
  rotate_left
  · intro wq hSw; obtain ⟨y0, y1, y2⟩ := hSw; go_simp; try rfl
  simp only [Act.put, List.setIfInBounds_toArray, List.set_cons_zero, List.set_cons_succ]
  refine take_at 18 (some 112) (v := ?_) rfl rfl (by kernel_rfl) (by kernel_rfl) (by kernel_rfl) (fun _ _ _ h => h) ⟨by rfl, ?_⟩ hS ?_
  rotate_left
  · intro wq hSw; go_simp; try rfl
  simp only [Act.put, List.setIfInBounds_toArray, List.set_cons_zero, List.set_cons_succ]
  refine take_at 19 (some 113) (v := ?_) rfl rfl (by kernel_rfl) (by kernel_rfl) (by kernel_rfl) (fun _ _ _ h => h) ⟨by rfl, ?_⟩ hS ?_
  rotate_left
  · intro wq hSw; go_simp; try rfl
  simp only [Act.put, List.setIfInBounds_toArray, List.set_cons_zero, List.set_cons_succ]
  refine wpAnyH_ready (rs := [15]) (by kernel_rfl) (by simp) ?_
  refine AllReadyH.cons rfl (fun K hK => ?_) AllReadyH.nil
  go_simp
  go_wp2_with fail
  refine KFr.out.mono ?_
  rintro e w17 ⟨rfl, b17⟩
  have G17 := hide (G16.out.below b17 0)
  have LD17 := hide (LD16.out.below b17)
  have I17 := hide (I16.out.below b17)
  clear b17 G16 LD16 I16
  go_wp2_with fail
  refine hK.out _ _ (by have q := HLC.out _ G17.out.lv.bel; exact ⟨(q.get 0 _ rfl).1, (q.get 1 _ rfl).1, (q.get 2 _ rfl).1⟩) (fun hS => ?_)
  clear hK K
  (try simp only [Act.put, List.setIfInBounds_toArray, List.set_cons_zero, List.set_cons_succ])
  refine wpAnyH_ready (rs := [17]) (by kernel_rfl) (by simp) ?_
  refine AllReadyH.cons rfl (fun K hK => ?_) AllReadyH.nil
  go_simp
  go_wp2_with fail
  refine (KS.out _ _ w17).mono ?_
  rintro e w18 ⟨rfl, b18⟩
  have G18 := hide (G17.out.below b18 0)
  have LD18 := hide (LD17.out.below b18)
  have I18 := hide (I17.out.below b18)
  clear b18 LD17 I17
  go_wp2_with fail
  refine hK.out _ _ (by have q := HLC.out _ G18.out.lv.bel; exact ⟨(q.get 0 _ rfl).1, (q.get 1 _ rfl).1, (q.get 2 _ rfl).1⟩) (fun hS => ?_)
  clear hK K
  (try simp only [Act.put, List.setIfInBounds_toArray, List.set_cons_zero, List.set_cons_succ])
  refine take_at 20 (some 114) (v := ?_) rfl rfl (by kernel_rfl) (by kernel_rfl) (by kernel_rfl) (fun _ _ _ h => h) ⟨by rfl, ?_⟩ hS ?_
  rotate_left
  · intro wq hSw; go_simp; try rfl
  simp only [Act.put, List.setIfInBounds_toArray, List.set_cons_zero, List.set_cons_succ]
  refine take_at 21 (some 115) (v := ?_) rfl rfl (by kernel_rfl) (by kernel_rfl) (by kernel_rfl) (fun _ _ _ h => h) ⟨by rfl, ?_⟩ hS ?_
  rotate_left
  · intro wq hSw; go_simp; try rfl
  simp only [Act.put, List.setIfInBounds_toArray, List.set_cons_zero, List.set_cons_succ]
  refine take_at 22 (some 116) (v := ?_) rfl rfl (by kernel_rfl) (by kernel_rfl) (by kernel_rfl) (fun _ _ _ h => h) ⟨by rfl, ?_⟩ hS ?_
  rotate_left
  · intro wq hSw; go_simp; try rfl
  simp only [Act.put, List.setIfInBounds_toArray, List.set_cons_zero, List.set_cons_succ]
  refine take_at 23 (some 117) (v := ?_) rfl rfl (by kernel_rfl) (by kernel_rfl) (by kernel_rfl) (fun _ _ _ h => h) ⟨by rfl, ?_⟩ hS ?_
  rotate_left
  · intro wq hSw; go_simp; try rfl
  simp only [Act.put, List.setIfInBounds_toArray, List.set_cons_zero, List.set_cons_succ]
  refine take_at 24 (some 118) (v := ?_) rfl rfl (by kernel_rfl) (by kernel_rfl) (by kernel_rfl) (fun _ _ _ h => h) ⟨by rfl, ?_⟩ hS ?_
  rotate_left
  · intro wq hSw; go_simp; try rfl
  simp only [Act.put, List.setIfInBounds_toArray, List.set_cons_zero, List.set_cons_succ]
  refine take_at 25 (some 119) (v := ?_) rfl rfl (by kernel_rfl) (by kernel_rfl) (by kernel_rfl) (fun _ _ _ h => h) ⟨by rfl, ?_⟩ hS ?_
  rotate_left
  · intro wq hSw; go_simp; try rfl
  simp only [Act.put, List.setIfInBounds_toArray, List.set_cons_zero, List.set_cons_succ]
  refine take_at 26 (some 120) (v := ?_) rfl rfl (by kernel_rfl) (by kernel_rfl) (by kernel_rfl) (fun _ _ _ h => h) ⟨by rfl, ?_⟩ hS ?_
  rotate_left
  · intro wq hSw; go_simp; try rfl
  simp only [Act.put, List.setIfInBounds_toArray, List.set_cons_zero, List.set_cons_succ]
  refine take_at 27 (some 121) (v := ?_) rfl rfl (by kernel_rfl) (by kernel_rfl) (by kernel_rfl) (fun _ _ _ h => h) ⟨by rfl, ?_⟩ hS ?_
  rotate_left
  · intro wq hSw; go_simp; try rfl
  simp only [Act.put, List.setIfInBounds_toArray, List.set_cons_zero, List.set_cons_succ]
  have RC18 := hide (G18.out.recsAt (V := fun _ => False) (Keep.refl _ w18) nofun)
  have KPf := prefix_any LD18.out HMK.out HEN.out aa ac xs RC18.out i (by rw [HG.out.len]; exact Nat.le_refl _) HHO.out (by rw [HG.out.len]; omega) i (Nat.le_refl _)
  rw [HG.out.len] at KPf
  have KPf := hide KPf
  refine wpAnyH_ready (rs := [28]) (by kernel_rfl) (by simp) ?_
  refine AllReadyH.cons rfl (fun K hK => ?_) AllReadyH.nil
  go_simp
  go_wp2_with fail
  refine KPf.out.mono ?_
  rintro e w19 ⟨rfl, b19⟩
  have G19 := hide (G18.out.below b19 0)
  have I19 := hide (I18.out.below b19)
  clear b19 G17 I18 RC18 KPf LD18
  go_wp2_with fail
  refine hK.out _ _ (by have q := HLC.out _ G19.out.lv.bel; exact ⟨(q.get 0 _ rfl).1, (q.get 1 _ rfl).1, (q.get 2 _ rfl).1⟩) (fun hS => ?_)
  clear hK K
  (try simp only [Act.put, List.setIfInBounds_toArray, List.set_cons_zero, List.set_cons_succ])
  refine take_at 29 (some 123) (v := ?_) rfl rfl (by kernel_rfl) (by kernel_rfl) (by kernel_rfl) (fun _ _ _ h => h) ⟨by rfl, ?_⟩ hS ?_
  rotate_left
  · intro wq hSw; go_simp; try rfl
  simp only [Act.put, List.setIfInBounds_toArray, List.set_cons_zero, List.set_cons_succ]
  refine take_at 30 (some 124) (v := ?_) rfl rfl (by kernel_rfl) (by kernel_rfl) (by kernel_rfl) (fun _ _ _ h => h) ⟨by rfl, ?_⟩ hS ?_
  rotate_left
  · intro wq hSw; go_simp; try rfl
  simp only [Act.put, List.setIfInBounds_toArray, List.set_cons_zero, List.set_cons_succ]
  refine wpAnyH_done (by kernel_rfl) ?_ _
  clear hS KL KFr G18
  go_wp2_with fail
  go_loopw [13] (fun jv wx => ∃ (j : Nat) (lab' : Nat → Nat), jv = .int .i64 (j : Int) ∧ j ≤ i ∧ Gst w1.heap.size w1 wx lab' S8 T6 l d g8 m8 (.slice aa i ac) xs ∧ Bytes wx (some ⟨ib, 0, none⟩) g8.img) (fun jv _ => (50 - (intOf jv).toNat))
  case atStart => exact ⟨0, _, rfl, Nat.zero_le _, G19.out, I19.out⟩
  case round =>
    obtain ⟨j, labj, rfl, hji, hGj, hIj⟩ := hrel
    have GJ := hide hGj
    have IJ := hide hIj
    clear hGj hIj G19 I19
    by_cases hj : j < i
    · have dj : decide ((j : Int) < (i : Int)) = true := by simp; omega
      have RCJ := GJ.out.recsAt (V := fun _ => False) (Keep.refl _ wr) nofun
      have hjx : j < xs.length := by rw [HG.out.len]; exact hj
      obtain ⟨bR, oR, eR, hbR, hcR⟩ := Lies.rowAt recLC 17 recLC_length RCJ.row j hjx (by decide)
      have hls := RCJ.lists xs[j] (List.getElem_mem hjx)
      obtain ⟨r9, e9, ck9, ft9, ln9, by9⟩ := HLDS.out.at_ j (by rw [List.length_map]; exact hjx)
      rw [List.getElem?_map, List.getElem?_eq_getElem hjx] at e9
      have e9 : (xs[j]'hjx).r = r9 := Option.some.inj e9
      have hsec := F2.out.gi.yes j (by rw [F4.out]; exact hj)
      rw [F5.out, by9] at hsec
      subst e9
      have HSEC := hide hsec
      have HB9 := hide by9
      have HCK := hide ck9
      have HFT := hide ft9
      have HLS := hide hls
      obtain ⟨rr, hrr⟩ : ∃ q, q = xs[j]'hjx := ⟨_, rfl⟩
      rw [← hrr] at HSEC HB9 HCK HFT HLS hcR
      obtain ⟨r0, la0, lc0, da0, dc0⟩ := rr
      have HCR := hide (show ∀ q v, (recC r0 la0 lc0 da0 dc0).toList[q]? = some v → wr.cell? ⟨bR, oR + j * 17 + q, none⟩ = some v from fun q v hv => hcR q v hv)
      dsimp only at *
      have KE := encode_any r0 la0 da0 lc0 dc0 wr HLS.out.1 HLS.out.2 HFT.out
      rw [HCK.out, encB_ok HCK.out] at KE
      have KE := hide KE
      have hb502 := bytes_502 HCK.out HFT.out
      subst eR
      clear RCJ hcR hls hrr ln9 hsec by9 ck9 ft9 HLS
      go_wp2_with (refine wpList_load44at (cs := recC r0 la0 lc0 da0 dc0) (b := bR) (off := oR + j * 17) HCR.out rfl rfl ?_)
      refine KE.out.mono ?_
      rintro e w20 ⟨v20, rfl, o20, b20⟩
      obtain ⟨eb, ec, rfl, hec, hbe, hbl⟩ := o20.form (by rw [ints_length]; omega)
      rw [ints_length] at hec ⊢
      have G20 := hide (GJ.out.below b20 0)
      have I20 := hide (IJ.out.below b20)
      have EB := hide (show Bytes w20 (some ⟨eb, 0, none⟩) (bytesR r0) from Owns.seen_at o20)
      clear KE o20 b20 hbe hbl GJ IJ HCR
      obtain ⟨lo, hlo⟩ : ∃ q : Nat, q = (2 + j) * 512 := ⟨_, rfl⟩
      obtain ⟨hi9, hhi⟩ : ∃ q : Nat, q = (3 + j) * 512 := ⟨_, rfl⟩
      obtain ⟨j2, hj2⟩ : ∃ q : Nat, q = 2 + j := ⟨_, rfl⟩
      obtain ⟨j3, hj3⟩ : ∃ q : Nat, q = 3 + j := ⟨_, rfl⟩
      obtain ⟨j1, hj1⟩ : ∃ q : Nat, q = j + 1 := ⟨_, rfl⟩
      have hloI : lo + 512 ≤ IL := by omega
      have w2a : IntKind.i64.wrap (2 + (j : Int)) = (j2 : Int) := by rw [IntKind.wrap_i64]; omega
      have w2b : 2 + (j : Int) = (j2 : Int) := by omega
      have w2c : IntKind.i64.wrap (j2 : Int) = (j2 : Int) := by rw [IntKind.wrap_i64]; omega
      have w2d : IntKind.i64.wrap ((j2 : Int) * 512) = (lo : Int) := by rw [IntKind.wrap_i64]; omega
      have w2e : (j2 : Int) * 512 = (lo : Int) := by omega
      have w2f : IntKind.i64.wrap (lo : Int) = (lo : Int) := by rw [IntKind.wrap_i64]; omega
      have w3a : IntKind.i64.wrap (3 + (j : Int)) = (j3 : Int) := by rw [IntKind.wrap_i64]; omega
      have w3b : 3 + (j : Int) = (j3 : Int) := by omega
      have w3c : IntKind.i64.wrap (j3 : Int) = (j3 : Int) := by rw [IntKind.wrap_i64]; omega
      have w3d : IntKind.i64.wrap ((j3 : Int) * 512) = (hi9 : Int) := by rw [IntKind.wrap_i64]; omega
      have w3e : (j3 : Int) * 512 = (hi9 : Int) := by omega
      have w3f : IntKind.i64.wrap (hi9 : Int) = (hi9 : Int) := by rw [IntKind.wrap_i64]; omega
      have w1a : IntKind.i64.wrap ((j : Int) + 1) = (j1 : Int) := by rw [IntKind.wrap_i64]; omega
      have w1b : (j : Int) + 1 = (j1 : Int) := by omega
      have w1c : IntKind.i64.wrap (j1 : Int) = (j1 : Int) := by rw [IntKind.wrap_i64]; omega
      have h5a : lo + 512 ≤ hi9 := by omega
      have h5b : hi9 ≤ lo + 512 := by omega
      have h5c : hi9 ≤ ic := by omega
      have h5d : ¬ ic = lo := by omega
      have h5e : ¬ lo = ic := by omega
      have HLO := hide hlo
      have DR : Below w20.heap.size w20 w20.drew := (Below.refl _ _).drew
      have G21 := hide (G20.out.below DR 0)
      have I21 := hide (I20.out.below DR)
      have E21 := hide (EB.out.below DR)
      have KSc := hide (sector_any j1 (some ⟨eb, 0, none⟩) (bytesR r0) ec w20.drew E21.out (by omega) hb502.2 (by omega))
      have HSB := hide (show filledB j1 (bytesR r0) = sector g8.img (2 + j) by rw [hj1, HSEC.out])
      clear hlo hhi hj2 hj3 hj1 G20 I20 EB
      go_upto_region 18 with fail
      refine wp_region_held_drew (S := fun _ => True) (by kernel_rfl) trivial (fun hS => ?_)
      clear DR
      generalize w20.drew = w21 at *
      refine take_at 0 (some 139) (v := ?_) rfl rfl (by kernel_rfl) (by kernel_rfl) (by kernel_rfl) (fun _ _ _ h => h) ⟨by rfl, ?_⟩ hS ?_
      rotate_left
      · intro wq hSw; go_simp; try rfl
      simp only [Act.put, List.setIfInBounds_toArray, List.set_cons_zero, List.set_cons_succ]
      refine wpAnyH_ready (rs := [1]) (by kernel_rfl) (by simp) ?_
      refine AllReadyH.cons rfl (fun K hK => ?_) AllReadyH.nil
      go_simp
      go_wp2_with fail
      refine (num_any 0 w21).mono ?_
      rintro e w22 ⟨rfl, hww⟩
      obtain rfl : w21 = w22 := hww.symm
      go_wp2_with fail
      refine hK.out _ _ trivial (fun hS => ?_)
      clear hK K
      (try simp only [Act.put, List.setIfInBounds_toArray, List.set_cons_zero, List.set_cons_succ])
      refine take_at 2 (some 141) (v := ?_) rfl rfl (by kernel_rfl) (by kernel_rfl) (by kernel_rfl) (fun _ _ _ h => h) ⟨by rfl, ?_⟩ hS ?_
      rotate_left
      · intro wq hSw; go_simp; try rfl
      simp only [Act.put, List.setIfInBounds_toArray, List.set_cons_zero, List.set_cons_succ]
      refine take_at 3 (some 142) (v := ?_) rfl rfl (by kernel_rfl) (by kernel_rfl) (by kernel_rfl) (fun _ _ _ h => h) ⟨by rfl, ?_⟩ hS ?_
      rotate_left
      · intro wq hSw; go_simp; try rfl
      simp only [Act.put, List.setIfInBounds_toArray, List.set_cons_zero, List.set_cons_succ]
      refine take_at 4 (some 143) (v := ?_) rfl rfl (by kernel_rfl) (by kernel_rfl) (by kernel_rfl) (fun _ _ _ h => h) ⟨by rfl, ?_⟩ hS ?_
      rotate_left
      · intro wq hSw; go_simp; try rfl
      simp only [Act.put, List.setIfInBounds_toArray, List.set_cons_zero, List.set_cons_succ]
      refine take_at 5 (some 144) (v := ?_) rfl rfl (by kernel_rfl) (by kernel_rfl) (by kernel_rfl) (fun _ _ _ h => h) ⟨by rfl, ?_⟩ hS ?_
      rotate_left
      · intro wq hSw; go_simp; try rfl
      simp only [Act.put, List.setIfInBounds_toArray, List.set_cons_zero, List.set_cons_succ]
      refine take_at 6 (some 145) (v := ?_) rfl rfl (by kernel_rfl) (by kernel_rfl) (by kernel_rfl) (fun _ _ _ h => h) ⟨by rfl, ?_⟩ hS ?_
      rotate_left
      · intro wq hSw; go_simp; try rfl
      simp only [Act.put, List.setIfInBounds_toArray, List.set_cons_zero, List.set_cons_succ]
      refine take_at 7 (some 146) (v := ?_) rfl rfl (by kernel_rfl) (by kernel_rfl) (by kernel_rfl) (fun _ _ _ h => h) ⟨by rfl, ?_⟩ hS ?_
      rotate_left
      · intro wq hSw; go_simp; try rfl
      simp only [Act.put, List.setIfInBounds_toArray, List.set_cons_zero, List.set_cons_succ]
      refine take_at 8 (some 147) (v := ?_) rfl rfl (by kernel_rfl) (by kernel_rfl) (by kernel_rfl) (fun _ _ _ h => h) ⟨by rfl, ?_⟩ hS ?_
      rotate_left
      · intro wq hSw; go_simp; try rfl
      simp only [Act.put, List.setIfInBounds_toArray, List.set_cons_zero, List.set_cons_succ]
      refine take_at 9 (some 148) (v := ?_) rfl rfl (by kernel_rfl) (by kernel_rfl) (by kernel_rfl) (fun _ _ _ h => h) ⟨by rfl, ?_⟩ hS ?_
      rotate_left
      · intro wq hSw; go_simp; try rfl
      simp only [Act.put, List.setIfInBounds_toArray, List.set_cons_zero, List.set_cons_succ]
      refine take_at 10 (some 149) (v := ?_) rfl rfl (by kernel_rfl) (by kernel_rfl) (by kernel_rfl) (fun _ _ _ h => h) ⟨by rfl, ?_⟩ hS ?_
      rotate_left
      · intro wq hSw; go_simp; try rfl
      simp only [Act.put, List.setIfInBounds_toArray, List.set_cons_zero, List.set_cons_succ]
      refine take_at 11 (some 150) (v := ?_) rfl rfl (by kernel_rfl) (by kernel_rfl) (by kernel_rfl) (fun _ _ _ h => h) ⟨by rfl, ?_⟩ hS ?_
      rotate_left
      · intro wq hSw; go_simp; rw [show hi9 - lo = 512 by omega, if_pos (show lo ≤ hi9 by omega)]; try rfl
      simp only [Act.put, List.setIfInBounds_toArray, List.set_cons_zero, List.set_cons_succ]
      refine take_at 12 (some 151) (v := ?_) rfl rfl (by kernel_rfl) (by kernel_rfl) (by kernel_rfl) (fun _ _ _ h => h) ⟨by rfl, ?_⟩ hS ?_
      rotate_left
      · intro wq hSw; go_simp; try rfl
      simp only [Act.put, List.setIfInBounds_toArray, List.set_cons_zero, List.set_cons_succ]
      refine take_at 13 (some 152) (v := ?_) rfl rfl (by kernel_rfl) (by kernel_rfl) (by kernel_rfl) (fun _ _ _ h => h) ⟨by rfl, ?_⟩ hS ?_
      rotate_left
      · intro wq hSw; go_simp; try rfl
      simp only [Act.put, List.setIfInBounds_toArray, List.set_cons_zero, List.set_cons_succ]
      refine take_at 14 (some 153) (v := ?_) rfl rfl (by kernel_rfl) (by kernel_rfl) (by kernel_rfl) (fun _ _ _ h => h) ⟨by rfl, ?_⟩ hS ?_
      rotate_left
      · intro wq hSw; go_simp; try rfl
      simp only [Act.put, List.setIfInBounds_toArray, List.set_cons_zero, List.set_cons_succ]
      refine wpAnyH_ready (rs := [15]) (by kernel_rfl) (by simp) ?_
      refine AllReadyH.cons rfl (fun K hK => ?_) AllReadyH.nil
      go_simp
      go_wp2_with fail
      refine KSc.out.mono ?_
      rintro e w22 ⟨gb, rfl, hgb, o22, b22⟩
      have G22 := hide (G21.out.below b22 0)
      have I22 := hide (I21.out.below b22)
      have KSm := same_any (some ⟨ib, lo, none⟩) (some ⟨gb, 0, none⟩) (sector g8.img (2 + j)) (filledB j1 (bytesR r0)) (ic - lo) 512 w22 (by rw [HLO.out, Nat.mul_comm]; exact Bytes.sector I22.out (by rw [← HIL.out, Nat.mul_comm, ← HLO.out]; exact hloI)) (Owns.seen_at o22) (fun x hx => HAB.out x (List.mem_of_mem_drop (List.mem_of_mem_take hx))) (filledB_all bytes_all)
      rw [← HSB.out, filledB_length (by omega), decide_eq_true rfl] at KSm
      have KSm := hide KSm
      clear KSc b22 G21 I21 o22
      go_wp2_with fail
      refine hK.out _ _ trivial (fun hS => ?_)
      clear hK K
      (try simp only [Act.put, List.setIfInBounds_toArray, List.set_cons_zero, List.set_cons_succ])
      refine wpAnyH_ready (rs := [16]) (by kernel_rfl) (by simp) ?_
      refine AllReadyH.cons rfl (fun K hK => ?_) AllReadyH.nil
      go_simp
      go_wp2_with fail
      refine KSm.out.mono ?_
      rintro e w23 ⟨rfl, hww⟩
      obtain rfl : w22 = w23 := hww.symm
      go_wp2_with fail
      refine hK.out _ _ trivial (fun hS => ?_)
      clear hK K
      (try simp only [Act.put, List.setIfInBounds_toArray, List.set_cons_zero, List.set_cons_succ])
      refine take_at 17 (some 156) (v := ?_) rfl rfl (by kernel_rfl) (by kernel_rfl) (by kernel_rfl) (fun _ _ _ h => h) ⟨by rfl, ?_⟩ hS ?_
      rotate_left
      · intro wq hSw; go_simp; try rfl
      simp only [Act.put, List.setIfInBounds_toArray, List.set_cons_zero, List.set_cons_succ]
      refine take_at 18 (some 157) (v := ?_) rfl rfl (by kernel_rfl) (by kernel_rfl) (by kernel_rfl) (fun _ _ _ h => h) ⟨by rfl, ?_⟩ hS ?_
      rotate_left
      · intro wq hSw; go_simp; try rfl
      simp only [Act.put, List.setIfInBounds_toArray, List.set_cons_zero, List.set_cons_succ]
      refine wpAnyH_done (by kernel_rfl) ?_ _
      clear hS KSm
      go_wp2_with fail
      go_roundw
      case rel => exact ⟨j + 1, _, by go_num, by omega, G22.out, I22.out⟩
      case measure => simp [intOf]; omega
    · obtain rfl : i = j := by omega
      have dj : decide ((i : Int) < (i : Int)) = false := by simp
      have GE := hide GJ.out
      clear GJ IJ
      have DR : Below wr.heap.size wr wr.drew := (Below.refl _ _).drew
      have G30 := hide (GE.out.below DR 0)
      have hS0 := hide (show wr.drew.cell? ⟨b3, 0, none⟩ = some (.int .i64 c) ∧ wr.drew.cell? ⟨b3, 1, none⟩ = some (.slice ra rl.length rc) ∧ wr.drew.cell? ⟨b3, 2, none⟩ = some (.slice fa fl.length fc) from (by have q := HLC.out _ G30.out.lv.bel; exact ⟨(q.get 0 _ rfl).1, (q.get 1 _ rfl).1, (q.get 2 _ rfl).1⟩))
      clear GE
      by_cases hbig : n < rl.length
      · have db : decide ((n : Int) < (rl.length : Int)) = true := by simp; omega
        have db2 : decide (n < rl.length) = true := by simp; omega
        obtain rfl : n = i := by have := HEND.out; omega
        go_upto_region 20 with fail
        refine wp_region_held_drew (S := fun wq => wq.cell? ⟨b3, 0, none⟩ = some (.int .i64 c) ∧ wq.cell? ⟨b3, 1, none⟩ = some (.slice ra rl.length rc) ∧ wq.cell? ⟨b3, 2, none⟩ = some (.slice fa fl.length fc)) (by kernel_rfl) hS0.out (fun hS => ?_)
        clear hS0 DR
        generalize wr.drew = w30 at *
        refine take_at 0 (some 158) (v := ?_) rfl rfl (by kernel_rfl) (by kernel_rfl) (by kernel_rfl) (fun _ _ _ h => h) ⟨by rfl, ?_⟩ hS ?_
        rotate_left
        · intro wq hSw; go_simp; try rfl
        simp only [Act.put, List.setIfInBounds_toArray, List.set_cons_zero, List.set_cons_succ]
        refine take_at 1 (some 159) (v := ?_) rfl rfl (by kernel_rfl) (by kernel_rfl) (by kernel_rfl) (fun _ _ _ h => h) ⟨by rfl, ?_⟩ hS ?_
        rotate_left
        · intro wq hSw; obtain ⟨y0, y1, y2⟩ := hSw; go_simp; try rfl
        simp only [Act.put, List.setIfInBounds_toArray, List.set_cons_zero, List.set_cons_succ]
        refine take_at 2 (some 160) (v := ?_) rfl rfl (by kernel_rfl) (by kernel_rfl) (by kernel_rfl) (fun _ _ _ h => h) ⟨by rfl, ?_⟩ hS ?_
        rotate_left
        · intro wq hSw; go_simp; try rfl
        simp only [Act.put, List.setIfInBounds_toArray, List.set_cons_zero, List.set_cons_succ]
        refine take_at 3 (some 161) (v := ?_) rfl rfl (by kernel_rfl) (by kernel_rfl) (by kernel_rfl) (fun _ _ _ h => h) ⟨by rfl, ?_⟩ hS ?_
        rotate_left
        · intro wq hSw; obtain ⟨y0, y1, y2⟩ := hSw; go_simp; try rfl
        simp only [Act.put, List.setIfInBounds_toArray, List.set_cons_zero, List.set_cons_succ]
        refine wpAnyH_ready (rs := [4]) (by kernel_rfl) (by simp) ?_
        refine AllReadyH.cons rfl (fun K hK => ?_) AllReadyH.nil
        go_simp
        go_wp2_with fail
        refine (KS.out _ _ w30).mono ?_
        rintro e w31 ⟨rfl, b31⟩
        have G31 := hide (G30.out.below b31 0)
        clear b31 G30
        go_wp2_with fail
        refine hK.out _ _ (by have q := HLC.out _ G31.out.lv.bel; exact ⟨(q.get 0 _ rfl).1, (q.get 1 _ rfl).1, (q.get 2 _ rfl).1⟩) (fun hS => ?_)
        clear hK K
        (try simp only [Act.put, List.setIfInBounds_toArray, List.set_cons_zero, List.set_cons_succ])
        refine take_at 5 (some 163) (v := ?_) rfl rfl (by kernel_rfl) (by kernel_rfl) (by kernel_rfl) (fun _ _ _ h => h) ⟨by rfl, ?_⟩ hS ?_
        rotate_left
        · intro wq hSw; go_simp; try rfl
        simp only [Act.put, List.setIfInBounds_toArray, List.set_cons_zero, List.set_cons_succ]
        refine wpAnyH_done (by kernel_rfl) ?_ _
        clear hS
        have DR2 : Below w31.heap.size w31 w31.drew := (Below.refl _ _).drew
        have G32 := hide (G31.out.below DR2 0)
        have RA := HR1.out
        obtain ⟨bR, oR, eR, hbR, hcR⟩ := Lies.rowAt recLC 17 recLC_length RA.row n hbig (by decide)
        have HLS := hide (RA.lists rl[n] (List.getElem_mem hbig))
        have HFT := hide (HRF.out rl[n] (List.getElem_mem hbig))
        obtain ⟨rr, hrr⟩ : ∃ q, q = rl[n] := ⟨_, rfl⟩
        rw [← hrr] at HLS HFT hcR
        obtain ⟨r0, la0, lc0, da0, dc0⟩ := rr
        dsimp only at HLS HFT
        have HLZ := hide (fun (wz : World) (bz : Below w1.heap.size w1 wz) => take_load44 wz bR (oR + n * 17) (recC r0 la0 lc0 da0 dc0) (fun q v hv => (bz.cell (p := ⟨bR, oR + n * 17 + q, none⟩) hbR).trans (hcR q v hv)) rfl)
        have hA := HLZ.out _ G32.out.lv.bel
        have hS1 := hide (show w31.drew.cell? ⟨b3, 0, none⟩ = some (.int .i64 c) ∧ w31.drew.cell? ⟨b3, 1, none⟩ = some (.slice ra rl.length rc) ∧ w31.drew.cell? ⟨b3, 2, none⟩ = some (.slice fa fl.length fc) from (by have q := HLC.out _ G32.out.lv.bel; exact ⟨(q.get 0 _ rfl).1, (q.get 1 _ rfl).1, (q.get 2 _ rfl).1⟩))
        obtain ⟨n1, hn1⟩ : ∃ q : Nat, q = n + 1 := ⟨_, rfl⟩
        have wn1 : IntKind.i64.wrap ((n : Int) + 1) = (n1 : Int) := by rw [IntKind.wrap_i64]; omega
        have wn2 : (n : Int) + 1 = (n1 : Int) := by omega
        have wn3 : IntKind.i64.wrap (n1 : Int) = (n1 : Int) := by rw [IntKind.wrap_i64]; omega
        have HN1 := hide hn1
        obtain ⟨RZ, hRZ⟩ : ∃ q, q = recC r0 la0 lc0 da0 dc0 := ⟨_, rfl⟩
        rw [← hRZ] at hA HLZ
        have HRZ := hide hRZ
        clear RA hcR hrr hn1 hRZ G31
        go_upto_region 21 with fail
        subst eR
        refine wp_region_held_drew (S := fun wq => (wq.cell? ⟨b3, 0, none⟩ = some (.int .i64 c) ∧ wq.cell? ⟨b3, 1, none⟩ = some (.slice (some ⟨bR, oR, none⟩) rl.length rc) ∧ wq.cell? ⟨b3, 2, none⟩ = some (.slice fa fl.length fc)) ∧ (loadVar 44 ⟨bR, oR + n * 17, none⟩).run Tryz.prog wq = .ok (.agg RZ) wq) (by kernel_rfl) ⟨hS1.out, hA⟩ (fun hS => ?_)
        clear hS1 DR2 hA
        generalize w31.drew = w32 at *
        refine take_at 0 (some 165) (v := ?_) rfl rfl (by kernel_rfl) (by kernel_rfl) (by kernel_rfl) (fun _ _ _ h => h) ⟨by rfl, ?_⟩ hS ?_
        rotate_left
        · intro wq hSw; go_simp; try rfl
        simp only [Act.put, List.setIfInBounds_toArray, List.set_cons_zero, List.set_cons_succ]
        refine take_at 1 (some 166) (v := ?_) rfl rfl (by kernel_rfl) (by kernel_rfl) (by kernel_rfl) (fun _ _ _ h => h) ⟨by rfl, ?_⟩ hS ?_
        rotate_left
        · intro wq hSw; go_simp; try rfl
        simp only [Act.put, List.setIfInBounds_toArray, List.set_cons_zero, List.set_cons_succ]
        refine take_at 2 (some 167) (v := ?_) rfl rfl (by kernel_rfl) (by kernel_rfl) (by kernel_rfl) (fun _ _ _ h => h) ⟨by rfl, ?_⟩ hS ?_
        rotate_left
        · intro wq hSw; obtain ⟨⟨y0, y1, y2⟩, y3⟩ := hSw; go_simp; try rfl
        simp only [Act.put, List.setIfInBounds_toArray, List.set_cons_zero, List.set_cons_succ]
        refine take_at 3 (some 168) (v := ?_) rfl rfl (by kernel_rfl) (by kernel_rfl) (by kernel_rfl) (fun _ _ _ h => h) ⟨by rfl, ?_⟩ hS ?_
        rotate_left
        · intro wq hSw; obtain ⟨⟨y0, y1, y2⟩, y3⟩ := hSw; go_simp; try rfl
        simp only [Act.put, List.setIfInBounds_toArray, List.set_cons_zero, List.set_cons_succ]
        refine take_at 7 (some 172) (v := ?_) rfl rfl (by kernel_rfl) (by kernel_rfl) (by kernel_rfl) (fun _ _ _ h => h) ⟨by rfl, ?_⟩ hS ?_
        rotate_left
        · intro wq hSw; obtain ⟨⟨y0, y1, y2⟩, y3⟩ := hSw; go_simp; try rfl
        simp only [Act.put, List.setIfInBounds_toArray, List.set_cons_zero, List.set_cons_succ]
        refine wpAnyH_ready (rs := [4]) (by kernel_rfl) (by simp) ?_
        refine AllReadyH.cons rfl (fun K hK => ?_) AllReadyH.nil
        go_simp
        go_wp2_with fail
        refine (KS.out _ _ w32).mono ?_
        rintro e w33 ⟨rfl, b33⟩
        have G33 := hide (G32.out.below b33 0)
        clear b33 G32
        go_wp2_with fail
        refine hK.out _ _ ⟨(by have q := HLC.out _ G33.out.lv.bel; exact ⟨(q.get 0 _ rfl).1, (q.get 1 _ rfl).1, (q.get 2 _ rfl).1⟩), HLZ.out w33 G33.out.lv.bel⟩ (fun hS => ?_)
        clear hK K
        (try simp only [Act.put, List.setIfInBounds_toArray, List.set_cons_zero, List.set_cons_succ])
        refine take_at 5 (some 170) (v := ?_) rfl rfl (by kernel_rfl) (by kernel_rfl) (by kernel_rfl) (fun _ _ _ h => h) ⟨by rfl, ?_⟩ hS ?_
        rotate_left
        · intro wq hSw; go_simp; try rfl
        simp only [Act.put, List.setIfInBounds_toArray, List.set_cons_zero, List.set_cons_succ]
        refine take_at 6 (some 171) (v := ?_) rfl rfl (by kernel_rfl) (by kernel_rfl) (by kernel_rfl) (fun _ _ _ h => h) ⟨by rfl, ?_⟩ hS ?_
        rotate_left
        · intro wq hSw; obtain ⟨⟨y0, y1, y2⟩, y3⟩ := hSw; (refine exec_load44 (x := .tmp 170) (cs := RZ) ?_ ?_ y3 <;> rfl)
        simp only [Act.put, List.setIfInBounds_toArray, List.set_cons_zero, List.set_cons_succ]
        refine wpAnyH_ready (rs := [8]) (by kernel_rfl) (by simp) ?_
        refine AllReadyH.cons rfl (fun K hK => ?_) AllReadyH.nil
        go_simp
        go_wp2_with fail
        refine (KS.out _ _ w33).mono ?_
        rintro e w34 ⟨rfl, b34⟩
        have G34 := hide (G33.out.below b34 0)
        clear b34 G33
        go_wp2_with fail
        refine hK.out _ _ ⟨(by have q := HLC.out _ G34.out.lv.bel; exact ⟨(q.get 0 _ rfl).1, (q.get 1 _ rfl).1, (q.get 2 _ rfl).1⟩), HLZ.out w34 G34.out.lv.bel⟩ (fun hS => ?_)
        clear hK K
        (try simp only [Act.put, List.setIfInBounds_toArray, List.set_cons_zero, List.set_cons_succ])
        refine take_at 9 (some 174) (v := ?_) rfl rfl (by kernel_rfl) (by kernel_rfl) (by kernel_rfl) (fun _ _ _ h => h) ⟨by rfl, ?_⟩ hS ?_
        rotate_left
        · intro wq hSw; go_simp; try rfl
        simp only [Act.put, List.setIfInBounds_toArray, List.set_cons_zero, List.set_cons_succ]
        have KM := hide (made_any r0 la0 da0 lc0 dc0 n1 w34 (HLS.out.1.below G34.out.lv.bel) (HLS.out.2.below G34.out.lv.bel) HFT.out (by have := HN1.out; omega) (by have := HN1.out; omega))
        rw [← HRZ.out] at KM
        refine wpAnyH_ready (rs := [10]) (by kernel_rfl) (by simp) ?_
        refine AllReadyH.cons rfl (fun K hK => ?_) AllReadyH.nil
        go_simp
        go_wp2_with fail
        refine KM.out.mono ?_
        rintro e w35 ⟨v35, r35, rfl, o35, hm35, b35⟩
        obtain ⟨la1, da1, lc1, dc1, rfl, hl1, hl2⟩ := RecOut.liesL o35 (fun _ => 2) 2 (fun _ _ => rfl)
        have G35 := hide (G34.out.below b35 0)
        have HL35 := hide (And.intro hl1.lies hl2.lies)
        have HM35 := hide hm35
        clear b35 G34 KM o35 hl1 hl2 hm35
        go_wp2_with fail
        refine hK.out _ _ ⟨(by have q := HLC.out _ G35.out.lv.bel; exact ⟨(q.get 0 _ rfl).1, (q.get 1 _ rfl).1, (q.get 2 _ rfl).1⟩), HLZ.out w35 G35.out.lv.bel⟩ (fun hS => ?_)
        clear hK K
        (try simp only [Act.put, List.setIfInBounds_toArray, List.set_cons_zero, List.set_cons_succ])
        have KA := hide (append_any G35.out.lv.ld HMOK.out r35 la1 da1 lc1 dc1 HL35.out.1 HL35.out.2 HM35.out.2.1)
        have hae : m8.appE r35 = 6 := by unfold LogM.appE; rw [HM8E.out, if_neg (by simp), HM8R.out, ← HN1.out, HM35.out.1, if_neg (by simp), if_pos HM8C.out]
        have ham : m8.appM r35 = m8 := by unfold LogM.appM; rw [if_neg (by omega)]
        have han : m8.appN r35 = 0 := by unfold LogM.appN; rw [if_neg (by omega)]
        rw [hae, ham, han] at KA
        obtain ⟨RY, hRY⟩ : ∃ q, q = recC r35 la1 lc1 da1 dc1 := ⟨_, rfl⟩
        rw [← hRY] at KA
        (try rw [← hRY])
        clear hae ham han hRY
        refine wpAnyH_ready (rs := [11]) (by kernel_rfl) (by simp) ?_
        refine AllReadyH.cons rfl (fun K hK => ?_) AllReadyH.nil
        go_simp
        go_wp2_with fail
        refine KA.out.mono ?_
        rintro e w36 ⟨T36, rfl, ld36, k36, n36⟩
        have L36 := hide (G35.out.lv.app ld36 k36 n36)
        have HC36 := hide (show (w36.cell? ⟨b3, 0, none⟩ = some (.int .i64 c) ∧ w36.cell? ⟨b3, 1, none⟩ = some (.slice (some ⟨bR, oR, none⟩) rl.length rc) ∧ w36.cell? ⟨b3, 2, none⟩ = some (.slice fa fl.length fc)) ∧ (loadVar 44 ⟨bR, oR + n * 17, none⟩).run Tryz.prog w36 = .ok (.agg RZ) w36 from ⟨(by have q := HLC.out _ L36.out.bel; exact ⟨(q.get 0 _ rfl).1, (q.get 1 _ rfl).1, (q.get 2 _ rfl).1⟩), HLZ.out w36 L36.out.bel⟩)
        clear KA ld36 k36 n36 G35
        go_wp2_with fail
        refine hK.out _ _ HC36.out (fun hS => ?_)
        clear hK K
        (try simp only [Act.put, List.setIfInBounds_toArray, List.set_cons_zero, List.set_cons_succ])
        refine take_at 12 (some 164) (v := ?_) rfl rfl (by kernel_rfl) (by kernel_rfl) (by kernel_rfl) (fun _ _ _ h => h) ⟨by rfl, ?_⟩ hS ?_
        rotate_left
        · intro wq hSw; go_simp; try rfl
        simp only [Act.put, List.setIfInBounds_toArray, List.set_cons_zero, List.set_cons_succ]
        refine take_at 13 (some 177) (v := ?_) rfl rfl (by kernel_rfl) (by kernel_rfl) (by kernel_rfl) (fun _ _ _ h => h) ⟨by rfl, ?_⟩ hS ?_
        rotate_left
        · intro wq hSw; go_simp; try rfl
        simp only [Act.put, List.setIfInBounds_toArray, List.set_cons_zero, List.set_cons_succ]
        refine take_at 14 (some 178) (v := ?_) rfl rfl (by kernel_rfl) (by kernel_rfl) (by kernel_rfl) (fun _ _ _ h => h) ⟨by rfl, ?_⟩ hS ?_
        rotate_left
        · intro wq hSw; go_simp; try rfl
        simp only [Act.put, List.setIfInBounds_toArray, List.set_cons_zero, List.set_cons_succ]
        refine take_at 15 (some 16) (v := ?_) rfl rfl (by kernel_rfl) (by kernel_rfl) (by kernel_rfl) (fun _ _ _ h => h) ⟨by rfl, ?_⟩ hS ?_
        rotate_left
        · intro wq hSw; go_simp; try rfl
        simp only [Act.put, List.setIfInBounds_toArray, List.set_cons_zero, List.set_cons_succ]
        refine take_at 16 (some 17) (v := ?_) rfl rfl (by kernel_rfl) (by kernel_rfl) (by kernel_rfl) (fun _ _ _ h => h) ⟨by rfl, ?_⟩ hS ?_
        rotate_left
        · intro wq hSw; go_simp; try rfl
        simp only [Act.put, List.setIfInBounds_toArray, List.set_cons_zero, List.set_cons_succ]
        refine wpAnyH_done (by kernel_rfl) ?_ _
        clear hS HC36
        have KFr2 := free_any L36.out.ld HMOK.out
        rw [HM8R.out, HM8C.out, Nat.sub_self] at KFr2
        have KFr2 := hide KFr2
        go_wp2_with fail
        refine (num_any 6 w36).mono ?_
        rintro e w37 ⟨rfl, hww⟩
        obtain rfl : w36 = w37 := hww.symm
        clear hww
        go_wp2_with fail
        refine KFr2.out.mono ?_
        rintro e w37 ⟨rfl, b37⟩
        have BF := hide (bnext (bnext B1.out L36.out.bel (Nat.le_refl _)) b37 (Nat.le_refl _))
        go_wp2_with fail
        go_ret
        exact ⟨by simp, BF.out⟩
      · have db : decide ((n : Int) < (rl.length : Int)) = false := by simp; omega
        have db2 : decide (n < rl.length) = false := by simp; omega
        go_upto_region 20 with fail
        refine wp_region_held_drew (S := fun wq => wq.cell? ⟨b3, 0, none⟩ = some (.int .i64 c) ∧ wq.cell? ⟨b3, 1, none⟩ = some (.slice ra rl.length rc) ∧ wq.cell? ⟨b3, 2, none⟩ = some (.slice fa fl.length fc)) (by kernel_rfl) hS0.out (fun hS => ?_)
        clear hS0 DR
        generalize wr.drew = w30 at *
        refine take_at 0 (some 158) (v := ?_) rfl rfl (by kernel_rfl) (by kernel_rfl) (by kernel_rfl) (fun _ _ _ h => h) ⟨by rfl, ?_⟩ hS ?_
        rotate_left
        · intro wq hSw; go_simp; try rfl
        simp only [Act.put, List.setIfInBounds_toArray, List.set_cons_zero, List.set_cons_succ]
        refine take_at 1 (some 159) (v := ?_) rfl rfl (by kernel_rfl) (by kernel_rfl) (by kernel_rfl) (fun _ _ _ h => h) ⟨by rfl, ?_⟩ hS ?_
        rotate_left
        · intro wq hSw; obtain ⟨y0, y1, y2⟩ := hSw; go_simp; try rfl
        simp only [Act.put, List.setIfInBounds_toArray, List.set_cons_zero, List.set_cons_succ]
        refine take_at 2 (some 160) (v := ?_) rfl rfl (by kernel_rfl) (by kernel_rfl) (by kernel_rfl) (fun _ _ _ h => h) ⟨by rfl, ?_⟩ hS ?_
        rotate_left
        · intro wq hSw; go_simp; try rfl
        simp only [Act.put, List.setIfInBounds_toArray, List.set_cons_zero, List.set_cons_succ]
        refine take_at 3 (some 161) (v := ?_) rfl rfl (by kernel_rfl) (by kernel_rfl) (by kernel_rfl) (fun _ _ _ h => h) ⟨by rfl, ?_⟩ hS ?_
        rotate_left
        · intro wq hSw; obtain ⟨y0, y1, y2⟩ := hSw; go_simp; try rfl
        simp only [Act.put, List.setIfInBounds_toArray, List.set_cons_zero, List.set_cons_succ]
        refine wpAnyH_ready (rs := [4]) (by kernel_rfl) (by simp) ?_
        refine AllReadyH.cons rfl (fun K hK => ?_) AllReadyH.nil
        go_simp
        go_wp2_with fail
        refine (KS.out _ _ w30).mono ?_
        rintro e w31 ⟨rfl, b31⟩
        have G31 := hide (G30.out.below b31 0)
        clear b31 G30
        go_wp2_with fail
        refine hK.out _ _ (by have q := HLC.out _ G31.out.lv.bel; exact ⟨(q.get 0 _ rfl).1, (q.get 1 _ rfl).1, (q.get 2 _ rfl).1⟩) (fun hS => ?_)
        clear hK K
        (try simp only [Act.put, List.setIfInBounds_toArray, List.set_cons_zero, List.set_cons_succ])
        refine take_at 5 (some 163) (v := ?_) rfl rfl (by kernel_rfl) (by kernel_rfl) (by kernel_rfl) (fun _ _ _ h => h) ⟨by rfl, ?_⟩ hS ?_
        rotate_left
        · intro wq hSw; go_simp; try rfl
        simp only [Act.put, List.setIfInBounds_toArray, List.set_cons_zero, List.set_cons_succ]
        refine wpAnyH_done (by kernel_rfl) ?_ _
        go_wp2_with fail
        go_ret
        exact ⟨rfl, bnext B1.out G31.out.lv.bel (Nat.le_refl _)⟩
end Go.Proofs.YtgpmghdoofcpaaaGreat.Lg
