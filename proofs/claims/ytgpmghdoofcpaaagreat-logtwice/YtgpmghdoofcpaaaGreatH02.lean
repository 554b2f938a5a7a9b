import Derived.Test.YtgpmghdoofcpaaaGreatLgG2
import Derived.Test.YtgpmghdoofcpaaaGreatLgPf
import Derived.Test.YtgpmghdoofcpaaaGreatH01
namespace Go.Proofs.YtgpmghdoofcpaaaGreat.Lg
open Go.RowKit Go.QK
open Dv (hide bnext alloc_below LossAt)
set_option maxRecDepth 100000

theorem LV.step {B : Nat} {w0 w w' : World} {S S' T : Nat → Prop} {l d : Nat} {g g' : Dev} {m : LogM} (h : LV B w0 w S T l d g m) (hd : PDev w' S' d g') (hs : Step w S w' S') : LV B w0 w' S' T l d g' m := by
  have hlt := h.ld.lt
  obtain ⟨rv, vs, h1, h2⟩ := h.ld.recs
  have hB := Nat.le_trans h.le h.bel.size
  refine ⟨⟨hd, ⟨rv, vs, h1.keep hs.1 (fun b q r => h.ld.ap b q r), h2.keep hs.1 h.ld.nS⟩, h.ld.nT, fun q => (hs.2 l q).elim h.ld.nS (fun r => by omega), fun b q r => (hs.2 b q).elim (fun q => h.ld.ap b q r) (fun q => by have := hlt.2.2 b r; omega)⟩, fun b q => (hs.2 b q).elim (h.fS b) (fun r => Nat.le_trans hB r), h.fT, h.fl, h.bel.trans (hs.1.below hB (fun j hj q => by have := h.fS j q; omega)), h.le⟩
theorem Gst.recsAt {B : Nat} {w0 w w' : World} {lab : Nat → Nat} {S T V : Nat → Prop} {l d : Nat} {g : Dev} {m : LogM} {aa : Option Addr} {n ac : Nat} {xs : List RecL} (h : Gst B w0 w lab S T l d g m (.slice aa n ac) xs) (hk : Keep V w w') (hV : ∀ b, V b → lab b = 0) : RecsAt w' aa xs := by
  obtain ⟨k1, _, k3, _⟩ := h.keep1 (L := 0) (lab' := lab) hk hV (fun _ _ => rfl)
  obtain ⟨a, c, hv, hL, _⟩ := GRow.lies (k1 (by decide))
  cases hv
  exact ⟨hL, fun x hx => ⟨((k3 (by decide)) x hx).1.lies, ((k3 (by decide)) x hx).2.lies⟩⟩
theorem Lies.front {w : World} {a : Option Addr} {cs ds : List Value} (h : Lies w a (cs ++ ds)) : Lies w a cs := by
  rcases h with h | ⟨b, off, e, hb, hc⟩
  · exact .inl (List.append_eq_nil_iff.1 h).1
  · exact .inr ⟨b, off, e, hb, fun i hi => by rw [hc i (by rw [List.length_append]; omega), List.getElem_append_left hi]⟩
theorem FallsAt.take {w : World} {a : Option Addr} {xs : List FallM} (h : FallsAt w a xs) (n : Nat) : FallsAt w a (xs.take n) := by
  refine ⟨?_, fun x hx => h.loss x (List.mem_of_mem_take hx)⟩
  have q := h.row
  rw [← List.take_append_drop n xs] at q
  unfold rowsC at q
  rw [List.flatMap_append] at q
  exact Lies.front q
theorem FallsAt.below {w w' : World} {a : Option Addr} {xs : List FallM} (h : FallsAt w a xs) (b : Below w.heap.size w w') : FallsAt w' a xs :=
  ⟨h.row.below b, fun x hx => ⟨(h.loss x hx).seen.below b, (h.loss x hx).nil, (h.loss x hx).cap, (h.loss x hx).ok⟩⟩
theorem _root_.Go.Proofs.YtgpmghdoofcpaaaGreat.Dv.LossAt.below {w w' : World} {l : Loss} {a : Option Addr} {c : Nat} (h : LossAt w l a c) (b : Below w.heap.size w w') : LossAt w' l a c := ⟨h.seen.below b, h.nil, h.cap, h.ok⟩
theorem _root_.Go.Proofs.YtgpmghdoofcpaaaGreat.Dv.LossAt.low {w : World} {l : Loss} {a : Option Addr} {c : Nat} (h : LossAt w l a c) (hk : l.keep ≠ []) : ∀ ad, a = some ad → ad.block < w.heap.size := by
  intro ad ha
  rcases h.seen with q | ⟨b, off, q1, q2, _⟩
  · exact absurd q (by simpa [ints] using hk)
  · rw [ha] at q1
    cases q1
    exact q2
theorem crash_calls (g : Dev) (l : Loss) : (g.crash l).calls ≤ g.calls + 1 := by
  unfold Dev.crash Dev.fall
  split <;> simp

theorem LD.step {w w' : World} {S S' T : Nat → Prop} {l d : Nat} {g g' : Dev} {m : LogM} (h : LD w S T l d g m) (hd : PDev w' S' d g') (hs : Step w S w' S') : LD w' S' T l d g' m := by
  have hlt := h.lt
  obtain ⟨rv, vs, h1, h2⟩ := h.recs
  exact ⟨hd, ⟨rv, vs, h1.keep hs.1 (fun b q r => h.ap b q r), h2.keep hs.1 h.nS⟩, h.nT, fun q => (hs.2 l q).elim h.nS (fun r => by omega), fun b q r => (hs.2 b q).elim (fun q => h.ap b q r) (fun q => by have := hlt.2.2 b r; omega)⟩
theorem LV.beside {B : Nat} {w0 w w' : World} {S T : Nat → Prop} {l d P : Nat} {g : Dev} {m : LogM} (h : LV B w0 w S T l d g m) (hk : Keep (fun b => b = P) w w') (hB : B ≤ P) (hS : ¬ S P) (hT : ¬ T P) (hl : P ≠ l) : LV B w0 w' S T l d g m := by
  have hB2 := Nat.le_trans h.le h.bel.size
  exact ⟨h.ld.keep hk (fun b e q => hS (by rw [← e]; exact q)) (fun b e q => hT (by rw [← e]; exact q)) (fun e => hl e.symm), h.fS, h.fT, h.fl, h.bel.trans (hk.below hB2 (fun k hk q => by omega)), h.le⟩

/-! What LogTwice lays beside the log. -/
def fillB (f : Nat) : List Nat := List.replicate 512 f
theorem fillB_length (f : Nat) : (fillB f).length = 512 := List.length_replicate
theorem fillB_allB (f : Nat) (h : f < 256) : AllB (fillB f) := by
  intro x hx
  have := List.eq_of_mem_replicate hx
  omega
theorem fillB_getD (f k : Nat) (h : k < 512) : (fillB f).getD k 0 = f := by
  show (List.replicate 512 f).getD k 0 = f
  rw [List.getD_eq_getElem?_getD, List.getElem?_replicate, if_pos h]
  rfl
def besP (n : Nat) : List (Nat × List Nat) := [(0, fillB 200), (1, fillB 201), (n + 2, fillB 202)]
def besD (n i : Nat) : Dev := ⟨List.replicate (512 * (n + 3)) 0, (besP n).take i, i, false, 0, none⟩
def besAt (n i : Nat) : Nat := [0, 1, n + 2].getD i 0
def besX (_ : Nat) : Nat → List Nat := fun i => if i = 0 then fillB 200 else if i = 1 then fillB 201 else fillB 202
theorem besD_n (n i : Nat) : (besD n i).n = n + 3 := by
  show (List.replicate (512 * (n + 3)) 0).length / 512 = n + 3
  rw [List.length_replicate]
  omega
theorem besAt_lt (n i : Nat) (hi : i < 3) : besAt n i < n + 3 := by
  match i, hi with
  | 0, _ => show 0 < n + 3; omega
  | 1, _ => show 1 < n + 3; omega
  | 2, _ => show n + 2 < n + 3; omega
theorem besX_at (n i : Nat) (hi : i < 3) (hn : 1 ≤ n) : besX n (besAt n i) = fillB (200 + i) := by
  match i, hi with
  | 0, _ => rfl
  | 1, _ => rfl
  | 2, _ => show (if n + 2 = 0 then fillB 200 else if n + 2 = 1 then fillB 201 else fillB 202) = fillB 202; rw [if_neg (by omega), if_neg (by omega)]
theorem besD_next (n i : Nat) (hi : i < 3) : (besD n i).writeE ((besAt n i : Nat) : Int) 512 = 0 ∧ (besD n i).write ((besAt n i : Nat) : Int) (fillB (200 + i)) = besD n (i + 1) := by
  rcases write_cases (g := besD n i) rfl (.inl rfl) (besAt n i) (by rw [besD_n]; exact besAt_lt n i hi) (fillB (200 + i)) (fillB_length _) with ⟨h1, h2⟩ | ⟨_, h2, _⟩
  · refine ⟨h1, h2.trans ?_⟩
    match i, hi with
    | 0, _ => rfl
    | 1, _ => rfl
    | 2, _ => rfl
  · exact absurd h2 (by show ¬ (0 = 1); decide)
theorem besP_fits (n : Nat) : ∀ p ∈ besP n, FitsW (512 * (n + 3)) p := by
  intro p hp
  simp [besP] at hp
  rcases hp with rfl | rfl | rfl
  · exact ⟨by simp; omega, fillB_length _⟩
  · exact ⟨by simp; omega, fillB_length _⟩
  · exact ⟨by simp; omega, fillB_length _⟩
theorem bes_sector (n i : Nat) (hi : i < n + 3) : sector (syncAll (besP n) (List.replicate (512 * (n + 3)) 0)) i = if i = n + 2 then fillB 202 else if i = 1 then fillB 201 else if i = 0 then fillB 200 else zerosB := by
  rw [sync_sector (m := 512 * (n + 3)) i (by omega) (besP n) _ List.length_replicate (besP_fits n)]
  have hz : sector (List.replicate (512 * (n + 3)) 0) i = zerosB := by
    have := new_content (n + 3) i hi
    exact this
  unfold contentOf besP
  simp only [List.foldl_cons, List.foldl_nil]
  rw [hz]
  by_cases h2 : i = n + 2
  · rw [if_pos h2.symm, if_pos h2]
  · rw [if_neg (fun e => h2 e.symm), if_neg h2]
    by_cases h1 : i = 1
    · rw [if_pos h1.symm, if_pos h1]
    · rw [if_neg (fun e => h1 e.symm), if_neg h1]
      by_cases h0 : i = 0
      · rw [if_pos h0.symm, if_pos h0]
      · rw [if_neg (fun e => h0 e.symm), if_neg h0]
theorem bes_sync (n : Nat) (hn : 1 ≤ n) (hn2 : n ≤ 40) : (besD n 3).syncE = 0 ∧ Grw (besD n 3).sync ⟨2, n, [], 0, false⟩ (besX n) ∧ (besD n 3).sync.calls = 4 ∧ (besD n 3).sync.img.length = 512 * (n + 3) := by
  rcases sync_cases (g := besD n 3) rfl (.inl rfl) with ⟨h1, h2⟩ | ⟨_, h2, _⟩
  · have hl0 : (syncAll (besP n) (List.replicate (512 * (n + 3)) 0)).length = 512 * (n + 3) := syncAll_len _ _ List.length_replicate (besP_fits n)
    refine ⟨h1, ?_, by rw [h2]; rfl, by rw [h2]; exact hl0⟩
    rw [h2]
    have hl : (syncAll (besP n) (List.replicate (512 * (n + 3)) 0)).length = 512 * (n + 3) := syncAll_len _ _ List.length_replicate (besP_fits n)
    have hnn : (syncAll (besP n) (List.replicate (512 * (n + 3)) 0)).length / 512 = n + 3 := by rw [hl]; omega
    refine ⟨⟨?_, ?_, Nat.zero_le _, nofun, fun j _ hj => ?_, fun i hi hi2 => ?_⟩, rfl, rfl, .inl rfl, rfl, ⟨Nat.zero_le _, by show 2 + n ≤ 10000; omega, Nat.le_refl _⟩⟩
    · show 512 * (2 + n) ≤ (syncAll (besP n) (List.replicate (512 * (n + 3)) 0)).length
      rw [hl]; omega
    · show (syncAll (besP n) (List.replicate (512 * (n + 3)) 0)).length = 512 * ((syncAll (besP n) (List.replicate (512 * (n + 3)) 0)).length / 512)
      rw [hnn, hl]
    · show sector (syncAll (besP n) (List.replicate (512 * (n + 3)) 0)) (2 + j) = zerosB
      have hj : j < n := hj
      rw [bes_sector n (2 + j) (by omega), if_neg (by omega), if_neg (by omega), if_neg (by omega)]
    · show sector (syncAll (besP n) (List.replicate (512 * (n + 3)) 0)) i = besX n i
      have hi2 : i < (syncAll (besP n) (List.replicate (512 * (n + 3)) 0)).length / 512 := hi2
      rw [hnn] at hi2
      have hi : i < 2 ∨ 2 + n ≤ i := hi
      rw [bes_sector n i hi2]
      unfold besX
      have : i = 0 ∨ i = 1 ∨ i = n + 2 := by omega
      rcases this with rfl | rfl | rfl
      · rw [if_neg (by omega), if_neg (by omega), if_pos rfl, if_pos rfl]
      · rw [if_neg (by omega), if_pos rfl, if_neg (by omega), if_pos rfl]
      · rw [if_pos rfl, if_neg (by omega), if_neg (by omega)]
  · exact absurd h2 (by show ¬ (0 = 1); decide)
end Go.Proofs.YtgpmghdoofcpaaaGreat.Lg

namespace Go.Proofs.YtgpmghdoofcpaaaGreat.Lg
open Go.RowKit Go.QK
open Dv (hide bnext alloc_below LossAt)
set_option maxRecDepth 100000

set_option maxHeartbeats 32000000 in
theorem law_twice (c : Int) (ra : Option Addr) (rl : List RecL) (rc : Nat) (fa : Option Addr) (fl : List Int) (fc : Nat) (ff : FallM) (sa : Option Addr) (fs : List FallM) (sc : Nat) (w : World) (hR : RecsAt w ra rl) (hrf : ∀ x ∈ rl, Fits x.r) (hrl : rl.length ≤ maxLen) (hF : Lies w fa (intCs fl)) (hff : LossAt w ff.l ff.a ff.c) (hfk : ff.l.keep.length ≤ 17592186044415)
    (hfs : FallsAt w sa fs) (hfsk : ∀ x ∈ fs, x.l.keep.length ≤ 17592186044415) (hsl : fs.length ≤ sc) (hsm : sc ≤ maxLen) :
    Calls Tryz.prog 7 #[.agg #[.int .i64 c, .slice ra rl.length rc, .slice fa fl.length fc], .agg #[.int .i64 ff.step, .slice ff.a ff.l.keep.length ff.c, .int .i64 ff.l.torn, .int .i64 ff.l.off], .slice sa fs.length sc] w fun e w' => e = .returned (.bool true) ∧ Below w.heap.size w w' := by
  have hnn := lifeN_in c
  obtain ⟨w1, hw1⟩ : ∃ w1, w1 = (w.alloc (.cells #[.int .i64 c, .slice ra rl.length rc, .slice fa fl.length fc] 25)).alloc (.cells #[.int .i64 ff.step, .slice ff.a ff.l.keep.length ff.c, .int .i64 ff.l.torn, .int .i64 ff.l.off] 66) := ⟨_, rfl⟩
  have b1 : Below w.heap.size w w1 := by rw [hw1]; exact ((Below.refl _ w).alloc (Nat.le_refl _) _).alloc (by simp) _
  have z1 : w1.heap.size = w.heap.size + 2 := by rw [hw1]; simp
  have C3 : Cells w1 w.heap.size [.int .i64 c, .slice ra rl.length rc, .slice fa fl.length fc] := by rw [hw1]; exact (Cells.new w #[.int .i64 c, .slice ra rl.length rc, .slice fa fl.length fc] 25).below (alloc_below _ _)
  have C4 : Cells w1 (w.heap.size + 1) [.int .i64 ff.step, .slice ff.a ff.l.keep.length ff.c, .int .i64 ff.l.torn, .int .i64 ff.l.off] := by
    rw [hw1]
    have q := Cells.new (w.alloc (.cells #[.int .i64 c, .slice ra rl.length rc, .slice fa fl.length fc] 25)) #[.int .i64 ff.step, .slice ff.a ff.l.keep.length ff.c, .int .i64 ff.l.torn, .int .i64 ff.l.off] 66
    rw [World.size_alloc] at q
    exact q
  obtain ⟨b3, hb3⟩ : ∃ b, b = w.heap.size := ⟨_, rfl⟩
  obtain ⟨b4, hb4⟩ : ∃ b, b = w.heap.size + 1 := ⟨_, rfl⟩
  rw [← hb3] at C3
  rw [← hb4] at C4
  have h31 : b3 < w1.heap.size := by omega
  have h41 : b4 < w1.heap.size := by omega
  have HC3 := hide C3
  have HC4 := hide C4
  have HR1 := hide (hR.below b1)
  have HF1 := hide (hF.below b1)
  have HRF := hide hrf
  have HL1 := hide (hff.below b1)
  have HFS := hide ((hfs.take 12).below b1)
  have HFK := hide (show ∀ x ∈ fs.take 12, x.l.keep.length ≤ 17592186044415 from fun x hx => hfsk x (List.mem_of_mem_take hx))
  have HFX := hide (show ∀ x ∈ fs.take 12, x.l.keep ≠ [] → ∀ ad, x.a = some ad → ad.block < w1.heap.size from fun x hx hk ad ha => by
    have := (hfs.loss x (List.mem_of_mem_take hx)).low hk ad ha
    omega)
  have hrl' : (rl.length : Int) ≤ 9223372036854775807 := by unfold maxLen at hrl; omega
  have hsl' : (fs.length : Int) ≤ 9223372036854775807 := by unfold maxLen at hsm; omega
  have KO := hide (opened_any c ra fa rl.length rc fl.length fc w1)
  have KS := hide (fun (rv fv : Value) (w : World) => size_life c rv fv w)
  obtain ⟨n, hn⟩ : ∃ n, n = lifeN c := ⟨_, rfl⟩
  rw [← hn] at KO KS hnn
  have HN := hide hn
  have HW := hide hw1
  have HB3 := hide hb3
  have HB4 := hide hb4
  have B1 := hide b1
  have hstk : (fs.take 12).length = min 12 fs.length := List.length_take
  have HSTK := hide hstk
  have hl12 : (fs.take 12).length ≤ 12 := by omega
  have HFA := hide (show fs.take 12 ≠ [] → ∀ ad, sa = some ad → ad.block < w1.heap.size from fun hne ad ha => by
    rcases (hfs.take 12).row with q | ⟨b, off, q1, q2, _⟩
    · exact absurd (by cases hq : fs.take 12 with
        | nil => rfl
        | cons x xs => rw [hq] at q; simp [rowsC, fallC] at q) hne
    · rw [ha] at q1; cases q1; show b < _; omega)
  clear hw1 b1 z1 C3 C4 hb3 hb4 hR hF hrf hff hfs hfsk hrl hsm hn hstk
  obtain ⟨x0, _⟩ := HC3.out.get 0 _ rfl
  obtain ⟨x1, _⟩ := HC3.out.get 1 _ rfl
  obtain ⟨x2, _⟩ := HC3.out.get 2 _ rfl
  go_enter Tryz.func7, Tryz.ntmps7
  go_upto_region 1 with fail
  rw [← HW.out, ← HB4.out, ← HB3.out]
  clear HW HB3 HB4
  go_wp2_with fail
  refine KO.out.mono ?_
  rintro e w2 ⟨S2, T2, l, d, rfl, lv2⟩
  have L2 := hide lv2
  clear KO lv2 x0 x1 x2
  go_wp2_with fail
  refine (awake_any w2).mono ?_
  rintro e w3 ⟨rfl, b3w⟩
  have L3 := hide (L2.out.below b3w)
  clear b3w L2
  go_upto_if 39 with fail
  go_cut [2] (fun s w' => s = .slice sa (fs.take 12).length sc ∧ w' = w3)
  case first =>
    by_cases h1 : 12 < fs.length
    · have d1 : decide (12 < (fs.length : Int)) = true := by simp; omega
      have d2 : decide (12 < fs.length) = true := by simp; omega
      have e12 := hide (show (fs.take 12).length = 12 by have := HSTK.out; omega)
      have hsc : 12 ≤ sc := by omega
      go_wp2_with fail
      go_meet
      exact ⟨by rw [e12.out], rfl⟩
    · have d1 : decide (12 < (fs.length : Int)) = false := by simp; omega
      have d2 : decide (12 < fs.length) = false := by simp; omega
      have e12 := hide (show (fs.take 12).length = fs.length by have := HSTK.out; omega)
      go_wp2_with fail
      go_meet
      exact ⟨by rw [e12.out], rfl⟩
  case rest =>
  obtain ⟨hs2, hwc⟩ := hcut
  have hwc := hwc.symm
  subst hwc
  rw [hs2]
  clear hs2
  obtain ⟨gs, hgs⟩ : ∃ q, q = fs.take 12 := ⟨_, rfl⟩
  rw [← hgs] at HFS HFK HFX hl12 HFA ⊢
  clear hgs HSTK
  have HFC := hide (fun (wq : World) (hb : Below w1.heap.size w1 wq) => HC4.out.under h41 hb)
  have HLC := hide (fun (wq : World) (hb : Below w1.heap.size w1 wq) => HC3.out.under h31 hb)
  have c3 := HLC.out _ L3.out.bel
  obtain ⟨x0, _⟩ := c3.get 0 _ rfl
  obtain ⟨x1, _⟩ := c3.get 1 _ rfl
  obtain ⟨x2, _⟩ := c3.get 2 _ rfl
  clear c3
  obtain ⟨N3, hN3⟩ : ∃ q, q = n + 3 := ⟨_, rfl⟩
  obtain ⟨N2, hN2⟩ : ∃ q, q = n + 2 := ⟨_, rfl⟩
  have hw3 : IntKind.i64.wrap (3 + (n : Int)) = (N3 : Int) := by rw [IntKind.wrap_i64]; omega
  have hn3 : 3 + (n : Int) = (N3 : Int) := by omega
  have hw33 : IntKind.i64.wrap (N3 : Int) = (N3 : Int) := by rw [IntKind.wrap_i64]; omega
  have hw2 : IntKind.i64.wrap ((N3 : Int) - 1) = (N2 : Int) := by rw [IntKind.wrap_i64]; omega
  have hn2 : (N3 : Int) - 1 = (N2 : Int) := by omega
  have hw22 : IntKind.i64.wrap (N2 : Int) = (N2 : Int) := by rw [IntKind.wrap_i64]; omega
  have HN2 := hide hN2
  clear hN3 hN2
  go_wp2_with fail
  refine (KS.out _ _ w3).mono ?_
  rintro e w4 ⟨rfl, b4w⟩
  have L4 := hide (L3.out.below b4w)
  clear b4w L3 x0 x1 x2
  have lt4 := L4.out.ld.lt
  obtain ⟨w5, hw5⟩ : ∃ q, q = w4.alloc (.cells #[.int .i64 0, .int .i64 1, .int .i64 (N2 : Int)] 3) := ⟨_, rfl⟩
  have b5 : Below w4.heap.size w4 w5 := by rw [hw5]; exact alloc_below _ _
  have X5 : RBox w5 w4.heap.size 3 #[.int .i64 0, .int .i64 1, .int .i64 (N2 : Int)] := by rw [hw5]; exact RBox.new _ _ _
  have L5 := hide (show LV w1.heap.size w1 w5 S2 T2 l d (besD n 0) ⟨2, n, [], 0, false⟩ from L4.out.below b5)
  have NB5 := hide (show ¬ S2 w4.heap.size ∧ ¬ T2 w4.heap.size ∧ w4.heap.size ≠ l from ⟨fun q => by have := lt4.2.1 _ q; omega, fun q => by have := lt4.2.2 _ q; omega, fun q => by have := lt4.1; omega⟩)
  have X5 := hide X5
  have HW5 := hide hw5
  clear lt4 hw5 b5 L4
  go_upto_region 8 with fail
  rw [← HW5.out]
  clear HW5
  obtain ⟨bb, hbb⟩ : ∃ q, q = w4.heap.size := ⟨_, rfl⟩
  rw [← hbb] at X5 NB5 ⊢
  clear hbb
  go_wp2_with fail
  go_loopw [11] (fun iv wr => ∃ (i : Nat) (S : Nat → Prop), iv = .int .i64 (i : Int) ∧ i ≤ 3 ∧ LV w1.heap.size w1 wr S T2 l d (besD n i) ⟨2, n, [], 0, false⟩ ∧ RBox wr bb 3 #[.int .i64 0, .int .i64 1, .int .i64 (N2 : Int)] ∧ ¬ S bb) (fun iv _ => (5 - (intOf iv).toNat))
  case atStart => exact ⟨0, S2, rfl, by decide, L5.out, X5.out, NB5.out.1⟩
  case round =>
    obtain ⟨i, S, rfl, hi3, hL, hX, hS⟩ := hrel
    have HL := hide hL
    have HX := hide hX
    have HS := hide hS
    clear hL hX hS L5 X5
    by_cases hlt : i < 3
    · have d1 : decide ((i : Int) < 3) = true := by simp; omega
      obtain ⟨w6, R6, O6, B6, Z6⟩ := Dv.makeB wr 512 (by omega)
      have lt6 := HL.out.ld.lt
      have hXl := HX.out.lt
      obtain ⟨P, hP⟩ : ∃ P, P = wr.heap.size := ⟨_, rfl⟩
      rw [← hP] at O6
      have R6' : (Instr.makeSlice 80 (.int .i64 512) (.int .i64 512)).run Tryz.prog wr = .ok (.slice (some ⟨P, 0, none⟩) 512 512) w6 := by rw [hP]; exact R6
      have NP := hide (show w1.heap.size ≤ P ∧ ¬ S P ∧ ¬ T2 P ∧ P ≠ l ∧ P ≠ bb from ⟨by rw [hP]; exact Nat.le_trans HL.out.le HL.out.bel.size, fun q => by have := lt6.2.1 _ q; omega, fun q => by have := lt6.2.2 _ q; omega, fun q => by have := lt6.1; omega, fun q => by omega⟩)
      have L6 := hide (HL.out.below B6)
      have X6 := hide (HX.out.below B6)
      have O6 := hide O6
      clear R6 B6 Z6 hP lt6 hXl HL HX
      obtain ⟨fv, hfv⟩ : ∃ q, q = 200 + i := ⟨_, rfl⟩
      have hf1 : IntKind.i64.wrap (200 + (i : Int)) = (fv : Int) := by rw [IntKind.wrap_i64]; omega
      have hf2 : 200 + (i : Int) = (fv : Int) := by omega
      have hf3 : IntKind.i64.wrap (fv : Int) = (fv : Int) := by rw [IntKind.wrap_i64]; omega
      have hf4 : IntKind.u8.wrap (fv : Int) = (fv : Int) := by rw [IntKind.wrap_u8]; omega
      have hf5 : (fv : Int) % 256 = (fv : Int) := by omega
      have HFV := hide hfv
      clear hfv
      go_wp2_with fail
      go_loopw [13] (fun kv wq => ∃ k : Nat, kv = .int .i64 (k : Int) ∧ k ≤ 512 ∧ OwnB wq P (.slice (some ⟨P, 0, none⟩) 512 512) ((fillB fv).take k ++ (List.replicate 512 0).drop k) ∧ Keep (fun b => b = P) w6 wq) (fun kv _ => (513 - (intOf kv).toNat))
      case atStart => exact ⟨0, rfl, Nat.zero_le _, O6.out, Keep.refl _ _⟩
      case round =>
        obtain ⟨k, rfl, hk, ho, hkk⟩ := hrel
        have HQ := hide ho
        have HK := hide hkk
        clear ho hkk
        by_cases hk1 : k < 512
        · have dk : decide ((k : Int) < 512) = true := by simp; omega
          have hlm : ((fillB fv).take k ++ (List.replicate 512 0).drop k).length = 512 := by rw [List.length_append, List.length_take, List.length_drop, fillB_length, List.length_replicate]; omega
          obtain ⟨b0, o0, e0, _, hcp⟩ := Bytes.at (Owns.seen_at HQ.out) (i := k) (by rw [hlm]; exact hk1)
          cases e0
          rw [Nat.zero_add] at hcp
          have hfr := Owns.frozen HQ.out k
          have hmx := set_mix (fillB fv) (List.replicate 512 0) k (by rw [fillB_length]; exact hk1) (by rw [fillB_length, List.length_replicate])
          rw [fillB_getD fv k hk1] at hmx
          have hmx := hide hmx
          clear hlm
          go_wp2_with fail
          go_roundw
          case rel =>
            refine ⟨k + 1, by go_num, by omega, ?_, HK.out.setCell (fun _ => rfl) _⟩
            have q := Owns.stored HQ.out k ((fv : Nat) : Int)
            rw [← ints_set', hmx.out] at q
            exact q
          case measure => simp [intOf]; omega
        · obtain rfl : k = 512 := by omega
          have dk : decide (((512 : Nat) : Int) < 512) = false := by decide
          have ho : Bytes wr (some ⟨P, 0, none⟩) (fillB fv) := by
            have q := Owns.seen_at HQ.out
            rw [List.take_of_length_le (by rw [fillB_length]; decide), List.drop_of_length_le (by rw [List.length_replicate]; decide), List.append_nil] at q
            exact q
          have L7 := hide (L6.out.beside HK.out NP.out.1 NP.out.2.1 NP.out.2.2.1 NP.out.2.2.2.1)
          have X7 := hide (X6.out.keep HK.out (fun e => NP.out.2.2.2.2 e.symm))
          obtain ⟨bw, hbw⟩ : ∃ q, q = besAt n i := ⟨_, rfl⟩
          have cx : wr.cell? ⟨bb, i, none⟩ = some (.int .i64 (bw : Int)) := by
            have q := X7.out.cells
            rw [hbw]
            have := HN2.out
            match i, hlt with
            | 0, _ => exact (q.get 0 _ rfl).1
            | 1, _ => exact (q.get 1 _ rfl).1
            | 2, _ => rw [show besAt n 2 = N2 from this.symm]; exact (q.get 2 _ rfl).1
          obtain ⟨e1, e2⟩ := besD_next n i hlt
          rw [← hbw, ← HFV.out] at e2
          rw [← hbw] at e1
          have KW := Dv.write_any L7.out.ld.dev (bw : Int) (some ⟨P, 0, none⟩) (fillB fv) 512 ho (by rw [fillB_length]; decide) nofun (fillB_allB _ (by have := HFV.out; omega)) (by rw [fillB_length]; decide) (by show ((besP n).take i).length ≤ 999999; rw [List.length_take]; have : (besP n).length = 3 := rfl; omega) (by show i ≤ 1000000; omega)
          rw [fillB_length, e1, e2] at KW
          have KW := hide KW
          clear e1 e2 hbw ho HQ HK L6 X6
          go_wp2_with fail
          refine KW.out.mono ?_
          rintro e w8 ⟨S8, rfl, p8, s8⟩
          have L8 := hide (L7.out.step p8 s8)
          have X8 := hide (X7.out.keep s8.1 HS.out)
          have NS8 := hide (show ¬ S8 bb from fun q => (s8.2 bb q).elim HS.out (fun r => by have := X7.out.lt; omega))
          clear KW p8 s8 L7 X7
          go_wp2_with fail
          refine (num_any 0 w8).mono ?_
          rintro e w9 ⟨rfl, hww⟩
          obtain rfl : w8 = w9 := hww.symm
          clear hww
          go_wp2_with fail
          go_roundw
          case rel => first | exact ⟨i + 1, S8, by go_num, by omega, L8.out, X8.out, NS8.out⟩ | ((repeat apply Exists.intro); exact ⟨⟨i + 1, S8, by go_num, by omega, L8.out, X8.out, NS8.out⟩, rfl⟩)
          case measure => simp [intOf]; omega
    · obtain rfl : i = 3 := by omega
      have d1 : decide (((3 : Nat) : Int) < 3) = false := by decide
      obtain ⟨e1, e2, e3, e4⟩ := bes_sync n hnn.1 hnn.2
      have KY := Dv.sync_any HL.out.ld.dev (by show ((besP n).take 3).length ≤ 1000000; rw [List.length_take]; have : (besP n).length = 3 := rfl; omega) (by show 3 ≤ 1000000; omega)
      rw [e1] at KY
      have KY := hide KY
      have GW0 := hide e2
      have GC0 := hide e3
      have GN0 := hide e4
      clear e1 e2 e3 e4
      generalize (besD n 3).sync = g4 at *
      go_wp2_with fail
      refine KY.out.mono ?_
      rintro e w9 ⟨rfl, p9, k9⟩
      have L9 := hide (HL.out.step p9 (Step.of_keep k9))
      have X9 := hide (HX.out.keep k9 HS.out)
      clear KY p9 k9 HL HX
      go_wp2_with fail
      refine (num_any 0 w9).mono ?_
      rintro e w10 ⟨rfl, hww⟩
      obtain rfl : w9 = w10 := hww.symm
      clear hww
      have DR : Below w9.heap.size w9 w9.drew := (Below.refl _ _).drew
      have L4 := hide (L9.out.below DR)
      have X4 := hide (X9.out.below DR)
      have hS0 := hide (show w9.drew.cell? ⟨b4, 0, none⟩ = some (.int .i64 ff.step) ∧ w9.drew.cell? ⟨b4, 1, none⟩ = some (.slice ff.a ff.l.keep.length ff.c) ∧ w9.drew.cell? ⟨b4, 2, none⟩ = some (.int .i64 ff.l.torn) ∧ w9.drew.cell? ⟨b4, 3, none⟩ = some (.int .i64 ff.l.off) from by
        have q := HFC.out _ L4.out.bel
        exact ⟨(q.get 0 _ rfl).1, (q.get 1 _ rfl).1, (q.get 2 _ rfl).1, (q.get 3 _ rfl).1⟩)
      clear L9 X9
      go_upto_region 20 with fail
      refine wp_region_held_drew (S := fun wq => wq.cell? ⟨b4, 0, none⟩ = some (.int .i64 ff.step) ∧ wq.cell? ⟨b4, 1, none⟩ = some (.slice ff.a ff.l.keep.length ff.c) ∧ wq.cell? ⟨b4, 2, none⟩ = some (.int .i64 ff.l.torn) ∧ wq.cell? ⟨b4, 3, none⟩ = some (.int .i64 ff.l.off)) (by kernel_rfl) hS0.out (fun hS => ?_)
      clear hS0 DR
      generalize w9.drew = w4 at *
      refine take_at 0 (some 78) (v := ?_) rfl rfl (by kernel_rfl) (by kernel_rfl) (by kernel_rfl) (fun _ _ _ h => h) ⟨by rfl, ?_⟩ hS ?_
      rotate_left
      · intro wq hSw; go_simp; try rfl
      simp only [Act.put, List.setIfInBounds_toArray, List.set_cons_zero, List.set_cons_succ]
      refine take_at 1 (some 79) (v := ?_) rfl rfl (by kernel_rfl) (by kernel_rfl) (by kernel_rfl) (fun _ _ _ h => h) ⟨by rfl, ?_⟩ hS ?_
      rotate_left
      · intro wq hSw; go_simp; try rfl
      simp only [Act.put, List.setIfInBounds_toArray, List.set_cons_zero, List.set_cons_succ]
      refine take_at 2 (some 80) (v := ?_) rfl rfl (by kernel_rfl) (by kernel_rfl) (by kernel_rfl) (fun _ _ _ h => h) ⟨by rfl, ?_⟩ hS ?_
      rotate_left
      · intro wq hSw; obtain ⟨y0, y1, y2, y3⟩ := hSw; go_simp; try rfl
      simp only [Act.put, List.setIfInBounds_toArray, List.set_cons_zero, List.set_cons_succ]
      refine take_at 5 (some 83) (v := ?_) rfl rfl (by kernel_rfl) (by kernel_rfl) (by kernel_rfl) (fun _ _ _ h => h) ⟨by rfl, ?_⟩ hS ?_
      rotate_left
      · intro wq hSw; go_simp; try rfl
      simp only [Act.put, List.setIfInBounds_toArray, List.set_cons_zero, List.set_cons_succ]
      refine take_at 6 (some 84) (v := ?_) rfl rfl (by kernel_rfl) (by kernel_rfl) (by kernel_rfl) (fun _ _ _ h => h) ⟨by rfl, ?_⟩ hS ?_
      rotate_left
      · intro wq hSw; obtain ⟨y0, y1, y2, y3⟩ := hSw; go_simp; try rfl
      simp only [Act.put, List.setIfInBounds_toArray, List.set_cons_zero, List.set_cons_succ]
      refine wpAnyH_ready (rs := [3]) (by kernel_rfl) (by simp) ?_
      refine AllReadyH.cons rfl (fun K hK => ?_) AllReadyH.nil
      go_simp
      go_wp2_with fail
      refine (brought_lit ff.step 60 60 rfl _ (by decide) (by decide)).mono ?_
      rintro e w5 ⟨sb, rfl, hsb, hww⟩
      obtain rfl : w4 = w5 := hww.symm
      go_wp2_with fail
      refine hK.out _ _ hS (fun hS => ?_)
      clear hK K
      (try simp only [Act.put, List.setIfInBounds_toArray, List.set_cons_zero, List.set_cons_succ])
      obtain ⟨sq, hsq⟩ : ∃ q : Nat, q = 1 + sb := ⟨_, rfl⟩
      have hsw : IntKind.i64.wrap (1 + (sb : Int)) = (sq : Int) := by rw [IntKind.wrap_i64]; omega
      have hsq9 : sq ≤ 60 := by omega
      clear hsq
      refine take_at 4 (some 82) (v := ?_) rfl rfl (by kernel_rfl) (by kernel_rfl) (by kernel_rfl) (fun _ _ _ h => h) ⟨by rfl, ?_⟩ hS ?_
      rotate_left
      · intro wq hSw; go_simp; try rfl
      simp only [Act.put, List.setIfInBounds_toArray, List.set_cons_zero, List.set_cons_succ]
      have KA := hide (Dv.arm_any L4.out.ld.dev (sq : Int) (by omega) ff.l ff.a ff.c (HL1.out.below L4.out.bel) (fun hk0 ad ha q => by have := HL1.out.low hk0 ad ha; have := L4.out.fS _ q; omega) hfk)
      have GW := hide (GW0.out.arm' (sq : Int) (by omega) ff.l)
      have GC := hide (show (g4.arm (sq : Int) ff.l).calls ≤ 1000 by rw [(arm_still _ _ _).2.2.1, GC0.out]; omega)
      have GN := hide (show (g4.arm (sq : Int) ff.l).img.length = 512 * (n + 3) by rw [(arm_still _ _ _).2.2.2.1]; exact GN0.out)
      generalize g4.arm (sq : Int) ff.l = g5 at *
      refine wpAnyH_ready (rs := [7]) (by kernel_rfl) (by simp) ?_
      refine AllReadyH.cons rfl (fun K hK => ?_) AllReadyH.nil
      go_simp
      go_wp2_with fail
      refine KA.out.mono ?_
      rintro e w5 ⟨S5, rfl, p5, s5⟩
      have L5 := hide (L4.out.step p5 s5)
      have X5 := hide (X4.out.keep s5.1 HS.out)
      have NS5 := hide (show ¬ (S5 bb ∨ T2 bb ∨ bb = l) from fun q => by
        rcases q with q | q | q
        · exact (s5.2 bb q).elim HS.out (fun r => by have := X4.out.lt; omega)
        · exact NB5.out.2.1 q
        · exact NB5.out.2.2 q)
      have hS5 := hide (show w5.cell? ⟨b4, 0, none⟩ = some (.int .i64 ff.step) ∧ w5.cell? ⟨b4, 1, none⟩ = some (.slice ff.a ff.l.keep.length ff.c) ∧ w5.cell? ⟨b4, 2, none⟩ = some (.int .i64 ff.l.torn) ∧ w5.cell? ⟨b4, 3, none⟩ = some (.int .i64 ff.l.off) from by
        have q := HFC.out _ L5.out.bel
        exact ⟨(q.get 0 _ rfl).1, (q.get 1 _ rfl).1, (q.get 2 _ rfl).1, (q.get 3 _ rfl).1⟩)
      clear KA p5 s5 L4 X4
      go_wp2_with fail
      refine hK.out _ _ hS5.out (fun hS => ?_)
      clear hK K
      (try simp only [Act.put, List.setIfInBounds_toArray, List.set_cons_zero, List.set_cons_succ])
      refine wpAnyH_done (by kernel_rfl) ?_ _
      clear hS hS5
      have c3 := HLC.out _ L5.out.bel
      obtain ⟨x0, _⟩ := c3.get 0 _ rfl
      obtain ⟨x1, _⟩ := c3.get 1 _ rfl
      obtain ⟨x2, _⟩ := c3.get 2 _ rfl
      clear c3
      have KG := grows_any (X := besX n) c ra rl rc fa fl fc HR1.out HRF.out hrl' HF1.out (by rw [← HN.out]; exact L5.out) (by rw [← HN.out]; exact GW.out) GC.out (bb, 3, #[.int .i64 0, .int .i64 1, .int .i64 (N2 : Int)]) X5.out NS5.out g5.left (Nat.le_refl _) (512 * (n + 3)) GN.out
      rw [← HN.out] at KG
      have KG := hide KG
      go_wp2_with fail
      refine KG.out.mono ?_
      rintro e w6 ⟨aa, i, ac, named, lab, S6, T6, g6, m6, xs, rfl, hG, hX6, hlb6⟩
      have HG := hide hG
      have X6 := hide (show RBox w6 bb 3 #[.int .i64 0, .int .i64 1, .int .i64 (N2 : Int)] from hX6)
      have HLB3 := hide (show lab bb = 3 from hlb6)
      have hni := hG.nm
      have hin := hG.hi
      have KDn := hide (Dv.down_any hG.st.lv.ld.dev)
      clear KG hG hX6 hlb6 L5 X5 x0 x1 x2 GW GW0
      go_wp2_with fail
      refine KDn.out.mono ?_
      rintro e w7 ⟨rfl, hww⟩
      obtain rfl : w6 = w7 := hww.symm
      clear hww KDn
      have NS6 := hide (show ¬ S6 bb from fun q => by have := HG.out.st.l0 bb (.inl q); have := HLB3.out; omega)
      rcases HG.out.dis with ⟨hne, hgw⟩ | ⟨hne, kk, q1, q2, q3, q4⟩
      · rw [hgw.down]
        have cr := hgw.crash ff.l
        rw [HG.out.first, HG.out.count] at cr
        have KC := hide (Dv.crash_any HG.out.st.lv.ld.dev ff.l ff.a ff.c (HL1.out.below HG.out.st.lv.bel) (fun hk0 ad ha q => by have := HL1.out.low hk0 ad ha; have := HG.out.st.lv.fS _ q; omega) (by rw [HG.out.pend]; exact Nat.zero_le _))
        have q := HFC.out _ HG.out.st.lv.bel
        obtain ⟨y0, _⟩ := q.get 0 _ rfl
        obtain ⟨y1, _⟩ := q.get 1 _ rfl
        obtain ⟨y2, _⟩ := q.get 2 _ rfl
        obtain ⟨y3, _⟩ := q.get 3 _ rfl
        have CR := hide cr
        have HCL := hide (show (g6.crash ff.l).calls ≤ 5000 from by have q := HG.out.calls; have := GC.out; have := crash_calls g6 ff.l; omega)
        clear q cr hgw
        go_wp2_with fail
        refine KC.out.mono ?_
        rintro e w8 ⟨rfl, p8, k8⟩
        clear y0 y1 y2 y3 KC
        have WP := hide CR.out.1
        have DN := hide CR.out.2.1
        have PN := hide CR.out.2.2
        have KK := hide k8
        have BL := hide (HG.out.st.lv.bel.trans (k8.below (HG.out.st.lv.bel.size) (fun j hj q => by have := HG.out.st.lv.fS j q; omega)))
        have HK0 := hide (show m6.forced ≤ m6.forced ∧ m6.forced ≤ named from ⟨Nat.le_refl _, HG.out.fo⟩)
        have P8 := hide p8
        clear CR p8 k8
        obtain ⟨kk, hkk⟩ : ∃ q, q = m6.forced := ⟨_, rfl⟩
        have HK1 := hide (show m6.forced ≤ kk ∧ kk ≤ named by rw [hkk]; exact HK0.out)
        rw [← hkk] at WP
        clear hkk HK0
        have GN8 := hide ((crash_len g6 HG.out.st.lv.ld.dev.ok ff.l).trans HG.out.gn)
        generalize g6.crash ff.l = g8 at *
        have c3 := HLC.out _ BL.out
        obtain ⟨x0, _⟩ := c3.get 0 _ rfl
        obtain ⟨x1, _⟩ := c3.get 1 _ rfl
        obtain ⟨x2, _⟩ := c3.get 2 _ rfl
        clear c3
        go_wp2_with fail
        refine (KS.out _ _ w8).mono ?_
        rintro e w9 ⟨rfl, b9⟩
        have P9 := hide (P8.out.below b9)
        have KK9 := hide (KK.out.then_below b9)
        have BL9 := hide (bnext BL.out b9 (Nat.le_refl _))
        clear x0 x1 x2 b9 P8 KK BL
        have hxk : kk ≤ xs.length := by have := HK1.out.2; rw [HG.out.len]; omega
        have hfar : ∀ b, S6 b → w1.heap.size ≤ b := HG.out.st.lv.fS
        have KAg := hide (again_any P9.out n m6.recs (xs.map RecL.r) kk (besX n) WP.out HG.out.holds (by rw [List.length_map]; exact hxk) DN.out PN.out (by have := HCL.out; omega) hnn.1 hnn.2 gs sa sc (HFS.out.below BL9.out) (fun hne ad ha q => by have := HFA.out hne ad ha; have := hfar _ q; omega) (fun x hx hk ad ha q => by have := HFX.out x hx hk ad ha; have := hfar _ q; omega) HFK.out hl12)
        go_wp2_with fail
        refine KAg.out.mono ?_
        rintro e w10 ⟨S10, T10, l10, g10, rfl, ld10, wp10, dn10, pn10, zr10, cl10, ln10, st10, hl10, hT10⟩
        clear KAg
        have LD10 := hide ld10
        have K610 := hide (KK9.out.trans st10.1 (fun _ _ q => q))
        have BL10 := hide (BL9.out.trans (st10.1.below BL9.out.size (fun j hj q => by have := hfar j q; omega)))
        have X10 := hide (X6.out.keep K610.out NS6.out)
        have WP10 := hide wp10
        have DN10 := hide dn10
        have PN10 := hide pn10
        have ZR10 := hide zr10
        have CL10 := hide (show g10.calls ≤ 10000 by have := HCL.out; omega)
        have NS10 := hide (show ¬ S10 bb from fun q => (st10.2 bb q).elim NS6.out (fun r => by have := X6.out.lt; have := KK9.out.size; omega))
        have GN10 := hide (ln10.trans GN8.out)
        have FAR10 := hide (show ∀ b, S10 b → w1.heap.size ≤ b from fun b q => (st10.2 b q).elim (hfar b) (fun r => Nat.le_trans BL9.out.size r))
        have SUB10 := hide (show ∀ j, j < w6.heap.size → S10 j → S6 j from fun j hj q => (st10.2 j q).elim id (fun r => by have := KK9.out.size; omega))
        have HGN := hide (show g10.n = n + 3 by unfold Dev.n; rw [GN10.out]; omega)
        clear ld10 wp10 dn10 pn10 zr10 cl10 ln10 st10 hl10 hT10 BL9 P9 KK9
        have HRL := hide (show (m6.recs.take kk).length = kk by rw [List.length_take, HG.out.recs]; rw [HG.out.len] at hxk; omega)
        obtain ⟨m10, hm10⟩ : ∃ q : LogM, q = ⟨2, n, m6.recs.take kk, (m6.recs.take kk).length, false⟩ := ⟨_, rfl⟩
        rw [← hm10] at LD10
        have HM10 := hide hm10
        have hkn : kk ≤ n := by rw [HG.out.len] at hxk; omega
        have HMR := hide (show m10.recs.length = kk by rw [hm10]; exact HRL.out)
        have HXK := hide hxk
        clear hm10 hxk
        have KCa := hide (Dv.calls_any LD10.out.dev)
        go_wp2_with fail
        refine KCa.out.mono ?_
        rintro e w11 ⟨rfl, hww⟩
        obtain rfl : w10 = w11 := hww.symm
        clear hww KCa
        have KIm := hide (Dv.image_any LD10.out.dev)
        go_wp2_with fail
        refine KIm.out.mono ?_
        rintro e w11 ⟨v11, rfl, o11, b11⟩
        have himg : g10.img.length = 512 * g10.n := WP10.out.n
        have hgn : 2 + n ≤ g10.n := by have := WP10.out.len; omega
        obtain ⟨ib, ic, rfl, hic, hbi, hib⟩ := o11.form (by rw [ints_length]; omega)
        rw [ints_length] at hic ⊢
        have IM := hide (show Bytes w11 (some ⟨ib, 0, none⟩) g10.img from Owns.seen_at o11)
        have LD11 := hide (LD10.out.below b11)
        have BL11 := hide (bnext BL10.out b11 (Nat.le_refl _))
        have X11 := hide (X10.out.below b11)
        have K611 := hide (K610.out.then_below b11)
        have HIB := hide (show ¬ S10 ib from fun q => by have := LD10.out.dev.lt ib q; omega)
        have hil : ib < w11.heap.size := hib
        obtain ⟨IL, hIL⟩ : ∃ q, q = g10.img.length := ⟨_, rfl⟩
        rw [← hIL] at hic ⊢
        have HIL := hide hIL
        have HIMG := hide himg
        clear KIm o11 b11 hbi hib LD10 BL10 X10 K610 hIL himg
        have KLa := hide (lastL_any LD11.out)
        rw [HMR.out] at KLa
        obtain ⟨k2, hk2⟩ : ∃ q, q = 2 + kk := ⟨_, rfl⟩
        have hk2w : IntKind.i64.wrap (2 + (kk : Int)) = (k2 : Int) := by rw [IntKind.wrap_i64]; omega
        have hk2i : 2 + (kk : Int) = (k2 : Int) := by omega
        have hk2v : IntKind.i64.wrap (k2 : Int) = (k2 : Int) := by rw [IntKind.wrap_i64]; omega
        have hn2w : IntKind.i64.wrap (2 + (n : Int)) = (N2 : Int) := by rw [IntKind.wrap_i64]; have := HN2.out; omega
        have hn2i : 2 + (n : Int) = (N2 : Int) := by have := HN2.out; omega
        have HK2 := hide hk2
        clear hk2
        go_wp2_with fail
        refine KLa.out.mono ?_
        rintro e w12 ⟨rfl, hww⟩
        obtain rfl : w11 = w12 := hww.symm
        clear hww KLa
        have hil16 : IL ≤ 30000 := by rw [HIL.out, GN10.out]; omega
        go_wp2_with fail
        go_loopw [20] (fun jv wx => ∃ q : Nat, jv = .int .i64 (q : Int) ∧ k2 ≤ q ∧ q ≤ N2 ∧ Below w11.heap.size w11 wx) (fun jv _ => (100 - (intOf jv).toNat))
        case atStart => exact ⟨k2, rfl, Nat.le_refl _, by have := HK2.out; have := HN2.out; omega, Below.refl _ _⟩
        case round =>
          obtain ⟨q, rfl, hq1, hq2, hBq⟩ := hrel
          have HBq := hide hBq
          clear hBq
          have c3 := HLC.out _ (bnext BL11.out HBq.out (Nat.le_refl _))
          obtain ⟨x0, _⟩ := c3.get 0 _ rfl
          obtain ⟨x1, _⟩ := c3.get 1 _ rfl
          obtain ⟨x2, _⟩ := c3.get 2 _ rfl
          clear c3
          have hN2s : N2 ≤ 50 := by have := HN2.out; omega
          go_wp2_with fail
          refine (KS.out _ _ wr).mono ?_
          rintro e w13 ⟨rfl, b13⟩
          have B13 := hide (bnext HBq.out b13 (Nat.le_refl _))
          clear b13 x0 x1 x2 HBq
          by_cases hq : q < N2
          · have dq : decide ((q : Int) < (N2 : Int)) = true := by simp; omega
            have dq2 : decide (q < N2) = true := by simp; omega
            have I13 := hide (IM.out.below B13.out)
            obtain ⟨w14, hw14⟩ : ∃ x, x = w13 := ⟨_, rfl⟩
            rw [← hw14] at B13 I13 ⊢
            clear hw14
            go_wp2_with fail
            go_loopw [21] (fun kv wx => ∃ k : Nat, kv = .int .i64 (k : Int) ∧ k ≤ 512 ∧ wx = w14) (fun kv _ => (513 - (intOf kv).toNat))
            case atStart => exact ⟨0, rfl, Nat.zero_le _, rfl⟩
            case round =>
              obtain ⟨k, rfl, hk, hwx⟩ := hrel
              have hwx := hwx.symm
              subst hwx
              by_cases hk1 : k < 512
              · have dk : decide ((k : Int) < 512) = true := by simp; omega
                have hix : q * 512 + k < IL := by have := HIL.out; have := HIMG.out; have := HN2.out; omega
                obtain ⟨b0, o0, e0, _, hcp⟩ := Bytes.at I13.out (i := q * 512 + k) (by rw [← HIL.out]; exact hix)
                cases e0
                have hz : g10.img.getD (q * 512 + k) 0 = 0 := by
                  have z := ZR10.out (q - 2) (by have := HK2.out; omega) (by have := HN2.out; have := HK2.out; omega)
                  have z2 := sector_getD g10.img (2 + (q - 2)) k hk1
                  rw [z, zeros_getD] at z2
                  rw [show q * 512 + k = 512 * (2 + (q - 2)) + k by have := HK2.out; omega]
                  exact z2.symm
                rw [hz, Nat.zero_add] at hcp
                obtain ⟨qm, hqm⟩ : ∃ x : Nat, x = q * 512 := ⟨_, rfl⟩
                have hm1 : IntKind.i64.wrap ((q : Int) * 512) = (qm : Int) := by rw [IntKind.wrap_i64]; omega
                have hm2 : (q : Int) * 512 = (qm : Int) := by omega
                have hm3 : IntKind.i64.wrap (qm : Int) = (qm : Int) := by rw [IntKind.wrap_i64]; omega
                rw [← hqm] at hcp hix
                clear hz hqm
                go_wp2_with fail
                go_roundw
                case rel => exact ⟨k + 1, by go_num, by omega, trivial⟩
                case measure => simp [intOf]; omega
              · obtain rfl : k = 512 := by omega
                have dk : decide (((512 : Nat) : Int) < 512) = false := by decide
                go_wp2_with fail
                go_roundw
                case rel => first | exact ⟨q + 1, by go_num, by omega, by omega, B13.out⟩ | ((repeat apply Exists.intro); exact ⟨⟨q + 1, by go_num, by omega, by omega, B13.out⟩, rfl⟩)
                case measure => simp [intOf]; omega
          · have dq : decide ((q : Int) < (N2 : Int)) = false := by simp; omega
            have dq2 : decide (q < N2) = false := by simp; omega
            have I13 := hide (IM.out.below B13.out)
            have X13 := hide (X11.out.below B13.out)
            obtain ⟨w14, hw14⟩ : ∃ x, x = w13 := ⟨_, rfl⟩
            rw [← hw14] at B13 I13 X13 ⊢
            clear hw14
            go_wp2_with fail
            go_loopw [22] (fun jv wx => ∃ i2 : Nat, jv = .int .i64 (i2 : Int) ∧ i2 ≤ 3 ∧ wx = w14) (fun jv _ => (5 - (intOf jv).toNat))
            case atStart => exact ⟨0, rfl, Nat.zero_le _, rfl⟩
            case round =>
              obtain ⟨i2, rfl, hi2, hwx⟩ := hrel
              have hwx := hwx.symm
              subst hwx
              by_cases hi : i2 < 3
              · have di : decide ((i2 : Int) < 3) = true := by simp; omega
                go_wp2_with fail
                go_loopw [23] (fun kv wx => ∃ k : Nat, kv = .int .i64 (k : Int) ∧ k ≤ 512 ∧ wx = w14) (fun kv _ => (513 - (intOf kv).toNat))
                case atStart => exact ⟨0, rfl, Nat.zero_le _, rfl⟩
                case round =>
                  obtain ⟨k, rfl, hk, hwx⟩ := hrel
                  have hwx := hwx.symm
                  subst hwx
                  by_cases hk1 : k < 512
                  · have dk : decide ((k : Int) < 512) = true := by simp; omega
                    obtain ⟨bw, hbw⟩ : ∃ q, q = besAt n i2 := ⟨_, rfl⟩
                    have hbl := besAt_lt n i2 hi
                    rw [← hbw] at hbl
                    have cx : w14.cell? ⟨bb, i2, none⟩ = some (.int .i64 (bw : Int)) := by
                      have q := X13.out.cells
                      rw [hbw]
                      have := HN2.out
                      match i2, hi with
                      | 0, _ => exact (q.get 0 _ rfl).1
                      | 1, _ => exact (q.get 1 _ rfl).1
                      | 2, _ => rw [show besAt n 2 = N2 from this.symm]; exact (q.get 2 _ rfl).1
                    have hix : bw * 512 + k < IL := by have := HIL.out; have := HIMG.out; have := HGN.out; omega
                    obtain ⟨b0, o0, e0, _, hcp⟩ := Bytes.at I13.out (i := bw * 512 + k) (by rw [← HIL.out]; exact hix)
                    cases e0
                    obtain ⟨fv, hfv⟩ : ∃ q, q = 200 + i2 := ⟨_, rfl⟩
                    have hz : g10.img.getD (bw * 512 + k) 0 = fv := by
                      have z := WP10.out.side bw (by rw [hbw]; match i2, hi with
                        | 0, _ => exact .inl (by show 0 < 2; decide)
                        | 1, _ => exact .inl (by show 1 < 2; decide)
                        | 2, _ => exact .inr (by show 2 + n ≤ n + 2; omega)) (by have := HGN.out; omega)
                      rw [hbw, besX_at n i2 hi hnn.1, ← hbw, ← hfv] at z
                      have z2 := sector_getD g10.img bw k hk1
                      rw [z, fillB_getD fv k hk1] at z2
                      rw [show bw * 512 + k = 512 * bw + k by omega]
                      exact z2.symm
                    rw [hz, Nat.zero_add] at hcp
                    obtain ⟨qm, hqm⟩ : ∃ x : Nat, x = bw * 512 := ⟨_, rfl⟩
                    have hm1 : IntKind.i64.wrap ((bw : Int) * 512) = (qm : Int) := by rw [IntKind.wrap_i64]; omega
                    have hm2 : (bw : Int) * 512 = (qm : Int) := by omega
                    have hm3 : IntKind.i64.wrap (qm : Int) = (qm : Int) := by rw [IntKind.wrap_i64]; omega
                    have hf1 : IntKind.i64.wrap (200 + (i2 : Int)) = (fv : Int) := by rw [IntKind.wrap_i64]; omega
                    have hf2 : 200 + (i2 : Int) = (fv : Int) := by omega
                    have hf3 : IntKind.i64.wrap (fv : Int) = (fv : Int) := by rw [IntKind.wrap_i64]; omega
                    have hf4 : IntKind.u8.wrap (fv : Int) = (fv : Int) := by rw [IntKind.wrap_u8]; omega
                    have hf5 : (fv : Int) % 256 = (fv : Int) := by omega
                    rw [← hqm] at hcp hix
                    clear hz hqm hfv hbw
                    go_wp2_with fail
                    go_roundw
                    case rel => exact ⟨k + 1, by go_num, by omega, trivial⟩
                    case measure => simp [intOf]; omega
                  · obtain rfl : k = 512 := by omega
                    have dk : decide (((512 : Nat) : Int) < 512) = false := by decide
                    go_wp2_with fail
                    go_roundw
                    case rel => first | exact ⟨i2 + 1, by go_num, by omega, trivial⟩ | ((repeat apply Exists.intro); exact ⟨⟨i2 + 1, by go_num, by omega, trivial⟩, rfl⟩)
                    case measure => simp [intOf]; omega
              · obtain rfl : i2 = 3 := by omega
                have di : decide (((3 : Nat) : Int) < 3) = false := by decide
                have BL14 := hide (bnext BL11.out B13.out (Nat.le_refl _))
                have c3 := HLC.out _ BL14.out
                obtain ⟨x0, _⟩ := c3.get 0 _ rfl
                obtain ⟨x1, _⟩ := c3.get 1 _ rfl
                obtain ⟨x2, _⟩ := c3.get 2 _ rfl
                clear c3
                go_wp2_with fail
                refine (KS.out _ _ w14).mono ?_
                rintro e w15 ⟨rfl, b15⟩
                have LD15 := hide ((LD11.out.below B13.out).below b15)
                have I15 := hide (I13.out.below b15)
                have BL15 := hide (bnext BL14.out b15 (Nat.le_refl _))
                have K615 := hide ((K611.out.then_below B13.out).then_below b15)
                clear x0 x1 x2 b15 BL14 I13 X13
                obtain ⟨o1, o2, o3⟩ := WP10.out.again HG.out.holds (by rw [List.length_map]; exact HXK.out) DN10.out PN10.out (by decide) ZR10.out
                have KOp := hide (open_any LD15.out.dev 2 n hnn.1 WP10.out.openn (by rw [PN10.out]; exact Nat.zero_le _) (by have := CL10.out; omega))
                have O1 := hide o1
                have O2 := hide o2
                have O3 := hide o3
                clear o1 o2 o3
                go_wp2_with fail
                refine KOp.out.mono ?_
                rintro e w16 ⟨S16, p16, k16, n16, h16⟩
                rcases h16 with ⟨_, l16, T16, rfl, ld16, hl16, hT16⟩ | ⟨he, _⟩
                rotate_left
                · exact absurd O1.out he
                rw [O2.out, O3.out, ← HM10.out] at ld16
                rw [O3.out] at p16
                have LDo := hide ld16
                have LDm := hide (LD15.out.step p16 ⟨k16, n16⟩)
                have I16 := hide (show Bytes w16 (some ⟨ib, 0, none⟩) g10.img from Seen.keep I15.out k16 (fun ad e => by cases e; exact HIB.out))
                have BL16 := hide (BL15.out.trans (k16.below BL15.out.size (fun j hj q => by have := FAR10.out j q; omega)))
                have RC16 := hide (HG.out.st.recsAt (K615.out.trans k16 SUB10.out) (fun b q => HG.out.st.l0 b (.inl q)))
                clear KOp ld16 p16 k16 n16 hl16 hT16 LD15 I15 BL15 K615 O1 O2 O3
                have KLo := hide (lastL_any LDo.out)
                have KLm := hide (lastL_any LDm.out)
                have KCc := hide (Dv.calls_any LDo.out.dev)
                rw [HMR.out] at KLo KLm
                go_wp2_with fail
                refine KLo.out.mono ?_
                rintro e w17 ⟨rfl, hww⟩
                obtain rfl : w16 = w17 := hww.symm
                clear hww
                go_wp2_with fail
                refine KLm.out.mono ?_
                rintro e w17 ⟨rfl, hww⟩
                obtain rfl : w16 = w17 := hww.symm
                clear hww
                go_wp2_with fail
                refine KCc.out.mono ?_
                rintro e w17 ⟨rfl, hww⟩
                obtain rfl : w16 = w17 := hww.symm
                clear hww KLo KLm KCc
                have hmk : m10.Ok := by
                  rw [HM10.out]
                  exact ⟨by show (m6.recs.take kk).length ≤ n; rw [HRL.out]; omega, by show 2 + n ≤ 10000; omega, Nat.le_refl _⟩
                have KPf := hide (prefix_any LDo.out hmk (by rw [HM10.out]) aa ac xs RC16.out kk HXK.out (by rw [HM10.out]; exact HG.out.holds.take kk (by rw [List.length_map]; exact HXK.out)) (by rw [HG.out.len]; omega) xs.length HXK.out)
                rw [HG.out.len] at KPf
                clear hmk
                go_wp2_with fail
                refine KPf.out.mono ?_
                rintro e w18 ⟨rfl, b18⟩
                have LD18 := hide (LDo.out.below b18)
                have I18 := hide (I16.out.below b18)
                have BL18 := hide (bnext BL16.out b18 (Nat.le_refl _))
                have KI2 := hide (Dv.image_any LD18.out.dev)
                clear KPf b18 LDo LDm I16 BL16 RC16
                go_wp2_with fail
                refine KI2.out.mono ?_
                rintro e w19 ⟨v19, rfl, o19, b19⟩
                obtain ⟨jb, jc, rfl, hjc, hbj, hjb⟩ := o19.form (by rw [ints_length, ← HIL.out]; have := HIMG.out; have := HIL.out; have := HGN.out; omega)
                rw [ints_length, ← HIL.out]
                have KSm := same_any (some ⟨jb, 0, none⟩) (some ⟨ib, 0, none⟩) g10.img g10.img jc ic w19 (Owns.seen_at o19) (I18.out.below b19) LD18.out.dev.ok.bytes LD18.out.dev.ok.bytes
                rw [← HIL.out] at KSm
                have KSm := hide KSm
                have BL19 := hide (bnext BL18.out b19 (Nat.le_refl _))
                clear o19 b19 hbj hjb KI2 hjc
                go_wp2_with fail
                refine KSm.out.mono ?_
                rintro e w20 ⟨rfl, hww⟩
                obtain rfl : w19 = w20 := hww.symm
                clear hww KSm
                go_wp2_with fail
                go_ret
                exact ⟨by simp, bnext B1.out BL19.out (Nat.le_refl _)⟩
      · rw [q4]
        have WP := hide q3
        have DN := hide q4
        have PN := hide HG.out.pend
        have BL := hide HG.out.st.lv.bel
        have HK1 := hide (And.intro q1 q2)
        have P8 := hide HG.out.st.lv.ld.dev
        have HCL := hide (show g6.calls ≤ 5000 from by have q := HG.out.calls; have := GC.out; omega)
        obtain ⟨w8, hw8⟩ : ∃ q, q = w6 := ⟨_, rfl⟩
        have KK := hide (show Keep S6 w6 w8 by rw [hw8]; exact Keep.refl _ _)
        rw [← hw8] at BL P8 ⊢
        obtain ⟨g8, hg8⟩ : ∃ q, q = g6 := ⟨_, rfl⟩
        have GN8 := hide HG.out.gn
        rw [← hg8] at WP DN PN P8 HCL GN8
        clear q1 q2 q3 q4 hw8 hg8
        have c3 := HLC.out _ BL.out
        obtain ⟨x0, _⟩ := c3.get 0 _ rfl
        obtain ⟨x1, _⟩ := c3.get 1 _ rfl
        obtain ⟨x2, _⟩ := c3.get 2 _ rfl
        clear c3
        go_wp2_with fail
        refine (KS.out _ _ w8).mono ?_
        rintro e w9 ⟨rfl, b9⟩
        have P9 := hide (P8.out.below b9)
        have KK9 := hide (KK.out.then_below b9)
        have BL9 := hide (bnext BL.out b9 (Nat.le_refl _))
        clear x0 x1 x2 b9 P8 KK BL
        have hxk : kk ≤ xs.length := by have := HK1.out.2; rw [HG.out.len]; omega
        have hfar : ∀ b, S6 b → w1.heap.size ≤ b := HG.out.st.lv.fS
        have KAg := hide (again_any P9.out n m6.recs (xs.map RecL.r) kk (besX n) WP.out HG.out.holds (by rw [List.length_map]; exact hxk) DN.out PN.out (by have := HCL.out; omega) hnn.1 hnn.2 gs sa sc (HFS.out.below BL9.out) (fun hne ad ha q => by have := HFA.out hne ad ha; have := hfar _ q; omega) (fun x hx hk ad ha q => by have := HFX.out x hx hk ad ha; have := hfar _ q; omega) HFK.out hl12)
        go_wp2_with fail
        refine KAg.out.mono ?_
        rintro e w10 ⟨S10, T10, l10, g10, rfl, ld10, wp10, dn10, pn10, zr10, cl10, ln10, st10, hl10, hT10⟩
        clear KAg
        have LD10 := hide ld10
        have K610 := hide (KK9.out.trans st10.1 (fun _ _ q => q))
        have BL10 := hide (BL9.out.trans (st10.1.below BL9.out.size (fun j hj q => by have := hfar j q; omega)))
        have X10 := hide (X6.out.keep K610.out NS6.out)
        have WP10 := hide wp10
        have DN10 := hide dn10
        have PN10 := hide pn10
        have ZR10 := hide zr10
        have CL10 := hide (show g10.calls ≤ 10000 by have := HCL.out; omega)
        have NS10 := hide (show ¬ S10 bb from fun q => (st10.2 bb q).elim NS6.out (fun r => by have := X6.out.lt; have := KK9.out.size; omega))
        have GN10 := hide (ln10.trans GN8.out)
        have FAR10 := hide (show ∀ b, S10 b → w1.heap.size ≤ b from fun b q => (st10.2 b q).elim (hfar b) (fun r => Nat.le_trans BL9.out.size r))
        have SUB10 := hide (show ∀ j, j < w6.heap.size → S10 j → S6 j from fun j hj q => (st10.2 j q).elim id (fun r => by have := KK9.out.size; omega))
        have HGN := hide (show g10.n = n + 3 by unfold Dev.n; rw [GN10.out]; omega)
        clear ld10 wp10 dn10 pn10 zr10 cl10 ln10 st10 hl10 hT10 BL9 P9 KK9
        have HRL := hide (show (m6.recs.take kk).length = kk by rw [List.length_take, HG.out.recs]; rw [HG.out.len] at hxk; omega)
        obtain ⟨m10, hm10⟩ : ∃ q : LogM, q = ⟨2, n, m6.recs.take kk, (m6.recs.take kk).length, false⟩ := ⟨_, rfl⟩
        rw [← hm10] at LD10
        have HM10 := hide hm10
        have hkn : kk ≤ n := by rw [HG.out.len] at hxk; omega
        have HMR := hide (show m10.recs.length = kk by rw [hm10]; exact HRL.out)
        have HXK := hide hxk
        clear hm10 hxk
        have KCa := hide (Dv.calls_any LD10.out.dev)
        go_wp2_with fail
        refine KCa.out.mono ?_
        rintro e w11 ⟨rfl, hww⟩
        obtain rfl : w10 = w11 := hww.symm
        clear hww KCa
        have KIm := hide (Dv.image_any LD10.out.dev)
        go_wp2_with fail
        refine KIm.out.mono ?_
        rintro e w11 ⟨v11, rfl, o11, b11⟩
        have himg : g10.img.length = 512 * g10.n := WP10.out.n
        have hgn : 2 + n ≤ g10.n := by have := WP10.out.len; omega
        obtain ⟨ib, ic, rfl, hic, hbi, hib⟩ := o11.form (by rw [ints_length]; omega)
        rw [ints_length] at hic ⊢
        have IM := hide (show Bytes w11 (some ⟨ib, 0, none⟩) g10.img from Owns.seen_at o11)
        have LD11 := hide (LD10.out.below b11)
        have BL11 := hide (bnext BL10.out b11 (Nat.le_refl _))
        have X11 := hide (X10.out.below b11)
        have K611 := hide (K610.out.then_below b11)
        have HIB := hide (show ¬ S10 ib from fun q => by have := LD10.out.dev.lt ib q; omega)
        have hil : ib < w11.heap.size := hib
        obtain ⟨IL, hIL⟩ : ∃ q, q = g10.img.length := ⟨_, rfl⟩
        rw [← hIL] at hic ⊢
        have HIL := hide hIL
        have HIMG := hide himg
        clear KIm o11 b11 hbi hib LD10 BL10 X10 K610 hIL himg
        have KLa := hide (lastL_any LD11.out)
        rw [HMR.out] at KLa
        obtain ⟨k2, hk2⟩ : ∃ q, q = 2 + kk := ⟨_, rfl⟩
        have hk2w : IntKind.i64.wrap (2 + (kk : Int)) = (k2 : Int) := by rw [IntKind.wrap_i64]; omega
        have hk2i : 2 + (kk : Int) = (k2 : Int) := by omega
        have hk2v : IntKind.i64.wrap (k2 : Int) = (k2 : Int) := by rw [IntKind.wrap_i64]; omega
        have hn2w : IntKind.i64.wrap (2 + (n : Int)) = (N2 : Int) := by rw [IntKind.wrap_i64]; have := HN2.out; omega
        have hn2i : 2 + (n : Int) = (N2 : Int) := by have := HN2.out; omega
        have HK2 := hide hk2
        clear hk2
        go_wp2_with fail
        refine KLa.out.mono ?_
        rintro e w12 ⟨rfl, hww⟩
        obtain rfl : w11 = w12 := hww.symm
        clear hww KLa
        have hil16 : IL ≤ 30000 := by rw [HIL.out, GN10.out]; omega
        go_wp2_with fail
        go_loopw [20] (fun jv wx => ∃ q : Nat, jv = .int .i64 (q : Int) ∧ k2 ≤ q ∧ q ≤ N2 ∧ Below w11.heap.size w11 wx) (fun jv _ => (100 - (intOf jv).toNat))
        case atStart => exact ⟨k2, rfl, Nat.le_refl _, by have := HK2.out; have := HN2.out; omega, Below.refl _ _⟩
        case round =>
          obtain ⟨q, rfl, hq1, hq2, hBq⟩ := hrel
          have HBq := hide hBq
          clear hBq
          have c3 := HLC.out _ (bnext BL11.out HBq.out (Nat.le_refl _))
          obtain ⟨x0, _⟩ := c3.get 0 _ rfl
          obtain ⟨x1, _⟩ := c3.get 1 _ rfl
          obtain ⟨x2, _⟩ := c3.get 2 _ rfl
          clear c3
          have hN2s : N2 ≤ 50 := by have := HN2.out; omega
          go_wp2_with fail
          refine (KS.out _ _ wr).mono ?_
          rintro e w13 ⟨rfl, b13⟩
          have B13 := hide (bnext HBq.out b13 (Nat.le_refl _))
          clear b13 x0 x1 x2 HBq
          by_cases hq : q < N2
          · have dq : decide ((q : Int) < (N2 : Int)) = true := by simp; omega
            have dq2 : decide (q < N2) = true := by simp; omega
            have I13 := hide (IM.out.below B13.out)
            obtain ⟨w14, hw14⟩ : ∃ x, x = w13 := ⟨_, rfl⟩
            rw [← hw14] at B13 I13 ⊢
            clear hw14
            go_wp2_with fail
            go_loopw [21] (fun kv wx => ∃ k : Nat, kv = .int .i64 (k : Int) ∧ k ≤ 512 ∧ wx = w14) (fun kv _ => (513 - (intOf kv).toNat))
            case atStart => exact ⟨0, rfl, Nat.zero_le _, rfl⟩
            case round =>
              obtain ⟨k, rfl, hk, hwx⟩ := hrel
              have hwx := hwx.symm
              subst hwx
              by_cases hk1 : k < 512
              · have dk : decide ((k : Int) < 512) = true := by simp; omega
                have hix : q * 512 + k < IL := by have := HIL.out; have := HIMG.out; have := HN2.out; omega
                obtain ⟨b0, o0, e0, _, hcp⟩ := Bytes.at I13.out (i := q * 512 + k) (by rw [← HIL.out]; exact hix)
                cases e0
                have hz : g10.img.getD (q * 512 + k) 0 = 0 := by
                  have z := ZR10.out (q - 2) (by have := HK2.out; omega) (by have := HN2.out; have := HK2.out; omega)
                  have z2 := sector_getD g10.img (2 + (q - 2)) k hk1
                  rw [z, zeros_getD] at z2
                  rw [show q * 512 + k = 512 * (2 + (q - 2)) + k by have := HK2.out; omega]
                  exact z2.symm
                rw [hz, Nat.zero_add] at hcp
                obtain ⟨qm, hqm⟩ : ∃ x : Nat, x = q * 512 := ⟨_, rfl⟩
                have hm1 : IntKind.i64.wrap ((q : Int) * 512) = (qm : Int) := by rw [IntKind.wrap_i64]; omega
                have hm2 : (q : Int) * 512 = (qm : Int) := by omega
                have hm3 : IntKind.i64.wrap (qm : Int) = (qm : Int) := by rw [IntKind.wrap_i64]; omega
                rw [← hqm] at hcp hix
                clear hz hqm
                go_wp2_with fail
                go_roundw
                case rel => exact ⟨k + 1, by go_num, by omega, trivial⟩
                case measure => simp [intOf]; omega
              · obtain rfl : k = 512 := by omega
                have dk : decide (((512 : Nat) : Int) < 512) = false := by decide
                go_wp2_with fail
                go_roundw
                case rel => first | exact ⟨q + 1, by go_num, by omega, by omega, B13.out⟩ | ((repeat apply Exists.intro); exact ⟨⟨q + 1, by go_num, by omega, by omega, B13.out⟩, rfl⟩)
                case measure => simp [intOf]; omega
          · have dq : decide ((q : Int) < (N2 : Int)) = false := by simp; omega
            have dq2 : decide (q < N2) = false := by simp; omega
            have I13 := hide (IM.out.below B13.out)
            have X13 := hide (X11.out.below B13.out)
            obtain ⟨w14, hw14⟩ : ∃ x, x = w13 := ⟨_, rfl⟩
            rw [← hw14] at B13 I13 X13 ⊢
            clear hw14
            go_wp2_with fail
            go_loopw [22] (fun jv wx => ∃ i2 : Nat, jv = .int .i64 (i2 : Int) ∧ i2 ≤ 3 ∧ wx = w14) (fun jv _ => (5 - (intOf jv).toNat))
            case atStart => exact ⟨0, rfl, Nat.zero_le _, rfl⟩
            case round =>
              obtain ⟨i2, rfl, hi2, hwx⟩ := hrel
              have hwx := hwx.symm
              subst hwx
              by_cases hi : i2 < 3
              · have di : decide ((i2 : Int) < 3) = true := by simp; omega
                go_wp2_with fail
                go_loopw [23] (fun kv wx => ∃ k : Nat, kv = .int .i64 (k : Int) ∧ k ≤ 512 ∧ wx = w14) (fun kv _ => (513 - (intOf kv).toNat))
                case atStart => exact ⟨0, rfl, Nat.zero_le _, rfl⟩
                case round =>
                  obtain ⟨k, rfl, hk, hwx⟩ := hrel
                  have hwx := hwx.symm
                  subst hwx
                  by_cases hk1 : k < 512
                  · have dk : decide ((k : Int) < 512) = true := by simp; omega
                    obtain ⟨bw, hbw⟩ : ∃ q, q = besAt n i2 := ⟨_, rfl⟩
                    have hbl := besAt_lt n i2 hi
                    rw [← hbw] at hbl
                    have cx : w14.cell? ⟨bb, i2, none⟩ = some (.int .i64 (bw : Int)) := by
                      have q := X13.out.cells
                      rw [hbw]
                      have := HN2.out
                      match i2, hi with
                      | 0, _ => exact (q.get 0 _ rfl).1
                      | 1, _ => exact (q.get 1 _ rfl).1
                      | 2, _ => rw [show besAt n 2 = N2 from this.symm]; exact (q.get 2 _ rfl).1
                    have hix : bw * 512 + k < IL := by have := HIL.out; have := HIMG.out; have := HGN.out; omega
                    obtain ⟨b0, o0, e0, _, hcp⟩ := Bytes.at I13.out (i := bw * 512 + k) (by rw [← HIL.out]; exact hix)
                    cases e0
                    obtain ⟨fv, hfv⟩ : ∃ q, q = 200 + i2 := ⟨_, rfl⟩
                    have hz : g10.img.getD (bw * 512 + k) 0 = fv := by
                      have z := WP10.out.side bw (by rw [hbw]; match i2, hi with
                        | 0, _ => exact .inl (by show 0 < 2; decide)
                        | 1, _ => exact .inl (by show 1 < 2; decide)
                        | 2, _ => exact .inr (by show 2 + n ≤ n + 2; omega)) (by have := HGN.out; omega)
                      rw [hbw, besX_at n i2 hi hnn.1, ← hbw, ← hfv] at z
                      have z2 := sector_getD g10.img bw k hk1
                      rw [z, fillB_getD fv k hk1] at z2
                      rw [show bw * 512 + k = 512 * bw + k by omega]
                      exact z2.symm
                    rw [hz, Nat.zero_add] at hcp
                    obtain ⟨qm, hqm⟩ : ∃ x : Nat, x = bw * 512 := ⟨_, rfl⟩
                    have hm1 : IntKind.i64.wrap ((bw : Int) * 512) = (qm : Int) := by rw [IntKind.wrap_i64]; omega
                    have hm2 : (bw : Int) * 512 = (qm : Int) := by omega
                    have hm3 : IntKind.i64.wrap (qm : Int) = (qm : Int) := by rw [IntKind.wrap_i64]; omega
                    have hf1 : IntKind.i64.wrap (200 + (i2 : Int)) = (fv : Int) := by rw [IntKind.wrap_i64]; omega
                    have hf2 : 200 + (i2 : Int) = (fv : Int) := by omega
                    have hf3 : IntKind.i64.wrap (fv : Int) = (fv : Int) := by rw [IntKind.wrap_i64]; omega
                    have hf4 : IntKind.u8.wrap (fv : Int) = (fv : Int) := by rw [IntKind.wrap_u8]; omega
                    have hf5 : (fv : Int) % 256 = (fv : Int) := by omega
                    rw [← hqm] at hcp hix
                    clear hz hqm hfv hbw
                    go_wp2_with fail
                    go_roundw
                    case rel => exact ⟨k + 1, by go_num, by omega, trivial⟩
                    case measure => simp [intOf]; omega
                  · obtain rfl : k = 512 := by omega
                    have dk : decide (((512 : Nat) : Int) < 512) = false := by decide
                    go_wp2_with fail
                    go_roundw
                    case rel => first | exact ⟨i2 + 1, by go_num, by omega, trivial⟩ | ((repeat apply Exists.intro); exact ⟨⟨i2 + 1, by go_num, by omega, trivial⟩, rfl⟩)
                    case measure => simp [intOf]; omega
              · obtain rfl : i2 = 3 := by omega
                have di : decide (((3 : Nat) : Int) < 3) = false := by decide
                have BL14 := hide (bnext BL11.out B13.out (Nat.le_refl _))
                have c3 := HLC.out _ BL14.out
                obtain ⟨x0, _⟩ := c3.get 0 _ rfl
                obtain ⟨x1, _⟩ := c3.get 1 _ rfl
                obtain ⟨x2, _⟩ := c3.get 2 _ rfl
                clear c3
                go_wp2_with fail
                refine (KS.out _ _ w14).mono ?_
                rintro e w15 ⟨rfl, b15⟩
                have LD15 := hide ((LD11.out.below B13.out).below b15)
                have I15 := hide (I13.out.below b15)
                have BL15 := hide (bnext BL14.out b15 (Nat.le_refl _))
                have K615 := hide ((K611.out.then_below B13.out).then_below b15)
                clear x0 x1 x2 b15 BL14 I13 X13
                obtain ⟨o1, o2, o3⟩ := WP10.out.again HG.out.holds (by rw [List.length_map]; exact HXK.out) DN10.out PN10.out (by decide) ZR10.out
                have KOp := hide (open_any LD15.out.dev 2 n hnn.1 WP10.out.openn (by rw [PN10.out]; exact Nat.zero_le _) (by have := CL10.out; omega))
                have O1 := hide o1
                have O2 := hide o2
                have O3 := hide o3
                clear o1 o2 o3
                go_wp2_with fail
                refine KOp.out.mono ?_
                rintro e w16 ⟨S16, p16, k16, n16, h16⟩
                rcases h16 with ⟨_, l16, T16, rfl, ld16, hl16, hT16⟩ | ⟨he, _⟩
                rotate_left
                · exact absurd O1.out he
                rw [O2.out, O3.out, ← HM10.out] at ld16
                rw [O3.out] at p16
                have LDo := hide ld16
                have LDm := hide (LD15.out.step p16 ⟨k16, n16⟩)
                have I16 := hide (show Bytes w16 (some ⟨ib, 0, none⟩) g10.img from Seen.keep I15.out k16 (fun ad e => by cases e; exact HIB.out))
                have BL16 := hide (BL15.out.trans (k16.below BL15.out.size (fun j hj q => by have := FAR10.out j q; omega)))
                have RC16 := hide (HG.out.st.recsAt (K615.out.trans k16 SUB10.out) (fun b q => HG.out.st.l0 b (.inl q)))
                clear KOp ld16 p16 k16 n16 hl16 hT16 LD15 I15 BL15 K615 O1 O2 O3
                have KLo := hide (lastL_any LDo.out)
                have KLm := hide (lastL_any LDm.out)
                have KCc := hide (Dv.calls_any LDo.out.dev)
                rw [HMR.out] at KLo KLm
                go_wp2_with fail
                refine KLo.out.mono ?_
                rintro e w17 ⟨rfl, hww⟩
                obtain rfl : w16 = w17 := hww.symm
                clear hww
                go_wp2_with fail
                refine KLm.out.mono ?_
                rintro e w17 ⟨rfl, hww⟩
                obtain rfl : w16 = w17 := hww.symm
                clear hww
                go_wp2_with fail
                refine KCc.out.mono ?_
                rintro e w17 ⟨rfl, hww⟩
                obtain rfl : w16 = w17 := hww.symm
                clear hww KLo KLm KCc
                have hmk : m10.Ok := by
                  rw [HM10.out]
                  exact ⟨by show (m6.recs.take kk).length ≤ n; rw [HRL.out]; omega, by show 2 + n ≤ 10000; omega, Nat.le_refl _⟩
                have KPf := hide (prefix_any LDo.out hmk (by rw [HM10.out]) aa ac xs RC16.out kk HXK.out (by rw [HM10.out]; exact HG.out.holds.take kk (by rw [List.length_map]; exact HXK.out)) (by rw [HG.out.len]; omega) xs.length HXK.out)
                rw [HG.out.len] at KPf
                clear hmk
                go_wp2_with fail
                refine KPf.out.mono ?_
                rintro e w18 ⟨rfl, b18⟩
                have LD18 := hide (LDo.out.below b18)
                have I18 := hide (I16.out.below b18)
                have BL18 := hide (bnext BL16.out b18 (Nat.le_refl _))
                have KI2 := hide (Dv.image_any LD18.out.dev)
                clear KPf b18 LDo LDm I16 BL16 RC16
                go_wp2_with fail
                refine KI2.out.mono ?_
                rintro e w19 ⟨v19, rfl, o19, b19⟩
                obtain ⟨jb, jc, rfl, hjc, hbj, hjb⟩ := o19.form (by rw [ints_length, ← HIL.out]; have := HIMG.out; have := HIL.out; have := HGN.out; omega)
                rw [ints_length, ← HIL.out]
                have KSm := same_any (some ⟨jb, 0, none⟩) (some ⟨ib, 0, none⟩) g10.img g10.img jc ic w19 (Owns.seen_at o19) (I18.out.below b19) LD18.out.dev.ok.bytes LD18.out.dev.ok.bytes
                rw [← HIL.out] at KSm
                have KSm := hide KSm
                have BL19 := hide (bnext BL18.out b19 (Nat.le_refl _))
                clear o19 b19 hbj hjb KI2 hjc
                go_wp2_with fail
                refine KSm.out.mono ?_
                rintro e w20 ⟨rfl, hww⟩
                obtain rfl : w19 = w20 := hww.symm
                clear hww KSm
                go_wp2_with fail
                go_ret
                exact ⟨by simp, bnext B1.out BL19.out (Nat.le_refl _)⟩
end Go.Proofs.YtgpmghdoofcpaaaGreat.Lg
