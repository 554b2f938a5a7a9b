import Derived.Test.YtgpmghdoofcpaaaGreatG27
import Derived.Test.YtgpmghdoofcpaaaGreatG08
import Derived.Test.YtgpmghdoofcpaaaGreatG07
import Derived.Deep.DeepCutAuto
namespace Go.Proofs.YtgpmghdoofcpaaaGreat.Lg
open Go.RowKit Go.QK
open Dv (hide bnext alloc_below load_arr store_arr slice_arr wp_load_arr wp_store_arr neq_arr info91)

def wpE (p : Dev × Nat) : Nat := if p.2 ≠ 0 then p.2 else p.1.syncE
def wpD (p : Dev × Nat) : Dev := if p.2 ≠ 0 then p.1 else p.1.sync
/-- How write's loop stands. -/
structure PSt (w : World) (S : Nat → Prop) (d : Nat) (g : Dev) (first : Nat) (rs : List (List Nat)) (fr to_ : Nat) (p : Dev × Nat) (wr : World) (s : Nat) (S' : Nat → Prop) (g' : Dev) : Prop where
  lo : fr ≤ s
  hi : s ≤ to_ + 1
  eq : p = putM first rs (to_ + 1 - s) s g'
  dev : PDev wr S' d g'
  st : Step w S wr S'
  pl : g'.pend.length + fr ≤ g.pend.length + s
  cl : g'.calls + fr ≤ g.calls + s

set_option maxRecDepth 100000 in
set_option maxHeartbeats 2000000 in
theorem lwrite_any {w : World} {S T : Nat → Prop} {d : Nat} {g : Dev} (h : PDev w S d g) (l first count forced fr to_ : Nat) (ended : Bool) {rv : Value} {rs : List (List Nat)} {vs : List Value} (hr : Recs w T rv rs vs) (hh : Hd w l d first count rv forced ended)
    (hlS : ¬ S l) (hST : ∀ b, S b → ¬ T b) (h1 : 1 ≤ fr) (h2 : fr ≤ to_ + 1) (h3 : to_ ≤ rs.length) (hb : first + to_ ≤ 10000) (hpl : g.pend.length ≤ 900000) (hcl : g.calls ≤ 900000) :
    Calls Tryz.prog 58 #[.pointer (some ⟨l, 0, none⟩), .int .i64 (fr : Int), .int .i64 (to_ : Int)] w fun e w' => ∃ S', e = fin 0 (wpE (putM first rs (to_ + 1 - fr) fr g)) ∧ PDev w' S' d (wpD (putM first rs (to_ + 1 - fr) fr g)) ∧ Keep (fun b => S b ∨ b = l) w w' ∧ (∀ k, S' k → S k ∨ w.heap.size ≤ k) ∧
      Hd w' l d first count rv (if wpE (putM first rs (to_ + 1 - fr) fr g) = 0 then to_ else forced) ended := by
  have HI : PSt w S d g first rs fr to_ (putM first rs (to_ + 1 - fr) fr g) w fr S g := ⟨Nat.le_refl _, h2, rfl, h, Step.refl _ _, Nat.le_refl _, Nat.le_refl _⟩
  generalize putM first rs (to_ + 1 - fr) fr g = p at *
  have hl := hh.1
  have HH := hide hh
  have HR := hide hr
  obtain ⟨we, hwe⟩ : ∃ we, we = wpE p := ⟨_, rfl⟩
  obtain ⟨wd, hwd⟩ : ∃ wd, wd = wpD p := ⟨_, rfl⟩
  rw [← hwe, ← hwd]
  have HE := hide hwe
  have HD := hide hwd
  clear h hh hr hwe hwd
  go_enter Tryz.func58, Tryz.ntmps58
  go_wp2_with fail
  go_loopw [6] (fun i wr => ∃ (s : Nat) (S' : Nat → Prop) (g' : Dev), i = .int .i64 (s : Int) ∧ PSt w S d g first rs fr to_ p wr s S' g') (fun i _ => (to_ + 1 - (intOf i).toNat))
  case atStart => exact ⟨fr, S, g, rfl, HI⟩
  case round =>
    obtain ⟨s, S', g', rfl, hst⟩ := hrel
    have HH' := hide (HH.out.keep hst.st.1 hlS)
    have HR' := hide (HR.out.keep hst.st.1 hST)
    have hlr : l < wr.heap.size := Nat.lt_of_lt_of_le hl hst.st.1.size
    have hlS' : ¬ S' l := fun q => by
      rcases hst.st.2 l q with r | r
      · exact hlS r
      · omega
    have HST := hide hst
    have hlo := HST.out.lo
    have hhi := HST.out.hi
    have hpp := HST.out.pl
    have hcc := HST.out.cl
    obtain ⟨c0, _⟩ := HH'.out.get 0 _ rfl
    obtain ⟨c1, _⟩ := HH'.out.get 1 _ rfl
    obtain ⟨c3, _⟩ := HH'.out.get 3 _ rfl
    clear hst HI
    by_cases hlt : s ≤ to_
    · have hd : decide ((s : Int) ≤ (to_ : Int)) = true := by simp; omega
      obtain ⟨gb, cb, a, c', erv, hcell, hby, hle, hnil, hall, h502⟩ := HR'.out.get (s - 1) (by omega)
      have hidx : ((s : Int) - 1) = ((s - 1 : Nat) : Int) := by omega
      have hlt1 : s - 1 < rs.length := by omega
      rw [erv] at c3
      have HBY := hide hby
      have hfl := filledB_length (s := s) (b := rs.getD (s - 1) []) (by omega)
      have hfa := filledB_all (s := s) hall
      have eqn := HST.out.eq
      rw [show to_ + 1 - s = (to_ + 1 - (s + 1)) + 1 by omega] at eqn
      have KF := hide (filled_any s a (rs.getD (s - 1) []) c' wr (by omega) HBY.out (by omega))
      have KP := fun w2 (b2 : Below wr.heap.size wr w2) => lput_any (HST.out.dev.below b2) l first s (filledB s (rs.getD (s - 1) [])) (Nat.lt_of_lt_of_le hlr b2.size) hlS' ((World.cell?_of_block (a := ⟨l, 0, none⟩) (b2.block l hlr)).trans c0) ((World.cell?_of_block (a := ⟨l, 1, none⟩) (b2.block l hlr)).trans c1) (by omega) (by omega) hfl hfa (by omega) (by omega)
      have hs1 : s - 1 + 1 = s := by omega
      by_cases he : g'.writeE ((first + s - 1 : Nat) : Int) 512 = 0
      · have HM := hide (eqn.trans (putM_go he))
        have WL := hide (write_len (g := g') (i := ((first + s - 1 : Nat) : Int)) (b := filledB s (rs.getD (s - 1) [])))
        rw [he] at KP
        have KP := hide KP
        clear he hfl hfa eqn hall hby hs1
        generalize g'.write ((first + s - 1 : Nat) : Int) (filledB s (rs.getD (s - 1) [])) = g2 at *
        generalize filledB s (rs.getD (s - 1) []) = X at *
        generalize rs.getD (s - 1) [] = bb at *
        generalize s - 1 = s1 at *
        go_wp2_with fail
        refine KF.out.mono ?_
        rintro e w2 ⟨rfl, b2⟩
        have K2 := hide (KP.out w2 b2)
        have B2 := hide b2
        clear b2 KF KP c0 c1 c3 hcell hidx
        go_wp2_with fail
        refine K2.out.mono ?_
        rintro e w3 ⟨S3, he3, p3, s3⟩
        rw [fin_zero] at he3
        subst he3
        have P3 := hide p3
        have ST3 := hide ((HST.out.st.trans (Step.of_below B2.out)).trans s3)
        clear K2 B2 p3 s3
        go_wp2_with fail
        go_roundw
        case rel => exact ⟨s + 1, S3, g2, by go_num, by omega, by omega, HM.out, P3.out, ST3.out, by have := WL.out; omega, by have := WL.out; omega⟩
        case measure => simp [intOf]; omega
      · have HM := eqn.trans (putM_bad he)
        have hwe : g'.writeE ((first + s - 1 : Nat) : Int) 512 = we := by rw [HE.out, HM]; unfold wpE; rw [if_pos he]
        have hwd : g'.write ((first + s - 1 : Nat) : Int) (filledB s (rs.getD (s - 1) [])) = wd := by rw [HD.out, HM]; unfold wpD; rw [if_pos he]
        rw [hwe] at he
        rw [hwe, hwd] at KP
        have KP := hide KP
        have HNE := hide he
        clear he hfl hfa eqn hall hby hwe hwd HM hs1
        generalize filledB s (rs.getD (s - 1) []) = X at *
        generalize rs.getD (s - 1) [] = bb at *
        generalize s - 1 = s1 at *
        go_wp2_with fail
        refine KF.out.mono ?_
        rintro e w2 ⟨rfl, b2⟩
        have K2 := hide (KP.out w2 b2)
        have B2 := hide b2
        clear b2 KF KP c0 c1 c3 hcell hidx
        go_wp2_with fail
        refine K2.out.mono ?_
        rintro e w3 ⟨S3, he3, p3, s3⟩
        rw [fin_no HNE.out] at he3
        subst he3
        have ST3 := (HST.out.st.trans (Step.of_below B2.out)).trans s3
        refine ⟨rfl, S3, (fin_no HNE.out).symm, p3, ST3.1.mono (fun _ _ q => .inl q), ST3.2, ?_⟩
        rw [if_neg HNE.out]
        exact HH.out.keep ST3.1 hlS
    · have hd : decide ((s : Int) ≤ (to_ : Int)) = false := by simp; omega
      have hM : p = (g', 0) := by rw [HST.out.eq, show to_ + 1 - s = 0 by omega]; rfl
      have hwe : g'.syncE = we := by rw [HE.out, hM]; unfold wpE; simp
      have hwd : g'.sync = wd := by rw [HD.out, hM]; unfold wpD; simp
      have KS := Dv.sync_any HST.out.dev (by omega) (by omega)
      rw [hwe, hwd] at KS
      have KS := hide KS
      clear hM hwe hwd
      go_wp2_with fail
      refine KS.out.mono ?_
      rintro e w3 ⟨rfl, p3, k3⟩
      have st3 := HST.out.st.trans (Step.of_keep k3)
      have HH3 := hide (HH.out.keep st3.1 hlS)
      obtain ⟨c4, f4⟩ := HH3.out.get 4 _ rfl
      have P3 := hide p3
      have ST3 := hide st3
      clear KS p3 k3 c0 c1 c3 st3
      by_cases he : we = 0
      · subst he
        go_wp2_with fail
        refine (must_ok w3).mono ?_
        rintro e w5 ⟨rfl, rfl⟩
        go_wp2_with fail
        go_end0
        refine ⟨rfl, S', ?_, (ST3.out.1.mono (fun _ _ q => .inl q)).setCell (fun _ => .inr rfl) _, ST3.out.2, ?_⟩
        · exact P3.out.keep (T := fun b => b = l) ((Keep.refl (fun b => b = l) _).setCell (fun _ => rfl) _) (fun b q r => hlS' (q ▸ r))
        · exact HH3.out.stored (j := 4) (by simp [hdC]) _
      · have HNE := hide he
        clear he
        go_wp2_with fail
        refine (must_no we HNE.out w3).mono ?_
        rintro e w5 ⟨rfl, rfl⟩
        refine ⟨rfl, S', (fin_no HNE.out).symm, P3.out, ST3.out.1.mono (fun _ _ q => .inl q), ST3.out.2, ?_⟩
        rw [if_neg HNE.out]
        exact HH3.out
end Go.Proofs.YtgpmghdoofcpaaaGreat.Lg

namespace Go.Proofs.YtgpmghdoofcpaaaGreat
open Go.RowKit Go.QK

abbrev natCs (ns : List Nat) : List Value := ns.map (fun n : Nat => Value.int .i64 (n : Int))
theorem Lies.natAt {w : World} {a : Option Addr} {ns : List Nat} (h : Lies w a (natCs ns)) (k : Nat) (hk : k < ns.length) : ∃ b off, a = some ⟨b, off, none⟩ ∧ b < w.heap.size ∧ w.cell? ⟨b, off + k, none⟩ = some (.int .i64 (ns[k] : Int)) := by
  exact h.cellAt k _ (by simp [natCs, List.getElem?_eq_getElem hk])
theorem notS {w : World} {p b : Nat} {v v' : Value} (h : moved w v v') (hb : b < w.heap.size) (hn : ¬ wS p v b) : ¬ wS p v' b := fun q => hn (wS.moved h b hb q)
theorem flatForm_len (ns : List Nat) (h : ∀ n ∈ ns, n < 18446744073709551616) : (ns.flatMap form).length ≤ 10 * ns.length := by
  induction ns with
  | nil => simp
  | cons n ns ih =>
    have := (form_len (h n (by simp))).2
    have := ih (fun m hm => h m (by simp [hm]))
    rw [List.flatMap_cons, List.length_append, List.length_cons]
    omega

set_option maxRecDepth 100000
theorem put_any (ns : List Nat) (a : Option Addr) (c : Nat) (B p : Nat) (v : Value) (l : List Nat) (w : World) (hs : ∀ w', Keep (wS p v) w w' → Lies w' a (natCs ns)) (hns : ∀ n ∈ ns, n < 9223372036854775808) (h : Wr w B p v l) (hl : l.length + 10 * ns.length ≤ 1000000) :
    Calls Tryz.prog 89 #[.pointer (some ⟨p, 0, none⟩), .slice a ns.length c] w fun e w' => ∃ v', e = .returned (.tuple #[]) ∧ Wr w' B p v' (l ++ ns.flatMap form) ∧ Keep (wS p v) w w' ∧ moved w v v' := by
  have HS := hide hs
  clear hs
  go_enter Tryz.func89, Tryz.ntmps89
  go_wp2_with fail
  go_loopw [8] (fun i wr => ∃ (k : Nat) (u : Value), i = .int .i64 (k : Int) ∧ k ≤ ns.length ∧ Wr wr B p u (l ++ (ns.take k).flatMap form) ∧ Keep (wS p v) w wr ∧ moved w v u) (fun i _ => (ns.length + 1 - (intOf i).toNat))
  case atStart => exact ⟨0, v, rfl, Nat.zero_le _, by simpa using h, Keep.refl _ _, .inl rfl⟩
  case round =>
    obtain ⟨k, u, rfl, hk, hw, hkp, hm⟩ := hrel
    have HW := hide hw
    clear hw
    by_cases hlt : k < ns.length
    · have hg1 : decide ((k : Int) < (ns.length : Int)) = true := by simp; omega
      obtain ⟨b, off, rfl, hbl, k0⟩ := (HS.out wr hkp).natAt k hlt
      have hx : ns[k] < 9223372036854775808 := hns _ (List.getElem_mem _)
      have hlen : (l ++ (ns.take k).flatMap form).length ≤ 1000000 := by
        have := flatForm_len (ns.take k) (fun n hn => by have := hns n (List.mem_of_mem_take hn); omega)
        simp at this ⊢
        omega
      have he : l ++ (ns.take (k + 1)).flatMap form = (l ++ (ns.take k).flatMap form) ++ form ns[k] := by
        rw [← List.take_append_getElem hlt, List.flatMap_append, List.flatMap_cons, List.flatMap_nil, List.append_nil, List.append_assoc]
      have HE := hide he
      clear he
      generalize ns[k] = x at *
      have e1 : IntKind.u64.wrap (x : Int) = (x : Int) := by rw [IntKind.wrap_u64]; omega
      have f1 := writeU_any x B p u _ wr (by omega) HW.out hlen
      go_wp2_with fail
      refine f1.mono ?_
      rintro e w1 ⟨u', rfl, hw', hk', hm'⟩
      have K2 := hkp.trans hk' (wS.moved hm)
      have M2 := hm.trans hm' hkp.size
      rw [← HE.out] at hw'
      have HW' := hide hw'
      clear hw' HE HW
      go_wp2_with fail
      go_roundw
      case rel => exact ⟨k + 1, u', by go_num, hlt, HW'.out, K2, M2⟩
      case measure => simp [intOf]; omega
    · have hg1 : decide ((k : Int) < (ns.length : Int)) = false := by simp; omega
      have hkk : k = ns.length := by omega
      have HW' := hide HW.out
      rw [hkk, List.take_length] at HW'
      clear HW hkk
      go_wp2_with fail
      go_end0
      exact ⟨u, rfl, HW'.out, hkp, hm⟩

/-- Numbers that were just laid into a slice of their own. -/
theorem put_lit {m : Nat} (ns : List Nat) (B p : Nat) (v : Value) (l : List Nat) (w : World) (hns : ∀ n ∈ ns, n < 9223372036854775808) (h : Wr w B p v l) (hl : l.length + 10 * ns.length ≤ 1000000) (hn : ns.length = m) :
    Calls Tryz.prog 89 #[.pointer (some ⟨p, 0, none⟩), .slice (some ⟨w.heap.size, 0, none⟩) m m] (w.alloc (.cells (natCs ns).toArray 3)) fun e w' => ∃ v', e = .returned (.tuple #[]) ∧ Wr w' B p v' (l ++ ns.flatMap form) ∧ Keep (wS p v) w w' ∧ moved w v v' := by
  subst hn
  have hlt := h.lt
  refine (put_any ns _ ns.length B p v l _ ?_ hns (h.below (alloc_below _ _)) hl).mono ?_
  · intro w' hk
    have C := (Cells.new w (natCs ns).toArray 3)
    have C' := C.keep hk (by intro q; have := (hlt _ q).2; omega)
    exact .inr ⟨w.heap.size, 0, rfl, C'.1, fun i hi => by rw [Nat.zero_add]; exact (C'.2 i hi).1⟩
  · rintro e w' ⟨v', rfl, q1, q2, q3⟩
    refine ⟨v', rfl, q1, ?_, ?_⟩
    · exact (Keep.of_below (alloc_below w _)).trans q2 (fun _ _ q => q)
    · rcases q3 with q | ⟨g, q, hg⟩
      · exact .inl q
      · exact .inr ⟨g, q, by simp at hg; omega⟩

def stateN (l : LiveM) : Nat := if l.com = true then 1 else if l.und = true then 2 else 0
theorem stateOf_any (x y : Int) (p q : Bool) (w : World) : Calls Tryz.prog 112 #[.agg #[.int .i64 x, .int .i64 y, .bool p, .bool q]] w fun e w' => e = .returned (.int .i64 ((stateN ⟨x, y, p, q⟩ : Nat) : Int)) ∧ Below w.heap.size w w' := by
  unfold stateN
  cases p
  · cases q
    · go_enter Tryz.func112, Tryz.ntmps112
      go_wp2_with fail
      go_ret
      exact ⟨by simp, alloc_below _ _⟩
    · go_enter Tryz.func112, Tryz.ntmps112
      go_wp2_with fail
      go_ret
      exact ⟨by simp, alloc_below _ _⟩
  · go_enter Tryz.func112, Tryz.ntmps112
    go_wp2_with fail
    go_ret
    exact ⟨by simp, alloc_below _ _⟩
end Go.Proofs.YtgpmghdoofcpaaaGreat

namespace Go.Proofs.YtgpmghdoofcpaaaGreat
open Go.RowKit Go.QK

/-- How a row of writes stands. -/
structure WSt (w : World) (B p : Nat) (v : Value) (wi : World) (vi : Value) (li : List Nat) : Prop where
  wr : Wr wi B p vi li
  keep : Keep (wS p v) w wi
  mv : moved w v vi
theorem WSt.start {w : World} {B p : Nat} {v : Value} {l : List Nat} (h : Wr w B p v l) : WSt w B p v w v l := ⟨h, Keep.refl _ _, .inl rfl⟩
theorem WSt.next {w wi w' : World} {B p : Nat} {v vi v' : Value} {li l' : List Nat} (h : WSt w B p v wi vi li) (a : Wr w' B p v' l') (b : Keep (wS p vi) wi w') (c : moved wi vi v') : WSt w B p v w' v' l' :=
  ⟨a, h.keep.trans b (wS.moved h.mv), h.mv.trans c h.keep.size⟩
theorem WSt.below {w wi w' : World} {B p : Nat} {v vi : Value} {li : List Nat} (h : WSt w B p v wi vi li) (b : Below wi.heap.size wi w') : WSt w B p v w' vi li :=
  ⟨h.wr.below b, h.keep.then_below b, h.mv⟩
/-- A block beside the writer. -/
def Bx (p : Nat) (wi : World) (vi : Value) (b : Nat) (cs : List Value) : Prop := Cells wi b cs ∧ ¬ wS p vi b
theorem Bx.next {p : Nat} {wi w' : World} {vi v' : Value} {b : Nat} {cs : List Value} (h : Bx p wi vi b cs) (k : Keep (wS p vi) wi w') (c : moved wi vi v') : Bx p w' v' b cs :=
  ⟨h.1.keep k h.2, notS c h.1.1 h.2⟩
theorem Bx.below {p : Nat} {wi w' : World} {vi : Value} {b : Nat} {cs : List Value} (h : Bx p wi vi b cs) (k : Below wi.heap.size wi w') : Bx p w' vi b cs := ⟨h.1.below k, h.2⟩
theorem Bx.new {B p : Nat} {wi : World} {vi : Value} {li : List Nat} (h : Wr wi B p vi li) (cs : Array Value) (t : TypeId) : Bx p (wi.alloc (.cells cs t)) vi wi.heap.size cs.toList :=
  ⟨Cells.new _ _ _, fun q => by have := (h.lt _ q).2; omega⟩

set_option maxRecDepth 100000
def firstNs (g : Nat) (lo hi v : Int) : List Nat := [g, sgn lo, sgn hi, sgn v]
theorem writeFirst_any (i : Int) (g : Nat) (lo hi x : Int) (B p : Nat) (v : Value) (l : List Nat) (w : World) (hg : g < 9223372036854775808) (hlo : -9223372036854775808 ≤ lo ∧ lo ≤ 9223372036854775807) (hhi : -9223372036854775808 ≤ hi ∧ hi ≤ 9223372036854775807) (hx : -9223372036854775808 ≤ x ∧ x ≤ 9223372036854775807) (h : Wr w B p v l) (hl : l.length ≤ 100000) :
    Calls Tryz.prog 90 #[.pointer (some ⟨p, 0, none⟩), .agg #[.int .i64 i, .int .i64 g, .int .i64 lo, .int .i64 hi, .int .i64 x]] w fun e w' => ∃ v', e = .returned (.tuple #[]) ∧ WSt w B p v w' v' (l ++ (firstNs g lo hi x).flatMap form) := by
  have hbx := Bx.new h #[.int .i64 i, .int .i64 g, .int .i64 lo, .int .i64 hi, .int .i64 x] 38
  have hst := (WSt.start h).below (alloc_below w (.cells #[.int .i64 i, .int .i64 g, .int .i64 lo, .int .i64 hi, .int .i64 x] 38))
  generalize hw0 : w.alloc (.cells #[.int .i64 i, .int .i64 g, .int .i64 lo, .int .i64 hi, .int .i64 x] 38) = w0 at hbx hst
  have hf := flatForm_len (firstNs g lo hi x) (by have := sgn_lt hlo.1 hlo.2; have := sgn_lt hhi.1 hhi.2; have := sgn_lt hx.1 hx.2; intro n hn; simp [firstNs] at hn; omega)
  have f0 := put_lit (m := 1) [g] B p v l w0 (by simpa using hg) hst.wr (by simp; omega) rfl
  have hlen : ∀ q ∈ [l ++ [g].flatMap form, (l ++ [g].flatMap form) ++ form (sgn lo), ((l ++ [g].flatMap form) ++ form (sgn lo)) ++ form (sgn hi)], q.length ≤ 1000000 := by
    have e0 := (form_len (show g < 18446744073709551616 by omega)).2
    have e1 := (form_len (sgn_lt hlo.1 hlo.2)).2
    have e2 := (form_len (sgn_lt hhi.1 hhi.2)).2
    intro q hq
    simp at hq
    rcases hq with rfl | rfl | rfl <;> simp <;> omega
  have HLEN := hide hlen
  obtain ⟨ns, hns⟩ : ∃ ns, ns = l ++ (firstNs g lo hi x).flatMap form := ⟨_, rfl⟩
  have HN := hide (show ((((l ++ [g].flatMap form) ++ form (sgn lo)) ++ form (sgn hi)) ++ form (sgn x)) = ns by rw [hns]; simp [firstNs])
  rw [← hns]
  have HB := hide hbx
  have HS := hide hst
  obtain ⟨k1, _⟩ := hbx.1.get 1 _ rfl
  have F0 := hide f0
  clear hbx hst hf hlen hns f0 h
  go_enter Tryz.func90, Tryz.ntmps90
  go_wp2_with fail
  clear hw0
  refine F0.out.mono ?_
  rintro e w1 ⟨v1, rfl, a1, b1, c1⟩
  have HS1 := hide (HS.out.next a1 b1 c1)
  have HB1 := hide (HB.out.next b1 c1)
  obtain ⟨k2, _⟩ := HB1.out.1.get 2 _ rfl
  clear a1 b1 c1 k1 HS HB F0
  go_wp2_with fail
  refine (writeS_any lo B p v1 _ _ hlo.1 hlo.2 HS1.out.wr (HLEN.out _ (by simp))).mono ?_
  rintro e w2 ⟨v2, rfl, a1, b1, c1⟩
  have HS2 := hide (HS1.out.next a1 b1 c1)
  have HB2 := hide (HB1.out.next b1 c1)
  obtain ⟨k3, _⟩ := HB2.out.1.get 3 _ rfl
  clear a1 b1 c1 k2 HS1 HB1
  go_wp2_with fail
  refine (writeS_any hi B p v2 _ _ hhi.1 hhi.2 HS2.out.wr (HLEN.out _ (by simp))).mono ?_
  rintro e w3 ⟨v3, rfl, a1, b1, c1⟩
  have HS3 := hide (HS2.out.next a1 b1 c1)
  have HB3 := hide (HB2.out.next b1 c1)
  obtain ⟨k4, _⟩ := HB3.out.1.get 4 _ rfl
  clear a1 b1 c1 k3 HS2 HB2
  go_wp2_with fail
  refine (writeS_any x B p v3 _ _ hx.1 hx.2 HS3.out.wr (HLEN.out _ (by simp))).mono ?_
  rintro e w4 ⟨v4, rfl, a1, b1, c1⟩
  have HS4 := hide (HS3.out.next a1 b1 c1)
  rw [HN.out] at HS4
  clear a1 b1 c1 k4 HS3 HB3
  go_wp2_with fail
  go_end0
  exact ⟨_, rfl, HS4.out⟩
end Go.Proofs.YtgpmghdoofcpaaaGreat
