import Derived.Test.YtpddmimacjknfaaDev5
namespace Go.Proofs.Ytpddmimacjknfaa
open Go.RowKit Go.QK

theorem pend_fits {g : Dev} {ps : List PE} (hp : g.pend = ps.map PE.out) (ok : g.Ok) : ∀ p ∈ ps, Fits g.img.length p.out := fun p hm => ok.pend _ (by rw [hp]; exact List.mem_map.2 ⟨p, hm, rfl⟩)
theorem _root_.Go.QK.PRow.form' {w : World} {B : Nat} {a : Option Addr} {n c : Nat} {ps : List PE} (h : PRow w B (.slice a n c) ps) (k : Nat) (hk : k < ps.length) : ∃ b, a = some ⟨b, 0, none⟩ ∧ b < w.heap.size ∧ w.cell? ⟨b, k * 2, none⟩ = some (.int .i64 (ps[k].s : Int)) ∧ w.cell? ⟨b, k * 2 + 1, none⟩ = some ps[k].v := by
  obtain ⟨a', c', e, _, _, _, f⟩ := h.form
  cases e
  exact f k hk
theorem img_le' {g : Dev} (ok : g.Ok) : g.img.length ≤ 4194304 := by
  obtain ⟨n, n1, n2, hn⟩ := ok.size
  omega

set_option maxRecDepth 100000 in
theorem up_any {w : World} {S : Nat → Prop} {d : Nat} {g : Dev} (h : PDev w S d g) :
    Calls Try.prog 15 #[.pointer (some ⟨d, 0, none⟩)] w fun e w' => e = .returned (.int .i64 0) ∧ PDev w' S d g.up ∧ Keep S w w' := by
  obtain ⟨ib, ic, pv, ps, kv, tn, off, hc, hb, hp, ok⟩ := h
  obtain ⟨c3, f3⟩ := hc.get 3 _ rfl
  have hdl := hc.1
  have HC := hide hc
  have HB := hide hb
  clear hc hb
  go_enter Try.func15, Try.ntmps15
  go_wp2_with fail
  refine (disarm_at (HC.out.stored (j := 3) (by simp [pcs]) _)).mono ?_
  rintro e w1 ⟨⟨v, rfl⟩, c1, k1⟩
  have C1 := hide c1
  have K1 := hide k1
  clear c1 k1
  go_wp2_with fail
  go_ret
  have KD : Keep (fun j => j = d) w w1 := ((Keep.refl (fun j => j = d) w).setCell (fun _ => rfl) _).trans K1.out (fun _ _ q => q)
  refine ⟨rfl, ⟨ib, ic, pv, ps, .slice none 0 0, 0, 0, C1.out, (HB.out.keep KD (fun _ q _ => q)).forget _ _ _, hp, ok.up⟩, KD.mono (fun j _ q => by subst q; exact HB.out.dS)⟩

/-- A loss that is handed in. -/
structure LossAt (w : World) (l : Loss) (a : Option Addr) (c : Nat) : Prop where
  seen : Seen .u64 w a (ints l.keep)
  nil : a = none → c = 0
  cap : l.keep.length ≤ c
  ok : l.Ok

set_option maxHeartbeats 400000 in
set_option maxRecDepth 100000 in
theorem crash_any {w : World} {S : Nat → Prop} {d : Nat} {g : Dev} (h : PDev w S d g) (l : Loss) (a : Option Addr) (c : Nat) (hl : LossAt w l a c) (ha : l.keep ≠ [] → ∀ ad, a = some ad → ¬ S ad.block) (hpl : g.pend.length ≤ 1000000) :
    Calls Try.prog 49 #[.pointer (some ⟨d, 0, none⟩), .agg #[.slice a l.keep.length c, .int .i64 l.torn, .int .i64 l.off]] w fun e w' => e = .returned (.int .i64 ((g.crashE : Nat) : Int)) ∧ PDev w' S d (g.crash l) ∧ Keep S w w' := by
  obtain ⟨ib, ic, pv, ps, kv, tn, off, hc, hb, hp, ok⟩ := h
  obtain ⟨c3, f3⟩ := hc.get 3 _ rfl
  have hdl := hc.1
  have B0 := alloc_below w (.cells #[.slice a l.keep.length c, .int .i64 l.torn, .int .i64 l.off] 44)
  unfold Dev.crashE Dev.crash
  by_cases hd : g.down = true
  · rw [hd] at c3
    rw [if_pos hd, if_pos hd]
    have HC := hide hc
    have HB := hide hb
    clear hc hb
    go_enter Try.func49, Try.ntmps49
    go_wp2_with fail
    go_ret
    exact ⟨rfl, ⟨ib, ic, pv, ps, kv, tn, off, HC.out.below B0, HB.out.below B0, hp, ok⟩, Keep.of_below B0⟩
  · rw [if_neg hd, if_neg hd]
    simp only [Bool.not_eq_true] at hd
    have G := hide (giveUp_at (hc.below B0) (hb.below B0) (pend_fits hp ok) ok.bytes (img_le' ok) (by rw [hp] at hpl; simpa using hpl) l a c (hl.seen.below B0) (fun hx ad had => ⟨fun q => ha hx ad had (by rw [q]; exact hb.dS), fun q => ha hx ad had (by rw [q]; exact hb.iS.1)⟩) hl.ok)
    rw [hd] at c3
    have HB := hide hb
    clear hc hb
    go_enter Try.func49, Try.ntmps49
    go_wp2_with fail
    refine G.out.mono ?_
    rintro e w1 ⟨⟨v, rfl⟩, c1, b1, k1⟩
    have C1 := hide c1
    have K1 := hide k1
    have B1 := hide b1
    clear c1 k1 b1 G
    go_wp2_with fail
    go_ret
    refine ⟨rfl, ⟨ib, ic, .slice none 0 0, [], .slice none 0 0, 0, 0, ?_, ?_, rfl, ok.fall l⟩, ?_⟩
    · have e : (g.fall l).img.length = g.img.length := (fallFrom_ok l g.pend 0 g.img ok.pend rfl ok.bytes).1
      rw [e]
      exact C1.out
    · show Body w1 S d (fallFrom l 0 g.pend g.img) _ _ _ _ _ _ _ _
      rw [hp]
      exact B1.out
    · exact (Keep.of_below B0).trans K1.out (fun j _ q => by rcases q with rfl | rfl; exact HB.out.dS; exact HB.out.iS.1)
end Go.Proofs.Ytpddmimacjknfaa
