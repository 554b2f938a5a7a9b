import Derived.Test.YtcnlcmdppkdmmaaEc41
namespace Go.Proofs.Ytcnlcmdppkdmmaa
open Go.RowKit Go.QK Quota Go.Maps
set_option maxRecDepth 100000

theorem Owns.seenAs {w : World} {B : Nat} {v : Value} {xs : List Int} {a : Option Addr} {c : Nat} (h : Owns .i64 3 w B v xs) (e : v = .slice a xs.length c) : Go.QK.Seen .i64 w a xs := by
  obtain ⟨a', c', e', hs, _⟩ := Owns.seen h
  rw [e] at e'
  cases e'
  exact hs
/-- Number j of both lists of lists, side by side. -/
theorem OwnSt.pair {lab : Nat → Nat} {w0 wr : World} {b m gB gO gc sB sO sc : Nat} {e : Esc} {L M : Ents} (h : OwnSt lab w0 wr b m e (.slice (some ⟨gB, gO, none⟩) L.length gc) (.slice (some ⟨sB, sO, none⟩) M.length sc) L M) (hMs : M.map Prod.snd = L.map Prod.snd) (hb : ∀ p ∈ L, p.2.length ≤ 1000) {j : Nat} (hj : j < L.length) :
    ∃ (xs : List Int) (a1 : Option Addr) (c1 : Nat) (a2 : Option Addr) (c2 : Nat), ∀ wq, OwnSt lab w0 wq b m e (.slice (some ⟨gB, gO, none⟩) L.length gc) (.slice (some ⟨sB, sO, none⟩) M.length sc) L M → (wq.cell? ⟨gB, gO + j, none⟩ = some (.slice a1 xs.length c1) ∧ wq.cell? ⟨sB, sO + j, none⟩ = some (.slice a2 xs.length c2)) ∧ Calls Try.prog 16 #[.slice a1 xs.length c1, .slice a2 xs.length c2] wq fun r w' => r = .returned (.bool true) ∧ Below wq.heap.size wq w' := by
  have hjm : j < M.length := by have := congrArg List.length hMs; simp at this; omega
  have hsnd : (M[j]).2 = (L[j]).2 := by
    have := congrArg (fun l => l[j]?) hMs
    simpa [hj, hjm] using this
  obtain ⟨a1, c1, e1, _⟩ := Owns.seen (h.g.inn j hj)
  obtain ⟨a2, c2, e2, _⟩ := Owns.seen (h.s.inn j hjm)
  refine ⟨(L[j]).2, a1, c1, a2, c2, fun wq hq => ⟨⟨?_, ?_⟩, ?_⟩⟩
  · exact GRow.cellOf hq.g.row j _ (by rw [List.getElem?_map, List.getElem?_eq_getElem hj, ← e1]; rfl)
  · exact GRow.cellOf hq.s.row j _ (by rw [List.getElem?_map, List.getElem?_eq_getElem hjm, ← hsnd, ← e2]; rfl)
  · refine same_any (L[j]).2 a1 a2 c1 c2 wq (Owns.seenAs (hq.g.inn j hj) e1) ?_ (by have := hb (L[j]) (List.getElem_mem hj); omega)
    have := Owns.seenAs (hq.s.inn j hjm) e2
    rw [hsnd] at this
    exact this

/-- The lists are written over, one number behind the other. -/
structure MkSt (lab : Nat → Nat) (w0 wr : World) (b m bc mc : Nat) (e : Esc) (gv sv : Value) (L M : Ents) (N i : Nat) : Prop where
  st : OwnSt lab w0 wr b m e gv sv L M
  cop : Cop lab w0 wr bc mc e
  len : L.length = N
  lens : ∀ p ∈ L, p.2.length ≤ 1000
  done : ∀ j (hj : j < L.length), j < i → ∀ x ∈ (L[j]).2, x = -1 - (j : Int)
structure MkIn (lab : Nat → Nat) (w0 wr : World) (b m bc mc : Nat) (e : Esc) (gv sv : Value) (L M : Ents) (N i t ni : Nat) (vi : Value) : Prop where
  m0 : MkSt lab w0 wr b m bc mc e gv sv L M N i
  hi : i < L.length
  val : (L[i]).1 = vi
  num : (L[i]).2.length = ni
  cur : ∀ s, s < t → (L[i]).2[s]? = some (-1 - (i : Int))
theorem MkIn.put {lab : Nat → Nat} {w0 wr : World} {b m bc mc : Nat} {e : Esc} {gv sv : Value} {L M : Ents} {N i t ni : Nat} {g c : Nat} (h : MkIn lab w0 wr b m bc mc e gv sv L M N i t ni (.slice (some ⟨g, 0, none⟩) ni c)) (ht : t < ni) : ∃ L', MkIn lab w0 (wr.setCell ⟨g, t, none⟩ (.int .i64 (-1 - (i : Int)))) b m bc mc e gv sv L' M N i (t + 1) ni (.slice (some ⟨g, 0, none⟩) ni c) := by
  have hi := h.hi
  obtain ⟨S, lg⟩ := h.m0.st.g.put (by omega) hi h.val t (-1 - (i : Int))
  have kp : Keep (fun x => x = g) wr (wr.setCell ⟨g, t, none⟩ (.int .i64 (-1 - (i : Int)))) := (Keep.refl (fun x => x = g) wr).setCell (g := g) (j := t) (fun _ => rfl) _
  have ob : (L[i]).1.ownBlock = some g := by rw [h.val]; rfl
  have lt := World.ownsRow.lt (h.m0.st.g.inn i hi) g ob
  have A := h.m0.st
  refine ⟨L.set i ((L[i]).1, (L[i]).2.set t (-1 - (i : Int))), ⟨⟨⟨A.pe.keep kp (fun q => by have := A.lb; rw [q] at this; omega) (fun q => by have := A.lm; rw [q] at this; omega), A.lb, A.lm, A.bb, A.bm, S, A.s.keep kp (fun x q => by rw [q]; exact ⟨by omega, fun i _ => by omega⟩), A.bel.trans (kp.below A.bel.size (fun x hx q => by rw [q] at hx; omega))⟩, h.m0.cop.away kp (fun x q => by rw [q]; omega), by rw [List.length_set]; exact h.m0.len, ?_, ?_⟩, by rw [List.length_set]; exact hi, ?_, ?_, ?_⟩⟩
  · intro p hp
    rcases List.mem_or_eq_of_mem_set hp with q | q
    · exact h.m0.lens p q
    · rw [q]
      simpa using h.m0.lens _ (List.getElem_mem hi)
  · intro j hj hji x hx
    rw [List.length_set] at hj
    rw [List.getElem_set_ne (by omega)] at hx
    exact h.m0.done j hj hji x hx
  · rw [List.getElem_set_self]
    exact h.val
  · rw [List.getElem_set_self]
    simpa using h.num
  · intro s hs
    rw [List.getElem_set_self]
    show ((L[i]).2.set t (-1 - (i : Int)))[s]? = _
    by_cases q : s = t
    · subst q
      rw [List.getElem?_set_self (by rw [h.num]; exact ht)]
    · rw [List.getElem?_set_ne (by omega)]
      exact h.cur s (by omega)
theorem MkIn.next {lab : Nat → Nat} {w0 wr : World} {b m bc mc : Nat} {e : Esc} {gv sv : Value} {L M : Ents} {N i ni : Nat} {vi : Value} (h : MkIn lab w0 wr b m bc mc e gv sv L M N i ni ni vi) : MkSt lab w0 wr b m bc mc e gv sv L M N (i + 1) := by
  refine ⟨h.m0.st, h.m0.cop, h.m0.len, h.m0.lens, fun j hj hji x hx => ?_⟩
  by_cases q : j < i
  · exact h.m0.done j hj q x hx
  · have ej : j = i := by omega
    subst ej
    obtain ⟨s, hs, rfl⟩ := List.getElem_of_mem hx
    have := h.cur s (by rw [← h.num]; exact hs)
    rw [List.getElem?_eq_getElem hs] at this
    simpa using this
/-- What number n of the first and of the third list of lists tell in the end. -/
theorem DSt.both {lab : Nat → Nat} {w0 wr : World} {b m bc mc gB gO gc mB mO mcp : Nat} {e : Esc} {sv : Value} {L M : Ents} {ms : List Value} (h : DSt lab w0 wr b m bc mc e (.slice (some ⟨gB, gO, none⟩) L.length gc) sv (.slice (some ⟨mB, mO, none⟩) ms.length mcp) L M ms) (hz : ∀ j (hj : j < L.length), ∀ x ∈ (L[j]).2, x = -1 - (j : Int)) (hb : ∀ p ∈ L, p.2.length ≤ 1000) {n : Nat} (hn : n < ms.length) :
    ∃ (ni : Nat) (a1 : Option Addr) (c1 b2 o2 c2 : Nat), ni ≤ 1000 ∧ wr.cell? ⟨gB, gO + n, none⟩ = some (.slice a1 ni c1) ∧ wr.cell? ⟨mB, mO + n, none⟩ = some (.slice (some ⟨b2, o2, none⟩) (ni + 2) c2) ∧ (∀ t, t < ni + 2 → wr.cell? ⟨b2, o2 + t, none⟩ = some (.int .i64 (-1 - (n : Int)))) ∧ (0 < ni → ∃ b1 o1, a1 = some ⟨b1, o1, none⟩ ∧ ∀ t, t < ni → wr.cell? ⟨b1, o1 + t, none⟩ = some (.int .i64 (-1 - (n : Int)))) := by
  have hl : n < L.length := Nat.lt_of_lt_of_le hn h.mle
  obtain ⟨a1, c1, e1, s1, _⟩ := h.red n hl
  obtain ⟨a2, c2, e2, s2, _⟩ := h.mor.inn n hn
  have hg : (L.map (fun p => p.2.length)).getD n 0 = (L[n]).2.length := by simp [List.getD_eq_getElem?_getD, hl]
  rw [hg] at e2 s2
  rcases s2 with q | ⟨b2, o2, rfl, _, hc⟩
  · have := congrArg List.length q
    simp at this
  · refine ⟨(L[n]).2.length, a1, c1, b2, o2, c2, ?_, GRow.cellOf h.grow n _ (by rw [List.getElem?_map, List.getElem?_eq_getElem hl, ← e1]; rfl), GRow.cellOf h.mor.row n _ (by rw [List.getElem?_eq_getElem hn, ← e2]), fun t ht => ?_, fun hp => ?_⟩
    · exact hb _ (List.getElem_mem hl)
    · have := hc t (by simpa using ht)
      rw [List.getElem_replicate] at this
      exact this
    · rcases s1 with q | ⟨b1, o1, rfl, _, hd⟩
      · rw [q] at hp; cases hp
      · refine ⟨b1, o1, rfl, fun t ht => ?_⟩
        rw [hd t ht, hz n hl _ (List.getElem_mem ht)]
end Go.Proofs.Ytcnlcmdppkdmmaa
