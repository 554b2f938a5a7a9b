import Derived.Test.YtohkmigahbellaaNew4
namespace Go.Proofs.Ytohkmigahbellaa
open Go.RowKit Go.QK

section
variable {B : Nat} {w0 w w1 w' : World} {S S' : Nat → Prop} {d : Nat} {g g' : Dev} {lab lab' : Nat → Nat} {hb : Nat} {gv wv gv' wv' cv cv' : Value} {gs ws gs' ws' : List PE} {cs cs' : List CR} {x : Nat}
/-- Bytes of one's own that were just made, labelled. -/
theorem St.made (h : St B w0 w S d g lab hb gv wv gs ws cv cs x) {v : Value} {l : List Nat} (ho : OwnB w' w.heap.size v l) (hb' : Below w.heap.size w w') (h0 : 0 < l.length) : ∃ k c, v = .slice (some ⟨k, 0, none⟩) l.length c ∧ ∃ lab', St B w0 w' S d g lab' hb gv wv gs ws cv cs x ∧ lab' k = 10 + 3 * gs.length ∧ OwnB w' B (.slice (some ⟨k, 0, none⟩) l.length c) l := by
  obtain ⟨k, c, hv, hc, hB, hk⟩ := ho.form (by simpa using h0)
  rw [ints_length] at hv
  subst hv
  have old : ∀ b, b < w.heap.size → (fun b => if b < w.heap.size then lab b else 10 + 3 * gs.length) b = lab b := fun b hb => if_pos hb
  exact ⟨k, c, rfl, _, h.fresh hb' old, if_neg (by omega), Owns.base ho h.size⟩
/-- 'take' of it. -/
theorem St.take (h : St B w0 w S d g lab hb gv wv gs ws cv cs x) (p : PE) (hp : OwnB w B p.v p.b) (lp : lab p.k = 10 + 3 * gs.length) (hab : AllB p.b) (h0 : 0 < p.b.length) (h4 : p.b.length ≤ 4096) (hn : gs.length ≤ 100000) :
    Calls Try.prog 31 #[.pointer (some ⟨hb, 0, none⟩), .slice (some ⟨p.k, 0, none⟩) p.b.length p.c] w fun e w' => ∃ v lab' gv' wv' q, e = .returned v ∧ St B w0 w' S d g lab' hb gv' wv' (gs ++ [p]) (ws ++ [q]) cv cs x ∧ (∀ b, b < w.heap.size → lab' b = lab b) ∧ Keep (fun b => lab b = 1 ∨ lab b = 2 ∨ lab b = 3) w w' := by
  refine (take_any h.held p hp lp hab h0 h4 hn h.size).mono ?_
  rintro e w' ⟨v, lab', gv', wv', q, rfl, hh, hl, hk⟩
  exact ⟨v, lab', gv', wv', q, rfl, h.took hh hl hk, hl, hk⟩
theorem idx_of {qs : List PE} (hu : qs.Pairwise (fun a b => a.k < b.k)) (i : Nat) (hi : i < qs.length) : (qs.map PE.k).idxOf qs[i].k = i := by
  have hnd : (qs.map PE.k).Nodup := by
    rw [List.Nodup, List.pairwise_map]
    exact hu.imp (fun h => by omega)
  have := hnd.idxOf_getElem i (by simpa using hi)
  simpa using this
/-- A row of pending writes was handed out, and kept. -/
theorem St.cached (h : St B w0 w S d g lab hb gv wv gs ws cv cs x) {qs : List PE} (hq : qs.map PE.out = g.pend) (hr : PRow w1 w.heap.size (.slice (some ⟨w.heap.size, 0, none⟩) qs.length qs.length) qs) (hf : Fresh w1 w.heap.size qs) (hb1 : Below w.heap.size w w1) (hn : cs.length ≤ 1000) (hqn : qs.length ≤ 1000) :
    ∃ ca cc w2, (Builtin.append_ #[62, 62] 62 #[cv, .slice (some ⟨w1.heap.size, 0, none⟩) 1 1]).run Try.prog (w1.alloc (.cells #[.slice (some ⟨w.heap.size, 0, none⟩) qs.length qs.length] 45)) = .ok (.slice ca (cs.length + 1) cc) w2 ∧
      ∃ lab2, St B w0 w2 S d g lab2 hb gv wv gs ws (.slice ca (cs.length + 1) cc) (cs ++ [⟨w.heap.size, qs.length⟩]) x ∧ (∀ i (_ : i < qs.length), OwnB w2 B qs[i].v qs[i].b ∧ lab2 qs[i].k = 10 + 3 * (gs.length + i) ∧ w2.cell? ⟨w.heap.size, i * 2 + 1, none⟩ = some qs[i].v ∧ AllB qs[i].b ∧ qs[i].b.length = 512) ∧ lab2 w.heap.size = 12 + 3 * cs.length ∧ w.heap.size < w2.heap.size := by
  have hz1 : w.heap.size < w1.heap.size := (hr.lt _ rfl).2
  let lab1 : Nat → Nat := fun b => if b < w.heap.size then lab b else if b = w.heap.size then 12 + 3 * cs.length else 10 + 3 * (gs.length + (qs.map PE.k).idxOf b)
  have old1 : ∀ b, b < w.heap.size → lab1 b = lab b := fun b hb => if_pos hb
  have l1r : lab1 w.heap.size = 12 + 3 * cs.length := by
    show (if _ then _ else if _ then _ else _) = _
    rw [if_neg (by omega), if_pos rfl]
  have l1q : ∀ i (hi : i < qs.length), lab1 qs[i].k = 10 + 3 * (gs.length + i) := fun i hi => by
    have := hf.far qs[i] (List.getElem_mem hi)
    show (if _ then _ else if _ then _ else _) = _
    rw [if_neg (by omega), if_neg (by omega), idx_of hf.up i hi]
  have h1 := h.fresh (lab' := lab1) hb1 old1
  have bA := alloc_below w1 (.cells #[.slice (some ⟨w.heap.size, 0, none⟩) qs.length qs.length] 45)
  have zA : (w1.alloc (.cells #[.slice (some ⟨w.heap.size, 0, none⟩) qs.length qs.length] 45)).cell? ⟨w1.heap.size, 0, none⟩ = some (.slice (some ⟨w.heap.size, 0, none⟩) qs.length qs.length) := by rw [World.cell?_alloc_new]; rfl
  obtain ⟨cv', w2, hr2, r2, g2, m2⟩ := run_pushS und62 info45 62 (w1.alloc (.cells #[.slice (some ⟨w.heap.size, 0, none⟩) qs.length qs.length] 45)) B cv (cs.map CR.v) ⟨w1.heap.size, 0, none⟩ _ (h1.cach.row.below bA) zA rfl (by simp; omega) (by rw [World.size_alloc]; have := h1.size; omega)
  obtain ⟨ca, cc, hcv', _⟩ := r2.form
  rw [List.length_append, List.length_map, List.length_singleton] at hcv'
  subst hcv'
  have k12 : Keep (fun b => cv.ownBlock = some b) w1 w2 := ((Keep.refl (fun b => cv.ownBlock = some b) w1).alloc _).grown g2 (fun _ q _ => q)
  have z2 := g2.size
  rw [World.size_alloc] at z2
  have m2' : ∀ b, (Value.slice ca (cs.length + 1) cc).ownBlock = some b → cv.ownBlock = some b ∨ w1.heap.size < b := fun b q => by
    rcases m2 with e | e
    · exact .inl (e ▸ q)
    · rw [e, World.size_alloc] at q
      cases q
      exact .inr (by omega)
  have cvl : ∀ b, cv.ownBlock = some b → lab1 b = 4 := h1.cach.lc
  let lab2 : Nat → Nat := fun b => if b < w1.heap.size then lab1 b else if (Value.slice ca (cs.length + 1) cc).ownBlock = some b then 4 else 8
  have old2 : ∀ b, b < w1.heap.size → lab2 b = lab1 b := fun b hb => if_pos hb
  have hC : Caches w2 lab2 B (.slice ca (cs.length + 1) cc) (cs ++ [⟨w.heap.size, qs.length⟩]) := by
    refine ⟨?_, fun b hb => ?_, fun i hi => ?_⟩
    · rw [List.map_append]
      exact r2
    · rcases m2' b hb with r | r
      · exact (old2 b (h1.cach.row.lt b r).2).trans (cvl b r)
      · show (if _ then _ else if _ then _ else _) = _
        rw [if_neg (by omega), if_pos hb]
    · rcases Nat.lt_or_ge i cs.length with q | q
      · rw [List.getElem_append_left q]
        obtain ⟨⟨L, hL⟩, t2, t3⟩ := h1.cach.ci i q
        exact ⟨⟨L, row_keep hL k12 (fun b hb r => by
          have e : cs[i].r = b := Option.some.inj hb
          have := cvl b r
          rw [e] at t2
          omega)⟩, (old2 _ (h1.cach.lt i q)).trans t2, t3⟩
      · obtain rfl : i = cs.length := by simp at hi; omega
        rw [List.getElem_append_right (Nat.le_refl _)]
        simp only [Nat.sub_self, List.getElem_cons_zero]
        refine ⟨⟨rowOf qs, ?_⟩, (old2 _ hz1).trans l1r, hqn⟩
        have hr' := hr
        have := row_keep hr' k12 (fun b hb r => by
          have e : w.heap.size = b := Option.some.inj hb
          have := cvl b r
          rw [← e] at this
          omega)
        refine ⟨this.1, ?_⟩
        rcases this.2 with q | ⟨g0, cap, cur, q, hbg, hg, rest⟩
        · exact .inl q
        · exact .inr ⟨g0, cap, cur, q, Nat.le_trans h.size hbg, hg, rest⟩
  refine ⟨ca, cc, w2, hr2, lab2, h1.rows hC old2 (k12.mono (fun b _ q => cvl b q)), fun i hi => ?_, (old2 _ hz1).trans l1r, by omega⟩
  obtain ⟨o1, o2⟩ := hf.own qs[i] (List.getElem_mem hi)
  have hfit := h.live.dev.ok.pend qs[i].out (by rw [← hq]; exact List.mem_map.2 ⟨_, List.getElem_mem hi, rfl⟩)
  refine ⟨Owns.base (Owns.keep o1 k12 (fun b hb r => ?_)) h.size, (old2 _ o2).trans (l1q i hi), ?_, hfit.2.2, hfit.2.1⟩
  · have e : qs[i].k = b := Option.some.inj hb
    have := cvl b r
    have := l1q i hi
    rw [e] at this
    omega
  · obtain ⟨b, hb1', hb2, hb3, hb4⟩ := hr.form' i hi
    cases hb1'
    exact (k12.cell (p := ⟨w.heap.size, i * 2 + 1, none⟩) hb2 (fun q => by
      have := cvl w.heap.size q
      omega)).trans hb4
end
end Go.Proofs.Ytohkmigahbellaa
