import Derived.Test.YtadppakflbilcaaMapE
namespace Go.QR
open Go.QM

/-! A room in plain lists: who lives, in the order of beginning, and what each holds, in the order of holding. -/
structure Tx where
  n : Int
  st : Int
  hs : List Int
def Tx.owes (t : Tx) : Int := if t.st = 1 then 1 else if t.st = 2 then 1 + (t.hs.length : Int) else 2 + (t.hs.length : Int)
def prom : List Tx → Int
  | [] => 0
  | t :: r => t.owes + prom r
def get (L : List Tx) (tx : Int) : Option Tx := L.find? (fun t => t.n == tx)
def idx (L : List Tx) (tx : Int) : Option Nat := L.findIdx? (fun t => t.n == tx)
def upd (L : List Tx) (tx : Int) (f : Tx → Tx) : List Tx := L.map (fun t => if t.n = tx then f t else t)
def del (L : List Tx) (tx : Int) : List Tx := L.filter (fun t => !(t.n == tx))
def Tx.more (t : Tx) (c : Int) : Tx := ⟨t.n, t.st, t.hs ++ [c]⟩
def Tx.less (t : Tx) (c : Int) : Tx := ⟨t.n, t.st, t.hs.filter (fun x => !(x == c))⟩
def Tx.turn (t : Tx) (s : Int) : Tx := ⟨t.n, s, t.hs⟩
def beginE (L : List Tx) (tx : Int) : Int := if tx < 1 ∨ 2147483647 < tx then 4 else if (get L tx).isSome then 121 else if 32 ≤ L.length then 131 else 0
def beginL (L : List Tx) (tx : Int) : List Tx := if beginE L tx = 0 then L ++ [⟨tx, 0, []⟩] else L
def Tx.holdE (t : Tx) (c : Int) : Int := if c < 1 ∨ 1048576 < c then 4 else if t.st ≠ 0 then 70 else if c ∈ t.hs then 0 else if 64 ≤ t.hs.length then 131 else 0
def holdE (L : List Tx) (tx c : Int) : Int := match get L tx with | none => 130 | some t => t.holdE c
def Tx.holdT (t : Tx) (c : Int) : Tx := if c ∈ t.hs then t else t.more c
def holdL (L : List Tx) (tx c : Int) : List Tx := if holdE L tx c = 0 then upd L tx (fun t => t.holdT c) else L
def Tx.wroteE (t : Tx) (k c : Int) : Int :=
  if k = 5 ∨ k = 6 then (if t.st = 0 then 0 else 70)
  else if k = 4 then (if t.st ≠ 2 then 70 else if c ∈ t.hs then 0 else 120)
  else if k = 7 then (if t.st = 0 ∨ (t.st = 2 ∧ t.hs ≠ []) then 70 else 0)
  else 70
def wroteE (L : List Tx) (tx k c : Int) : Int := match get L tx with | none => 130 | some t => t.wroteE k c
def wroteL (L : List Tx) (tx k c : Int) : List Tx :=
  if wroteE L tx k c = 0 then
    (if k = 5 then upd L tx (fun t => t.turn 1) else if k = 6 then upd L tx (fun t => t.turn 2) else if k = 4 then upd L tx (fun t => t.less c) else del L tx)
  else L
def mayE (L : List Tx) (free parts more : Int) : Int := if free < 0 ∨ parts < 0 ∨ more < 0 then 4 else if free < parts ∨ free - parts < more ∨ free - parts - more < prom L then 6 else 0
def of (L : List Tx) (tx : Int) : Int := match get L tx with | none => 0 | some t => t.owes

structure Tx.Ok (t : Tx) : Prop where
  n1 : 1 ≤ t.n
  n2 : t.n ≤ 2147483647
  st : t.st = 0 ∨ t.st = 1 ∨ t.st = 2
  nd : t.hs.Nodup
  few : t.hs.length ≤ 64
  each : ∀ c ∈ t.hs, 1 ≤ c ∧ c ≤ 1048576
structure Ok (L : List Tx) : Prop where
  nd : L.Pairwise (fun a b => a.n ≠ b.n)
  few : L.length ≤ 32
  each : ∀ t ∈ L, t.Ok

/-! One element apart from the others. -/
theorem filter_idx {α : Type} (p : α → Bool) : ∀ (l : List α) (i : Nat), l.findIdx? p = some i → l.Pairwise (fun a b => p a = true → p b = false) → l.filter (fun x => !p x) = l.take i ++ l.drop (i + 1)
  | [], _, h, _ => by simp at h
  | x :: l, i, h, hp => by
    rw [List.findIdx?_cons] at h
    obtain ⟨h1, h2⟩ := List.pairwise_cons.1 hp
    cases hx : p x with
    | true =>
      rw [hx] at h
      simp at h
      subst h
      rw [List.filter_cons_of_neg (by simp [hx])]
      simp only [List.take_zero, List.nil_append, Nat.zero_add, List.drop_succ_cons, List.drop_zero]
      rw [List.filter_eq_self]
      intro a ha
      simp [h1 a ha hx]
    | false =>
      rw [hx] at h
      simp at h
      obtain ⟨j, hj, rfl⟩ := h
      rw [List.filter_cons_of_pos (by simp [hx]), filter_idx p l j hj h2]
      simp
theorem map_idx {α : Type} (p : α → Bool) (f : α → α) : ∀ (l : List α) (i : Nat) (a : α), l.findIdx? p = some i → l[i]? = some a → l.Pairwise (fun a b => p a = true → p b = false) → l.map (fun x => if p x = true then f x else x) = l.set i (f a)
  | [], _, _, h, _, _ => by simp at h
  | x :: l, i, a, h, ha, hp => by
    rw [List.findIdx?_cons] at h
    obtain ⟨h1, h2⟩ := List.pairwise_cons.1 hp
    cases hx : p x with
    | true =>
      rw [hx] at h
      simp at h
      subst h
      simp at ha
      subst ha
      simp only [List.map_cons, hx, if_true, List.set_cons_zero, List.cons.injEq, true_and]
      conv => rhs; rw [← List.map_id l]
      apply List.map_congr_left
      intro b hb
      simp [h1 b hb hx]
    | false =>
      rw [hx] at h
      simp at h
      obtain ⟨j, hj, rfl⟩ := h
      simp at ha
      simp only [List.map_cons, hx, List.set_cons_succ]
      rw [map_idx p f l j a hj ha h2]
      simp
theorem find_idx {α : Type} (p : α → Bool) : ∀ (l : List α), l.find? p = (l.findIdx? p).bind (fun i => l[i]?)
  | [] => rfl
  | x :: l => by
    rw [List.find?_cons, List.findIdx?_cons]
    cases hx : p x with
    | true => simp
    | false =>
      simp only [Bool.false_eq_true, if_false]
      rw [find_idx p l]
      cases l.findIdx? p <;> simp
theorem pairP {L : List Tx} (h : L.Pairwise (fun a b => a.n ≠ b.n)) (tx : Int) : L.Pairwise (fun a b => (a.n == tx) = true → (b.n == tx) = false) := by
  refine h.imp ?_
  intro a b hab h1
  simp at h1 ⊢
  intro q
  exact hab (h1.trans q.symm)
theorem pairH {l : List Int} (h : l.Nodup) (c : Int) : l.Pairwise (fun a b => (a == c) = true → (b == c) = false) := by
  refine h.imp ?_
  intro a b hab h1
  simp at h1 ⊢
  intro q
  exact hab (h1.trans q.symm)
theorem del_idx {L : List Tx} (h : L.Pairwise (fun a b => a.n ≠ b.n)) {tx : Int} {i : Nat} (hi : idx L tx = some i) : del L tx = L.take i ++ L.drop (i + 1) := filter_idx _ L i hi (pairP h tx)
theorem upd_idx {L : List Tx} (h : L.Pairwise (fun a b => a.n ≠ b.n)) {tx : Int} {i : Nat} {t : Tx} (f : Tx → Tx) (hi : idx L tx = some i) (ht : L[i]? = some t) : upd L tx f = L.set i (f t) := by
  have := map_idx (fun t : Tx => t.n == tx) f L i t hi ht (pairP h tx)
  rw [← this]
  unfold upd
  apply List.map_congr_left
  intro a _
  by_cases q : a.n = tx <;> simp [q]
theorem less_idx {t : Tx} {c : Int} {i : Nat} (h : t.hs.Nodup) (hi : t.hs.findIdx? (fun x => x == c) = some i) : t.less c = ⟨t.n, t.st, t.hs.take i ++ t.hs.drop (i + 1)⟩ := by
  unfold Tx.less
  rw [filter_idx _ t.hs i hi (pairH h c)]
theorem get_idx (L : List Tx) (tx : Int) : get L tx = (idx L tx).bind (fun i => L[i]?) := find_idx _ L
theorem idx_lt {L : List Tx} {tx : Int} {i : Nat} (h : idx L tx = some i) : i < L.length := by
  have := List.findIdx?_eq_some_iff_getElem.1 h
  exact this.1
theorem idx_get {L : List Tx} {tx : Int} {i : Nat} (h : idx L tx = some i) : ∃ t, L[i]? = some t ∧ get L tx = some t ∧ t.n = tx := by
  obtain ⟨h1, h2, _⟩ := List.findIdx?_eq_some_iff_getElem.1 h
  refine ⟨L[i], List.getElem?_eq_getElem h1, ?_, by simpa using h2⟩
  rw [get_idx, h]
  exact List.getElem?_eq_getElem h1
theorem idx_none {L : List Tx} {tx : Int} : idx L tx = none ↔ get L tx = none := by
  unfold idx get
  rw [List.findIdx?_eq_none_iff, List.find?_eq_none]
  constructor <;> (intro h x hx; have := h x hx; simpa using this)
theorem get_mem {L : List Tx} {tx : Int} {t : Tx} (h : get L tx = some t) : t ∈ L ∧ t.n = tx := ⟨List.mem_of_find?_eq_some h, by simpa using List.find?_some h⟩
theorem get_of_mem {L : List Tx} (hp : L.Pairwise (fun a b => a.n ≠ b.n)) {t : Tx} (h : t ∈ L) : get L t.n = some t := by
  induction L with
  | nil => cases h
  | cons a r ih =>
    obtain ⟨h1, h2⟩ := List.pairwise_cons.1 hp
    unfold get at ih ⊢
    rw [List.find?_cons]
    rcases List.mem_cons.1 h with rfl | h
    · simp
    · have e : (a.n == t.n) = false := by simpa using h1 t h
      rw [e]
      exact ih h2 h
theorem get_none {L : List Tx} {tx : Int} (h : get L tx = none) : ∀ t ∈ L, t.n ≠ tx := fun t ht => by simpa using List.find?_eq_none.1 h t ht
theorem has_idx (l : List Int) (c : Int) : (l.findIdx? (fun x => x == c)).isSome = decide (c ∈ l) := by
  cases h : l.findIdx? (fun x => x == c) with
  | none =>
    have := List.findIdx?_eq_none_iff.1 h
    simp
    intro q
    have := this c q
    simp at this
  | some i =>
    obtain ⟨h1, h2, _⟩ := List.findIdx?_eq_some_iff_getElem.1 h
    simp at h2 ⊢
    rw [← h2]
    exact List.getElem_mem h1

theorem perm_del {L : List Tx} (hp : L.Pairwise (fun a b => a.n ≠ b.n)) {t : Tx} (h : t ∈ L) : L.Perm (t :: del L t.n) := by
  induction L with
  | nil => cases h
  | cons a r ih =>
    obtain ⟨h1, h2⟩ := List.pairwise_cons.1 hp
    rcases List.mem_cons.1 h with rfl | h
    · have : del (t :: r) t.n = r := by
        unfold del
        rw [List.filter_cons_of_neg (by simp), List.filter_eq_self]
        intro b hb
        have := h1 b hb
        simp
        exact fun q => this q.symm
      rw [this]
    · have ne := h1 t h
      have : del (a :: r) t.n = a :: del r t.n := by
        unfold del
        rw [List.filter_cons_of_pos (by simp [ne])]
      rw [this]
      exact ((ih h2 h).cons a).trans (List.Perm.swap _ _ _)
theorem del_upd (L : List Tx) (tx : Int) (f : Tx → Tx) (hf : ∀ t, (f t).n = t.n) : del (upd L tx f) tx = del L tx := by
  unfold del upd
  induction L with
  | nil => rfl
  | cons a r ih =>
    by_cases q : a.n = tx
    · simp [q, hf, ih]
    · simp [q, ih]
theorem upd_pair {L : List Tx} (hp : L.Pairwise (fun a b => a.n ≠ b.n)) (tx : Int) (f : Tx → Tx) (hf : ∀ t, (f t).n = t.n) : (upd L tx f).Pairwise (fun a b => a.n ≠ b.n) := by
  unfold upd
  rw [List.pairwise_map]
  refine hp.imp ?_
  intro a b hab
  have e : ∀ t : Tx, (if t.n = tx then f t else t).n = t.n := fun t => by split <;> simp [hf]
  rw [e, e]
  exact hab
theorem perm_upd {L : List Tx} (hp : L.Pairwise (fun a b => a.n ≠ b.n)) (f : Tx → Tx) (hf : ∀ t, (f t).n = t.n) {t : Tx} (h : t ∈ L) : (upd L t.n f).Perm (f t :: del L t.n) := by
  have h1 : f t ∈ upd L t.n f := List.mem_map.2 ⟨t, h, by simp⟩
  have := perm_del (upd_pair hp t.n f hf) h1
  rw [hf t, del_upd L t.n f hf] at this
  exact this
theorem mem_upd {L : List Tx} {tx : Int} {f : Tx → Tx} {t : Tx} (h : t ∈ upd L tx f) : ∃ s ∈ L, t = if s.n = tx then f s else s := by
  obtain ⟨s, hs, rfl⟩ := List.mem_map.1 h
  exact ⟨s, hs, rfl⟩
theorem prom_perm {L M : List Tx} (h : L.Perm M) : prom L = prom M := by
  induction h with
  | nil => rfl
  | cons x _ ih => simp [prom, ih]
  | swap x y l => simp only [prom]; omega
  | trans _ _ ih1 ih2 => exact ih1.trans ih2
theorem prom_append (L M : List Tx) : prom (L ++ M) = prom L + prom M := by
  induction L with
  | nil => simp [prom]
  | cons t r ih => simp only [List.cons_append, prom, ih]; omega
theorem owes_pos (t : Tx) : 1 ≤ t.owes := by unfold Tx.owes; split <;> (try split) <;> omega
theorem Tx.Ok.owes {t : Tx} (h : t.Ok) : t.owes ≤ 66 := by have := h.few; unfold Tx.owes; split <;> (try split) <;> omega
theorem prom_nonneg (L : List Tx) : (L.length : Int) ≤ prom L := by
  induction L with
  | nil => simp [prom]
  | cons t r ih => have := owes_pos t; simp only [prom, List.length_cons]; omega
theorem prom_le {L : List Tx} (h : ∀ t ∈ L, t.Ok) : prom L ≤ 66 * (L.length : Int) := by
  induction L with
  | nil => simp [prom]
  | cons t r ih =>
    have := (h t (by simp)).owes
    have := ih (fun t ht => h t (by simp [ht]))
    simp only [prom, List.length_cons]
    omega
theorem Ok.prom {L : List Tx} (h : Ok L) : 0 ≤ prom L ∧ prom L ≤ 2112 := by
  have := prom_le h.each
  have := prom_nonneg L
  have := h.few
  omega
theorem ok_nil : Ok [] := ⟨List.Pairwise.nil, by simp, by simp⟩
theorem Ok.begin {L : List Tx} (h : Ok L) (tx : Int) : Ok (beginL L tx) := by
  unfold beginL
  by_cases q : beginE L tx = 0
  · rw [if_pos q]
    unfold beginE at q
    split at q
    · cases q
    · split at q
      · cases q
      · split at q
        · cases q
        · rename_i h1 h2 h3
          have hn : get L tx = none := by
            cases hq : get L tx with
            | none => rfl
            | some t => rw [hq] at h2; simp at h2
          refine ⟨?_, by simp; omega, ?_⟩
          · rw [List.pairwise_append]
            refine ⟨h.nd, by simp, ?_⟩
            intro a ha b hb
            simp at hb
            subst hb
            exact get_none hn a ha
          · intro t ht
            rcases List.mem_append.1 ht with ht | ht
            · exact h.each t ht
            · simp at ht
              subst ht
              exact ⟨by simp; omega, by simp; omega, .inl rfl, by simp, by simp, by simp⟩
  · rw [if_neg q]; exact h
theorem Ok.upd {L : List Tx} (h : Ok L) {t : Tx} (ht : t ∈ L) (f : Tx → Tx) (hf : ∀ t, (f t).n = t.n) (ho : (f t).Ok) : Ok (upd L t.n f) := by
  refine ⟨upd_pair h.nd _ f hf, by unfold QR.upd; simpa using h.few, ?_⟩
  intro s hs
  have := (perm_upd h.nd f hf ht).mem_iff.1 hs
  rcases List.mem_cons.1 this with rfl | q
  · exact ho
  · exact h.each s (List.mem_filter.1 q).1
theorem Ok.del {L : List Tx} (h : Ok L) (tx : Int) : Ok (del L tx) := by
  refine ⟨List.Pairwise.filter _ h.nd, ?_, fun t ht => h.each t (List.mem_filter.1 ht).1⟩
  have := List.length_filter_le (fun t : Tx => !(t.n == tx)) L
  have := h.few
  unfold QR.del
  omega
theorem Tx.Ok.turn {t : Tx} (h : t.Ok) {s : Int} (hs : s = 0 ∨ s = 1 ∨ s = 2) : (t.turn s).Ok := ⟨h.n1, h.n2, hs, h.nd, h.few, h.each⟩
theorem Tx.Ok.less {t : Tx} (h : t.Ok) (c : Int) : (t.less c).Ok :=
  ⟨h.n1, h.n2, h.st, List.Pairwise.filter _ h.nd, Nat.le_trans (List.length_filter_le _ _) h.few, fun x hx => h.each x (List.mem_filter.1 hx).1⟩
theorem Tx.Ok.more {t : Tx} (h : t.Ok) {c : Int} (h1 : c ∉ t.hs) (h2 : t.hs.length < 64) (h3 : 1 ≤ c ∧ c ≤ 1048576) : (t.more c).Ok := by
  refine ⟨h.n1, h.n2, h.st, ?_, by simp [Tx.more]; omega, ?_⟩
  · show (t.hs ++ [c]).Nodup
    rw [List.nodup_append]
    refine ⟨h.nd, by simp, ?_⟩
    intro a ha b hb
    simp at hb
    subst hb
    exact fun q => h1 (q ▸ ha)
  · intro x hx
    rcases List.mem_append.1 hx with q | q
    · exact h.each x q
    · simp at q; subst q; exact h3
theorem holdT_n (c : Int) (t : Tx) : (t.holdT c).n = t.n := by unfold Tx.holdT; split <;> rfl
theorem Tx.Ok.holdT {t : Tx} (h : t.Ok) {c : Int} (he : t.holdE c = 0) : (t.holdT c).Ok := by
  unfold Tx.holdT
  by_cases q : c ∈ t.hs
  · rw [if_pos q]; exact h
  · rw [if_neg q]
    unfold Tx.holdE at he
    rw [if_neg q] at he
    split at he
    · cases he
    · split at he
      · cases he
      · split at he
        · cases he
        · exact h.more q (by omega) (by omega)
theorem Ok.hold {L : List Tx} (h : Ok L) (tx c : Int) : Ok (holdL L tx c) := by
  unfold holdL holdE
  cases hg : get L tx with
  | none => simp; exact h
  | some t =>
    obtain ⟨h1, h2⟩ := get_mem hg
    subst h2
    by_cases q : t.holdE c = 0
    · simp only [q, if_true]
      exact h.upd h1 _ (holdT_n c) ((h.each t h1).holdT q)
    · simp only [q, if_false]; exact h
theorem Ok.wrote {L : List Tx} (h : Ok L) (tx k c : Int) : Ok (wroteL L tx k c) := by
  unfold wroteL wroteE
  cases hg : get L tx with
  | none => simp; exact h
  | some t =>
    obtain ⟨h1, h2⟩ := get_mem hg
    subst h2
    have ho := h.each t h1
    by_cases q : t.wroteE k c = 0
    · simp only [q, if_true]
      split
      · exact h.upd h1 _ (fun _ => rfl) (ho.turn (by omega))
      · split
        · exact h.upd h1 _ (fun _ => rfl) (ho.turn (by omega))
        · split
          · exact h.upd h1 _ (fun _ => rfl) (ho.less c)
          · exact h.del _
    · simp only [q, if_false]; exact h
end Go.QR
