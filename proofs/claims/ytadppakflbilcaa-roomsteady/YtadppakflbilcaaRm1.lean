import Derived.Test.YtadppakflbilcaaRmK
import Derived.Test.YtadppakflbilcaaHold
import Derived.Deep.RegionHeld
import Derived.Deep.DeepCutAuto
import Derived.BigQuiet
import Derived.Deep.QuietTactic
namespace Go.Proofs.Ytadppakflbilcaa
open Go.RowKit Go.QK Go.Maps Go.QM Go.QR
set_option maxRecDepth 100000
set_option maxHeartbeats 400000 in
theorem num_eq (e : Int) (w : World) : Calls Try.prog 16 #[.int .i64 e] w fun r w' => r = .returned (.int .i64 e) ∧ w = w' := by
  go_enter Try.func16, Try.ntmps16
  go_wp2
  go_ret
  exact ⟨rfl, rfl⟩

/-! Maps and lists up to order. -/
theorem putM_perm {α : Type} {M : Prs α} (hu : Up M) (k : Int) (v : α) : (putM k v M).Perm ((k, v) :: delM M k) := by
  induction M with
  | nil => exact List.Perm.refl _
  | cons p r ih =>
    simp only [putM]
    split
    · rename_i h1
      rw [delM_none (fun q hq => by
        rcases List.mem_cons.1 hq with rfl | hq
        · omega
        · have := hu.head q hq; omega)]
    · split
      · rename_i h2
        have e1 : delM (p :: r) k = r := by
          have := delM_none (L := r) (k := k) (fun q hq => by have := hu.head q hq; omega)
          unfold delM at this ⊢
          simp [h2, this]
        rw [e1]
      · rename_i h2
        have e1 : delM (p :: r) k = p :: delM r k := by
          unfold delM
          simp [h2]
        rw [e1]
        exact ((ih hu.tail).cons p).trans (List.Perm.swap _ _ _)
theorem delM_perm {α : Type} {M N : Prs α} (h : M.Perm N) (k : Int) : (delM M k).Perm (delM N k) := h.filter _
theorem getM_perm {α : Type} {M N : Prs α} (hu : Up M) (h : M.Perm N) {k : Int} {v : α} (hm : (k, v) ∈ N) : getM M k = some v := getM_of_mem hu (p := (k, v)) (h.mem_iff.2 hm)
theorem sumM_perm {α : Type} (f : Int × α → Int) {M N : Prs α} (h : M.Perm N) : sumM f M = sumM f N := by
  induction h with
  | nil => rfl
  | cons x _ ih => simp [sumM, ih]
  | swap x y l => simp only [sumM]; omega
  | trans _ _ ih1 ih2 => exact ih1.trans ih2
theorem sumM_filter {α : Type} (f : Int × α → Int) (hf : ∀ p, 0 ≤ f p) (q : Int × α → Bool) (M : Prs α) : 0 ≤ sumM f (M.filter q) ∧ sumM f (M.filter q) ≤ sumM f M := by
  induction M with
  | nil => simp [sumM]
  | cons p r ih =>
    have := hf p
    rw [List.filter_cons]
    split <;> (simp only [sumM]; omega)

/-! A room in memory: its block, its map, the maps of what each holds; all its blocks lie in S. -/
def pr (hv : Int → Option Nat) (t : Tx) : Int × Value := (t.n, .agg #[.int .i64 t.st, .map (hv t.n)])
abbrev unit : Value := .agg #[]
def hp (c : Int) : Int × Value := (c, unit)
structure Inner (w : World) (S : Nat → Prop) (h : Nat) (hs : List Int) : Prop where
  s : S h
  mp : ∃ K, AnyAt Try.prog 3 w h K ∧ Up K ∧ K.Perm (hs.map hp)
def Inn (w : World) (S : Nat → Prop) (o : Option Nat) (t : Tx) : Prop := (t.st = 1 → o = none) ∧ (t.st ≠ 1 → ∃ h, o = some h ∧ Inner w S h t.hs)
structure PR (w : World) (S : Nat → Prop) (b m : Nat) (M : Prs Value) (hv : Int → Option Nat) (L : List Tx) : Prop where
  lt : ∀ k, S k → k < w.heap.size
  sb : S b
  sm : S m
  box : Cells w b [.map (some m)]
  mp : AnyAt Try.prog 3 w m M
  up : Up M
  perm : M.Perm (L.map (pr hv))
  inn : ∀ t ∈ L, Inn w S (hv t.n) t
  off : ∀ t ∈ L, hv t.n ≠ some m
  inj : ∀ t ∈ L, ∀ u ∈ L, ∀ h, hv t.n = some h → hv u.n = some h → t.n = u.n
  ok : Ok L
def Room (w : World) (S : Nat → Prop) (b : Nat) (L : List Tx) : Prop := ∃ m M hv, PR w S b m M hv L
/-- Behind a call on the room. -/
def Out (w : World) (S : Nat → Prop) (b : Nat) (L : List Tx) (w' : World) : Prop := ∃ S', Room w' S' b L ∧ (∀ k, k < w.heap.size → S' k → S k) ∧ Keep S w w'
section
variable {S T : Nat → Prop} {w w' : World} {b m : Nat} {M : Prs Value} {hv : Int → Option Nat} {L : List Tx}
theorem Inner.keep {h : Nat} {hs : List Int} (q : Inner w S h hs) (hk : Keep T w w') (hn : ¬ T h) : Inner w' S h hs := by
  obtain ⟨K, h1, h2, h3⟩ := q.mp
  exact ⟨q.s, K, anyAt_keep h1 hk hn, h2, h3⟩
theorem Inn.keep {o : Option Nat} {t : Tx} (q : Inn w S o t) (hk : Keep T w w') (hn : ∀ h, o = some h → ¬ T h) : Inn w' S o t := by
  refine ⟨q.1, fun h1 => ?_⟩
  obtain ⟨h, rfl, hi⟩ := q.2 h1
  exact ⟨h, rfl, hi.keep hk (hn h rfl)⟩
theorem Inn.wider {o : Option Nat} {t : Tx} (q : Inn w S o t) (hs : ∀ k, S k → T k) : Inn w T o t := by
  refine ⟨q.1, fun h1 => ?_⟩
  obtain ⟨h, rfl, hi⟩ := q.2 h1
  exact ⟨h, rfl, hs _ hi.s, hi.mp⟩
theorem PR.keep (h : PR w S b m M hv L) (hk : Keep T w w') (hn : ∀ k, S k → ¬ T k) : PR w' S b m M hv L :=
  ⟨fun k q => Nat.lt_of_lt_of_le (h.lt k q) hk.size, h.sb, h.sm, h.box.keep hk (hn b h.sb), anyAt_keep h.mp hk (hn m h.sm), h.up, h.perm,
    fun t ht => (h.inn t ht).keep hk (fun x hx => by
      by_cases q : t.st = 1
      · rw [(h.inn t ht).1 q] at hx; cases hx
      · obtain ⟨y, hy, hi⟩ := (h.inn t ht).2 q
        rw [hy] at hx; cases hx
        exact hn _ hi.s), h.off, h.inj, h.ok⟩
theorem PR.below (h : PR w S b m M hv L) (hk : Below w.heap.size w w') : PR w' S b m M hv L := h.keep (Keep.of_below (S := fun _ => False) hk) (fun _ _ => id)
theorem PR.wider (h : PR w S b m M hv L) (hs : ∀ k, S k → T k) (hl : ∀ k, T k → k < w.heap.size) : PR w T b m M hv L :=
  ⟨hl, hs _ h.sb, hs _ h.sm, h.box, h.mp, h.up, h.perm, fun t ht => (h.inn t ht).wider hs, h.off, h.inj, h.ok⟩
theorem PR.ne (h : PR w S b m M hv L) : b ≠ m := by
  intro q
  subst q
  obtain ⟨es, clock, hb, _⟩ := h.mp
  have := (h.box.get 0 _ rfl).1
  simp [World.cell?, hb] at this
theorem PR.ne2 (h : PR w S b m M hv L) {t : Tx} (ht : t ∈ L) : hv t.n ≠ some b := by
  intro q
  by_cases e : t.st = 1
  · rw [(h.inn t ht).1 e] at q; cases q
  · obtain ⟨y, hy, hi⟩ := (h.inn t ht).2 e
    rw [hy] at q; cases q
    obtain ⟨K, ⟨es, clock, hb, _⟩, _⟩ := hi.mp
    have := (h.box.get 0 _ rfl).1
    simp [World.cell?, hb] at this
theorem Room.keep (h : Room w S b L) (hk : Keep T w w') (hn : ∀ k, S k → ¬ T k) : Room w' S b L := by
  obtain ⟨m, M, hv, h⟩ := h
  exact ⟨m, M, hv, h.keep hk hn⟩
theorem Room.below (h : Room w S b L) (hk : Below w.heap.size w w') : Room w' S b L := h.keep (Keep.of_below (S := fun _ => False) hk) (fun _ _ => id)
theorem Room.lt (h : Room w S b L) : ∀ k, S k → k < w.heap.size := by obtain ⟨m, M, hv, h⟩ := h; exact h.lt
theorem Room.sb (h : Room w S b L) : S b := by obtain ⟨m, M, hv, h⟩ := h; exact h.sb
theorem Room.ok (h : Room w S b L) : Ok L := by obtain ⟨m, M, hv, h⟩ := h; exact h.ok
theorem Room.stays (h : Room w S b L) (hk : Below w.heap.size w w') : Out w S b L w' := ⟨S, h.below hk, fun _ _ q => q, Keep.of_below hk⟩
theorem PR.got (h : PR w S b m M hv L) {tx : Int} {t : Tx} (ht : get L tx = some t) : getM M tx = some (.agg #[.int .i64 t.st, .map (hv tx)]) := by
  obtain ⟨h1, rfl⟩ := get_mem ht
  exact getM_perm h.up h.perm (List.mem_map.2 ⟨t, h1, rfl⟩)
theorem PR.gone (h : PR w S b m M hv L) {tx : Int} (ht : get L tx = none) : getM M tx = none := by
  refine getM_none (fun q hq => ?_)
  obtain ⟨t, h1, rfl⟩ := List.mem_map.1 (h.perm.mem_iff.1 hq)
  exact get_none ht t h1
theorem PR.count (h : PR w S b m M hv L) : M.length = L.length := by rw [h.perm.length_eq, List.length_map]
end
theorem zero68 : ∀ u : World, (zeroValue 68).run Try.prog u = .ok (.agg #[.int .i64 0, .map none]) u := Try.zeroValue68
theorem zero72 : ∀ u : World, (zeroValue 72).run Try.prog u = .ok unit u := Try.zeroValue72
section
variable {S T : Nat → Prop} {w w' : World} {b m : Nat} {M : Prs Value} {hv : Int → Option Nat} {L : List Tx}
theorem PR.len (h : PR w S b m M hv L) (ty : TypeId) : (Builtin.len_ #[60] ty #[.map (some m)]).run Try.prog w = .ok (.int .i64 (L.length : Int)) w := by
  have e1 : L.length = Maps.size (mapE (H := Value) .held M) := by rw [mapE_size, h.count]
  rw [e1]
  exact World.ownsMap.len h.mp Try.underlying60 ty
theorem PR.look (h : PR w S b m M hv L) {x : Int} (hx : I64 x) : (Instr.lookup 60 (.map (some m)) (.int .i64 x) true).run Try.prog w = .ok (.tuple #[(getM M x).getD (.agg #[.int .i64 0, .map none]), .bool (get L x).isSome]) w := by
  obtain ⟨v, ps, hrun, hv'⟩ := World.ownsMap.look_ok h.mp lawK Try.underlying60 (zero68 w) (show anyElem (.agg #[.int .i64 0, .map none]) = some (.held (.agg #[.int .i64 0, .map none]), []) from rfl) (keyI hx)
  have e : (getM M x).isSome = (get L x).isSome := by
    cases hg : get L x with
    | none => rw [h.gone hg]; rfl
    | some t => rw [h.got hg]; rfl
  rw [any_look hv', mapE_has, hasM_get, e] at hrun
  exact hrun
theorem Inner.len {h : Nat} {hs : List Int} (q : Inner w S h hs) (ty : TypeId) : (Builtin.len_ #[66] ty #[.map (some h)]).run Try.prog w = .ok (.int .i64 (hs.length : Int)) w := by
  obtain ⟨K, h1, _, h3⟩ := q.mp
  have e1 : hs.length = Maps.size (mapE (H := Value) .held K) := by rw [mapE_size, h3.length_eq, List.length_map]
  rw [e1]
  exact World.ownsMap.len h1 Try.underlying66 ty
theorem Inner.look {h : Nat} {hs : List Int} (q : Inner w S h hs) {x : Int} (hx : I64 x) : (Instr.lookup 66 (.map (some h)) (.int .i64 x) true).run Try.prog w = .ok (.tuple #[unit, .bool (decide (x ∈ hs))]) w := by
  obtain ⟨K, h1, h2, h3⟩ := q.mp
  obtain ⟨v, ps, hrun, hv'⟩ := World.ownsMap.look_ok h1 lawK Try.underlying66 (zero72 w) (show anyElem unit = some (.held unit, []) from rfl) (keyI hx)
  have e : getM K x = if x ∈ hs then some unit else none := by
    by_cases hm : x ∈ hs
    · rw [if_pos hm]
      exact getM_perm h2 h3 (List.mem_map.2 ⟨x, hm, rfl⟩)
    · rw [if_neg hm]
      refine getM_none (fun q hq => ?_)
      obtain ⟨c, hc, rfl⟩ := List.mem_map.1 (h3.mem_iff.1 hq)
      show c ≠ x
      exact fun e => hm (e ▸ hc)
  rw [any_look hv', mapE_has, hasM_get, e] at hrun
  by_cases hm : x ∈ hs <;> simpa [hm] using hrun
end
theorem ret_int {k : IntKind} {a b : Int} (h : a = b) : Ending.returned (.int k a) = .returned (.int k b) := by rw [h]
theorem nil_len (ty : TypeId) (w : World) : (Builtin.len_ #[66] ty #[.map none]).run Try.prog w = .ok (.int .i64 0) w := by go_simp
set_option maxHeartbeats 400000 in
theorem new_any (w : World) : Calls Try.prog 10 #[] w fun r w' => r = .returned (ptr (w.heap.size + 1)) ∧ Room w' (fun k => w.heap.size ≤ k ∧ k < w.heap.size + 2) (w.heap.size + 1) [] ∧ Below w.heap.size w w' ∧ w'.heap.size = w.heap.size + 2 := by
  have hmm := @run_makeMap Try.prog
  go_enter Try.func10, Try.ntmps10
  go_wp2
  go_ret
  refine ⟨rfl, ⟨w.heap.size, [], fun _ => none, ⟨fun k q => ?_, ⟨by omega, by omega⟩, ⟨by omega, by omega⟩, ?_, ?_, List.Pairwise.nil, List.Perm.refl _, nofun, nofun, nofun, ok_nil⟩⟩, ?_, by simp⟩
  · simp; omega
  · have := Cells.new (w.alloc (.map #[] 0)) #[.map (some w.heap.size)] 62
    simpa using this
  · exact anyAt_below (AnyAt.made Try.prog 3 w) (alloc_below _ _)
  · exact (alloc_below _ _).alloc (by simp) _
set_option maxHeartbeats 1000000 in
theorem promised_any (S : Nat → Prop) (t : Tx) (o : Option Nat) (w : World) (h : Inn w S o t) (hk : t.Ok) : Calls Try.prog 30 #[.agg #[.int .i64 t.st, .map o]] w fun r w' => r = .returned (.int .i64 t.owes) ∧ Below w.heap.size w w' := by
  have b1 := alloc_below w (.cells #[.int .i64 t.st, .map o] 68)
  have few := hk.few
  unfold Tx.owes
  by_cases h1 : t.st = 1
  · rw [if_pos h1]
    have ho := h.1 h1
    have e0 : (t.st == 0) = false := by simp [h1]
    subst ho
    rw [h1] at e0 b1 ⊢
    have hl := nil_len
    clear h
    go_enter Try.func30, Try.ntmps30
    go_wp2
    go_ret
    exact ⟨rfl, b1⟩
  · rw [if_neg h1]
    obtain ⟨x, rfl, hi⟩ := h.2 h1
    have hl := fun ty => (hi.keep (Keep.of_below (S := fun _ => False) b1) id).len ty
    clear h hi
    obtain ⟨n, hn⟩ : ∃ n, n = t.hs.length := ⟨_, rfl⟩
    rw [← hn] at hl few ⊢
    clear hn
    by_cases h2 : t.st = 2
    · rw [if_pos h2]
      rw [h2] at hl b1 ⊢
      go_enter Try.func30, Try.ntmps30
      go_wp2
      go_ret
      exact ⟨rfl, b1⟩
    · rw [if_neg h2]
      have h3 : t.st = 0 := by have := hk.st; omega
      rw [h3] at hl b1 ⊢
      have hw : wrap64 (1 + (n : Int) + 1) = 2 + (n : Int) := by unfold wrap64; omega
      go_enter Try.func30, Try.ntmps30
      go_wp2
      go_ret
      exact ⟨ret_int (by omega), b1⟩
set_option maxHeartbeats 1000000 in
theorem holds_any (S : Nat → Prop) (s : Int) (h : Nat) (hs : List Int) (c : Int) (w : World) (q : Inner w S h hs) (hc : I64 c) : Calls Try.prog 31 #[.agg #[.int .i64 s, .map (some h)], .int .i64 c] w fun r w' => r = .returned (.bool (decide (c ∈ hs))) ∧ Below w.heap.size w w' := by
  have b1 := alloc_below w (.cells #[.int .i64 s, .map (some h)] 68)
  have hl := (q.keep (Keep.of_below (S := fun _ => False) b1) id).look hc
  clear q
  generalize decide (c ∈ hs) = e at *
  go_enter Try.func31, Try.ntmps31
  go_wp2
  go_ret
  exact ⟨rfl, b1.alloc (by simp) _⟩
end Go.Proofs.Ytadppakflbilcaa
