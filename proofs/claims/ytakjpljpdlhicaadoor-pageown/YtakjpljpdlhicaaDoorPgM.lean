import Derived.Test.YtakjpljpdlhicaaDoorMem
namespace Go.Pg
open Go.RowKit Go.QK

/-! Chapter 7 in plain numbers. -/

structure CtrM where
  id : Int
  grp : Int
  lo : Int
  hi : Int
  val : Int
structure GrpM where
  id : Int
  sum : Int
structure PageM where
  num : Int
  lsn : Int
  cs : List CtrM
  gs : List GrpM

def fit (x : Int) : Prop := -9223372036854775808 ≤ x ∧ x ≤ 9223372036854775807
def CtrM.Fit (c : CtrM) : Prop := fit c.id ∧ fit c.grp ∧ fit c.lo ∧ fit c.hi ∧ fit c.val
def GrpM.Fit (g : GrpM) : Prop := fit g.id ∧ fit g.sum

/-- As 64 bits without a sign, and back. -/
def un (x : Int) : Nat := (x % 18446744073709551616).toNat
def sg (n : Nat) : Int := if n < 9223372036854775808 then (n : Int) else (n : Int) - 18446744073709551616
theorem un_lt (x : Int) : un x < 18446744073709551616 := by unfold un; omega
theorem sg_un {x : Int} (h : fit x) : sg (un x) = x := by unfold fit at h; unfold sg un; split <;> omega
theorem un_sg {n : Nat} (h : n < 18446744073709551616) : un (sg n) = n := by unfold sg un; split <;> omega
theorem sg_fit {n : Nat} (h : n < 18446744073709551616) : fit (sg n) := by unfold fit sg; split <;> omega
theorem sg_small {n : Nat} (h : n < 9223372036854775808) : sg n = (n : Int) := by unfold sg; rw [if_pos h]
theorem un_small {x : Int} (h : 0 ≤ x) (h2 : x ≤ 9223372036854775807) : un x = x.toNat := by unfold un; omega

def okN (x : Int) : Bool := decide (1 ≤ x) && decide (x ≤ 1048576)
def ctrE (c : CtrM) : Int := if okN c.id && okN c.grp then (if c.hi < c.lo then 11 else 0) else 23
def grpE (g : GrpM) : Int := if okN g.id then 0 else 23
def firstE : List Int → Int
  | [] => 0
  | e :: l => if e = 0 then firstE l else e
def slotsE (cs : List CtrM) (gs : List GrpM) : Int := firstE (cs.map ctrE ++ gs.map grpE)
def isEmpty (p : PageM) : Bool := decide (p.cs.length = 0) && decide (p.gs.length = 0)
def checkE (p : PageM) : Int :=
  if p.num < 0 ∨ 63 < p.num then 4
  else if 0 < p.cs.length ∧ 0 < p.gs.length then 70
  else if 31 < p.cs.length ∨ 84 < p.gs.length then 6
  else if p.lsn < 0 ∨ 2147483647 < p.lsn ∨ (isEmpty p != decide (p.lsn = 0)) = true then 23
  else slotsE p.cs p.gs

theorem firstE_zero : (l : List Int) → (firstE l = 0 ↔ ∀ e ∈ l, e = 0)
  | [] => by simp [firstE]
  | e :: l => by
    unfold firstE
    by_cases h : e = 0
    · rw [if_pos h, firstE_zero l]; simp [h]
    · rw [if_neg h]; simp [h]

/-! Numbers one behind the other. -/

def numsB : List Nat → List Nat → List Nat
  | s :: ss, n :: ns => bytesOf s n ++ numsB ss ns
  | _, _ => []
def takeN : List Nat → List Nat → List Nat
  | [], _ => []
  | s :: ss, b => QK.fromB (b.take s) :: takeN ss (b.drop s)
def total : List Nat → Nat
  | [] => 0
  | s :: ss => s + total ss
/-- Each number fits its size. -/
def FitN : List Nat → List Nat → Prop
  | s :: ss, n :: ns => n < 256 ^ s ∧ FitN ss ns
  | [], [] => True
  | _, _ => False

@[simp] theorem bytesOf_length (n m : Nat) : (bytesOf n m).length = n := by simp [bytesOf]
theorem bytesOf_fromB : (l : List Nat) → AllB l → bytesOf l.length (QK.fromB l) = l
  | [], _ => rfl
  | x :: l, h => by
    have hx : x < 256 := h x (by simp)
    have ih := bytesOf_fromB l (fun y hy => h y (by simp [hy]))
    show bytesOf (l.length + 1) (x + 256 * QK.fromB l) = x :: l
    rw [bytesOf_succ]
    have e1 : (x + 256 * QK.fromB l) % 256 = x := by omega
    have e2 : (x + 256 * QK.fromB l) / 256 = QK.fromB l := by omega
    rw [e1, e2, ih]
theorem numsB_length : (ss ns : List Nat) → ss.length = ns.length → (numsB ss ns).length = total ss
  | [], [], _ => rfl
  | s :: ss, n :: ns, h => by
    simp only [numsB, total, List.length_append, bytesOf_length]
    rw [numsB_length ss ns (by simpa using h)]
theorem numsB_bytes : (ss ns : List Nat) → AllB (numsB ss ns)
  | [], _ => AllB.nil
  | _ :: _, [] => AllB.nil
  | s :: ss, n :: ns => AllB.append (bytesOf_lt s n) (numsB_bytes ss ns)
theorem FitN.length : {ss ns : List Nat} → FitN ss ns → ss.length = ns.length
  | [], [], _ => rfl
  | _ :: _, _ :: _, h => by simpa using FitN.length h.2
theorem takeN_length : (ss b : List Nat) → (takeN ss b).length = ss.length
  | [], _ => rfl
  | s :: ss, b => by simp [takeN, takeN_length ss]
theorem takeN_numsB : (ss ns rest : List Nat) → FitN ss ns → takeN ss (numsB ss ns ++ rest) = ns
  | [], [], _, _ => rfl
  | s :: ss, n :: ns, rest, h => by
    simp only [numsB, takeN, List.append_assoc]
    rw [List.take_left' (by simp), List.drop_left' (by simp), takeN_numsB ss ns rest h.2, fromB_bytesOf, Nat.mod_eq_of_lt h.1]
theorem numsB_takeN : (ss b : List Nat) → AllB b → total ss ≤ b.length → numsB ss (takeN ss b) = b.take (total ss)
  | [], b, _, _ => by simp [numsB, total]
  | s :: ss, b, h, hl => by
    simp only [numsB, takeN, total] at *
    have hl1 : (b.take s).length = s := by simp; omega
    have e := bytesOf_fromB (b.take s) (h.take s)
    rw [hl1] at e
    rw [e, numsB_takeN ss (b.drop s) (h.drop s) (by simp; omega), List.take_add]
theorem takeN_fit : (ss b : List Nat) → AllB b → total ss ≤ b.length → FitN ss (takeN ss b)
  | [], _, _, _ => trivial
  | s :: ss, b, h, hl => by
    simp only [total] at hl
    refine ⟨?_, takeN_fit ss (b.drop s) (h.drop s) (by simp; omega)⟩
    have := fromB_lt (b.take s) (h.take s)
    rwa [List.length_take, Nat.min_eq_left (by omega)] at this

def headS : List Nat := [1, 1, 2, 2, 2, 4, 4]
def ctrS : List Nat := [4, 4, 8, 8, 8]
def grpS : List Nat := [4, 8]
def ctrN (c : CtrM) : List Nat := [un c.id, un c.grp, un c.lo, un c.hi, un c.val]
def grpN (g : GrpM) : List Nat := [un g.id, un g.sum]
def ctrB (c : CtrM) : List Nat := numsB ctrS (ctrN c)
def grpB (g : GrpM) : List Nat := numsB grpS (grpN g)
def kindOf (p : PageM) : Nat := if 0 < p.gs.length then 2 else 1
def countOf (p : PageM) : Nat := if 0 < p.gs.length then p.gs.length else p.cs.length
def headN (p : PageM) (s : Nat) : List Nat := [113, kindOf p, un p.num, countOf p, 0, un p.lsn, s]
def headB (p : PageM) (s : Nat) : List Nat := numsB headS (headN p s)
def ctrsB (cs : List CtrM) : List Nat := (cs.map ctrB).flatten
def grpsB (gs : List GrpM) : List Nat := (gs.map grpB).flatten
def bodyB (p : PageM) : List Nat := ctrsB p.cs ++ grpsB p.gs
def zs (n : Nat) : List Nat := List.replicate n 0
/-- The bytes behind the head. -/
def restB (p : PageM) : List Nat := bodyB p ++ zs (1008 - (bodyB p).length)
def hollow (b : List Nat) : List Nat := b.take 12 ++ zs 4 ++ b.drop 16
def psum (b : List Nat) : Nat := sumOf (hollow b)
def encB (p : PageM) : List Nat :=
  if isEmpty p then zs 1024 else headB p (psum (headB p 0 ++ restB p)) ++ restB p

@[simp] theorem ctrB_length (c : CtrM) : (ctrB c).length = 32 := by exact numsB_length ctrS (ctrN c) rfl
@[simp] theorem grpB_length (g : GrpM) : (grpB g).length = 12 := by exact numsB_length grpS (grpN g) rfl
@[simp] theorem headB_length (p : PageM) (s : Nat) : (headB p s).length = 16 := by exact numsB_length headS (headN p s) rfl
@[simp] theorem zs_length (n : Nat) : (zs n).length = n := by simp [zs]
theorem zs_bytes (n : Nat) : AllB (zs n) := by
  intro x hx
  rw [(List.mem_replicate.1 hx).2]
  decide
@[simp] theorem ctrsB_length : (cs : List CtrM) → (ctrsB cs).length = 32 * cs.length
  | [] => rfl
  | c :: cs => by
    have := ctrsB_length cs
    unfold ctrsB at *
    simp only [List.map_cons, List.flatten_cons, List.length_append, ctrB_length, List.length_cons, this]
    omega
@[simp] theorem grpsB_length : (gs : List GrpM) → (grpsB gs).length = 12 * gs.length
  | [] => rfl
  | g :: gs => by
    have := grpsB_length gs
    unfold grpsB at *
    simp only [List.map_cons, List.flatten_cons, List.length_append, grpB_length, List.length_cons, this]
    omega
theorem ctrsB_snoc (cs : List CtrM) (c : CtrM) : ctrsB (cs ++ [c]) = ctrsB cs ++ ctrB c := by simp [ctrsB]
theorem grpsB_snoc (gs : List GrpM) (g : GrpM) : grpsB (gs ++ [g]) = grpsB gs ++ grpB g := by simp [grpsB]
theorem ctrsB_cons (cs : List CtrM) (c : CtrM) : ctrsB (c :: cs) = ctrB c ++ ctrsB cs := by simp [ctrsB]
theorem grpsB_cons (gs : List GrpM) (g : GrpM) : grpsB (g :: gs) = grpB g ++ grpsB gs := by simp [grpsB]
theorem ctrsB_bytes : (cs : List CtrM) → AllB (ctrsB cs)
  | [] => AllB.nil
  | c :: cs => by rw [ctrsB_cons]; exact (numsB_bytes _ _).append (ctrsB_bytes cs)
theorem grpsB_bytes : (gs : List GrpM) → AllB (grpsB gs)
  | [] => AllB.nil
  | c :: cs => by rw [grpsB_cons]; exact (numsB_bytes _ _).append (grpsB_bytes cs)
theorem restB_bytes (p : PageM) : AllB (restB p) := ((ctrsB_bytes _).append (grpsB_bytes _)).append (zs_bytes _)
theorem headB_bytes (p : PageM) (s : Nat) : AllB (headB p s) := numsB_bytes _ _
theorem encB_bytes (p : PageM) : AllB (encB p) := by
  unfold encB
  split
  · exact zs_bytes _
  · exact (headB_bytes p _).append (restB_bytes p)
theorem hollow_bytes {b : List Nat} (h : AllB b) : AllB (hollow b) := ((h.take _).append (zs_bytes _)).append (h.drop _)
theorem psum_lt {b : List Nat} (h : AllB b) : psum b < 4294967296 := sumOf_lt _ (hollow_bytes h)

/-! Reading. -/

def ctrOf (n : List Nat) : CtrM := ⟨sg (n.getD 0 0), sg (n.getD 1 0), sg (n.getD 2 0), sg (n.getD 3 0), sg (n.getD 4 0)⟩
def grpOf (n : List Nat) : GrpM := ⟨sg (n.getD 0 0), sg (n.getD 1 0)⟩
def readC : Nat → List Nat → List CtrM
  | 0, _ => []
  | k + 1, b => ctrOf (takeN ctrS b) :: readC k (b.drop 32)
def readG : Nat → List Nat → List GrpM
  | 0, _ => []
  | k + 1, b => grpOf (takeN grpS b) :: readG k (b.drop 12)
def allZ (b : List Nat) : Bool := b.all (· == 0)
def headE (h : List Nat) (number : Int) (s : Nat) : Int :=
  if h.getD 0 0 ≠ 113 then 80
  else if h.getD 1 0 ≠ 1 ∧ h.getD 1 0 ≠ 2 then 70
  else if h.getD 6 0 ≠ s then 81
  else if (h.getD 2 0 : Int) ≠ number then 82
  else if h.getD 3 0 < 1 ∨ (if h.getD 1 0 = 1 then 31 else 84) < h.getD 3 0 ∨ h.getD 5 0 < 1 ∨ 2147483647 < h.getD 5 0 then 23
  else 0
def pageOf (h b : List Nat) : PageM :=
  ⟨(h.getD 2 0 : Int), (h.getD 5 0 : Int), if h.getD 1 0 = 1 then readC (h.getD 3 0) b else [], if h.getD 1 0 = 1 then [] else readG (h.getD 3 0) b⟩
def endOf (h : List Nat) : Nat := (if h.getD 1 0 = 1 then 32 else 12) * h.getD 3 0
def zeroP : PageM := ⟨0, 0, [], []⟩
def decE (b : List Nat) (number : Int) : Int :=
  if number < 0 ∨ 63 < number then 4
  else if b.length ≠ 1024 then 42
  else if allZ b then 0
  else if headE (takeN headS b) number (psum b) ≠ 0 then headE (takeN headS b) number (psum b)
  else if slotsE (pageOf (takeN headS b) (b.drop 16)).cs (pageOf (takeN headS b) (b.drop 16)).gs ≠ 0 then slotsE (pageOf (takeN headS b) (b.drop 16)).cs (pageOf (takeN headS b) (b.drop 16)).gs
  else if (takeN headS b).getD 4 0 ≠ 0 ∨ allZ ((b.drop 16).drop (endOf (takeN headS b))) = false then 23
  else 0
def decP (b : List Nat) (number : Int) : PageM :=
  if decE b number ≠ 0 then zeroP
  else if allZ b then ⟨number, 0, [], []⟩
  else pageOf (takeN headS b) (b.drop 16)

theorem readC_length : (k : Nat) → (b : List Nat) → (readC k b).length = k
  | 0, _ => rfl
  | k + 1, b => by simp [readC, readC_length k]
theorem readG_length : (k : Nat) → (b : List Nat) → (readG k b).length = k
  | 0, _ => rfl
  | k + 1, b => by simp [readG, readG_length k]
theorem allZ_iff (b : List Nat) : allZ b = true ↔ b = zs b.length := by
  unfold allZ zs
  rw [List.all_eq_true, List.eq_replicate_iff]
  simp
theorem allZ_zs (n : Nat) : allZ (zs n) = true := by unfold allZ zs; simp

theorem lt8 {x : Nat} (h : x < 256 ^ 8) : x < 18446744073709551616 := h
theorem lt4 {x : Nat} (h : x < 256 ^ 4) : x < 4294967296 := h

/-- The numbers of a counter that was read are its numbers again. -/
theorem ctrN_ctrOf {b : List Nat} (hb : AllB b) (hl : 32 ≤ b.length) : ctrN (ctrOf (takeN ctrS b)) = takeN ctrS b := by
  have hf := takeN_fit ctrS b hb (by simpa [ctrS, total] using hl)
  have hn := takeN_length ctrS b
  generalize takeN ctrS b = n at *
  match n, hn with
  | [n0, n1, n2, n3, n4], _ =>
    obtain ⟨f0, f1, f2, f3, f4, _⟩ := hf
    have g0 := lt4 f0
    have g1 := lt4 f1
    simp only [ctrN, ctrOf, List.getD_cons_zero, List.getD_cons_succ]
    rw [un_sg (by omega), un_sg (by omega), un_sg (lt8 f2), un_sg (lt8 f3), un_sg (lt8 f4)]
theorem grpN_grpOf {b : List Nat} (hb : AllB b) (hl : 12 ≤ b.length) : grpN (grpOf (takeN grpS b)) = takeN grpS b := by
  have hf := takeN_fit grpS b hb (by simpa [grpS, total] using hl)
  have hn := takeN_length grpS b
  generalize takeN grpS b = n at *
  match n, hn with
  | [n0, n1], _ =>
    obtain ⟨f0, f1, _⟩ := hf
    have g0 := lt4 f0
    simp only [grpN, grpOf, List.getD_cons_zero, List.getD_cons_succ]
    rw [un_sg (by omega), un_sg (lt8 f1)]
theorem ctrB_ctrOf {b : List Nat} (hb : AllB b) (hl : 32 ≤ b.length) : ctrB (ctrOf (takeN ctrS b)) = b.take 32 := by
  unfold ctrB
  rw [ctrN_ctrOf hb hl, numsB_takeN ctrS b hb (by simpa [ctrS, total] using hl)]
  rfl
theorem grpB_grpOf {b : List Nat} (hb : AllB b) (hl : 12 ≤ b.length) : grpB (grpOf (takeN grpS b)) = b.take 12 := by
  unfold grpB
  rw [grpN_grpOf hb hl, numsB_takeN grpS b hb (by simpa [grpS, total] using hl)]
  rfl
theorem ctrsB_readC : (k : Nat) → (b : List Nat) → AllB b → 32 * k ≤ b.length → ctrsB (readC k b) = b.take (32 * k)
  | 0, b, _, _ => by simp [readC, ctrsB]
  | k + 1, b, hb, hl => by
    rw [readC, ctrsB_cons, ctrB_ctrOf hb (by omega), ctrsB_readC k (b.drop 32) (hb.drop _) (by simp; omega), show 32 * (k + 1) = 32 + 32 * k by omega, List.take_add]
theorem grpsB_readG : (k : Nat) → (b : List Nat) → AllB b → 12 * k ≤ b.length → grpsB (readG k b) = b.take (12 * k)
  | 0, b, _, _ => by simp [readG, grpsB]
  | k + 1, b, hb, hl => by
    rw [readG, grpsB_cons, grpB_grpOf hb (by omega), grpsB_readG k (b.drop 12) (hb.drop _) (by simp; omega), show 12 * (k + 1) = 12 + 12 * k by omega, List.take_add]

theorem okN_iff (x : Int) : okN x = true ↔ 1 ≤ x ∧ x ≤ 1048576 := by simp [okN]
theorem ctrE_zero {c : CtrM} (h : ctrE c = 0) : (1 ≤ c.id ∧ c.id ≤ 1048576) ∧ (1 ≤ c.grp ∧ c.grp ≤ 1048576) ∧ c.lo ≤ c.hi := by
  unfold ctrE at h
  split at h
  · rename_i q
    rw [Bool.and_eq_true, okN_iff, okN_iff] at q
    split at h
    · simp at h
    · exact ⟨q.1, q.2, by omega⟩
  · simp at h
theorem grpE_zero {g : GrpM} (h : grpE g = 0) : 1 ≤ g.id ∧ g.id ≤ 1048576 := by
  unfold grpE at h
  split at h
  · rename_i q
    exact (okN_iff _).1 q
  · simp at h
theorem slotsE_zero {cs : List CtrM} {gs : List GrpM} (h : slotsE cs gs = 0) : (∀ c ∈ cs, ctrE c = 0) ∧ (∀ g ∈ gs, grpE g = 0) := by
  unfold slotsE at h
  rw [firstE_zero] at h
  exact ⟨fun c hc => h _ (by simp; exact .inl ⟨c, hc, rfl⟩), fun g hg => h _ (by simp; exact .inr ⟨g, hg, rfl⟩)⟩

theorem ctrFit {c : CtrM} (h : ctrE c = 0) : FitN ctrS (ctrN c) := by
  obtain ⟨h1, h2, h3⟩ := ctrE_zero h
  refine ⟨?_, ?_, un_lt _, un_lt _, un_lt _, trivial⟩
  · show un c.id < 4294967296
    unfold un; omega
  · show un c.grp < 4294967296
    unfold un; omega
theorem grpFit {g : GrpM} (h : grpE g = 0) : FitN grpS (grpN g) := by
  have h1 := grpE_zero h
  refine ⟨?_, un_lt _, trivial⟩
  show un g.id < 4294967296
  unfold un; omega
theorem readC_ctrsB : (cs : List CtrM) → (rest : List Nat) → (∀ c ∈ cs, ctrE c = 0) → (∀ c ∈ cs, c.Fit) → readC cs.length (ctrsB cs ++ rest) = cs
  | [], _, _, _ => rfl
  | c :: cs, rest, h, hf => by
    rw [ctrsB_cons, List.length_cons, readC, List.append_assoc, List.drop_left' (by simp), readC_ctrsB cs rest (fun x hx => h x (by simp [hx])) (fun x hx => hf x (by simp [hx]))]
    congr 1
    unfold ctrB
    rw [takeN_numsB _ _ _ (ctrFit (h c (by simp)))]
    obtain ⟨f1, f2, f3, f4, f5⟩ := hf c (by simp)
    simp only [ctrN, ctrOf, List.getD_cons_zero, List.getD_cons_succ, sg_un f1, sg_un f2, sg_un f3, sg_un f4, sg_un f5]
theorem readG_grpsB : (gs : List GrpM) → (rest : List Nat) → (∀ c ∈ gs, grpE c = 0) → (∀ c ∈ gs, c.Fit) → readG gs.length (grpsB gs ++ rest) = gs
  | [], _, _, _ => rfl
  | c :: cs, rest, h, hf => by
    rw [grpsB_cons, List.length_cons, readG, List.append_assoc, List.drop_left' (by simp), readG_grpsB cs rest (fun x hx => h x (by simp [hx])) (fun x hx => hf x (by simp [hx]))]
    congr 1
    unfold grpB
    rw [takeN_numsB _ _ _ (grpFit (h c (by simp)))]
    obtain ⟨f1, f2⟩ := hf c (by simp)
    simp only [grpN, grpOf, List.getD_cons_zero, List.getD_cons_succ, sg_un f1, sg_un f2]

theorem checkE_zero {p : PageM} (h : checkE p = 0) : (0 ≤ p.num ∧ p.num ≤ 63) ∧ (p.cs.length = 0 ∨ p.gs.length = 0) ∧ p.cs.length ≤ 31 ∧ p.gs.length ≤ 84 ∧ (0 ≤ p.lsn ∧ p.lsn ≤ 2147483647) ∧ (isEmpty p = decide (p.lsn = 0)) ∧ slotsE p.cs p.gs = 0 := by
  unfold checkE at h
  by_cases q1 : p.num < 0 ∨ 63 < p.num
  · rw [if_pos q1] at h; simp at h
  rw [if_neg q1] at h
  by_cases q2 : 0 < p.cs.length ∧ 0 < p.gs.length
  · rw [if_pos q2] at h; simp at h
  rw [if_neg q2] at h
  by_cases q3 : 31 < p.cs.length ∨ 84 < p.gs.length
  · rw [if_pos q3] at h; simp at h
  rw [if_neg q3] at h
  by_cases q4 : p.lsn < 0 ∨ 2147483647 < p.lsn ∨ (isEmpty p != decide (p.lsn = 0)) = true
  · rw [if_pos q4] at h; simp at h
  rw [if_neg q4] at h
  simp only [not_or] at q4
  refine ⟨by omega, by omega, by omega, by omega, by omega, ?_, h⟩
  simpa using q4.2.2
theorem checkE_of {p : PageM} (h1 : 0 ≤ p.num ∧ p.num ≤ 63) (h2 : p.cs.length = 0 ∨ p.gs.length = 0) (h3 : p.cs.length ≤ 31) (h4 : p.gs.length ≤ 84) (h5 : 0 ≤ p.lsn ∧ p.lsn ≤ 2147483647) (h6 : isEmpty p = decide (p.lsn = 0)) (h7 : slotsE p.cs p.gs = 0) : checkE p = 0 := by
  unfold checkE
  rw [if_neg (by omega), if_neg (by omega), if_neg (by omega), if_neg ?_, h7]
  rw [h6]
  simp
  omega

theorem body_le {p : PageM} (h : checkE p = 0) : (bodyB p).length ≤ 1008 := by
  obtain ⟨_, h2, h3, h4, _⟩ := checkE_zero h
  simp only [bodyB, List.length_append, ctrsB_length, grpsB_length]
  rcases h2 with h2 | h2 <;> rw [h2] <;> omega
theorem restB_length {p : PageM} (h : (bodyB p).length ≤ 1008) : (restB p).length = 1008 := by
  unfold restB
  simp only [List.length_append, zs_length]
  omega
theorem encB_length {p : PageM} (h : checkE p = 0) : (encB p).length = 1024 := by
  unfold encB
  split
  · simp
  · simp only [List.length_append, headB_length, restB_length (body_le h)]

theorem headB_fit {p : PageM} (h : checkE p = 0) {s : Nat} (hs : s < 4294967296) : FitN headS (headN p s) := by
  obtain ⟨h1, h2, h3, h4, h5, _⟩ := checkE_zero h
  have hk : kindOf p < 256 := by unfold kindOf; split <;> omega
  have hc : countOf p < 65536 := by unfold countOf; split <;> omega
  refine ⟨by decide, hk, ?_, hc, by decide, ?_, hs, trivial⟩
  · show un p.num < 65536
    unfold un; omega
  · show un p.lsn < 4294967296
    unfold un; omega

theorem hollow_head (p : PageM) (s t : Nat) (r : List Nat) : hollow (headB p s ++ r) = hollow (headB p t ++ r) := by
  have e : ∀ s, headB p s = numsB [1, 1, 2, 2, 2, 4] [113, kindOf p, un p.num, countOf p, 0, un p.lsn] ++ bytesOf 4 s := by
    intro s
    simp [headB, headS, headN, numsB]
  have l : (numsB [1, 1, 2, 2, 2, 4] [113, kindOf p, un p.num, countOf p, 0, un p.lsn]).length = 12 := numsB_length _ _ rfl
  unfold hollow
  have d : ∀ s, (headB p s ++ r).drop 16 = r := fun s => List.drop_left' (by simp)
  have t1 : ∀ s, (headB p s ++ r).take 12 = numsB [1, 1, 2, 2, 2, 4] [113, kindOf p, un p.num, countOf p, 0, un p.lsn] := fun s => by rw [e s, List.append_assoc, List.take_left' l]
  rw [d s, d t, t1 s, t1 t]
theorem psum_head (p : PageM) (s t : Nat) (r : List Nat) : psum (headB p s ++ r) = psum (headB p t ++ r) := by unfold psum; rw [hollow_head p s t r]

/-- What is written is read. -/
theorem take_head {p : PageM} (h : checkE p = 0) {s : Nat} (hs : s < 4294967296) (r : List Nat) : takeN headS (headB p s ++ r) = headN p s := takeN_numsB _ _ _ (headB_fit h hs)

def PageM.Fit (p : PageM) : Prop := fit p.num ∧ fit p.lsn ∧ (∀ c ∈ p.cs, c.Fit) ∧ (∀ g ∈ p.gs, g.Fit)

theorem allZ_head (p : PageM) (s : Nat) (r : List Nat) : allZ (headB p s ++ r) = false := by
  have e : headB p s = 113 :: numsB [1, 2, 2, 2, 4, 4] [kindOf p, un p.num, countOf p, 0, un p.lsn, s] := by
    simp [headB, headS, headN, numsB, bytesOf]
    decide
  rw [e]
  simp [allZ]

theorem empty_lists {p : PageM} (h : isEmpty p = true) : p.cs = [] ∧ p.gs = [] := by
  unfold isEmpty at h
  simp at h
  exact h

/-- A right page that is not empty: what is read under a number. -/
theorem dec_full {p : PageM} (h : checkE p = 0) (hf : p.Fit) (he : isEmpty p = false) (number : Int) (hn : 0 ≤ number ∧ number ≤ 63) :
    decE (encB p) number = (if number = p.num then 0 else 82) ∧ (number = p.num → decP (encB p) number = p) := by
  obtain ⟨h1, h2, h3, h4, h5, h6, h7⟩ := checkE_zero h
  obtain ⟨z1, z2⟩ := slotsE_zero h7
  obtain ⟨_, _, f1, f2⟩ := hf
  have hs : psum (headB p 0 ++ restB p) < 4294967296 := psum_lt ((headB_bytes p 0).append (restB_bytes p))
  have hlen := encB_length h
  have hlsn : p.lsn ≠ 0 := by
    intro q
    rw [he, q] at h6
    simp at h6
  have eE : encB p = headB p (psum (headB p 0 ++ restB p)) ++ restB p := by unfold encB; rw [he]; simp
  have hps : psum (encB p) = psum (headB p 0 ++ restB p) := by rw [eE]; exact psum_head p _ _ _
  rw [← hps] at eE hs
  have ht := take_head h hs (restB p)
  rw [← eE] at ht
  have hz : allZ (encB p) = false := by rw [eE]; exact allZ_head _ _ _
  have hd : (encB p).drop 16 = restB p := by rw [eE]; exact List.drop_left' (by simp)
  have hk : kindOf p = 1 ∨ kindOf p = 2 := by unfold kindOf; split <;> simp
  have hcount : 1 ≤ countOf p ∧ countOf p ≤ (if kindOf p = 1 then 31 else 84) := by
    have : ¬ (p.cs.length = 0 ∧ p.gs.length = 0) := by
      intro q
      simp [isEmpty, q.1, q.2] at he
    unfold countOf kindOf
    by_cases q : 0 < p.gs.length
    · simp [q]; omega
    · simp [q]; omega
  have hun : un p.num = p.num.toNat := un_small h1.1 (by omega)
  have hul : un p.lsn = p.lsn.toNat := un_small h5.1 (by omega)
  have hhead : headE (headN p (psum (encB p))) number (psum (encB p)) = if number = p.num then 0 else 82 := by
    unfold headE
    simp only [headN, List.getD_cons_zero, List.getD_cons_succ]
    rw [if_neg (by simp), if_neg (by omega), if_neg (by simp), hun, hul]
    by_cases q : number = p.num
    · rw [if_neg (by omega), if_neg ?_, if_pos q]
      generalize (if kindOf p = 1 then 31 else 84) = m at hcount ⊢
      omega
    · rw [if_pos (by omega), if_neg q]
  have hpage : pageOf (headN p (psum (encB p))) (restB p) = p := by
    unfold pageOf
    simp only [headN, List.getD_cons_zero, List.getD_cons_succ]
    have c1 : (if kindOf p = 1 then readC (countOf p) (restB p) else []) = p.cs := by
      unfold kindOf countOf
      by_cases q : 0 < p.gs.length
      · have : p.cs = [] := by rcases h2 with h2 | h2; exact List.eq_nil_of_length_eq_zero h2; omega
        simp [q, this]
      · have hg : p.gs = [] := List.eq_nil_of_length_eq_zero (by omega)
        simp only [q, if_false, if_true]
        unfold restB bodyB
        rw [hg]
        simp only [grpsB, List.map_nil, List.flatten_nil, List.append_nil]
        exact readC_ctrsB _ _ z1 f1
    have c2 : (if kindOf p = 1 then [] else readG (countOf p) (restB p)) = p.gs := by
      unfold kindOf countOf
      by_cases q : 0 < p.gs.length
      · have hc : p.cs = [] := by rcases h2 with h2 | h2; exact List.eq_nil_of_length_eq_zero h2; omega
        simp only [q, if_true]
        rw [if_neg (by decide)]
        unfold restB bodyB
        rw [hc]
        simp only [ctrsB, List.map_nil, List.flatten_nil, List.nil_append]
        exact readG_grpsB _ _ z2 f2
      · have hg : p.gs = [] := List.eq_nil_of_length_eq_zero (by omega)
        simp [hg]
    rw [c1, c2, hun, hul]
    obtain ⟨pn, pl, pc, pg⟩ := p
    simp only [PageM.mk.injEq, and_true] at *
    omega
  have hend : (restB p).drop (endOf (headN p (psum (encB p)))) = zs (1008 - (bodyB p).length) := by
    have : endOf (headN p (psum (encB p))) = (bodyB p).length := by
      unfold endOf
      simp only [headN, List.getD_cons_zero, List.getD_cons_succ, bodyB, List.length_append, ctrsB_length, grpsB_length]
      unfold kindOf countOf
      by_cases q : 0 < p.gs.length
      · simp only [q, if_true]
        rw [if_neg (by decide)]
        omega
      · simp only [q, if_false, if_true]
        omega
    rw [this]
    unfold restB
    exact List.drop_left' rfl
  have hE : decE (encB p) number = if number = p.num then 0 else 82 := by
    unfold decE
    rw [if_neg (by omega), if_neg (by omega), hz, if_neg (by simp), ht, hd, hhead]
    by_cases q : number = p.num
    · rw [if_pos q, if_neg (by simp), hpage, h7, if_neg (by simp), hend, allZ_zs, if_neg (by simp [headN])]
    · rw [if_neg q, if_pos (by simp)]
  refine ⟨hE, fun q => ?_⟩
  unfold decP
  rw [hE, if_pos q, if_neg (by simp), hz, if_neg (by simp), ht, hd, hpage]

theorem dec_empty {number : Int} (hn : 0 ≤ number ∧ number ≤ 63) : decE (zs 1024) number = 0 ∧ decP (zs 1024) number = ⟨number, 0, [], []⟩ := by
  have e : decE (zs 1024) number = 0 := by
    unfold decE
    rw [if_neg (by omega), if_neg (by simp), allZ_zs, if_pos rfl]
  refine ⟨e, ?_⟩
  unfold decP
  rw [e, if_neg (by simp), allZ_zs, if_pos rfl]

/-- P7.5: what is taken is what is written. -/
theorem enc_dec {b : List Nat} (hb : AllB b) {number : Int} (h : decE b number = 0) :
    checkE (decP b number) = 0 ∧ encB (decP b number) = b ∧ (decP b number).num = number ∧ (decP b number).Fit := by
  have hP : decP b number = if allZ b then ⟨number, 0, [], []⟩ else pageOf (takeN headS b) (b.drop 16) := by unfold decP; rw [h, if_neg (by simp)]
  unfold decE at h
  by_cases q1 : number < 0 ∨ 63 < number
  · rw [if_pos q1] at h; simp at h
  rw [if_neg q1] at h
  by_cases q2 : b.length ≠ 1024
  · rw [if_pos q2] at h; simp at h
  rw [if_neg q2] at h
  simp only [ne_eq, Decidable.not_not] at q2
  have hfn : fit number := ⟨by omega, by omega⟩
  by_cases q3 : allZ b = true
  · rw [if_pos q3] at hP
    rw [hP]
    refine ⟨checkE_of (by simp; omega) (.inl rfl) (by simp) (by simp) (by simp) (by simp [isEmpty]) (by simp [slotsE, firstE]), ?_, rfl, hfn, ⟨by simp, by simp⟩, by simp, by simp⟩
    rw [allZ_iff, q2] at q3
    rw [q3]
    simp [encB, isEmpty]
  rw [if_neg q3] at h hP
  by_cases q4 : headE (takeN headS b) number (psum b) ≠ 0
  · rw [if_pos q4] at h; exact absurd h q4
  rw [if_neg q4] at h
  simp only [ne_eq, Decidable.not_not] at q4
  by_cases q5 : slotsE (pageOf (takeN headS b) (b.drop 16)).cs (pageOf (takeN headS b) (b.drop 16)).gs ≠ 0
  · rw [if_pos q5] at h; exact absurd h q5
  rw [if_neg q5] at h
  simp only [ne_eq, Decidable.not_not] at q5
  by_cases q6 : (takeN headS b).getD 4 0 ≠ 0 ∨ allZ ((b.drop 16).drop (endOf (takeN headS b))) = false
  · rw [if_pos q6] at h; simp at h
  clear h
  simp only [not_or, ne_eq, Decidable.not_not, Bool.not_eq_false] at q6
  rw [hP]
  have hfit := takeN_fit headS b hb (by rw [q2]; decide)
  have hlen := takeN_length headS b
  have hnums := numsB_takeN headS b hb (by rw [q2]; decide)
  have htot : total headS = 16 := rfl
  rw [htot] at hnums
  generalize hN : takeN headS b = n at *
  match n, hlen with
  | [n0, n1, n2, n3, n4, n5, n6], _ =>
    obtain ⟨f0, f1, f2, f3, f4, f5, f6, _⟩ := hfit
    unfold headE at q4
    simp only [List.getD_cons_zero, List.getD_cons_succ, endOf] at q4 q6
    by_cases r0 : n0 ≠ 113
    · rw [if_pos r0] at q4; simp at q4
    rw [if_neg r0] at q4
    by_cases r1 : n1 ≠ 1 ∧ n1 ≠ 2
    · rw [if_pos r1] at q4; simp at q4
    rw [if_neg r1] at q4
    by_cases r2 : n6 ≠ psum b
    · rw [if_pos r2] at q4; simp at q4
    rw [if_neg r2] at q4
    by_cases r3 : (n2 : Int) ≠ number
    · rw [if_pos r3] at q4; simp at q4
    rw [if_neg r3] at q4
    by_cases r4 : n3 < 1 ∨ (if n1 = 1 then 31 else 84) < n3 ∨ n5 < 1 ∨ 2147483647 < n5
    · rw [if_pos r4] at q4; simp at q4
    clear q4
    simp only [ne_eq, Decidable.not_not] at r0 r2 r3
    have hd : AllB (b.drop 16) := hb.drop 16
    have hdl : (b.drop 16).length = 1008 := by simp; omega
    generalize hR : b.drop 16 = r at *
    have hb2 : b = b.take 16 ++ r := by rw [← hR, List.take_append_drop]
    have hn12 : n1 = 1 ∨ n1 = 2 := by omega
    have hn3 : 1 ≤ n3 ∧ (if n1 = 1 then 32 else 12) * n3 ≤ 1008 := by
      rcases hn12 with rfl | rfl <;> simp at r4 ⊢ <;> omega
    have hz := (allZ_iff _).1 q6.2
    rw [List.length_drop, hdl] at hz
    have key : ∀ p, p = pageOf [n0, n1, n2, n3, n4, n5, n6] r → checkE p = 0 ∧ encB p = b ∧ p.num = number ∧ p.Fit := by
      intro p hp
      have en : p.num = number := by rw [hp]; simpa [pageOf] using r3
      have el : p.lsn = (n5 : Int) := by rw [hp]; simp [pageOf]
      have hb16 : b.take 16 = numsB headS [n0, n1, n2, n3, n4, n5, n6] := hnums.symm
      rw [← hp] at q5
      obtain ⟨z1, z2⟩ := slotsE_zero q5
      have shape : (n1 = 1 ∧ p.cs = readC n3 r ∧ p.gs = []) ∨ (n1 = 2 ∧ p.cs = [] ∧ p.gs = readG n3 r) := by
        rcases hn12 with rfl | rfl
        · exact .inl ⟨rfl, by rw [hp]; simp [pageOf], by rw [hp]; simp [pageOf]⟩
        · exact .inr ⟨rfl, by rw [hp]; simp [pageOf], by rw [hp]; simp [pageOf]⟩
      have hbody : bodyB p = r.take ((if n1 = 1 then 32 else 12) * n3) := by
        unfold bodyB
        rcases shape with ⟨rfl, e1, e2⟩ | ⟨rfl, e1, e2⟩
        · rw [e1, e2]
          simp only [if_true, grpsB, List.map_nil, List.flatten_nil, List.append_nil]
          exact ctrsB_readC n3 r hd (by simpa [hdl] using hn3.2)
        · rw [e1, e2]
          rw [if_neg (by decide)]
          simp only [ctrsB, List.map_nil, List.flatten_nil, List.nil_append]
          exact grpsB_readG n3 r hd (by simpa [hdl] using hn3.2)
      have hrest : restB p = r := by
        unfold restB
        rw [hbody, List.length_take, hdl, Nat.min_eq_left hn3.2, ← hz, List.take_append_drop]
      have hne : isEmpty p = false := by
        rcases shape with ⟨rfl, e1, e2⟩ | ⟨rfl, e1, e2⟩
        · have := readC_length n3 r
          simp only [isEmpty, e1, this]
          simp
          omega
        · have := readG_length n3 r
          simp only [isEmpty, e2, this]
          simp
          omega
      have hc : checkE p = 0 := by
        refine checkE_of (by rw [en]; omega) ?_ ?_ ?_ (by rw [el]; omega) ?_ q5
        · rcases shape with ⟨rfl, e1, e2⟩ | ⟨rfl, e1, e2⟩
          · exact .inr (by rw [e2]; rfl)
          · exact .inl (by rw [e1]; rfl)
        · rcases shape with ⟨rfl, e1, e2⟩ | ⟨rfl, e1, e2⟩
          · rw [e1, readC_length]; simp at r4; omega
          · rw [e1]; simp
        · rcases shape with ⟨rfl, e1, e2⟩ | ⟨rfl, e1, e2⟩
          · rw [e2]; simp
          · rw [e2, readG_length]; simp at r4; omega
        · rw [hne, el]
          simp
          omega
      have hhead : headN p n6 = [n0, n1, n2, n3, n4, n5, n6] := by
        unfold headN
        have k1 : kindOf p = n1 ∧ countOf p = n3 := by
          unfold kindOf countOf
          rcases shape with ⟨rfl, e1, e2⟩ | ⟨rfl, e1, e2⟩
          · rw [e1, e2, readC_length]; simp
          · rw [e2, readG_length, if_pos (by omega), if_pos (by omega)]; simp
        have u1 : un p.num = n2 := by rw [un_small (by omega) (by omega)]; omega
        have u2 : un p.lsn = n5 := by rw [un_small (by omega) (by omega)]; omega
        rw [k1.1, k1.2, u1, u2, r0, q6.1]
      have hB : headB p n6 ++ restB p = b := by
        unfold headB
        rw [hhead, hrest, ← hb16]
        exact hb2.symm
      refine ⟨hc, ?_, en, ?_⟩
      · unfold encB
        rw [hne]
        simp only [Bool.false_eq_true, if_false]
        rw [psum_head p 0 n6, hB, ← r2, hB]
      · refine ⟨by rw [en]; exact hfn, by rw [el]; exact ⟨by omega, by omega⟩, ?_, ?_⟩
        · intro c hcm
          rcases shape with ⟨rfl, e1, e2⟩ | ⟨rfl, e1, e2⟩
          · rw [e1] at hcm
            have : ∀ (k : Nat) (b : List Nat), AllB b → 32 * k ≤ b.length → ∀ c ∈ readC k b, c.Fit := by
              intro k
              induction k with
              | zero => intro b _ _ c hc; simp [readC] at hc
              | succ k ih =>
                intro b hb hl c hc
                rw [readC] at hc
                rcases List.mem_cons.1 hc with rfl | hc
                · have hf := takeN_fit ctrS b hb (by simp [ctrS, total]; omega)
                  have hn := takeN_length ctrS b
                  generalize takeN ctrS b = n at *
                  match n, hn with
                  | [n0, n1, n2, n3, n4], _ =>
                    obtain ⟨f0, f1, f2, f3, f4, _⟩ := hf
                    have g0 := lt4 f0
                    have g1 := lt4 f1
                    exact ⟨sg_fit (by simp; omega), sg_fit (by simp; omega), sg_fit (lt8 f2), sg_fit (lt8 f3), sg_fit (lt8 f4)⟩
                · exact ih _ (hb.drop 32) (by simp; omega) c hc
            exact this n3 r hd (by simpa [hdl] using hn3.2) c hcm
          · rw [e1] at hcm; simp at hcm
        · intro c hcm
          rcases shape with ⟨rfl, e1, e2⟩ | ⟨rfl, e1, e2⟩
          · rw [e2] at hcm; simp at hcm
          · rw [e2] at hcm
            have : ∀ (k : Nat) (b : List Nat), AllB b → 12 * k ≤ b.length → ∀ c ∈ readG k b, c.Fit := by
              intro k
              induction k with
              | zero => intro b _ _ c hc; simp [readG] at hc
              | succ k ih =>
                intro b hb hl c hc
                rw [readG] at hc
                rcases List.mem_cons.1 hc with rfl | hc
                · have hf := takeN_fit grpS b hb (by simp [grpS, total]; omega)
                  have hn := takeN_length grpS b
                  generalize takeN grpS b = n at *
                  match n, hn with
                  | [n0, n1], _ =>
                    obtain ⟨f0, f1, _⟩ := hf
                    have g0 := lt4 f0
                    exact ⟨sg_fit (by simp; omega), sg_fit (lt8 f1)⟩
                · exact ih _ (hb.drop 12) (by simp; omega) c hc
            exact this n3 r hd (by simpa [hdl] using hn3.2) c hcm
    exact key _ rfl
end Go.Pg
