import Derived.Test.YtohkmigahbellaaEx2
import Derived.Test.YtohkmigahbellaaScript
import Derived.Deep.CutBlock
namespace Go.Proofs.Ytohkmigahbellaa
open Go.RowKit Go.QK

def playD (g : Dev) (o : OpM) : Dev :=
  if o.k = 2 then g.write o.i (filledB o.fill (fillLen o.len)) else if o.k = 3 then g.sync else if o.k = 4 then g.arm o.i o.l else if o.k = 5 then g.crash o.l else if o.k = 6 then g.up else g

def marks : List Nat := [90, 91]
/-- What a play has in its hands: its boxes, the bytes, the bytes with marks behind them, the words with a mark behind them, each apart from the devices. -/
structure Hand (w : World) (U : Nat → Prop) (B b2 b3 b8 gi gr gl cr cl d c : Nat) (o : OpM) (a : Option Addr) (oc : Nat) (rm : List Nat) : Prop where
  k2 : Cells w b2 [.pointer (some ⟨d, 0, none⟩), .pointer (some ⟨c, 0, none⟩)]
  k3 : Cells w b3 (o.v a oc).toList
  k8 : Cells w b8 [.slice (some ⟨gl, 0, none⟩) o.l.keep.length cl, .int .i64 o.l.torn, .int .i64 o.l.off]
  inn : OwnB w B (.slice (some ⟨gi, 0, none⟩) (fillLen o.len) (fillLen o.len)) (filledB o.fill (fillLen o.len))
  room : OwnB w B (.slice (some ⟨gr, 0, none⟩) (fillLen o.len + 2) cr) rm
  lent : OwnW w B (.slice (some ⟨gl, 0, none⟩) (o.l.keep.length + 1) cl) (o.l.keep ++ [23130])
  orig : Seen .u64 w a (ints o.l.keep)
  out : ∀ x, B ≤ x → x ≤ b8 → ¬ U x ∨ (x ≠ b2 ∧ x ≠ b3 ∧ x ≠ b8 ∧ x ≠ gi ∧ x ≠ gr ∧ x ≠ gl)
  outa : o.l.keep ≠ [] → ∀ ad, a = some ad → ¬ U ad.block ∧ ad.block < B
  ord : B ≤ b2 ∧ b2 < b3 ∧ b3 < gi ∧ gi < gr ∧ gr < gl ∧ gl < b8 ∧ b8 < w.heap.size
theorem Hand.no {w : World} {U : Nat → Prop} {B b2 b3 b8 gi gr gl cr cl d c : Nat} {o : OpM} {a : Option Addr} {oc : Nat} {rm : List Nat} (h : Hand w U B b2 b3 b8 gi gr gl cr cl d c o a oc rm) : ¬ U b2 ∧ ¬ U b3 ∧ ¬ U b8 ∧ ¬ U gi ∧ ¬ U gr ∧ ¬ U gl := by
  obtain ⟨o1, o2, o3, o4, o5, o6, o7⟩ := h.ord
  have f := h.out
  refine ⟨?_, ?_, ?_, ?_, ?_, ?_⟩
  · exact (f b2 (by omega) (by omega)).resolve_right (fun q => q.1 rfl)
  · exact (f b3 (by omega) (by omega)).resolve_right (fun q => q.2.1 rfl)
  · exact (f b8 (by omega) (by omega)).resolve_right (fun q => q.2.2.1 rfl)
  · exact (f gi (by omega) (by omega)).resolve_right (fun q => q.2.2.2.1 rfl)
  · exact (f gr (by omega) (by omega)).resolve_right (fun q => q.2.2.2.2.1 rfl)
  · exact (f gl (by omega) (by omega)).resolve_right (fun q => q.2.2.2.2.2 rfl)
theorem Hand.step {w w' : World} {U U' : Nat → Prop} {B b2 b3 b8 gi gr gl cr cl d c : Nat} {o : OpM} {a : Option Addr} {oc : Nat} {rm : List Nat} (h : Hand w U B b2 b3 b8 gi gr gl cr cl d c o a oc rm) (hs : Step w U w' U') : Hand w' U' B b2 b3 b8 gi gr gl cr cl d c o a oc rm := by
  obtain ⟨n2, n3, n8, ni, nr, nl⟩ := h.no
  obtain ⟨o1, o2, o3, o4, o5, o6, o7⟩ := h.ord
  have up : ∀ x, x < w.heap.size → ¬ U x → ¬ U' x := fun x hx hn q => (hs.2 x q).elim hn (fun r => by omega)
  refine ⟨h.k2.keep hs.1 n2, h.k3.keep hs.1 n3, h.k8.keep hs.1 n8, Owns.keep h.inn hs.1 (fun g hg => by
    have e : gi = g := Option.some.inj hg
    exact e ▸ ni), Owns.keep h.room hs.1 (fun g hg => by
    have e : gr = g := Option.some.inj hg
    exact e ▸ nr), Owns.keep h.lent hs.1 (fun g hg => by
    have e : gl = g := Option.some.inj hg
    exact e ▸ nl), Seen.keep' h.orig hs.1 (fun hx ad had => (h.outa (ints_ne hx) ad had).1), fun x h1 h2 => ?_, fun hx ad had => ⟨up _ (by have := (h.outa hx ad had).2; omega) (h.outa hx ad had).1, (h.outa hx ad had).2⟩, by have := hs.1.size; omega⟩
  rcases h.out x h1 h2 with q | q
  · exact .inl (up x (by omega) q)
  · exact .inr q
theorem Hand.below {w w' : World} {U : Nat → Prop} {B b2 b3 b8 gi gr gl cr cl d c : Nat} {o : OpM} {a : Option Addr} {oc : Nat} {rm : List Nat} (h : Hand w U B b2 b3 b8 gi gr gl cr cl d c o a oc rm) (hb : Below w.heap.size w w') : Hand w' U B b2 b3 b8 gi gr gl cr cl d c o a oc rm := h.step (Step.of_below hb)
/-- The bytes with the marks were written over. -/
theorem Hand.wrote {w w' : World} {U : Nat → Prop} {B b2 b3 b8 gi gr gl cr cl d c : Nat} {o : OpM} {a : Option Addr} {oc : Nat} {rm rm' : List Nat} (h : Hand w U B b2 b3 b8 gi gr gl cr cl d c o a oc rm) (hk : Keep (fun b => b = gr) w w') (hr : OwnB w' B (.slice (some ⟨gr, 0, none⟩) (fillLen o.len + 2) cr) rm') : Hand w' U B b2 b3 b8 gi gr gl cr cl d c o a oc rm' := by
  obtain ⟨o1, o2, o3, o4, o5, o6, o7⟩ := h.ord
  refine ⟨h.k2.keep hk (by omega), h.k3.keep hk (by omega), h.k8.keep hk (by omega), Owns.keep h.inn hk (fun g hg => by
    have e : gi = g := Option.some.inj hg
    omega), hr, Owns.keep h.lent hk (fun g hg => by
    have e : gl = g := Option.some.inj hg
    omega), Seen.keep' h.orig hk (fun hx ad had => by have := (h.outa (ints_ne hx) ad had).2; omega), h.out, h.outa, by have := hk.size; omega⟩
/-- The cells that a play reads. -/
def HC (b2 b3 b8 gl cl d c : Nat) (o : OpM) (a : Option Addr) (oc : Nat) (x : World) : Prop :=
  x.cell? ⟨b2, 0, none⟩ = some (.pointer (some ⟨d, 0, none⟩)) ∧ x.cell? ⟨b2, 1, none⟩ = some (.pointer (some ⟨c, 0, none⟩)) ∧ x.cell? ⟨b3, 2, none⟩ = some (.int .i64 o.i) ∧ x.cell? ⟨b3, 5, none⟩ = some (.slice a o.l.keep.length oc) ∧ x.cell? ⟨b3, 6, none⟩ = some (.int .i64 o.l.torn) ∧ x.cell? ⟨b3, 7, none⟩ = some (.int .i64 o.l.off) ∧
  x.cell? ⟨b8, 0, none⟩ = some (.slice (some ⟨gl, 0, none⟩) o.l.keep.length cl) ∧ x.cell? ⟨b8, 1, none⟩ = some (.int .i64 o.l.torn) ∧ x.cell? ⟨b8, 2, none⟩ = some (.int .i64 o.l.off)
theorem Hand.hc {w : World} {U : Nat → Prop} {B b2 b3 b8 gi gr gl cr cl d c : Nat} {o : OpM} {a : Option Addr} {oc : Nat} {rm : List Nat} (h : Hand w U B b2 b3 b8 gi gr gl cr cl d c o a oc rm) : HC b2 b3 b8 gl cl d c o a oc w :=
  ⟨(h.k2.get 0 _ rfl).1, (h.k2.get 1 _ rfl).1, (h.k3.get 2 _ rfl).1, (h.k3.get 5 _ rfl).1, (h.k3.get 6 _ rfl).1, (h.k3.get 7 _ rfl).1, (h.k8.get 0 _ rfl).1, (h.k8.get 1 _ rfl).1, (h.k8.get 2 _ rfl).1⟩
theorem Hand.lossP {w : World} {U : Nat → Prop} {B b2 b3 b8 gi gr gl cr cl d c : Nat} {o : OpM} {a : Option Addr} {oc : Nat} {rm : List Nat} (h : Hand w U B b2 b3 b8 gi gr gl cr cl d c o a oc rm) (ok : o.l.Ok) : LossAt w o.l (some ⟨gl, 0, none⟩) cl := by
  have q := Seen.take (Owns.seen_at h.lent) o.l.keep.length
  have e : (ints (o.l.keep ++ [23130])).take o.l.keep.length = ints o.l.keep := by simp [ints]
  rw [e] at q
  obtain ⟨_, cp, hv, _, _, hle, _⟩ := h.lent.seen
  have e2 : (ints (o.l.keep ++ [23130])).length = o.l.keep.length + 1 := by simp
  rw [e2] at hv hle
  cases hv
  exact ⟨q, nofun, by omega, ok⟩
theorem readB_allB {g : Dev} (ok : g.Ok) (i : Int) : AllB (g.readB i) := by
  unfold Dev.readB
  split
  · exact content_allB ok _
  · exact AllB.nil
theorem Pr.keep {w w' : World} {S T V : Nat → Prop} {d c : Nat} {g k : Dev} (h : Pr w S d g T c k) (hk : Keep V w w') (hV : ∀ b, V b → ¬ (S b ∨ T b)) : Pr w' S d g T c k := ⟨h.one.keep hk (fun b q r => hV b q (.inl r)), h.two.keep hk (fun b q r => hV b q (.inr r)), h.ap⟩
theorem marked_get (fill m : Nat) : (filledB fill m ++ marks).getD m 0 = 90 ∧ (filledB fill m ++ marks).getD (m + 1) 0 = 91 := by
  have e := filledB_length fill m
  refine ⟨?_, ?_⟩ <;> simp [e, marks]
theorem marked_take (fill m : Nat) : (filledB fill m ++ marks).take m = filledB fill m := by
  have e := filledB_length fill m
  simp [e]

set_option maxHeartbeats 8000000 in
set_option maxRecDepth 100000 in
theorem plays_any {w : World} {S T : Nat → Prop} {d c : Nat} {g : Dev} (h : Pr w S d g T c g) (o : OpM) (a : Option Addr) (oc : Nat) (ho : OpOk w o a oc) (hi : o.i ≤ 9223372036854775807) (hl : o.l.keep ≠ [] → ∀ ad, a = some ad → ¬ S ad.block ∧ ¬ T ad.block) (hpl : g.pend.length ≤ 999999) (hcl : g.calls ≤ 1000000) :
    Calls Try.prog 35 #[.agg #[.pointer (some ⟨d, 0, none⟩), .pointer (some ⟨c, 0, none⟩)], .agg (o.v a oc)] w fun e w' => ∃ S' T', e = .returned (.bool true) ∧ Pr w' S' d (playD g o) T' c (playD g o) ∧ Step w (fun b => S b ∨ T b) w' (fun b => S' b ∨ T' b) := by
  have HLow := hide (fun hk ad had => ho.loss.low hk ad had)
  have B0 := alloc_below w (.cells #[.pointer (some ⟨d, 0, none⟩), .pointer (some ⟨c, 0, none⟩)] 71)
  have C0 := Cells.new w #[.pointer (some ⟨d, 0, none⟩), .pointer (some ⟨c, 0, none⟩)] 71
  have B1 := alloc_below (w.alloc (.cells #[.pointer (some ⟨d, 0, none⟩), .pointer (some ⟨c, 0, none⟩)] 71)) (.cells (o.v a oc) 39)
  have C1 := Cells.new (w.alloc (.cells #[.pointer (some ⟨d, 0, none⟩), .pointer (some ⟨c, 0, none⟩)] 71)) (o.v a oc) 39
  have C0 := C0.below B1
  have BB := hide (bnext B0 B1 (Nat.le_refl _))
  have sz : ((w.alloc (.cells #[.pointer (some ⟨d, 0, none⟩), .pointer (some ⟨c, 0, none⟩)] 71)).alloc (.cells (o.v a oc) 39)).heap.size = w.heap.size + 2 := by simp
  rw [World.size_alloc] at C1
  have O1 := hide ((ho.below B0).below B1)
  have P1 := hide ((h.below B0).below B1)
  have HV : Hid (o.v a oc = #[.int .i64 o.k, .bool o.two, .int .i64 o.i, .int .u8 (o.fill : Int), .int .i64 o.len, .slice a o.l.keep.length oc, .int .i64 o.l.torn, .int .i64 o.l.off]) := rfl
  obtain ⟨W, hW⟩ : ∃ W, W = ((w.alloc (.cells #[.pointer (some ⟨d, 0, none⟩), .pointer (some ⟨c, 0, none⟩)] 71)).alloc (.cells (o.v a oc) 39)) := ⟨_, rfl⟩
  rw [← hW] at C0 C1 BB sz O1 P1
  have HP := hide h
  have HLo := hide hl
  rw [HV.out] at hW
  have HW := hide hW.symm
  have SZ := hide sz
  obtain ⟨u0, _⟩ := C1.get 0 _ rfl
  obtain ⟨u1, _⟩ := C1.get 1 _ rfl
  obtain ⟨u2, _⟩ := C1.get 2 _ rfl
  obtain ⟨u3, _⟩ := C1.get 3 _ rfl
  obtain ⟨u4, _⟩ := C1.get 4 _ rfl
  obtain ⟨u5, _⟩ := C1.get 5 _ rfl
  obtain ⟨u6, _⟩ := C1.get 6 _ rfl
  obtain ⟨u7, _⟩ := C1.get 7 _ rfl
  have HC0 := hide C0
  have HC1 := hide C1
  have FI := filled_any o.k o.two o.i o.fill o.len a o.l.keep.length oc o.l.torn o.l.off W
  unfold opC at FI
  have HFI := hide FI
  clear C0 C1 B0 B1 hW sz h hl FI ho
  rw [HV.out]
  go_enter Try.func35, Try.ntmps35
  go_upto_region 1 with fail
  rw [HW.out]
  go_wp2_with fail
  refine HFI.out.mono ?_
  rintro e w1 ⟨gi, rfl, oi, b1⟩
  have hm := fillLen_le o.len
  have HC2 := hide (HC0.out.below b1)
  have HC3 := hide (HC1.out.below b1)
  have OI := hide (Owns.seen_at oi)
  have OI2 := hide oi
  have hgi := World.ownsRow.lt oi gi rfl
  have B1 := hide b1
  have z1 := b1.size
  clear oi b1 u0 u1 u2 u3 u4 u5 u6 u7 HC0 HC1 HFI
  have FL := hide (filledB_length o.fill (fillLen o.len))
  have HMM := hide (show ∃ mm, mm = fillLen o.len from ⟨_, rfl⟩)
  go_wp2_with (at_builtin; refine append_own Try.underlying37 info5 rfl (.const (.slice none 0 0)) (.tmp 28) rfl w1.heap.size _ [] rfl (Owns.nil _ _ _ _) (some ⟨gi, 0, none⟩) (fillLen o.len) (fillLen o.len) (ints (filledB o.fill (fillLen o.len))) ?c0 rfl OI.out nofun ?c1 ?c2 (Nat.le_refl _) ?_)
  case c0 => simp [FL.out]
  case c1 => unfold maxLen; simp [FL.out]; omega
  case c2 => first | (simp [FL.out]; omega) | (rw [FL.out]; omega)
  intro v2 w2 o2 g2 _
  (try rw [List.nil_append] at o2)
  have b2 : Below w1.heap.size w1 w2 := (Below.refl _ _).grown g2 (Nat.le_refl _) (by nofun)
  have O2 := hide (o2.alloc (.cells #[.int .u8 90, .int .u8 91] 5))
  have hlt2 : ∀ b, v2.ownBlock = some b → w1.heap.size ≤ b ∧ b < w2.heap.size := fun b hb => World.ownsRow.lt o2 b hb
  have z2 := b2.size
  have B2 := hide b2
  have SM : Hid (Seen .u8 (w2.alloc (.cells #[.int .u8 90, .int .u8 91] 5)) (some ⟨w2.heap.size, 0, none⟩) [90, 91]) := by
    refine .inr ⟨w2.heap.size, 0, rfl, by simp, fun i hi => ?_⟩
    rw [World.cell?_alloc_new]
    match i, hi with
    | 0, _ => rfl
    | 1, _ => rfl
  clear o2 g2 b2
  go_wp2_with (at_builtin; refine append_own Try.underlying37 info5 rfl (.tmp 29) (.tmp 30) rfl w1.heap.size v2 (ints (filledB o.fill (fillLen o.len))) rfl O2.out (some ⟨w2.heap.size, 0, none⟩) 2 2 [90, 91] rfl rfl SM.out nofun ?d1 ?d2 ?d3 ?_)
  case d1 => unfold maxLen; simp [FL.out]; omega
  case d2 => first | (simp [FL.out]; omega) | (rw [FL.out]; omega)
  case d3 => first | (simp; omega) | omega
  intro v3 w3 o3 g3 m3
  have k3 : Keep (fun b => v2.ownBlock = some b) w2 w3 := ((Keep.refl (fun b => v2.ownBlock = some b) w2).alloc _).grown g3 (fun _ q _ => q)
  obtain ⟨gr, cr, hv3, hcr, hBr, hgr⟩ := o3.form (by simp)
  have hlen3 : (ints (filledB o.fill (fillLen o.len)) ++ [90, 91]).length = fillLen o.len + 2 := by simp [FL.out]
  rw [hlen3] at hv3 hcr
  subst hv3
  have hcm3 : cr ≤ maxLen := by
    obtain ⟨_, cp, hv, _, _, _, hm⟩ := o3.seen
    rw [hlen3] at hv
    cases hv
    exact hm
  have b3 : Below w1.heap.size w1 w3 := B2.out.trans (k3.below z2 (fun j hj q => by have := hlt2 j q; omega))
  have z3 := k3.size
  have O3 : Hid (OwnB w3 w1.heap.size (.slice (some ⟨gr, 0, none⟩) (fillLen o.len + 2) cr) (filledB o.fill (fillLen o.len) ++ marks)) := by
    show OwnB _ _ _ _
    have e : ints (filledB o.fill (fillLen o.len) ++ marks) = ints (filledB o.fill (fillLen o.len)) ++ [90, 91] := by simp [ints, marks]
    unfold OwnB
    rw [e]
    exact o3
  have HC4 := hide (HC2.out.below b3)
  have HC5 := hide (HC3.out.below b3)
  have OI3 := hide (Owns.below OI2.out b3)
  have OK3 := hide ((O1.out.below B1.out).below b3)
  have P3 := hide ((P1.out.below B1.out).below b3)
  have BB3 := hide (bnext (bnext BB.out B1.out (Nat.le_refl _)) b3 (Nat.le_refl _))
  obtain ⟨u0, _⟩ := HC5.out.get 0 _ rfl
  obtain ⟨u5, _⟩ := HC5.out.get 5 _ rfl
  obtain ⟨u6, _⟩ := HC5.out.get 6 _ rfl
  obtain ⟨u7, _⟩ := HC5.out.get 7 _ rfl
  have LE := hide (lent_any o.l a oc w3 OK3.out.loss OK3.out.len)
  have hgr2 : gi < gr ∧ gr < w3.heap.size ∧ w.heap.size + 1 < gi := by have := SZ.out; omega
  clear o3 g3 m3 O2 SM hlen3 k3 hlt2 HC2 HC3 OI2 OI O1 P1 BB B1 B2 b3
  go_wp2_with fail
  refine LE.out.mono ?_
  rintro e w4 ⟨gl, cl, rfl, ol, hcl4, b4⟩
  have bA := alloc_below w4 (.cells #[.slice (some ⟨gl, 0, none⟩) o.l.keep.length cl, .int .i64 o.l.torn, .int .i64 o.l.off] 26)
  have C8 := Cells.new w4 #[.slice (some ⟨gl, 0, none⟩) o.l.keep.length cl, .int .i64 o.l.torn, .int .i64 o.l.off] 26
  have hgl := World.ownsRow.lt ol gl rfl
  have z4 := b4.size
  have b5 := bnext b4 bA (Nat.le_refl _)
  have HH : Hand (w4.alloc (.cells #[.slice (some ⟨gl, 0, none⟩) o.l.keep.length cl, .int .i64 o.l.torn, .int .i64 o.l.off] 26)) (fun b => S b ∨ T b) w.heap.size w.heap.size (w.heap.size + 1) w4.heap.size gi gr gl cr cl d c o a oc (filledB o.fill (fillLen o.len) ++ marks) := by
    refine ⟨HC4.out.below b5, HC5.out.below b5, C8, Owns.base (Owns.below OI3.out b5) (by have := SZ.out; omega), Owns.base (Owns.below O3.out b5) (by have := SZ.out; omega), Owns.base (Owns.below ol bA) (by have := SZ.out; omega), OK3.out.loss.seen.below b5, fun x h1 h2 => .inl (fun q => ?_), fun hk ad had => ⟨fun q => q.elim (HLo.out hk ad had).1 (HLo.out hk ad had).2, HLow.out hk ad had⟩, ?_⟩
    · rcases q with q | q
      · have := HP.out.one.lt x q; omega
      · have := HP.out.two.lt x q; omega
    · rw [World.size_alloc]
      have := SZ.out
      omega
  have P5 := hide (P3.out.below b5)
  have BB5 := hide (bnext BB3.out b5 (Nat.le_refl _))
  have OK5 := hide (OK3.out.below b5)
  have c30 := (HH.k3.get 0 _ rfl).1
  have HHH := hide HH
  clear HC4 HC5 OI3 O3 OK3 P3 BB3 u0 u5 u6 u7 LE ol b4 bA C8 b5 HH
  go_upto_block 0 with fail
  obtain ⟨w5, hw5⟩ : ∃ w5, w5 = (w4.alloc (.cells #[.slice (some ⟨gl, 0, none⟩) o.l.keep.length cl, .int .i64 o.l.torn, .int .i64 o.l.off] 26)) := ⟨_, rfl⟩
  rw [← hw5] at P5 BB5 OK5 c30 HHH ⊢
  clear hw5
  go_cut [9] (fun s w' => s = .bool true ∧ ∃ S' T', Pr w' S' d (playD g o) T' c (playD g o) ∧ Step w (fun b => S b ∨ T b) w' (fun b => S' b ∨ T' b) ∧ Hand w' (fun b => S' b ∨ T' b) w.heap.size w.heap.size (w.heap.size + 1) w4.heap.size gi gr gl cr cl d c o a oc (filledB o.fill (fillLen o.len) ++ marks))
  case rest =>
    obtain ⟨rfl, S', T', hp, hst, hh⟩ := hcut
    have c30 := (hh.k3.get 0 _ rfl).1
    obtain ⟨q5, _⟩ := hh.k3.get 5 _ rfl
    obtain ⟨q6, _⟩ := hh.k3.get 6 _ rfl
    obtain ⟨q7, _⟩ := hh.k3.get 7 _ rfl
    obtain ⟨t0, _⟩ := hh.k8.get 0 _ rfl
    obtain ⟨t1, _⟩ := hh.k8.get 1 _ rfl
    obtain ⟨t2, _⟩ := hh.k8.get 2 _ rfl
    have SP := hide (spoilt_any o.l a oc gl cl w.heap.size o.l.torn o.l.off wc hh.orig OK5.out.len hh.lent hcl4)
    have HPR := hide hp
    have HST := hide hst
    have HHH := hide hh
    clear hp hst hh P5
    go_wp2_with fail
    refine SP.out.mono ?_
    rintro e w6 ⟨rfl, k6⟩
    have ordd := HHH.out.ord
    obtain ⟨_, _, _, _, ngr, ngl⟩ := HHH.out.no
    have RM := Owns.keep HHH.out.room k6 (fun b hb => by
      have e : gr = b := Option.some.inj hb
      omega)
    have IN := Owns.keep HHH.out.inn k6 (fun b hb => by
      have e : gi = b := Option.some.inj hb
      omega)
    have RB : Bytes w6 (some ⟨gr, 0, none⟩) (filledB o.fill (fillLen o.len) ++ marks) := Owns.seen_at RM
    have SA := same_any (some ⟨gr, 0, none⟩) (some ⟨gi, 0, none⟩) (filledB o.fill (fillLen o.len)) (filledB o.fill (fillLen o.len)) cr (fillLen o.len) w6 (by have q := RB.take (fillLen o.len); rw [marked_take] at q; exact q) (Owns.seen_at IN) (filledB_allB _ _) (filledB_allB _ _)
    rw [decide_eq_true rfl, FL.out] at SA
    have HSA := hide SA
    have r0 : w6.cell? ⟨gr, fillLen o.len, none⟩ = some (.int .u8 90) := by
      obtain ⟨b, f, hab, _, hc⟩ := RB.at (i := fillLen o.len) (by simp [FL.out, marks])
      cases hab
      rw [Nat.zero_add, (marked_get _ _).1] at hc
      exact hc
    have r1 : w6.cell? ⟨gr, fillLen o.len + 1, none⟩ = some (.int .u8 91) := by
      obtain ⟨b, f, hab, _, hc⟩ := RB.at (i := fillLen o.len + 1) (by simp [FL.out, marks])
      cases hab
      rw [Nat.zero_add, (marked_get _ _).2] at hc
      exact hc
    have OL : Hid (∃ L : List Int, L.length = fillLen o.len + 2 ∧ Owns .u8 5 w6 w.heap.size (.slice (some ⟨gr, 0, none⟩) (fillLen o.len + 2) cr) L) := ⟨_, by simp [FL.out, marks], RM⟩
    have f1 : (fillLen o.len : Int) ≤ (cr : Int) := by omega
    have f2 : fillLen o.len ≤ cr := by omega
    have f3 : IntKind.i64.wrap ((fillLen o.len : Int) + 1) = (fillLen o.len : Int) + 1 := by rw [IntKind.wrap_i64]; omega
    have f4 : (fillLen o.len : Int) + 1 < (fillLen o.len : Int) + 2 := by omega
    have f5 : (fillLen o.len : Int) < (fillLen o.len : Int) + 2 := by omega
    have ORD := hide ordd
    have K6 := hide k6
    clear SA RM IN RB ordd k6 c30 q5 q6 q7 t0 t1 t2 SP
    go_wp2_with fail
    refine HSA.out.mono ?_
    rintro e w' ⟨rfl, hw⟩
    obtain rfl : w6 = w' := hw.symm
    clear HSA
    go_wp2_with fail
    go_loopw [23] (fun j wr => ∃ q : Nat, q ≤ fillLen o.len + 2 ∧ j = .int .i64 (q : Int) ∧ ∃ L : List Int, L.length = fillLen o.len + 2 ∧ Owns .u8 5 wr w.heap.size (.slice (some ⟨gr, 0, none⟩) (fillLen o.len + 2) cr) L ∧ Keep (fun b => b = gr) w6 wr) (fun j _ => fillLen o.len + 2 - (intOf j).toNat)
    case atStart =>
      obtain ⟨L, l1, l2⟩ := OL.out
      exact ⟨0, Nat.zero_le _, rfl, L, l1, l2, Keep.refl _ _⟩
    case round =>
      obtain ⟨q, hq, rfl, L, hL, hown, hkeep⟩ := hrel
      by_cases hlt : q < fillLen o.len + 2
      · obtain ⟨b2, off2, hab, hb2, hc2⟩ := Seen.at (Owns.seen_at hown) (i := q) (by omega)
        cases hab
        rw [Nat.zero_add] at hc2
        obtain ⟨z, hz⟩ : ∃ z, wr.cell? ⟨gr, q, none⟩ = some (.int .u8 z) := ⟨_, hc2⟩
        clear hc2
        have hfz := Owns.frozen hown q
        have O2 := hide (Owns.stored hown q 102)
        have K2 := hide (hkeep.setCell (fun _ => rfl) (j := q) (g := gr) (.int .u8 102))
        have hlk : (q : Int) < (fillLen o.len : Int) + 2 := by omega
        clear hown hkeep r0 r1
        go_wp2_with fail
        go_roundw
        case rel => exact ⟨q + 1, by omega, by go_num, _, by simpa using hL, O2.out, K2.out⟩
        case measure => simp [intOf]; omega
      · obtain rfl : q = fillLen o.len + 2 := by omega
        have KK := hide hkeep
        clear hown hkeep r0 r1
        go_wp2_with fail
        go_ret
        have ordd := ORD.out
        refine ⟨S', T', rfl, (HPR.out.keep K6.out (fun b q => q ▸ ngl)).keep KK.out (fun b q => q ▸ ngr), ?_⟩
        have st := HST.out
        exact ⟨(st.1.trans K6.out (fun j hj q => by omega)).trans KK.out (fun j hj q => by omega), st.2⟩
  case first =>
    obtain ⟨x0, x1, x2, x5, x6, x7, y0, y1, y2⟩ := HHH.out.hc
    have bD : Below w5.heap.size w5 w5.drew := (Below.refl _ _).drew
    have PD := hide (P5.out.below bD)
    have HD := hide (HHH.out.below bD)
    have OKL := hide OK5.out.loss.ok
    have LS := hide OK5.out.loss
    have f1 : (fillLen o.len : Int) ≤ (cr : Int) := by omega
    have f2 : fillLen o.len ≤ cr := by omega
    by_cases h1 : o.k = 1
    · have e1 : (o.k == 1) = true := by simp [h1]
      have EP := hide (show playD g o = g by unfold playD; rw [h1]; rfl)
      clear h1
      go_wp2_with fail
      refine (read_any P5.out.one o.i (by omega)).mono ?_
      rintro e w6 ⟨v6, rfl, o6, b6⟩
      have P6 := hide (P5.out.below b6)
      have H6 := hide (HHH.out.below b6)
      have O6 := hide o6
      obtain ⟨x0, x1, x2, x5, x6, x7, y0, y1, y2⟩ := H6.out.hc
      have B6 := hide b6
      clear o6 b6
      go_wp2_with fail
      refine (rRead_any P6.out.two o.i (by omega)).mono ?_
      rintro e w7 ⟨v7, rfl, o7, b7⟩
      have P7 := hide (P6.out.below b7)
      have H7 := hide (H6.out.below b7)
      obtain ⟨a6, c6, hv6, sn6, _⟩ := (Owns.below O6.out b7).seen
      obtain ⟨a7, c7, hv7, sn7, _⟩ := o7.seen
      rw [ints_length] at hv6 hv7
      subst hv6 hv7
      have SA := hide (same_any a6 a7 (g.readB o.i) (g.readB o.i) c6 c7 w7 sn6 sn7 (readB_allB P5.out.one.ok _) (readB_allB P5.out.one.ok _))
      rw [decide_eq_true rfl] at SA
      have B7 := hide (bnext B6.out b7 (Nat.le_refl _))
      clear o7 b7 sn6 sn7 O6 P6 H6 B6
      go_wp2_with fail
      refine (num_any _ _).mono ?_
      rintro e w' ⟨rfl, hw⟩
      obtain rfl : w7 = w' := hw.symm
      go_wp2_with fail
      refine SA.out.mono ?_
      rintro e w' ⟨rfl, hw⟩
      obtain rfl : w7 = w' := hw.symm
      clear SA
      go_wp2_with fail
      go_meet
      refine ⟨rfl, S, T, ?_, (Step.of_below BB5.out).trans (Step.of_below B7.out), H7.out⟩
      rw [EP.out]
      exact P7.out
    · have e1 : (o.k == 1) = false := by simp [h1]
      by_cases h2 : o.k = 2
      · have e2 : (o.k == 2) = true := by simp [h2]
        have EP := hide (show playD g o = g.write o.i (filledB o.fill (fillLen o.len)) by unfold playD; rw [h2]; rfl)
        have RBP : Bytes w5.drew (some ⟨gr, 0, none⟩) (filledB o.fill (fillLen o.len)) := by
          have q := (show Bytes w5.drew (some ⟨gr, 0, none⟩) (filledB o.fill (fillLen o.len) ++ marks) from Owns.seen_at HD.out.room).take (fillLen o.len)
          rw [marked_take] at q
          exact q
        have WR := write_any PD.out.one o.i (some ⟨gr, 0, none⟩) (filledB o.fill (fillLen o.len)) cr RBP (by rw [FL.out]; exact f2) nofun (filledB_allB _ _) (by rw [FL.out]; omega) hpl hcl
        rw [FL.out] at WR
        have HWR := hide WR
        clear WR RBP
        clear h1 h2
        go_upto_region 12 with fail
        refine wp_region_held_drew (S := (HC w.heap.size (w.heap.size + 1) w4.heap.size gl cl d c o a oc)) (by kernel_rfl) ⟨x0, x1, x2, x5, x6, x7, y0, y1, y2⟩ (fun hS => ?_)
        refine take_at 0 (some 66) (v := ?_) rfl rfl (by kernel_rfl) (by kernel_rfl) (by kernel_rfl) (fun _ _ _ h => h) ⟨by rfl, ?_⟩ hS ?_
        rotate_left
        · intro wq hSw; obtain ⟨x0, x1, x2, x5, x6, x7, y0, y1, y2⟩ := hSw; go_simp; try rfl
        simp only [Act.put, List.setIfInBounds_toArray, List.set_cons_zero, List.set_cons_succ]
        refine take_at 1 (some 67) (v := ?_) rfl rfl (by kernel_rfl) (by kernel_rfl) (by kernel_rfl) (fun _ _ _ h => h) ⟨by rfl, ?_⟩ hS ?_
        rotate_left
        · intro wq hSw; obtain ⟨x0, x1, x2, x5, x6, x7, y0, y1, y2⟩ := hSw; go_simp; try rfl
        simp only [Act.put, List.setIfInBounds_toArray, List.set_cons_zero, List.set_cons_succ]
        refine take_at 2 (some 68) (v := ?_) rfl rfl (by kernel_rfl) (by kernel_rfl) (by kernel_rfl) (fun _ _ _ h => h) ⟨by rfl, ?_⟩ hS ?_
        rotate_left
        · intro wq hSw; obtain ⟨x0, x1, x2, x5, x6, x7, y0, y1, y2⟩ := hSw; go_simp; try rfl
        simp only [Act.put, List.setIfInBounds_toArray, List.set_cons_zero, List.set_cons_succ]
        refine take_at 3 (some 69) (v := ?_) rfl rfl (by kernel_rfl) (by kernel_rfl) (by kernel_rfl) (fun _ _ _ h => h) ⟨by rfl, ?_⟩ hS ?_
        rotate_left
        · intro wq hSw; obtain ⟨x0, x1, x2, x5, x6, x7, y0, y1, y2⟩ := hSw; go_simp; try rfl
        simp only [Act.put, List.setIfInBounds_toArray, List.set_cons_zero, List.set_cons_succ]
        refine take_at 4 (some 70) (v := ?_) rfl rfl (by kernel_rfl) (by kernel_rfl) (by kernel_rfl) (fun _ _ _ h => h) ⟨by rfl, ?_⟩ hS ?_
        rotate_left
        · intro wq hSw; obtain ⟨x0, x1, x2, x5, x6, x7, y0, y1, y2⟩ := hSw; go_simp; try rfl
        simp only [Act.put, List.setIfInBounds_toArray, List.set_cons_zero, List.set_cons_succ]
        refine take_at 5 (some 71) (v := ?_) rfl rfl (by kernel_rfl) (by kernel_rfl) (by kernel_rfl) (fun _ _ _ h => h) ⟨by rfl, ?_⟩ hS ?_
        rotate_left
        · intro wq hSw; obtain ⟨x0, x1, x2, x5, x6, x7, y0, y1, y2⟩ := hSw; go_simp; try rfl
        simp only [Act.put, List.setIfInBounds_toArray, List.set_cons_zero, List.set_cons_succ]
        refine take_at 6 (some 72) (v := ?_) rfl rfl (by kernel_rfl) (by kernel_rfl) (by kernel_rfl) (fun _ _ _ h => h) ⟨by rfl, ?_⟩ hS ?_
        rotate_left
        · intro wq hSw; obtain ⟨x0, x1, x2, x5, x6, x7, y0, y1, y2⟩ := hSw; go_simp; try rfl
        simp only [Act.put, List.setIfInBounds_toArray, List.set_cons_zero, List.set_cons_succ]
        refine take_at 9 (some 75) (v := ?_) rfl rfl (by kernel_rfl) (by kernel_rfl) (by kernel_rfl) (fun _ _ _ h => h) ⟨by rfl, ?_⟩ hS ?_
        rotate_left
        · intro wq hSw; obtain ⟨x0, x1, x2, x5, x6, x7, y0, y1, y2⟩ := hSw; go_simp; try rfl
        simp only [Act.put, List.setIfInBounds_toArray, List.set_cons_zero, List.set_cons_succ]
        refine take_at 10 (some 76) (v := ?_) rfl rfl (by kernel_rfl) (by kernel_rfl) (by kernel_rfl) (fun _ _ _ h => h) ⟨by rfl, ?_⟩ hS ?_
        rotate_left
        · intro wq hSw; obtain ⟨x0, x1, x2, x5, x6, x7, y0, y1, y2⟩ := hSw; go_simp; try rfl
        simp only [Act.put, List.setIfInBounds_toArray, List.set_cons_zero, List.set_cons_succ]
        refine take_at 11 (some 77) (v := ?_) rfl rfl (by kernel_rfl) (by kernel_rfl) (by kernel_rfl) (fun _ _ _ h => h) ⟨by rfl, ?_⟩ hS ?_
        rotate_left
        · intro wq hSw; obtain ⟨x0, x1, x2, x5, x6, x7, y0, y1, y2⟩ := hSw; go_simp; try rfl
        simp only [Act.put, List.setIfInBounds_toArray, List.set_cons_zero, List.set_cons_succ]
        refine take_at 12 (some 78) (v := ?_) rfl rfl (by kernel_rfl) (by kernel_rfl) (by kernel_rfl) (fun _ _ _ h => h) ⟨by rfl, ?_⟩ hS ?_
        rotate_left
        · intro wq hSw; obtain ⟨x0, x1, x2, x5, x6, x7, y0, y1, y2⟩ := hSw; go_simp; try rfl
        simp only [Act.put, List.setIfInBounds_toArray, List.set_cons_zero, List.set_cons_succ]
        refine take_at 13 (some 79) (v := ?_) rfl rfl (by kernel_rfl) (by kernel_rfl) (by kernel_rfl) (fun _ _ _ h => h) ⟨by rfl, ?_⟩ hS ?_
        rotate_left
        · intro wq hSw; obtain ⟨x0, x1, x2, x5, x6, x7, y0, y1, y2⟩ := hSw; go_simp; try rfl
        simp only [Act.put, List.setIfInBounds_toArray, List.set_cons_zero, List.set_cons_succ]
        refine wpAnyH_ready (rs := [7]) (by kernel_rfl) (by simp) ?_
        refine AllReadyH.cons rfl (fun K hK => ?_) AllReadyH.nil
        go_simp
        go_wp2_with fail
        refine HWR.out.mono ?_
        rintro e w6 ⟨S6, rfl, D6, st6⟩
        have P6 := hide (PD.out.left D6 st6)
        have ST6 := hide (Step.inl (T := T) st6)
        have H6 := hide (HD.out.step ST6.out)
        clear D6 st6
        go_wp2_with fail
        refine hK.out _ _ H6.out.hc (fun hS => ?_)
        clear hK K
        (try simp only [Act.put, List.setIfInBounds_toArray, List.set_cons_zero, List.set_cons_succ])
        refine wpAnyH_ready (rs := [8]) (by kernel_rfl) (by simp) ?_
        refine AllReadyH.cons rfl (fun K hK => ?_) AllReadyH.nil
        go_simp
        go_wp2_with fail
        refine (num_any _ _).mono ?_
        rintro e w' ⟨rfl, hw⟩
        obtain rfl : w6 = w' := hw.symm
        go_wp2_with fail
        refine hK.out _ _ H6.out.hc (fun hS => ?_)
        clear hK K
        (try simp only [Act.put, List.setIfInBounds_toArray, List.set_cons_zero, List.set_cons_succ])
        refine wpAnyH_ready (rs := [14]) (by kernel_rfl) (by simp) ?_
        refine AllReadyH.cons rfl (fun K hK => ?_) AllReadyH.nil
        go_simp
        go_wp2_with fail
        have RWR := rWrite_any P6.out.two o.i (some ⟨gi, 0, none⟩) (filledB o.fill (fillLen o.len)) (fillLen o.len) (Owns.seen_at H6.out.inn) (by rw [FL.out]; exact Nat.le_refl _) nofun (filledB_allB _ _) (by rw [FL.out]; omega) hpl hcl
        rw [FL.out] at RWR
        refine RWR.mono ?_
        rintro e w7 ⟨T7, rfl, D7, st7⟩
        have P7 := hide (P6.out.right D7 st7)
        have ST7 := hide (Step.inr (S := S6) st7)
        have H7 := hide (H6.out.step ST7.out)
        clear D7 st7
        go_wp2_with fail
        refine hK.out _ _ H7.out.hc (fun hS => ?_)
        clear hK K
        (try simp only [Act.put, List.setIfInBounds_toArray, List.set_cons_zero, List.set_cons_succ])
        refine take_at 15 (some 81) (v := ?_) rfl rfl (by kernel_rfl) (by kernel_rfl) (by kernel_rfl) (fun _ _ _ h => h) ⟨by rfl, ?_⟩ hS ?_
        rotate_left
        · intro wq hSw; obtain ⟨x0, x1, x2, x5, x6, x7, y0, y1, y2⟩ := hSw; go_simp; try rfl
        simp only [Act.put, List.setIfInBounds_toArray, List.set_cons_zero, List.set_cons_succ]
        refine take_at 16 (some 9) (v := ?_) rfl rfl (by kernel_rfl) (by kernel_rfl) (by kernel_rfl) (fun _ _ _ h => h) ⟨by rfl, ?_⟩ hS ?_
        rotate_left
        · intro wq hSw; obtain ⟨x0, x1, x2, x5, x6, x7, y0, y1, y2⟩ := hSw; go_simp; try rfl
        simp only [Act.put, List.setIfInBounds_toArray, List.set_cons_zero, List.set_cons_succ]
        refine wpAnyH_done (by kernel_rfl) ?_ _
        go_wp2_with fail
        go_meet
        refine ⟨rfl, _, _, ?_, (((Step.of_below BB5.out).trans (Step.of_below bD)).trans ST6.out).trans ST7.out, H7.out⟩
        rw [EP.out]
        exact P7.out
      have e2 : (o.k == 2) = false := by simp [h2]
      by_cases h3 : o.k = 3
      · have e3 : (o.k == 3) = true := by simp [h3]
        have EP := hide (show playD g o = g.sync by unfold playD; rw [h3]; rfl)
        clear h1 h2 h3
        go_upto_region 14 with fail
        refine wp_region_held_drew (S := (HC w.heap.size (w.heap.size + 1) w4.heap.size gl cl d c o a oc)) (by kernel_rfl) ⟨x0, x1, x2, x5, x6, x7, y0, y1, y2⟩ (fun hS => ?_)
        refine take_at 0 (some 84) (v := ?_) rfl rfl (by kernel_rfl) (by kernel_rfl) (by kernel_rfl) (fun _ _ _ h => h) ⟨by rfl, ?_⟩ hS ?_
        rotate_left
        · intro wq hSw; obtain ⟨x0, x1, x2, x5, x6, x7, y0, y1, y2⟩ := hSw; go_simp; try rfl
        simp only [Act.put, List.setIfInBounds_toArray, List.set_cons_zero, List.set_cons_succ]
        refine take_at 1 (some 85) (v := ?_) rfl rfl (by kernel_rfl) (by kernel_rfl) (by kernel_rfl) (fun _ _ _ h => h) ⟨by rfl, ?_⟩ hS ?_
        rotate_left
        · intro wq hSw; obtain ⟨x0, x1, x2, x5, x6, x7, y0, y1, y2⟩ := hSw; go_simp; try rfl
        simp only [Act.put, List.setIfInBounds_toArray, List.set_cons_zero, List.set_cons_succ]
        refine take_at 4 (some 88) (v := ?_) rfl rfl (by kernel_rfl) (by kernel_rfl) (by kernel_rfl) (fun _ _ _ h => h) ⟨by rfl, ?_⟩ hS ?_
        rotate_left
        · intro wq hSw; obtain ⟨x0, x1, x2, x5, x6, x7, y0, y1, y2⟩ := hSw; go_simp; try rfl
        simp only [Act.put, List.setIfInBounds_toArray, List.set_cons_zero, List.set_cons_succ]
        refine take_at 5 (some 89) (v := ?_) rfl rfl (by kernel_rfl) (by kernel_rfl) (by kernel_rfl) (fun _ _ _ h => h) ⟨by rfl, ?_⟩ hS ?_
        rotate_left
        · intro wq hSw; obtain ⟨x0, x1, x2, x5, x6, x7, y0, y1, y2⟩ := hSw; go_simp; try rfl
        simp only [Act.put, List.setIfInBounds_toArray, List.set_cons_zero, List.set_cons_succ]
        refine wpAnyH_ready (rs := [2]) (by kernel_rfl) (by simp) ?_
        refine AllReadyH.cons rfl (fun K hK => ?_) AllReadyH.nil
        go_simp
        go_wp2_with fail
        refine (sync_any PD.out.one (by omega) (by omega)).mono ?_
        rintro e w6 ⟨rfl, D6, k6⟩
        have st6 := Step.of_keep k6
        have P6 := hide (PD.out.left D6 st6)
        have ST6 := hide (Step.inl (T := T) st6)
        have H6 := hide (HD.out.step ST6.out)
        clear D6 st6
        go_wp2_with fail
        refine hK.out _ _ H6.out.hc (fun hS => ?_)
        clear hK K
        (try simp only [Act.put, List.setIfInBounds_toArray, List.set_cons_zero, List.set_cons_succ])
        refine wpAnyH_ready (rs := [3]) (by kernel_rfl) (by simp) ?_
        refine AllReadyH.cons rfl (fun K hK => ?_) AllReadyH.nil
        go_simp
        go_wp2_with fail
        refine (num_any _ _).mono ?_
        rintro e w' ⟨rfl, hw⟩
        obtain rfl : w6 = w' := hw.symm
        go_wp2_with fail
        refine hK.out _ _ H6.out.hc (fun hS => ?_)
        clear hK K
        (try simp only [Act.put, List.setIfInBounds_toArray, List.set_cons_zero, List.set_cons_succ])
        refine wpAnyH_ready (rs := [6]) (by kernel_rfl) (by simp) ?_
        refine AllReadyH.cons rfl (fun K hK => ?_) AllReadyH.nil
        go_simp
        go_wp2_with fail
        refine (rSync_any P6.out.two (by omega) (by omega)).mono ?_
        rintro e w7 ⟨rfl, D7, k7⟩
        have st7 := Step.of_keep k7
        have P7 := hide (P6.out.right D7 st7)
        have ST7 := hide (Step.inr (S := S) st7)
        have H7 := hide (H6.out.step ST7.out)
        clear D7 st7
        go_wp2_with fail
        refine hK.out _ _ H7.out.hc (fun hS => ?_)
        clear hK K
        (try simp only [Act.put, List.setIfInBounds_toArray, List.set_cons_zero, List.set_cons_succ])
        refine take_at 7 (some 91) (v := ?_) rfl rfl (by kernel_rfl) (by kernel_rfl) (by kernel_rfl) (fun _ _ _ h => h) ⟨by rfl, ?_⟩ hS ?_
        rotate_left
        · intro wq hSw; obtain ⟨x0, x1, x2, x5, x6, x7, y0, y1, y2⟩ := hSw; go_simp; try rfl
        simp only [Act.put, List.setIfInBounds_toArray, List.set_cons_zero, List.set_cons_succ]
        refine take_at 8 (some 9) (v := ?_) rfl rfl (by kernel_rfl) (by kernel_rfl) (by kernel_rfl) (fun _ _ _ h => h) ⟨by rfl, ?_⟩ hS ?_
        rotate_left
        · intro wq hSw; obtain ⟨x0, x1, x2, x5, x6, x7, y0, y1, y2⟩ := hSw; go_simp; try rfl
        simp only [Act.put, List.setIfInBounds_toArray, List.set_cons_zero, List.set_cons_succ]
        refine wpAnyH_done (by kernel_rfl) ?_ _
        go_wp2_with fail
        go_meet
        refine ⟨rfl, _, _, ?_, (((Step.of_below BB5.out).trans (Step.of_below bD)).trans ST6.out).trans ST7.out, H7.out⟩
        rw [EP.out]
        exact P7.out
      have e3 : (o.k == 3) = false := by simp [h3]
      by_cases h4 : o.k = 4
      · have e4 : (o.k == 4) = true := by simp [h4]
        have EP := hide (show playD g o = g.arm o.i o.l by unfold playD; rw [h4]; rfl)
        have nGL := HD.out.no.2.2.2.2.2
        clear h1 h2 h3 h4
        go_upto_region 16 with fail
        refine wp_region_held_drew (S := (HC w.heap.size (w.heap.size + 1) w4.heap.size gl cl d c o a oc)) (by kernel_rfl) ⟨x0, x1, x2, x5, x6, x7, y0, y1, y2⟩ (fun hS => ?_)
        refine take_at 0 (some 94) (v := ?_) rfl rfl (by kernel_rfl) (by kernel_rfl) (by kernel_rfl) (fun _ _ _ h => h) ⟨by rfl, ?_⟩ hS ?_
        rotate_left
        · intro wq hSw; obtain ⟨x0, x1, x2, x5, x6, x7, y0, y1, y2⟩ := hSw; go_simp; try rfl
        simp only [Act.put, List.setIfInBounds_toArray, List.set_cons_zero, List.set_cons_succ]
        refine take_at 1 (some 95) (v := ?_) rfl rfl (by kernel_rfl) (by kernel_rfl) (by kernel_rfl) (fun _ _ _ h => h) ⟨by rfl, ?_⟩ hS ?_
        rotate_left
        · intro wq hSw; obtain ⟨x0, x1, x2, x5, x6, x7, y0, y1, y2⟩ := hSw; go_simp; try rfl
        simp only [Act.put, List.setIfInBounds_toArray, List.set_cons_zero, List.set_cons_succ]
        refine take_at 2 (some 96) (v := ?_) rfl rfl (by kernel_rfl) (by kernel_rfl) (by kernel_rfl) (fun _ _ _ h => h) ⟨by rfl, ?_⟩ hS ?_
        rotate_left
        · intro wq hSw; obtain ⟨x0, x1, x2, x5, x6, x7, y0, y1, y2⟩ := hSw; go_simp; try rfl
        simp only [Act.put, List.setIfInBounds_toArray, List.set_cons_zero, List.set_cons_succ]
        refine take_at 3 (some 97) (v := ?_) rfl rfl (by kernel_rfl) (by kernel_rfl) (by kernel_rfl) (fun _ _ _ h => h) ⟨by rfl, ?_⟩ hS ?_
        rotate_left
        · intro wq hSw; obtain ⟨x0, x1, x2, x5, x6, x7, y0, y1, y2⟩ := hSw; go_simp; try rfl
        simp only [Act.put, List.setIfInBounds_toArray, List.set_cons_zero, List.set_cons_succ]
        refine take_at 4 (some 98) (v := ?_) rfl rfl (by kernel_rfl) (by kernel_rfl) (by kernel_rfl) (fun _ _ _ h => h) ⟨by rfl, ?_⟩ hS ?_
        rotate_left
        · intro wq hSw; obtain ⟨x0, x1, x2, x5, x6, x7, y0, y1, y2⟩ := hSw; go_simp; try rfl
        simp only [Act.put, List.setIfInBounds_toArray, List.set_cons_zero, List.set_cons_succ]
        refine take_at 7 (some 101) (v := ?_) rfl rfl (by kernel_rfl) (by kernel_rfl) (by kernel_rfl) (fun _ _ _ h => h) ⟨by rfl, ?_⟩ hS ?_
        rotate_left
        · intro wq hSw; obtain ⟨x0, x1, x2, x5, x6, x7, y0, y1, y2⟩ := hSw; go_simp; try rfl
        simp only [Act.put, List.setIfInBounds_toArray, List.set_cons_zero, List.set_cons_succ]
        refine take_at 8 (some 102) (v := ?_) rfl rfl (by kernel_rfl) (by kernel_rfl) (by kernel_rfl) (fun _ _ _ h => h) ⟨by rfl, ?_⟩ hS ?_
        rotate_left
        · intro wq hSw; obtain ⟨x0, x1, x2, x5, x6, x7, y0, y1, y2⟩ := hSw; go_simp; try rfl
        simp only [Act.put, List.setIfInBounds_toArray, List.set_cons_zero, List.set_cons_succ]
        refine take_at 9 (some 103) (v := ?_) rfl rfl (by kernel_rfl) (by kernel_rfl) (by kernel_rfl) (fun _ _ _ h => h) ⟨by rfl, ?_⟩ hS ?_
        rotate_left
        · intro wq hSw; obtain ⟨x0, x1, x2, x5, x6, x7, y0, y1, y2⟩ := hSw; go_simp; try rfl
        simp only [Act.put, List.setIfInBounds_toArray, List.set_cons_zero, List.set_cons_succ]
        refine take_at 10 (some 104) (v := ?_) rfl rfl (by kernel_rfl) (by kernel_rfl) (by kernel_rfl) (fun _ _ _ h => h) ⟨by rfl, ?_⟩ hS ?_
        rotate_left
        · intro wq hSw; obtain ⟨x0, x1, x2, x5, x6, x7, y0, y1, y2⟩ := hSw; go_simp; try rfl
        simp only [Act.put, List.setIfInBounds_toArray, List.set_cons_zero, List.set_cons_succ]
        refine take_at 11 (some 105) (v := ?_) rfl rfl (by kernel_rfl) (by kernel_rfl) (by kernel_rfl) (fun _ _ _ h => h) ⟨by rfl, ?_⟩ hS ?_
        rotate_left
        · intro wq hSw; obtain ⟨x0, x1, x2, x5, x6, x7, y0, y1, y2⟩ := hSw; go_simp; try rfl
        simp only [Act.put, List.setIfInBounds_toArray, List.set_cons_zero, List.set_cons_succ]
        refine take_at 12 (some 106) (v := ?_) rfl rfl (by kernel_rfl) (by kernel_rfl) (by kernel_rfl) (fun _ _ _ h => h) ⟨by rfl, ?_⟩ hS ?_
        rotate_left
        · intro wq hSw; obtain ⟨x0, x1, x2, x5, x6, x7, y0, y1, y2⟩ := hSw; go_simp; try rfl
        simp only [Act.put, List.setIfInBounds_toArray, List.set_cons_zero, List.set_cons_succ]
        refine wpAnyH_ready (rs := [5]) (by kernel_rfl) (by simp) ?_
        refine AllReadyH.cons rfl (fun K hK => ?_) AllReadyH.nil
        go_simp
        go_wp2_with fail
        refine (arm_any PD.out.one o.i hi o.l (some ⟨gl, 0, none⟩) cl (HD.out.lossP OKL.out) (fun _ ad had q => by cases had; exact nGL (.inl q)) OK5.out.len).mono ?_
        rintro e w6 ⟨S6, rfl, D6, st6⟩
        have P6 := hide (PD.out.left D6 st6)
        have ST6 := hide (Step.inl (T := T) st6)
        have H6 := hide (HD.out.step ST6.out)
        clear D6 st6
        go_wp2_with fail
        refine hK.out _ _ H6.out.hc (fun hS => ?_)
        clear hK K
        (try simp only [Act.put, List.setIfInBounds_toArray, List.set_cons_zero, List.set_cons_succ])
        refine wpAnyH_ready (rs := [6]) (by kernel_rfl) (by simp) ?_
        refine AllReadyH.cons rfl (fun K hK => ?_) AllReadyH.nil
        go_simp
        go_wp2_with fail
        refine (num_any _ _).mono ?_
        rintro e w' ⟨rfl, hw⟩
        obtain rfl : w6 = w' := hw.symm
        go_wp2_with fail
        refine hK.out _ _ H6.out.hc (fun hS => ?_)
        clear hK K
        (try simp only [Act.put, List.setIfInBounds_toArray, List.set_cons_zero, List.set_cons_succ])
        refine wpAnyH_ready (rs := [13]) (by kernel_rfl) (by simp) ?_
        refine AllReadyH.cons rfl (fun K hK => ?_) AllReadyH.nil
        go_simp
        go_wp2_with fail
        refine (rArm_any P6.out.two o.i hi o.l a oc ⟨H6.out.orig, LS.out.nil, LS.out.cap, OKL.out⟩ (fun hx ad had q => (H6.out.outa hx ad had).1 (.inr q)) OK5.out.len).mono ?_
        rintro e w7 ⟨T7, rfl, D7, st7⟩
        have P7 := hide (P6.out.right D7 st7)
        have ST7 := hide (Step.inr (S := S6) st7)
        have H7 := hide (H6.out.step ST7.out)
        clear D7 st7
        go_wp2_with fail
        refine hK.out _ _ H7.out.hc (fun hS => ?_)
        clear hK K
        (try simp only [Act.put, List.setIfInBounds_toArray, List.set_cons_zero, List.set_cons_succ])
        refine take_at 14 (some 108) (v := ?_) rfl rfl (by kernel_rfl) (by kernel_rfl) (by kernel_rfl) (fun _ _ _ h => h) ⟨by rfl, ?_⟩ hS ?_
        rotate_left
        · intro wq hSw; obtain ⟨x0, x1, x2, x5, x6, x7, y0, y1, y2⟩ := hSw; go_simp; try rfl
        simp only [Act.put, List.setIfInBounds_toArray, List.set_cons_zero, List.set_cons_succ]
        refine take_at 15 (some 9) (v := ?_) rfl rfl (by kernel_rfl) (by kernel_rfl) (by kernel_rfl) (fun _ _ _ h => h) ⟨by rfl, ?_⟩ hS ?_
        rotate_left
        · intro wq hSw; obtain ⟨x0, x1, x2, x5, x6, x7, y0, y1, y2⟩ := hSw; go_simp; try rfl
        simp only [Act.put, List.setIfInBounds_toArray, List.set_cons_zero, List.set_cons_succ]
        refine wpAnyH_done (by kernel_rfl) ?_ _
        go_wp2_with fail
        go_meet
        refine ⟨rfl, _, _, ?_, (((Step.of_below BB5.out).trans (Step.of_below bD)).trans ST6.out).trans ST7.out, H7.out⟩
        rw [EP.out]
        exact P7.out
      have e4 : (o.k == 4) = false := by simp [h4]
      by_cases h5 : o.k = 5
      · have e5 : (o.k == 5) = true := by simp [h5]
        have EP := hide (show playD g o = g.crash o.l by unfold playD; rw [h5]; rfl)
        have nGL := HD.out.no.2.2.2.2.2
        clear h1 h2 h3 h4 h5
        go_upto_region 18 with fail
        refine wp_region_held_drew (S := (HC w.heap.size (w.heap.size + 1) w4.heap.size gl cl d c o a oc)) (by kernel_rfl) ⟨x0, x1, x2, x5, x6, x7, y0, y1, y2⟩ (fun hS => ?_)
        refine take_at 0 (some 111) (v := ?_) rfl rfl (by kernel_rfl) (by kernel_rfl) (by kernel_rfl) (fun _ _ _ h => h) ⟨by rfl, ?_⟩ hS ?_
        rotate_left
        · intro wq hSw; obtain ⟨x0, x1, x2, x5, x6, x7, y0, y1, y2⟩ := hSw; go_simp; try rfl
        simp only [Act.put, List.setIfInBounds_toArray, List.set_cons_zero, List.set_cons_succ]
        refine take_at 1 (some 112) (v := ?_) rfl rfl (by kernel_rfl) (by kernel_rfl) (by kernel_rfl) (fun _ _ _ h => h) ⟨by rfl, ?_⟩ hS ?_
        rotate_left
        · intro wq hSw; obtain ⟨x0, x1, x2, x5, x6, x7, y0, y1, y2⟩ := hSw; go_simp; try rfl
        simp only [Act.put, List.setIfInBounds_toArray, List.set_cons_zero, List.set_cons_succ]
        refine take_at 2 (some 113) (v := ?_) rfl rfl (by kernel_rfl) (by kernel_rfl) (by kernel_rfl) (fun _ _ _ h => h) ⟨by rfl, ?_⟩ hS ?_
        rotate_left
        · intro wq hSw; obtain ⟨x0, x1, x2, x5, x6, x7, y0, y1, y2⟩ := hSw; go_simp; try rfl
        simp only [Act.put, List.setIfInBounds_toArray, List.set_cons_zero, List.set_cons_succ]
        refine take_at 5 (some 116) (v := ?_) rfl rfl (by kernel_rfl) (by kernel_rfl) (by kernel_rfl) (fun _ _ _ h => h) ⟨by rfl, ?_⟩ hS ?_
        rotate_left
        · intro wq hSw; obtain ⟨x0, x1, x2, x5, x6, x7, y0, y1, y2⟩ := hSw; go_simp; try rfl
        simp only [Act.put, List.setIfInBounds_toArray, List.set_cons_zero, List.set_cons_succ]
        refine take_at 6 (some 117) (v := ?_) rfl rfl (by kernel_rfl) (by kernel_rfl) (by kernel_rfl) (fun _ _ _ h => h) ⟨by rfl, ?_⟩ hS ?_
        rotate_left
        · intro wq hSw; obtain ⟨x0, x1, x2, x5, x6, x7, y0, y1, y2⟩ := hSw; go_simp; try rfl
        simp only [Act.put, List.setIfInBounds_toArray, List.set_cons_zero, List.set_cons_succ]
        refine take_at 7 (some 118) (v := ?_) rfl rfl (by kernel_rfl) (by kernel_rfl) (by kernel_rfl) (fun _ _ _ h => h) ⟨by rfl, ?_⟩ hS ?_
        rotate_left
        · intro wq hSw; obtain ⟨x0, x1, x2, x5, x6, x7, y0, y1, y2⟩ := hSw; go_simp; try rfl
        simp only [Act.put, List.setIfInBounds_toArray, List.set_cons_zero, List.set_cons_succ]
        refine take_at 8 (some 119) (v := ?_) rfl rfl (by kernel_rfl) (by kernel_rfl) (by kernel_rfl) (fun _ _ _ h => h) ⟨by rfl, ?_⟩ hS ?_
        rotate_left
        · intro wq hSw; obtain ⟨x0, x1, x2, x5, x6, x7, y0, y1, y2⟩ := hSw; go_simp; try rfl
        simp only [Act.put, List.setIfInBounds_toArray, List.set_cons_zero, List.set_cons_succ]
        refine wpAnyH_ready (rs := [3]) (by kernel_rfl) (by simp) ?_
        refine AllReadyH.cons rfl (fun K hK => ?_) AllReadyH.nil
        go_simp
        go_wp2_with fail
        refine (crash_any PD.out.one o.l (some ⟨gl, 0, none⟩) cl (HD.out.lossP OKL.out) (fun _ ad had q => by cases had; exact nGL (.inl q)) (by omega)).mono ?_
        rintro e w6 ⟨rfl, D6, k6⟩
        have st6 := Step.of_keep k6
        have P6 := hide (PD.out.left D6 st6)
        have ST6 := hide (Step.inl (T := T) st6)
        have H6 := hide (HD.out.step ST6.out)
        clear D6 st6
        go_wp2_with fail
        refine hK.out _ _ H6.out.hc (fun hS => ?_)
        clear hK K
        (try simp only [Act.put, List.setIfInBounds_toArray, List.set_cons_zero, List.set_cons_succ])
        refine wpAnyH_ready (rs := [4]) (by kernel_rfl) (by simp) ?_
        refine AllReadyH.cons rfl (fun K hK => ?_) AllReadyH.nil
        go_simp
        go_wp2_with fail
        refine (num_any _ _).mono ?_
        rintro e w' ⟨rfl, hw⟩
        obtain rfl : w6 = w' := hw.symm
        go_wp2_with fail
        refine hK.out _ _ H6.out.hc (fun hS => ?_)
        clear hK K
        (try simp only [Act.put, List.setIfInBounds_toArray, List.set_cons_zero, List.set_cons_succ])
        refine wpAnyH_ready (rs := [9]) (by kernel_rfl) (by simp) ?_
        refine AllReadyH.cons rfl (fun K hK => ?_) AllReadyH.nil
        go_simp
        go_wp2_with fail
        refine (rCrash_any P6.out.two o.l a oc ⟨H6.out.orig, LS.out.nil, LS.out.cap, OKL.out⟩ (fun hx ad had q => (H6.out.outa hx ad had).1 (.inr q)) (by omega)).mono ?_
        rintro e w7 ⟨rfl, D7, k7⟩
        have st7 := Step.of_keep k7
        have P7 := hide (P6.out.right D7 st7)
        have ST7 := hide (Step.inr (S := S) st7)
        have H7 := hide (H6.out.step ST7.out)
        clear D7 st7
        go_wp2_with fail
        refine hK.out _ _ H7.out.hc (fun hS => ?_)
        clear hK K
        (try simp only [Act.put, List.setIfInBounds_toArray, List.set_cons_zero, List.set_cons_succ])
        refine take_at 10 (some 121) (v := ?_) rfl rfl (by kernel_rfl) (by kernel_rfl) (by kernel_rfl) (fun _ _ _ h => h) ⟨by rfl, ?_⟩ hS ?_
        rotate_left
        · intro wq hSw; obtain ⟨x0, x1, x2, x5, x6, x7, y0, y1, y2⟩ := hSw; go_simp; try rfl
        simp only [Act.put, List.setIfInBounds_toArray, List.set_cons_zero, List.set_cons_succ]
        refine take_at 11 (some 9) (v := ?_) rfl rfl (by kernel_rfl) (by kernel_rfl) (by kernel_rfl) (fun _ _ _ h => h) ⟨by rfl, ?_⟩ hS ?_
        rotate_left
        · intro wq hSw; obtain ⟨x0, x1, x2, x5, x6, x7, y0, y1, y2⟩ := hSw; go_simp; try rfl
        simp only [Act.put, List.setIfInBounds_toArray, List.set_cons_zero, List.set_cons_succ]
        refine wpAnyH_done (by kernel_rfl) ?_ _
        go_wp2_with fail
        go_meet
        refine ⟨rfl, _, _, ?_, (((Step.of_below BB5.out).trans (Step.of_below bD)).trans ST6.out).trans ST7.out, H7.out⟩
        rw [EP.out]
        exact P7.out
      have e5 : (o.k == 5) = false := by simp [h5]
      by_cases h6 : o.k = 6
      · have e6 : (o.k == 6) = true := by simp [h6]
        have EP := hide (show playD g o = g.up by unfold playD; rw [h6]; rfl)
        clear h1 h2 h3 h4 h5 h6
        go_upto_region 20 with fail
        refine wp_region_held_drew (S := (HC w.heap.size (w.heap.size + 1) w4.heap.size gl cl d c o a oc)) (by kernel_rfl) ⟨x0, x1, x2, x5, x6, x7, y0, y1, y2⟩ (fun hS => ?_)
        refine take_at 0 (some 124) (v := ?_) rfl rfl (by kernel_rfl) (by kernel_rfl) (by kernel_rfl) (fun _ _ _ h => h) ⟨by rfl, ?_⟩ hS ?_
        rotate_left
        · intro wq hSw; obtain ⟨x0, x1, x2, x5, x6, x7, y0, y1, y2⟩ := hSw; go_simp; try rfl
        simp only [Act.put, List.setIfInBounds_toArray, List.set_cons_zero, List.set_cons_succ]
        refine take_at 1 (some 125) (v := ?_) rfl rfl (by kernel_rfl) (by kernel_rfl) (by kernel_rfl) (fun _ _ _ h => h) ⟨by rfl, ?_⟩ hS ?_
        rotate_left
        · intro wq hSw; obtain ⟨x0, x1, x2, x5, x6, x7, y0, y1, y2⟩ := hSw; go_simp; try rfl
        simp only [Act.put, List.setIfInBounds_toArray, List.set_cons_zero, List.set_cons_succ]
        refine take_at 4 (some 128) (v := ?_) rfl rfl (by kernel_rfl) (by kernel_rfl) (by kernel_rfl) (fun _ _ _ h => h) ⟨by rfl, ?_⟩ hS ?_
        rotate_left
        · intro wq hSw; obtain ⟨x0, x1, x2, x5, x6, x7, y0, y1, y2⟩ := hSw; go_simp; try rfl
        simp only [Act.put, List.setIfInBounds_toArray, List.set_cons_zero, List.set_cons_succ]
        refine take_at 5 (some 129) (v := ?_) rfl rfl (by kernel_rfl) (by kernel_rfl) (by kernel_rfl) (fun _ _ _ h => h) ⟨by rfl, ?_⟩ hS ?_
        rotate_left
        · intro wq hSw; obtain ⟨x0, x1, x2, x5, x6, x7, y0, y1, y2⟩ := hSw; go_simp; try rfl
        simp only [Act.put, List.setIfInBounds_toArray, List.set_cons_zero, List.set_cons_succ]
        refine wpAnyH_ready (rs := [2]) (by kernel_rfl) (by simp) ?_
        refine AllReadyH.cons rfl (fun K hK => ?_) AllReadyH.nil
        go_simp
        go_wp2_with fail
        refine (up_any PD.out.one).mono ?_
        rintro e w6 ⟨rfl, D6, k6⟩
        have st6 := Step.of_keep k6
        have P6 := hide (PD.out.left D6 st6)
        have ST6 := hide (Step.inl (T := T) st6)
        have H6 := hide (HD.out.step ST6.out)
        clear D6 st6
        go_wp2_with fail
        refine hK.out _ _ H6.out.hc (fun hS => ?_)
        clear hK K
        (try simp only [Act.put, List.setIfInBounds_toArray, List.set_cons_zero, List.set_cons_succ])
        refine wpAnyH_ready (rs := [3]) (by kernel_rfl) (by simp) ?_
        refine AllReadyH.cons rfl (fun K hK => ?_) AllReadyH.nil
        go_simp
        go_wp2_with fail
        refine (num_any _ _).mono ?_
        rintro e w' ⟨rfl, hw⟩
        obtain rfl : w6 = w' := hw.symm
        go_wp2_with fail
        refine hK.out _ _ H6.out.hc (fun hS => ?_)
        clear hK K
        (try simp only [Act.put, List.setIfInBounds_toArray, List.set_cons_zero, List.set_cons_succ])
        refine wpAnyH_ready (rs := [6]) (by kernel_rfl) (by simp) ?_
        refine AllReadyH.cons rfl (fun K hK => ?_) AllReadyH.nil
        go_simp
        go_wp2_with fail
        refine (rUp_any P6.out.two).mono ?_
        rintro e w7 ⟨rfl, D7, k7⟩
        have st7 := Step.of_keep k7
        have P7 := hide (P6.out.right D7 st7)
        have ST7 := hide (Step.inr (S := S) st7)
        have H7 := hide (H6.out.step ST7.out)
        clear D7 st7
        go_wp2_with fail
        refine hK.out _ _ H7.out.hc (fun hS => ?_)
        clear hK K
        (try simp only [Act.put, List.setIfInBounds_toArray, List.set_cons_zero, List.set_cons_succ])
        refine take_at 7 (some 131) (v := ?_) rfl rfl (by kernel_rfl) (by kernel_rfl) (by kernel_rfl) (fun _ _ _ h => h) ⟨by rfl, ?_⟩ hS ?_
        rotate_left
        · intro wq hSw; obtain ⟨x0, x1, x2, x5, x6, x7, y0, y1, y2⟩ := hSw; go_simp; try rfl
        simp only [Act.put, List.setIfInBounds_toArray, List.set_cons_zero, List.set_cons_succ]
        refine take_at 8 (some 9) (v := ?_) rfl rfl (by kernel_rfl) (by kernel_rfl) (by kernel_rfl) (fun _ _ _ h => h) ⟨by rfl, ?_⟩ hS ?_
        rotate_left
        · intro wq hSw; obtain ⟨x0, x1, x2, x5, x6, x7, y0, y1, y2⟩ := hSw; go_simp; try rfl
        simp only [Act.put, List.setIfInBounds_toArray, List.set_cons_zero, List.set_cons_succ]
        refine wpAnyH_done (by kernel_rfl) ?_ _
        go_wp2_with fail
        go_meet
        refine ⟨rfl, _, _, ?_, (((Step.of_below BB5.out).trans (Step.of_below bD)).trans ST6.out).trans ST7.out, H7.out⟩
        rw [EP.out]
        exact P7.out
      have e6 : (o.k == 6) = false := by simp [h6]
      by_cases h8 : o.k = 8
      · have e8 : (o.k == 8) = true := by simp [h8]
        have EP := hide (show playD g o = g by unfold playD; rw [h8]; rfl)
        clear h1 h2 h3 h4 h5 h6 h8
        by_cases hn : 1 ≤ o.i ∧ o.i ≤ 8192
        · obtain ⟨n, hni⟩ : ∃ n : Nat, o.i = (n : Int) := ⟨o.i.toNat, by omega⟩
          have NW := new_ok n w5 (by omega) (by omega)
          rw [← hni] at NW
          have HNW := hide NW
          have HN := hide hni
          have hn1 : 1 ≤ n ∧ n ≤ 8192 := by omega
          clear NW hn hni
          go_wp2_with fail
          refine HNW.out.mono ?_
          rintro e w6 ⟨dx, Sx, rfl, D6, q6, b6⟩
          have P6 := hide (P5.out.below b6)
          have H6 := hide (HHH.out.below b6)
          have HD6 := hide D6
          have B6 := hide b6
          have RN := rNew_ok n w6 hn1.1 hn1.2
          rw [← HN.out] at RN
          have HRN := hide RN
          obtain ⟨x0, x1, x2, x5, x6, x7, y0, y1, y2⟩ := H6.out.hc
          clear D6 b6 RN HNW
          go_wp2_with fail
          refine HRN.out.mono ?_
          rintro e w7 ⟨cx, Tx, rfl, D7, q7, b7⟩
          have P7 := hide (P6.out.below b7)
          have H7 := hide (H6.out.below b7)
          have HD7 := hide D7
          have HD6' := hide (HD6.out.below b7)
          have B7 := hide (bnext B6.out b7 (Nat.le_refl _))
          clear D7 b7 HRN P6 H6 HD6 B6
          go_wp2_with fail
          refine (num_any _ _).mono ?_
          rintro e w' ⟨rfl, hw⟩
          obtain rfl : w7 = w' := hw.symm
          go_wp2_with fail
          refine (sectors_any HD6'.out).mono ?_
          rintro e w' ⟨rfl, hw⟩
          obtain rfl : w7 = w' := hw.symm
          go_wp2_with fail
          refine (rSectors_any HD7.out).mono ?_
          rintro e w' ⟨rfl, hw⟩
          obtain rfl : w7 = w' := hw.symm
          go_wp2_with fail
          go_meet
          refine ⟨by simp, S, T, ?_, (Step.of_below BB5.out).trans (Step.of_below B7.out), H7.out⟩
          rw [EP.out]
          exact P7.out
        · have hn2 : o.i < 1 ∨ 8192 < o.i := by omega
          have HNW := hide (new_no o.i w5 hn2)
          have HRN := hide (rNew_no o.i w5 hn2)
          clear hn hn2
          go_wp2_with fail
          refine HNW.out.mono ?_
          rintro e w' ⟨rfl, hw⟩
          obtain rfl : w5 = w' := hw.symm
          go_wp2_with fail
          refine HRN.out.mono ?_
          rintro e w' ⟨rfl, hw⟩
          obtain rfl : w5 = w' := hw.symm
          go_wp2_with fail
          refine (num_any _ _).mono ?_
          rintro e w' ⟨rfl, hw⟩
          obtain rfl : w5 = w' := hw.symm
          go_wp2_with fail
          go_meet
          refine ⟨by simp, S, T, ?_, Step.of_below BB5.out, HHH.out⟩
          rw [EP.out]
          exact P5.out
      have e8 : (o.k == 8) = false := by simp [h8]
      by_cases h9 : o.k = 9
      · have e9 : (o.k == 9) = true := by simp [h9]
        have EP := hide (show playD g o = g by unfold playD; rw [h9]; rfl)
        clear h1 h2 h3 h4 h5 h6 h8 h9
        by_cases hL : loads (fillLen o.len)
        · have RBP : Bytes w5 (some ⟨gr, 0, none⟩) (filledB o.fill (fillLen o.len)) := by
            have q := (show Bytes w5 (some ⟨gr, 0, none⟩) (filledB o.fill (fillLen o.len) ++ marks) from Owns.seen_at HHH.out.room).take (fillLen o.len)
            rw [marked_take] at q
            exact q
          have LO := load_ok (some ⟨gr, 0, none⟩) (filledB o.fill (fillLen o.len)) cr w5 RBP (by rw [FL.out]; exact f2) nofun (filledB_allB _ _) (by rw [FL.out]; exact hL)
          rw [FL.out] at LO
          have HLO := hide LO
          have HL := hide hL
          clear LO RBP hL
          go_wp2_with fail
          refine HLO.out.mono ?_
          rintro e w6 ⟨dx, Sx, rfl, D6, q6, b6⟩
          have P6 := hide (P5.out.below b6)
          have H6 := hide (HHH.out.below b6)
          have HD6 := hide D6
          have B6 := hide b6
          have RL := rLoad_ok (some ⟨gi, 0, none⟩) (filledB o.fill (fillLen o.len)) (fillLen o.len) w6 (Owns.seen_at H6.out.inn) nofun (filledB_allB _ _) (by rw [FL.out]; exact HL.out)
          rw [FL.out] at RL
          have HRL := hide RL
          clear D6 b6 RL HLO
          go_wp2_with fail
          refine HRL.out.mono ?_
          rintro e w7 ⟨cx, Tx, rfl, D7, q7, b7⟩
          have PX := hide (P6.out.below b7)
          have HX := hide (H6.out.below b7)
          have PN := hide (show Pr w7 Sx dx (Dev.load (filledB o.fill (fillLen o.len))) Tx cx (Dev.load (filledB o.fill (fillLen o.len))) from ⟨HD6.out.below b7, D7, fun b hb ht => by have := HD6.out.lt b hb; have := q7 b ht; omega⟩)
          have BX := hide (bnext B6.out b7 (Nat.le_refl _))
          have NGR := hide (show ∀ b, b = gr → ¬ (Sx b ∨ Tx b) from fun b hb q => by
            have := HHH.out.ord
            have := B6.out.size
            rcases q with q | q
            · have := q6 b q; omega
            · have := q7 b q; omega)
          clear D7 b7 HRL P6 H6 HD6 B6
          go_wp2_with fail
          refine (num_any _ _).mono ?_
          rintro e w' ⟨rfl, hw⟩
          obtain rfl : w7 = w' := hw.symm
          go_wp2_with fail
          go_loopw [22] (fun j wr => ∃ q : Nat, q ≤ fillLen o.len ∧ j = .int .i64 (q : Int) ∧ ∃ rm : List Nat, rm.length = fillLen o.len + 2 ∧ rm.drop (fillLen o.len) = marks ∧ OwnB wr w.heap.size (.slice (some ⟨gr, 0, none⟩) (fillLen o.len + 2) cr) rm ∧ Keep (fun b => b = gr) w7 wr) (fun j _ => fillLen o.len - (intOf j).toNat)
          case atStart => exact ⟨0, Nat.zero_le _, rfl, _, by simp [FL.out, marks], by rw [List.drop_append_of_le_length (by rw [FL.out]; exact Nat.le_refl _)]; simp [FL.out], HX.out.room, Keep.refl _ _⟩
          case round =>
            obtain ⟨q, hq, rfl, rm, hrl, hrd, hown, hkeep⟩ := hrel
            by_cases hlt : q < fillLen o.len
            · obtain ⟨b2, off2, hab, hb2, hc2⟩ := Seen.at (Owns.seen_at hown) (i := q) (by simp; omega)
              cases hab
              rw [Nat.zero_add] at hc2
              obtain ⟨z, hz⟩ : ∃ z, wr.cell? ⟨gr, q, none⟩ = some (.int .u8 z) := ⟨_, hc2⟩
              clear hc2
              have hfz := Owns.frozen hown q
              have st := Owns.stored hown q ((0 : Nat) : Int)
              rw [← ints_set] at st
              have O2 := hide st
              have K2 := hide (hkeep.setCell (fun _ => rfl) (j := q) (g := gr) (.int .u8 0))
              have hlk : (q : Int) < (fillLen o.len : Int) := by omega
              have hlk2 : (q : Int) < (fillLen o.len : Int) + 2 := by omega
              have RD := hide (show (rm.set q 0).drop (fillLen o.len) = marks by rw [List.drop_set_of_lt hlt]; exact hrd)
              clear hown hkeep st hrd
              go_wp2_with fail
              go_roundw
              case rel => exact ⟨q + 1, by omega, by go_num, _, by simpa using hrl, RD.out, O2.out, K2.out⟩
              case measure => simp [intOf]; omega
            · obtain rfl : q = fillLen o.len := by omega
              have H8 := hide (HX.out.wrote hkeep hown)
              have P8 := hide (PX.out.keep hkeep (fun b q => q ▸ HX.out.no.2.2.2.2.1))
              have K8 := hide hkeep
              have HRL := hide hrl
              have HRD := hide hrd
              have PN8 := hide (PN.out.keep hkeep NGR.out)
              clear hown hkeep hrl hrd
              go_wp2_with fail
              refine (looks_any PN8.out (by show (0 : Nat) ≤ _; omega)).mono ?_
              rintro e w9 ⟨rfl, b9⟩
              have H9 := hide (H8.out.below b9)
              have P9 := hide (P8.out.below b9)
              have B9 := hide b9
              clear b9 H8 P8 PN8
              obtain ⟨w10, hr10, o10, k10⟩ := run_copy_own (P := Try.prog) (k := .u8) _ 37 37 3 5 Try.underlying37 (by kernel_rfl) w.heap.size gr (fillLen o.len + 2) cr 0 (fillLen o.len + 2) cr (ints rm) H9.out.room ⟨gi, 0, none⟩ (fillLen o.len) (fillLen o.len) (ints (filledB o.fill (fillLen o.len))) (Owns.seen_at H9.out.inn) (by rw [ints_length, FL.out]; simp) (by rw [ints_length, FL.out]; omega)
              have esp : splice (ints rm) 0 (ints (filledB o.fill (fillLen o.len))) = ints (filledB o.fill (fillLen o.len) ++ marks) := by
                rw [← splice_ints]
                congr 1
                unfold Go.splice
                rw [FL.out, Nat.zero_add, HRD.out]
                simp
              rw [esp] at o10
              have H10 := hide (H9.out.wrote k10 o10)
              have P10 := hide (P9.out.keep k10 (fun b q => q ▸ H9.out.no.2.2.2.2.1))
              have K10 := hide k10
              clear o10 k10 esp
              go_wp2_with fail
              go_meet
              have ng := HHH.out.ord
              refine ⟨by simp, S, T, ?_, ?_, H10.out⟩
              · rw [EP.out]
                exact P10.out
              · have st := (Step.of_below (S := fun b => S b ∨ T b) BB5.out).trans (Step.of_below BX.out)
                exact ⟨((st.1.trans K8.out (fun j hj q => by omega)).then_below B9.out).trans K10.out (fun j hj q => by omega), st.2⟩
        · have HLO := hide (load_no (some ⟨gr, 0, none⟩) (fillLen o.len) cr w5 (by omega) hL)
          have HRL := hide (rLoad_no (some ⟨gi, 0, none⟩) (fillLen o.len) (fillLen o.len) w5 (by omega) hL)
          have PX := hide P5.out
          have HX := hide HHH.out
          have BX := hide (Below.refl w5.heap.size w5)
          clear hL
          go_wp2_with fail
          refine HLO.out.mono ?_
          rintro e w' ⟨rfl, hw⟩
          obtain rfl : w5 = w' := hw.symm
          go_wp2_with fail
          refine HRL.out.mono ?_
          rintro e w' ⟨rfl, hw⟩
          obtain rfl : w5 = w' := hw.symm
          go_wp2_with fail
          refine (num_any _ _).mono ?_
          rintro e w' ⟨rfl, hw⟩
          obtain rfl : w5 = w' := hw.symm
          clear HLO HRL
          go_wp2_with fail
          go_loopw [22] (fun j wr => ∃ q : Nat, q ≤ fillLen o.len ∧ j = .int .i64 (q : Int) ∧ ∃ rm : List Nat, rm.length = fillLen o.len + 2 ∧ rm.drop (fillLen o.len) = marks ∧ OwnB wr w.heap.size (.slice (some ⟨gr, 0, none⟩) (fillLen o.len + 2) cr) rm ∧ Keep (fun b => b = gr) w5 wr) (fun j _ => fillLen o.len - (intOf j).toNat)
          case atStart => exact ⟨0, Nat.zero_le _, rfl, _, by simp [FL.out, marks], by rw [List.drop_append_of_le_length (by rw [FL.out]; exact Nat.le_refl _)]; simp [FL.out], HX.out.room, Keep.refl _ _⟩
          case round =>
            obtain ⟨q, hq, rfl, rm, hrl, hrd, hown, hkeep⟩ := hrel
            by_cases hlt : q < fillLen o.len
            · obtain ⟨b2, off2, hab, hb2, hc2⟩ := Seen.at (Owns.seen_at hown) (i := q) (by simp; omega)
              cases hab
              rw [Nat.zero_add] at hc2
              obtain ⟨z, hz⟩ : ∃ z, wr.cell? ⟨gr, q, none⟩ = some (.int .u8 z) := ⟨_, hc2⟩
              clear hc2
              have hfz := Owns.frozen hown q
              have st := Owns.stored hown q ((0 : Nat) : Int)
              rw [← ints_set] at st
              have O2 := hide st
              have K2 := hide (hkeep.setCell (fun _ => rfl) (j := q) (g := gr) (.int .u8 0))
              have hlk : (q : Int) < (fillLen o.len : Int) := by omega
              have hlk2 : (q : Int) < (fillLen o.len : Int) + 2 := by omega
              have RD := hide (show (rm.set q 0).drop (fillLen o.len) = marks by rw [List.drop_set_of_lt hlt]; exact hrd)
              clear hown hkeep st hrd
              go_wp2_with fail
              go_roundw
              case rel => exact ⟨q + 1, by omega, by go_num, _, by simpa using hrl, RD.out, O2.out, K2.out⟩
              case measure => simp [intOf]; omega
            · obtain rfl : q = fillLen o.len := by omega
              have H8 := hide (HX.out.wrote hkeep hown)
              have P8 := hide (PX.out.keep hkeep (fun b q => q ▸ HX.out.no.2.2.2.2.1))
              have K8 := hide hkeep
              have HRL := hide hrl
              have HRD := hide hrd
              clear hown hkeep hrl hrd
              have H9 := hide H8.out
              have P9 := hide P8.out
              have B9 := hide (Below.refl wr.heap.size wr)
              obtain ⟨w10, hr10, o10, k10⟩ := run_copy_own (P := Try.prog) (k := .u8) _ 37 37 3 5 Try.underlying37 (by kernel_rfl) w.heap.size gr (fillLen o.len + 2) cr 0 (fillLen o.len + 2) cr (ints rm) H9.out.room ⟨gi, 0, none⟩ (fillLen o.len) (fillLen o.len) (ints (filledB o.fill (fillLen o.len))) (Owns.seen_at H9.out.inn) (by rw [ints_length, FL.out]; simp) (by rw [ints_length, FL.out]; omega)
              have esp : splice (ints rm) 0 (ints (filledB o.fill (fillLen o.len))) = ints (filledB o.fill (fillLen o.len) ++ marks) := by
                rw [← splice_ints]
                congr 1
                unfold Go.splice
                rw [FL.out, Nat.zero_add, HRD.out]
                simp
              rw [esp] at o10
              have H10 := hide (H9.out.wrote k10 o10)
              have P10 := hide (P9.out.keep k10 (fun b q => q ▸ H9.out.no.2.2.2.2.1))
              have K10 := hide k10
              clear o10 k10 esp
              go_wp2_with fail
              go_meet
              have ng := HHH.out.ord
              refine ⟨by simp, S, T, ?_, ?_, H10.out⟩
              · rw [EP.out]
                exact P10.out
              · have st := (Step.of_below (S := fun b => S b ∨ T b) BB5.out).trans (Step.of_below BX.out)
                exact ⟨((st.1.trans K8.out (fun j hj q => by omega)).then_below B9.out).trans K10.out (fun j hj q => by omega), st.2⟩
      have e9 : (o.k == 9) = false := by simp [h9]
      have EP := hide (show playD g o = g by unfold playD; rw [if_neg h2, if_neg h3, if_neg h4, if_neg h5, if_neg h6])
      clear h1 h2 h3 h4 h5 h6 h8 h9
      go_wp2_with fail
      go_meet
      refine ⟨rfl, S, T, ?_, Step.of_below BB5.out, HHH.out⟩
      rw [EP.out]
      exact P5.out
end Go.Proofs.Ytohkmigahbellaa
