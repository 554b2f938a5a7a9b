import Derived.Test.YtakjpljpdlhicaaDoorPg35
set_option linter.all false
namespace Go.Proofs.YtakjpljpdlhicaaDoor
open Go.RowKit Go.QK Go.Pg
set_option maxRecDepth 100000
/-! The document's bytes of a page, while they are written. -/
structure RE (w wz : World) (b g : Nat) (pc : List Value) (X : List Nat) (k : Nat) : Prop where
  box : Cells wz b pc
  ow : OwnB wz w.heap.size (.slice (some ⟨g, 0, none⟩) 1024 1024) (X ++ zs k)
  ln : X.length + k = 1024
  be : Below w.heap.size w wz
  gb : w.heap.size ≤ g
  ne : b ≠ g
section
variable {w wz wy : World} {b g k a c : Nat} {pc : List Value} {X : List Nat}
theorem RE.below (h : RE w wz b g pc X k) (hb : Below wz.heap.size wz wy) : RE w wy b g pc X k := ⟨h.box.below hb, Owns.below h.ow hb, h.ln, h.be.trans (hb.mono h.be.size), h.gb, h.ne⟩
theorem zs_add (a c : Nat) : zs (a + c) = zs a ++ zs c := by simp [zs, List.replicate_append_replicate]
theorem RE.skip (h : RE w wz b g pc X (a + c)) : RE w wz b g pc (X ++ zs a) c := ⟨h.box, by rw [List.append_assoc, ← zs_add]; exact h.ow, by have := h.ln; simp; omega, h.be, h.gb, h.ne⟩
theorem RE.put {size x : Nat} (h : RE w wz b g pc X (size + k)) (off sz xi : Int) (hoff : off = (X.length : Int)) (hsz : sz = (size : Int)) (h8 : size ≤ 8) (hx : xi = (x : Int)) (h64 : x < 18446744073709551616) :
    Calls Tryd.prog 38 #[.slice (some ⟨g, 0, none⟩) 1024 1024, .int .i64 off, .int .i64 sz, .int .u64 xi] wz fun e w' => e = .returned (.tuple #[]) ∧ RE w w' b g pc (X ++ bytesOf size x) k := by
  have hl := h.ln
  subst hoff hsz hx
  refine (rput_any g 1024 1024 X.length size x w.heap.size (X ++ zs (size + k)) wz h.ow (by omega) h8 (by simp) h64).mono ?_
  rintro e w' ⟨rfl, o, kp⟩
  refine ⟨rfl, h.box.keep kp h.ne, ?_, by simp; omega, h.be.trans (kp.below h.be.size (fun i hi q => by have := h.gb; omega)), h.gb, h.ne⟩
  rw [zs_add, ← List.append_assoc, wrote_full X (zs size) (zs k) x size (by simp)] at o
  exact o
theorem RE.re {k' : Nat} (h : RE w wz b g pc X k) (e : k = k') : RE w wz b g pc X k' := by rw [← e]; exact h
theorem RE.put2 {size x : Nat} (h : RE w wz b g pc X (size + k)) (off sz xi : Int) (hoff : off = (X.length : Int)) (hsz : sz = (size : Int)) (h8 : size ≤ 8) (hx : xi = (x : Int)) (h64 : x < 18446744073709551616) :
    Calls Tryd.prog 38 #[.slice (some ⟨g, 0, none⟩) 1024 1024, .int .i64 off, .int .i64 sz, .int .u64 xi] wz fun e w' => e = .returned (.tuple #[]) ∧ RE w w' b g pc (X ++ bytesOf size x) k ∧ Keep (fun i => i = g) wz w' := by
  have hl := h.ln
  subst hoff hsz hx
  refine (rput_any g 1024 1024 X.length size x w.heap.size (X ++ zs (size + k)) wz h.ow (by omega) h8 (by simp) h64).mono ?_
  rintro e w' ⟨rfl, o, kp⟩
  refine ⟨rfl, ⟨h.box.keep kp h.ne, ?_, by simp; omega, h.be.trans (kp.below h.be.size (fun i hi q => by have := h.gb; omega)), h.gb, h.ne⟩, kp⟩
  rw [zs_add, ← List.append_assoc, wrote_full X (zs size) (zs k) x size (by simp)] at o
  exact o
end
theorem un_lt (x : Int) : un x < 18446744073709551616 := by unfold un; omega
theorem un_wrap (x : Int) : IntKind.u64.wrap x = ((un x : Nat) : Int) := by
  rw [IntKind.wrap_u64]
  unfold un
  omega
def P12 (p : PageM) : List Nat := [113, kindOf p] ++ bytesOf 2 (un p.num) ++ bytesOf 2 (countOf p) ++ zs 2 ++ bytesOf 4 (un p.lsn)
theorem bytesOf_zero (n : Nat) : bytesOf n 0 = zs n := by
  unfold bytesOf zs
  refine List.eq_replicate_iff.2 ⟨by simp, fun x hx => ?_⟩
  obtain ⟨y, _, rfl⟩ := List.mem_map.1 hx
  simp [QK.byteOf]
theorem head_eq (p : PageM) (s : Nat) : headB p s = P12 p ++ bytesOf 4 s := by
  have hk : kindOf p < 256 := by unfold kindOf; split <;> omega
  have h1 : bytesOf 1 113 = [113] := rfl
  have h2 : bytesOf 1 (kindOf p) = [kindOf p] := by rw [bytesOf_succ, Nat.mod_eq_of_lt hk]; simp [bytesOf]
  unfold headB headN headS P12
  simp only [numsB, h1, h2, bytesOf_zero, List.append_nil, List.append_assoc, List.singleton_append]
  rfl
theorem P12_length (p : PageM) : (P12 p).length = 12 := by simp [P12]
theorem head0 (p : PageM) : headB p 0 = P12 p ++ zs 4 := by rw [head_eq, bytesOf_zero]
theorem ctrB_eq (c : CtrM) : ctrB c = bytesOf 4 (un c.id) ++ bytesOf 4 (un c.grp) ++ bytesOf 8 (un c.lo) ++ bytesOf 8 (un c.hi) ++ bytesOf 8 (un c.val) := by
  unfold ctrB ctrS ctrN
  simp only [numsB, List.append_nil, List.append_assoc]
theorem grpB_eq (c : GrpM) : grpB c = bytesOf 4 (un c.id) ++ bytesOf 8 (un c.sum) := by
  unfold grpB grpS grpN
  simp only [numsB, List.append_nil, List.append_assoc]
theorem start2 (kd : Nat) : ((zs 1024).set 0 113).set 1 kd = [113, kd] ++ zs 1022 := by
  have : zs 1024 = 0 :: 0 :: zs 1022 := by simp [zs, List.replicate_succ]
  rw [this]
  rfl
set_option maxHeartbeats 4000000 in
theorem rencode_bad (p : PageM) (t : At) (w : World) (hc : Lies w t.a (ctrsC p.cs)) (hg : Lies w t.b (grpsC p.gs)) (l1 : p.cs.length ≤ 10000000000000) (l2 : p.gs.length ≤ 10000000000000) (hk : checkE p ≠ 0) :
    Calls Tryd.prog 16 #[pageV p t] w fun e w' => e = .returned (.tuple #[.slice none 0 0, .int .i64 (checkE p)]) ∧ Below w.heap.size w w' := by
  have CK := fun w' (b : Below w.heap.size w w') => rfault_any p t w' (hc.below b) (hg.below b) l1 l2
  generalize checkE p = ce at *
  have hd : (ce != 0) = true := by simp; exact hk
  obtain ⟨num, lsn, cs, gs⟩ := p
  obtain ⟨ta, tc, tb, td⟩ := t
  simp only [pageV] at *
  clear hc hg hk l1 l2
  go_enter Tryd.func16, Tryd.ntmps16
  go_wp2_with fail
  refine (CK _ (alloc_below _ _)).mono ?_
  rintro e w1 ⟨rfl, b1⟩
  have B1 := hide (bnext (alloc_below _ _) b1 (Nat.le_refl _))
  clear b1
  go_wp2_with fail
  exact bodyPost_ret (v := .tuple #[.slice none 0 0, .int .i64 ce]) (by simp [results, Tryd.results16, go_sem]) rfl ⟨rfl, B1.out⟩
end Go.Proofs.YtakjpljpdlhicaaDoor
