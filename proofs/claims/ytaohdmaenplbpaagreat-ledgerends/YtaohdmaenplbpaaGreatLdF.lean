import Derived.Test.YtaohdmaenplbpaaGreatLdE
set_option linter.all false
namespace Go.Proofs.YtaohdmaenplbpaaGreat
open Go.RowKit Go.QK Quota Go.Maps Go.QM
set_option maxRecDepth 100000

/-- A transaction's counters, one by one. -/
def endK (one : Esc → Int → Esc) (tx : Int) (l : Led) (ids : List Int) : Led := ids.foldl (fun l id => match getM l.K id with | some x => l.turned id x (one x.c.e tx) | none => l) l
theorem endK_snoc (one : Esc → Int → Esc) (tx : Int) (l : Led) (ids : List Int) (id : Int) : endK one tx l (ids ++ [id]) = match getM (endK one tx l ids).K id with | some x => (endK one tx l ids).turned id x (one x.c.e tx) | none => endK one tx l ids := by
  unfold endK
  rw [List.foldl_append]
  rfl
theorem endK_ctrs (one : Esc → Int → Esc) (tx : Int) (ids : List Int) (l : Led) : (endK one tx l ids).ctrs = endIds one tx l.ctrs ids := by
  induction ids generalizing l with
  | nil => rfl
  | cons id r ih =>
    show (endK one tx (match getM l.K id with | some x => l.turned id x (one x.c.e tx) | none => l) r).ctrs = endIds one tx (match getM l.ctrs id with | some c => putM id ⟨c.grp, one c.e tx⟩ l.ctrs | none => l.ctrs) r
    rw [ih, getC]
    cases getM l.K id with
    | none => rfl
    | some x => simp only [Option.map_some]; rw [turned_ctrs]
theorem endK_same (one : Esc → Int → Esc) (tx : Int) (ids : List Int) (l : Led) : (endK one tx l ids).lb = l.lb ∧ (endK one tx l ids).mc = l.mc ∧ (endK one tx l ids).mg = l.mg ∧ (endK one tx l ids).mh = l.mh ∧ (endK one tx l ids).D = l.D := by
  induction ids generalizing l with
  | nil => exact ⟨rfl, rfl, rfl, rfl, rfl⟩
  | cons id r ih =>
    have step : endK one tx l (id :: r) = endK one tx (match getM l.K id with | some x => l.turned id x (one x.c.e tx) | none => l) r := rfl
    rw [step]
    cases q : getM l.K id with
    | none => exact ih l
    | some x => exact ih (l.turned id x (one x.c.e tx))
theorem endK_K (one : Esc → Int → Esc) (tx : Int) (ids : List Int) (l : Led) (hu : Up l.K) : Up (endK one tx l ids).K ∧ ∀ k, (getM (endK one tx l ids).K k).map (fun x => (x.b, x.m)) = (getM l.K k).map (fun x => (x.b, x.m)) := by
  induction ids generalizing l with
  | nil => exact ⟨hu, fun _ => rfl⟩
  | cons id r ih =>
    show Up (endK one tx (match getM l.K id with | some x => l.turned id x (one x.c.e tx) | none => l) r).K ∧ ∀ k, (getM (endK one tx (match getM l.K id with | some x => l.turned id x (one x.c.e tx) | none => l) r).K k).map (fun x => (x.b, x.m)) = _
    cases q : getM l.K id with
    | none => exact ih l hu
    | some x =>
      obtain ⟨h1, h2⟩ := ih (l.turned id x (one x.c.e tx)) (hu.put _ _)
      refine ⟨h1, fun k => (h2 k).trans ?_⟩
      show (getM (putM id _ l.K) k).map _ = _
      rw [getM_put hu]
      split
      · rename_i e; rw [e, q]; rfl
      · rfl
def endS (l : Led) (z : Nat) : Prop := z = l.mg ∨ ∃ k x, getM l.K k = some x ∧ (z = x.b ∨ z = x.m)
theorem endS_of {one : Esc → Int → Esc} {tx : Int} {ids : List Int} {l : Led} (hu : Up l.K) {id : Int} {x : Lm} (hk : getM (endK one tx l ids).K id = some x) : (∀ z, turnS (endK one tx l ids) x z → endS l z) ∧ (∀ z, two x.b x.m z → endS l z) := by
  have h := (endK_K one tx ids l hu).2 id
  rw [hk] at h
  cases q : getM l.K id with
  | none => rw [q] at h; cases h
  | some y =>
    rw [q] at h
    simp only [Option.map_some, Option.some.injEq, Prod.mk.injEq] at h
    have e : ∀ z, (z = x.b ∨ z = x.m) → endS l z := fun z hz => .inr ⟨id, y, q, by rw [← h.1, ← h.2]; exact hz⟩
    refine ⟨fun z hz => ?_, fun z hz => e z hz⟩
    rcases hz with hz | hz
    · exact .inl (hz.trans (endK_same one tx ids l).2.2.1)
    · exact e z hz
theorem tset_any {C : Ctrs} {id : Int} {c : Ctr} (h : LOk C) (hc : getM C id = some c) (tx : Int) (w : World) : Calls Tryz.prog 73 #[tot (sumG C c.grp) (lowG C c.grp) (highG C c.grp), .int .i64 (netV c.e.nets tx)] w fun r w' => r = .returned (tot (sumG C c.grp + ((setN c.e tx).val - c.e.val)) (lowG C c.grp + ((setN c.e tx).low - c.e.low)) (highG C c.grp + ((setN c.e tx).high - c.e.high))) ∧ Below w.heap.size w w' := by
  have ok := h.all _ (getM_mem hc)
  simp only at ok
  have L := h.settle hc tx
  have lo := L.lo c.grp
  have hi := L.hi c.grp
  rw [turn_low h.up hc, if_pos rfl] at lo
  rw [turn_high h.up hc, if_pos rfl] at hi
  have e0 := set_val ok tx
  have e1 : (setN c.e tx).low = c.e.low + max (netV c.e.nets tx) 0 ∧ (setN c.e tx).high = c.e.high + min (netV c.e.nets tx) 0 := by
    cases q : holdB c.e.nets tx
    · have e0 : netV c.e.nets tx = 0 := netV_none (holdB_false q)
      rw [setN_no q, e0]
      simp
    · exact setN_low ok q
  have q0 : sumG C c.grp + ((setN c.e tx).val - c.e.val) = sumG C c.grp := by omega
  have q1 : lowG C c.grp + ((setN c.e tx).low - c.e.low) = lowG C c.grp + max (netV c.e.nets tx) 0 := by omega
  have q2 : highG C c.grp + ((setN c.e tx).high - c.e.high) = highG C c.grp + min (netV c.e.nets tx) 0 := by omega
  rw [q1] at lo
  rw [q2] at hi
  rw [q0, q1, q2]
  exact tsettled_any _ _ _ _ w lo hi
theorem trel_any {C : Ctrs} {id : Int} {c : Ctr} (h : LOk C) (hc : getM C id = some c) (tx : Int) (w : World) : Calls Tryz.prog 68 #[tot (sumG C c.grp) (lowG C c.grp) (highG C c.grp), .int .i64 (netV c.e.nets tx)] w fun r w' => r = .returned (tot (sumG C c.grp + ((relN c.e tx).val - c.e.val)) (lowG C c.grp + ((relN c.e tx).low - c.e.low)) (highG C c.grp + ((relN c.e tx).high - c.e.high))) ∧ Below w.heap.size w w' := by
  have ok := h.all _ (getM_mem hc)
  simp only at ok
  have L := h.release hc tx
  have lo := L.lo c.grp
  have hi := L.hi c.grp
  have sm := sumG_in (putM id ⟨c.grp, relN c.e tx⟩ C) c.grp
  rw [turn_low h.up hc, if_pos rfl] at lo
  rw [turn_high h.up hc, if_pos rfl] at hi
  rw [turn_low h.up hc, turn_high h.up hc, turn_sum h.up hc, if_pos rfl, if_pos rfl, if_pos rfl] at sm
  have e1 : (relN c.e tx).low = c.e.low - min (netV c.e.nets tx) 0 ∧ (relN c.e tx).high = c.e.high - max (netV c.e.nets tx) 0 ∧ (relN c.e tx).val = c.e.val - netV c.e.nets tx := by
    cases q : holdB c.e.nets tx
    · have e0 : netV c.e.nets tx = 0 := netV_none (holdB_false q)
      rw [relN_no q, e0]
      simp
    · exact ⟨(relN_low ok q).1, (relN_low ok q).2, rel_val ok q⟩
  have q0 : sumG C c.grp + ((relN c.e tx).val - c.e.val) = sumG C c.grp - netV c.e.nets tx := by omega
  have q1 : lowG C c.grp + ((relN c.e tx).low - c.e.low) = lowG C c.grp - min (netV c.e.nets tx) 0 := by omega
  have q2 : highG C c.grp + ((relN c.e tx).high - c.e.high) = highG C c.grp - max (netV c.e.nets tx) 0 := by omega
  rw [q1] at lo sm
  rw [q2] at hi sm
  rw [q0] at sm ⊢
  rw [q1, q2]
  exact treleased_any _ _ _ _ w (by unfold I64 at *; omega) lo hi
theorem delM_map {α β : Type} (f : α → β) (L : Prs α) (k : Int) : (delM L k).map (fun p => (p.1, f p.2)) = delM (L.map (fun p => (p.1, f p.2))) k := by
  unfold delM
  rw [List.filter_map]
  rfl
theorem PL0.drop {lab : Nat → Nat} {B : Nat} {w0 w y : World} {l : Led} {tx : Int} {one : Esc → Int → Esc} (h : PL lab B w0 l) (h0 : PL0 lab B w (endK one tx l (idsOf l.helds tx)))
    (ho : ∀ e j, holdB (one e tx).nets j = (holdB e.nets j && !decide (j = tx))) (h1 : ∀ e, holdB e.nets tx = false → one e tx = e) (hk : Keep (fun z => z = l.mh) w y)
    (hm : AnyAt Tryz.prog 3 y l.mh (delM (l.D.map (fun (p : Int × Value × List Int) => (p.1, p.2.1))) tx)) : PL lab B y { endK one tx l (idsOf l.helds tx) with D := delM l.D tx } := by
  obtain ⟨m1, m2, m3, m4, m5⟩ := endK_same one tx (idsOf l.helds tx) l
  have ec : ({ endK one tx l (idsOf l.helds tx) with D := delM l.D tx } : Led).ctrs = (endK one tx l (idsOf l.helds tx)).ctrs := rfl
  have ee : (endK one tx l (idsOf l.helds tx)).ctrs = endL one l.ctrs tx := by
    rw [endK_ctrs]
    exact endIds_all one tx h1 h.ok.up (h.hok.nodup tx) (fun p hp hh => (h.hok.iff tx p.1).2 ⟨p.2, getM_of_mem h.ok.up hp, hh⟩)
  have eh : ({ endK one tx l (idsOf l.helds tx) with D := delM l.D tx } : Led).helds = delM l.helds tx := delM_map (fun (x : Value × List Int) => x.2) l.D tx
  have q1 := h0.l1
  have q2 := h0.l2
  have q3 := h0.l3
  have q4 : lab l.mh = 4 := h.l4
  have own0 : ∀ p ∈ delM l.D tx, p ∈ l.D := fun p hp => (List.mem_filter.1 hp).1
  have nn : ∀ z, lab z ≠ 4 → ¬ z = l.mh := fun z hz q => hz (by rw [q]; exact q4)
  refine ⟨h0.box.keep hk (nn (endK one tx l (idsOf l.helds tx)).lb (by omega)), anyAt_keep h0.cm hk (nn (endK one tx l (idsOf l.helds tx)).mc (by omega)), anyAt_keep h0.gm hk (nn (endK one tx l (idsOf l.helds tx)).mg (by omega)), ?_, fun p hp => (h0.esc p hp).keep hk (nn _ (by have := h0.l5 p hp; omega)) (nn _ (by have := h0.l5 p hp; omega)), fun p hp => ?_, h0.ok, ?_, h0.gup, h0.grp, h0.l1, h0.l2, h0.l3, h0.l4, h0.l5, fun p hp => h.l6 p (own0 p hp), h0.low⟩
  · show AnyAt Tryz.prog 3 y (endK one tx l (idsOf l.helds tx)).mh ((delM l.D tx).map (fun (p : Int × Value × List Int) => (p.1, p.2.1)))
    rw [m4, delM_map (fun (x : Value × List Int) => x.1)]
    exact hm
  · have hp2 := own0 p hp
    have o := h0.own p (by rw [m5]; exact hp2)
    exact ⟨o.1.keep hk (fun g hg q => by have := h.l6 p hp2 g hg; rw [q, q4] at this; omega), o.2⟩
  · rw [ec, ee, eh]
    exact h.hok.end one tx ho
set_option maxHeartbeats 8000000 in
theorem end_settle (lab : Nat → Nat) (B : Nat) (l : Led) (tx : Int) (w : World) (h : PL lab B w l) (hx : I64 tx) :
    Calls Tryz.prog 67 #[ptr l.lb, .int .i64 tx, .func (.func 73) #[] #[], .func (.func 49) #[] #[]] w fun r w' => r = .returned (.int .i64 ((idsOf l.helds tx).length : Int)) ∧ PL lab B w' { endK setN tx l (idsOf l.helds tx) with D := delM l.D tx } ∧ Keep (fun z => endS l z ∨ z = l.mh) w w' := by
  have hO := h.heldO tx
  obtain ⟨a, cap, hv, hseen, hnil, hcap, hmax⟩ := hO.seen
  have hIds := h.hok.iff tx
  have hlen := h.lenI tx
  have hup := h.upK
  have hr := any_run lawK Tryz.underlying106 zeroS h.hm (keyI hx)
  rw [h.heldD tx, hv] at hr
  obtain ⟨k2, _⟩ := h.box.get 2 _ rfl
  have HP := hide h
  have HHO := hide (fun (y : World) (k : Keep (endS l) w y) => hO.keep k (fun g hg q => by
    have lg := h.heldL hg
    rcases q with q | ⟨k, x, hk, q⟩
    · rw [q, h.l3] at lg; omega
    · have l5 := h.l5 _ (getM_mem hk)
      simp only at l5
      rcases q with q | q <;> rw [q] at lg <;> omega))
  rw [hv] at HHO
  generalize hids : idsOf l.helds tx = ids at *
  clear h hO hseen
  go_enter Tryz.func67, Tryz.ntmps67
  go_wp2_with fail
  clear hr
  go_loopw [23] (fun v wr => ∃ i : Nat, v = .int .i64 (i : Int) ∧ i ≤ ids.length ∧ PL0 lab B wr (endK setN tx l (ids.take i)) ∧ Keep (endS l) w wr) (fun v _ => ids.length - (intOf v).toNat)
  case atStart => exact ⟨0, rfl, Nat.zero_le _, HP.out.p0, Keep.refl _ _⟩
  case round =>
    obtain ⟨i, rfl, hi, pi, kp⟩ := hrel
    by_cases hlt : i < ids.length
    · obtain ⟨id, hid⟩ : ∃ id, ids[i]? = some id := ⟨_, List.getElem?_eq_getElem hlt⟩
      have ow := HHO.out wr kp
      obtain ⟨g, cap', ha, _⟩ := ow.form (by omega)
      simp only [Value.slice.injEq] at ha
      obtain ⟨rfl, _, rfl⟩ := ha
      have c0 : wr.cell? ⟨g, i, none⟩ = some (.int .i64 id) := by
        have := World.ownsRow.cells ow rfl i (.int .i64 id) (by rw [List.getElem?_map, hid]; rfl)
        rw [addr_add] at this
        simpa using this
      have hidI : id ∈ ids := List.mem_of_getElem? hid
      obtain ⟨c, hc, _⟩ := (hIds id).1 hidI
      have hcr := (HP.out.ok.ids _ (getM_mem hc)).1
      simp only at hcr
      have hii : I64 id := by unfold I64; omega
      have htake : ids.take (i + 1) = ids.take i ++ [id] := by rw [List.take_add_one, hid]; rfl
      have ex : ∃ x, getM (endK setN tx l (ids.take i)).K id = some x := by
        have := (endK_K setN tx (ids.take i) l hup).2 id
        rw [getC] at hc
        cases q : getM l.K id with
        | none => rw [q] at hc; cases hc
        | some y =>
          rw [q] at this
          cases q2 : getM (endK setN tx l (ids.take i)).K id with
          | none => rw [q2] at this; cases this
          | some x => exact ⟨x, rfl⟩
      obtain ⟨x, hkx⟩ := ex
      have hnext := endK_snoc setN tx l (ids.take i) id
      rw [hkx, ← htake] at hnext
      simp only at hnext
      obtain ⟨eS1, eS2⟩ := endS_of (one := setN) (tx := tx) hup hkx
      obtain ⟨m1, m2, m3, m4, m5⟩ := endK_same setN tx (ids.take i) l
      generalize hLI : endK setN tx l (ids.take i) = LI at *
      have hcx : getM LI.ctrs id = some x.c := by rw [getC, hkx]; rfl
      have okL := pi.ok.settle hcx tx
      have KT := fun w' => tset_any pi.ok hcx tx w'
      have KN := fun w' (h : PE w' x.b x.m x.c.e) => net_any x.b x.m x.c.e tx w' h hx
      have KO := fun w' (h : PE w' x.b x.m x.c.e) => settle_any x.b x.m x.c.e tx w' h hx
      have hgI : I64 x.c.grp := by have := (pi.ok.ids _ (getM_mem hcx)).2; unfold I64; simp only at this; omega
      have TURN := fun (w y : World) (h0 : PL0 lab B w LI) => PL0.turn (y := y) h0 hkx okL
      have HAT := fun (w : World) (h0 : PL0 lab B w LI) => h0.totD x.c.grp
      have HE := hide (getM_mapV entV LI.K id)
      have hr := any_run lawK Tryz.underlying104 zeroE pi.cm (keyI hii)
      rw [HE.out, hkx] at hr
      simp only [Option.map_some, Option.getD_some] at hr
      rw [m2] at hr
      obtain ⟨b0, _⟩ := pi.box.get 0 _ rfl
      rw [m1, m2] at b0
      have hmem := getM_mem hkx
      have lbx := pi.l5 _ hmem
      simp only at lbx
      have z1 := pi.l1
      have z3 := pi.l3
      rw [m1] at z1
      rw [m3] at z3
      have dn : ∀ {a b : Nat}, lab a ≠ lab b → a ≠ b := fun q r => q (by rw [r])
      have d1 : l.lb ≠ l.mg := dn (by omega)
      have d2 : x.b ≠ l.mg := dn (by omega)
      have d3 : x.m ≠ l.mg := dn (by omega)
      clear dn z1 z3 lbx
      generalize sumG LI.ctrs x.c.grp + ((setN x.c.e tx).val - x.c.e.val) = v0 at *
      generalize lowG LI.ctrs x.c.grp + ((setN x.c.e tx).low - x.c.e.low) = v1 at *
      generalize highG LI.ctrs x.c.grp + ((setN x.c.e tx).high - x.c.e.high) = v2 at *
      generalize sumG LI.ctrs x.c.grp = s0 at *
      generalize lowG LI.ctrs x.c.grp = s1 at *
      generalize highG LI.ctrs x.c.grp = s2 at *
      generalize setN x.c.e tx = e' at *
      generalize holdB x.c.e.nets tx = hb at *
      generalize netV x.c.e.nets tx = nn at *
      have PI := hide pi
      have KP := hide kp
      have NXT := hide hnext
      have HID := hide hid
      clear pi kp hnext hid htake hcx okL hkx hLI HE ow hc hIds
      go_wp2_with fail
      refine (KN _ ((PI.out.esc _ hmem).below (alloc_below _ _))).mono ?_
      rintro r x4 ⟨rfl, h4⟩
      have P4 := hide ((PI.out.below (alloc_below wr (.cells #[.int .i64 x.c.grp, ptr x.b] 110))).below h4)
      have E4 := hide ((Cells.new wr #[.int .i64 x.c.grp, ptr x.b] 110).below h4)
      have K4 := hide (KP.out.then_below (below1 h4))
      have Z4 := (E4.out.1)
      have lt1 : l.lb < wr.heap.size := by have := PI.out.box.1; rw [m1] at this; exact this
      have lt2 : l.mg < wr.heap.size := by have := World.ownsMap.lt PI.out.gm; rw [m3] at this; exact this
      have lt3 := (PI.out.esc _ hmem).lt
      simp only at lt3
      generalize wr.heap.size = eb at *
      clear h4 PI KP KN c0 b0 hr
      go_upto_region 7 with fail
      refine wp_region_held_drew (S := fun wq => Cells wq l.lb [.map (some l.mc), .map (some l.mg), .map (some l.mh)] ∧ Cells wq eb [.int .i64 x.c.grp, ptr x.b]) (by kernel_rfl) ⟨by have := P4.out.box; rw [m1, m2, m3, m4] at this; exact this, E4.out⟩ (fun hS => ?_)
      have Pa := hide (P4.out.below (Below.refl _ _).drew)
      have Ea := hide (E4.out.below (Below.refl _ _).drew)
      have Ka := hide K4.out.drew
      have sza : eb < x4.drew.heap.size := Z4
      clear P4 E4 K4 Z4
      generalize x4.drew = xa at *
      refine take_at 0 (some 40) (v := ?_) rfl rfl (by kernel_rfl) (by kernel_rfl) (by kernel_rfl) (fun _ _ _ h => h) ⟨by rfl, ?_⟩ hS ?_
      rotate_left
      · intro wq hSw; go_simp; try rfl
      simp only [Act.put, List.setIfInBounds_toArray, List.set_cons_zero, List.set_cons_succ]
      refine take_at 1 (some 41) (v := ?_) rfl rfl (by kernel_rfl) (by kernel_rfl) (by kernel_rfl) (fun _ _ _ h => h) ⟨by rfl, ?_⟩ hS ?_
      rotate_left
      · intro wq hSw; go_simp; try rfl
      simp only [Act.put, List.setIfInBounds_toArray, List.set_cons_zero, List.set_cons_succ]
      refine take_at 2 (some 42) (v := ?_) rfl rfl (by kernel_rfl) (by kernel_rfl) (by kernel_rfl) (fun _ _ _ h => h) ⟨by rfl, ?_⟩ hS ?_
      rotate_left
      · intro wq hSw; go_simp; try rfl
      simp only [Act.put, List.setIfInBounds_toArray, List.set_cons_zero, List.set_cons_succ]
      refine take_at 3 (some 43) (v := ?_) rfl rfl (by kernel_rfl) (by kernel_rfl) (by kernel_rfl) (fun _ _ _ h => h) ⟨by rfl, ?_⟩ hS ?_
      rotate_left
      · intro wq hSw; obtain ⟨r0, r1⟩ := hSw; have q := (r0.get 1 _ rfl).1; go_simp; try rfl
      simp only [Act.put, List.setIfInBounds_toArray, List.set_cons_zero, List.set_cons_succ]
      refine take_at 4 (some 44) (v := ?_) rfl rfl (by kernel_rfl) (by kernel_rfl) (by kernel_rfl) (fun _ _ _ h => h) ⟨by rfl, ?_⟩ hS ?_
      rotate_left
      · intro wq hSw; go_simp; try rfl
      simp only [Act.put, List.setIfInBounds_toArray, List.set_cons_zero, List.set_cons_succ]
      refine take_at 5 (some 45) (v := ?_) rfl rfl (by kernel_rfl) (by kernel_rfl) (by kernel_rfl) (fun _ _ _ h => h) ⟨by rfl, ?_⟩ hS ?_
      rotate_left
      · intro wq hSw; obtain ⟨r0, r1⟩ := hSw; have q := (r1.get 0 _ rfl).1; go_simp; try rfl
      simp only [Act.put, List.setIfInBounds_toArray, List.set_cons_zero, List.set_cons_succ]
      refine take_at 6 (some 46) (v := ?_) rfl rfl (by kernel_rfl) (by kernel_rfl) (by kernel_rfl) (fun _ _ _ h => h) ⟨by rfl, ?_⟩ hS ?_
      rotate_left
      · intro wq hSw; go_simp; try rfl
      simp only [Act.put, List.setIfInBounds_toArray, List.set_cons_zero, List.set_cons_succ]
      refine take_at 7 (some 47) (v := ?_) rfl rfl (by kernel_rfl) (by kernel_rfl) (by kernel_rfl) (fun _ _ _ h => h) ⟨by rfl, ?_⟩ hS ?_
      rotate_left
      · intro wq hSw; go_simp; try rfl
      simp only [Act.put, List.setIfInBounds_toArray, List.set_cons_zero, List.set_cons_succ]
      refine take_at 8 (some 48) (v := ?_) rfl rfl (by kernel_rfl) (by kernel_rfl) (by kernel_rfl) (fun _ _ _ h => h) ⟨by rfl, ?_⟩ hS ?_
      rotate_left
      · intro wq hSw; go_simp; try rfl
      simp only [Act.put, List.setIfInBounds_toArray, List.set_cons_zero, List.set_cons_succ]
      refine take_at 9 (some 49) (v := ?_) rfl rfl (by kernel_rfl) (by kernel_rfl) (by kernel_rfl) (fun _ _ _ h => h) ⟨by rfl, ?_⟩ hS ?_
      rotate_left
      · intro wq hSw; go_simp; try rfl
      simp only [Act.put, List.setIfInBounds_toArray, List.set_cons_zero, List.set_cons_succ]
      refine take_at 10 (some 50) (v := ?_) rfl rfl (by kernel_rfl) (by kernel_rfl) (by kernel_rfl) (fun _ _ _ h => h) ⟨by rfl, ?_⟩ hS ?_
      rotate_left
      · intro wq hSw; obtain ⟨r0, r1⟩ := hSw; have q := (r0.get 1 _ rfl).1; go_simp; try rfl
      simp only [Act.put, List.setIfInBounds_toArray, List.set_cons_zero, List.set_cons_succ]
      refine take_at 11 (some 51) (v := ?_) rfl rfl (by kernel_rfl) (by kernel_rfl) (by kernel_rfl) (fun _ _ _ h => h) ⟨by rfl, ?_⟩ hS ?_
      rotate_left
      · intro wq hSw; go_simp; try rfl
      simp only [Act.put, List.setIfInBounds_toArray, List.set_cons_zero, List.set_cons_succ]
      refine take_at 12 (some 52) (v := ?_) rfl rfl (by kernel_rfl) (by kernel_rfl) (by kernel_rfl) (fun _ _ _ h => h) ⟨by rfl, ?_⟩ hS ?_
      rotate_left
      · intro wq hSw; obtain ⟨r0, r1⟩ := hSw; have q := (r1.get 0 _ rfl).1; go_simp; try rfl
      simp only [Act.put, List.setIfInBounds_toArray, List.set_cons_zero, List.set_cons_succ]
      refine take_at 14 (some 54) (v := ?_) rfl rfl (by kernel_rfl) (by kernel_rfl) (by kernel_rfl) (fun _ _ _ h => h) ⟨by rfl, ?_⟩ hS ?_
      rotate_left
      · intro wq hSw; go_simp; try rfl
      simp only [Act.put, List.setIfInBounds_toArray, List.set_cons_zero, List.set_cons_succ]
      have la := any_run lawK Tryz.underlying105 zeroT Pa.out.gm (keyI hgI)
      rw [HAT xa Pa.out, m3] at la
      have H1 := hide la
      clear la HAT
      refine wpAnyH_ready (rs := [13]) (by kernel_rfl) (by simp) ?_
      refine AllReadyH.cons rfl (fun K hK => ?_) AllReadyH.nil
      refine wp_look 53 (.tmp 50) (.tmp 52) rfl rfl rfl rfl rfl H1.out ?_
      refine hK.out _ _ hS (fun hS => ?_)
      clear hK K H1
      (try simp only [Act.put, List.setIfInBounds_toArray, List.set_cons_zero, List.set_cons_succ])
      refine wpAnyH_ready (rs := [15]) (by kernel_rfl) (by simp) ?_
      refine AllReadyH.cons rfl (fun K hK => ?_) AllReadyH.nil
      go_simp
      go_wp2_with fail
      refine (KT _).mono ?_
      rintro r xb ⟨rfl, hh⟩
      have Pb := hide (Pa.out.below hh)
      have Eb := hide (Ea.out.below hh)
      have Kb := hide (Ka.out.then_below hh)
      have szb : eb < xb.heap.size := by have := hh.size; omega
      clear hh Pa Ea Ka sza KT hS
      go_wp2_with fail
      refine hK.out _ _ ⟨by have := Pb.out.box; rw [m1, m2, m3, m4] at this; exact this, Eb.out⟩ (fun hS => ?_)
      clear hK K
      (try simp only [Act.put, List.setIfInBounds_toArray, List.set_cons_zero, List.set_cons_succ])
      have Pa := Pb
      have Ka := Kb
      have gmb := Pb.out.gm
      rw [m3] at gmb
      obtain ⟨xf, hu, hmf, hg⟩ := any_upd lawK Tryz.underlying105 gmb ((up_map totV).2 Pb.out.gup) (keyI hgI) (by have := Pb.out.lenG; simp; omega) (tot v0 v1 v2)
      have kf : Keep (fun z => z = l.mg) xb xf := (Keep.refl (fun z => z = l.mg) xb).grown hg (by rintro g ⟨⟩ _; rfl)
      have Lf := Pb.out.box.keep kf (by rw [m1]; exact d1)
      rw [m1, m2, m3, m4] at Lf
      have Ef := hide (Eb.out.keep kf (by omega))
      have QF := hide ((Pb.out.esc _ hmem).keep kf d2 d3)
      have KF := hide kf
      have GF := hide hmf
      have H8 := hide hu
      clear hu hg kf hmf gmb Pb Kb Eb
      refine wpAnyH_ready (rs := [16]) (by kernel_rfl) (by simp) ?_
      refine AllReadyH.cons rfl (fun K hK => ?_) AllReadyH.nil
      refine wp_upd (.tmp 43) (.tmp 45) (.tmp 55) rfl rfl rfl rfl rfl H8.out ?_
      refine hK.out _ _ ⟨Lf, Ef.out⟩ (fun hS => ?_)
      clear hK K hS Lf H8
      (try simp only [Act.put, List.setIfInBounds_toArray, List.set_cons_zero, List.set_cons_succ])
      refine wpAnyH_done (by kernel_rfl) ?_ _
      obtain ⟨u1, _⟩ := Ef.out.get 1 _ rfl
      go_wp2_with fail
      refine (KO _ QF.out).mono ?_
      rintro r xz ⟨rfl, hkz, hpz⟩
      have fk : Keep (turnS LI x) xb xz := (KF.out.mono (T := turnS LI x) (fun z _ q => .inl (q.trans m3.symm))).trans hkz (fun z _ q => by rcases q with q | q; exact .inr (.inl q); exact .inr (.inr q))
      have g1 := anyAt_keep GF.out hkz (by rintro (q | q); exact d2 q.symm; exact d3 q.symm)
      have PZ := TURN xb xz Pa.out hpz fk (by rw [m3]; exact g1)
      rw [← NXT.out] at PZ
      have KZ : Keep (endS l) w xz := Ka.out.trans fk (fun z _ q => eS1 z q)
      have PZ := hide PZ
      have KZ := hide KZ
      clear hkz hpz fk g1 KO u1 QF GF KF Ef Pa Ka TURN NXT eS1 eS2
      go_wp2_with fail
      refine ⟨⟨i + 1, by simp, by omega, PZ.out, KZ.out⟩, ?_⟩
      simp [intOf]
      omega
    · have e : i = ids.length := by omega
      subst e
      rw [List.take_length] at pi
      clear HHO
      obtain ⟨m1, m2, m3, m4, m5⟩ := endK_same setN tx ids l
      obtain ⟨b2, _⟩ := pi.box.get 2 _ rfl
      rw [m1, m4] at b2
      have hmm := pi.hm
      rw [m4, m5] at hmm
      have HM := hide hmm
      have PI := hide pi
      have KP := hide kp
      have DROP := fun (y : World) (h0 : PL0 lab B wr (endK setN tx l (idsOf l.helds tx))) => PL0.drop (y := y) HP.out h0 (fun e j => hold_set e tx j) (fun e q => setN_no q)
      rw [hids] at DROP
      clear pi kp hmm hIds HP hlt m1 m2 m3 m4 m5
      go_wp2_with (at_delete; refine wpList_delete_own _ rfl _ _ 106 3 rfl 117 lawK Tryz.underlying106 anyElem l.mh _ (mapE .held (l.D.map (fun (p : Int × Value × List Int) => (p.1, p.2.1)))) rfl HM.out _ _ rfl (keyI hx) ?_; intro v4 hown4 hturn4)
      go_ret
      have kk : Keep (fun z => z = l.mh) wr v4 := (Keep.refl (fun z => z = l.mh) wr).grown hturn4.grown (by rintro g ⟨⟩ _; rfl)
      refine ⟨rfl, DROP v4 PI.out kk (AnyAt.del hown4), (KP.out.mono (T := fun z => endS l z ∨ z = l.mh) (fun _ _ q => .inl q)).trans kk (fun _ _ q => .inr q)⟩
set_option maxHeartbeats 8000000 in
theorem end_release (lab : Nat → Nat) (B : Nat) (l : Led) (tx : Int) (w : World) (h : PL lab B w l) (hx : I64 tx) :
    Calls Tryz.prog 67 #[ptr l.lb, .int .i64 tx, .func (.func 68) #[] #[], .func (.func 50) #[] #[]] w fun r w' => r = .returned (.int .i64 ((idsOf l.helds tx).length : Int)) ∧ PL lab B w' { endK relN tx l (idsOf l.helds tx) with D := delM l.D tx } ∧ Keep (fun z => endS l z ∨ z = l.mh) w w' := by
  have hO := h.heldO tx
  obtain ⟨a, cap, hv, hseen, hnil, hcap, hmax⟩ := hO.seen
  have hIds := h.hok.iff tx
  have hlen := h.lenI tx
  have hup := h.upK
  have hr := any_run lawK Tryz.underlying106 zeroS h.hm (keyI hx)
  rw [h.heldD tx, hv] at hr
  obtain ⟨k2, _⟩ := h.box.get 2 _ rfl
  have HP := hide h
  have HHO := hide (fun (y : World) (k : Keep (endS l) w y) => hO.keep k (fun g hg q => by
    have lg := h.heldL hg
    rcases q with q | ⟨k, x, hk, q⟩
    · rw [q, h.l3] at lg; omega
    · have l5 := h.l5 _ (getM_mem hk)
      simp only at l5
      rcases q with q | q <;> rw [q] at lg <;> omega))
  rw [hv] at HHO
  generalize hids : idsOf l.helds tx = ids at *
  clear h hO hseen
  go_enter Tryz.func67, Tryz.ntmps67
  go_wp2_with fail
  clear hr
  go_loopw [23] (fun v wr => ∃ i : Nat, v = .int .i64 (i : Int) ∧ i ≤ ids.length ∧ PL0 lab B wr (endK relN tx l (ids.take i)) ∧ Keep (endS l) w wr) (fun v _ => ids.length - (intOf v).toNat)
  case atStart => exact ⟨0, rfl, Nat.zero_le _, HP.out.p0, Keep.refl _ _⟩
  case round =>
    obtain ⟨i, rfl, hi, pi, kp⟩ := hrel
    by_cases hlt : i < ids.length
    · obtain ⟨id, hid⟩ : ∃ id, ids[i]? = some id := ⟨_, List.getElem?_eq_getElem hlt⟩
      have ow := HHO.out wr kp
      obtain ⟨g, cap', ha, _⟩ := ow.form (by omega)
      simp only [Value.slice.injEq] at ha
      obtain ⟨rfl, _, rfl⟩ := ha
      have c0 : wr.cell? ⟨g, i, none⟩ = some (.int .i64 id) := by
        have := World.ownsRow.cells ow rfl i (.int .i64 id) (by rw [List.getElem?_map, hid]; rfl)
        rw [addr_add] at this
        simpa using this
      have hidI : id ∈ ids := List.mem_of_getElem? hid
      obtain ⟨c, hc, _⟩ := (hIds id).1 hidI
      have hcr := (HP.out.ok.ids _ (getM_mem hc)).1
      simp only at hcr
      have hii : I64 id := by unfold I64; omega
      have htake : ids.take (i + 1) = ids.take i ++ [id] := by rw [List.take_add_one, hid]; rfl
      have ex : ∃ x, getM (endK relN tx l (ids.take i)).K id = some x := by
        have := (endK_K relN tx (ids.take i) l hup).2 id
        rw [getC] at hc
        cases q : getM l.K id with
        | none => rw [q] at hc; cases hc
        | some y =>
          rw [q] at this
          cases q2 : getM (endK relN tx l (ids.take i)).K id with
          | none => rw [q2] at this; cases this
          | some x => exact ⟨x, rfl⟩
      obtain ⟨x, hkx⟩ := ex
      have hnext := endK_snoc relN tx l (ids.take i) id
      rw [hkx, ← htake] at hnext
      simp only at hnext
      obtain ⟨eS1, eS2⟩ := endS_of (one := relN) (tx := tx) hup hkx
      obtain ⟨m1, m2, m3, m4, m5⟩ := endK_same relN tx (ids.take i) l
      generalize hLI : endK relN tx l (ids.take i) = LI at *
      have hcx : getM LI.ctrs id = some x.c := by rw [getC, hkx]; rfl
      have okL := pi.ok.release hcx tx
      have KT := fun w' => trel_any pi.ok hcx tx w'
      have KN := fun w' (h : PE w' x.b x.m x.c.e) => net_any x.b x.m x.c.e tx w' h hx
      have KO := fun w' (h : PE w' x.b x.m x.c.e) => release_any x.b x.m x.c.e tx w' h hx
      have hgI : I64 x.c.grp := by have := (pi.ok.ids _ (getM_mem hcx)).2; unfold I64; simp only at this; omega
      have TURN := fun (w y : World) (h0 : PL0 lab B w LI) => PL0.turn (y := y) h0 hkx okL
      have HAT := fun (w : World) (h0 : PL0 lab B w LI) => h0.totD x.c.grp
      have HE := hide (getM_mapV entV LI.K id)
      have hr := any_run lawK Tryz.underlying104 zeroE pi.cm (keyI hii)
      rw [HE.out, hkx] at hr
      simp only [Option.map_some, Option.getD_some] at hr
      rw [m2] at hr
      obtain ⟨b0, _⟩ := pi.box.get 0 _ rfl
      rw [m1, m2] at b0
      have hmem := getM_mem hkx
      have lbx := pi.l5 _ hmem
      simp only at lbx
      have z1 := pi.l1
      have z3 := pi.l3
      rw [m1] at z1
      rw [m3] at z3
      have dn : ∀ {a b : Nat}, lab a ≠ lab b → a ≠ b := fun q r => q (by rw [r])
      have d1 : l.lb ≠ l.mg := dn (by omega)
      have d2 : x.b ≠ l.mg := dn (by omega)
      have d3 : x.m ≠ l.mg := dn (by omega)
      clear dn z1 z3 lbx
      generalize sumG LI.ctrs x.c.grp + ((relN x.c.e tx).val - x.c.e.val) = v0 at *
      generalize lowG LI.ctrs x.c.grp + ((relN x.c.e tx).low - x.c.e.low) = v1 at *
      generalize highG LI.ctrs x.c.grp + ((relN x.c.e tx).high - x.c.e.high) = v2 at *
      generalize sumG LI.ctrs x.c.grp = s0 at *
      generalize lowG LI.ctrs x.c.grp = s1 at *
      generalize highG LI.ctrs x.c.grp = s2 at *
      generalize relN x.c.e tx = e' at *
      generalize holdB x.c.e.nets tx = hb at *
      generalize netV x.c.e.nets tx = nn at *
      have PI := hide pi
      have KP := hide kp
      have NXT := hide hnext
      have HID := hide hid
      clear pi kp hnext hid htake hcx okL hkx hLI HE ow hc hIds
      go_wp2_with fail
      refine (KN _ ((PI.out.esc _ hmem).below (alloc_below _ _))).mono ?_
      rintro r x4 ⟨rfl, h4⟩
      have P4 := hide ((PI.out.below (alloc_below wr (.cells #[.int .i64 x.c.grp, ptr x.b] 110))).below h4)
      have E4 := hide ((Cells.new wr #[.int .i64 x.c.grp, ptr x.b] 110).below h4)
      have K4 := hide (KP.out.then_below (below1 h4))
      have Z4 := (E4.out.1)
      have lt1 : l.lb < wr.heap.size := by have := PI.out.box.1; rw [m1] at this; exact this
      have lt2 : l.mg < wr.heap.size := by have := World.ownsMap.lt PI.out.gm; rw [m3] at this; exact this
      have lt3 := (PI.out.esc _ hmem).lt
      simp only at lt3
      generalize wr.heap.size = eb at *
      clear h4 PI KP KN c0 b0 hr
      go_upto_region 7 with fail
      refine wp_region_held_drew (S := fun wq => Cells wq l.lb [.map (some l.mc), .map (some l.mg), .map (some l.mh)] ∧ Cells wq eb [.int .i64 x.c.grp, ptr x.b]) (by kernel_rfl) ⟨by have := P4.out.box; rw [m1, m2, m3, m4] at this; exact this, E4.out⟩ (fun hS => ?_)
      have Pa := hide (P4.out.below (Below.refl _ _).drew)
      have Ea := hide (E4.out.below (Below.refl _ _).drew)
      have Ka := hide K4.out.drew
      have sza : eb < x4.drew.heap.size := Z4
      clear P4 E4 K4 Z4
      generalize x4.drew = xa at *
      refine take_at 0 (some 40) (v := ?_) rfl rfl (by kernel_rfl) (by kernel_rfl) (by kernel_rfl) (fun _ _ _ h => h) ⟨by rfl, ?_⟩ hS ?_
      rotate_left
      · intro wq hSw; go_simp; try rfl
      simp only [Act.put, List.setIfInBounds_toArray, List.set_cons_zero, List.set_cons_succ]
      refine take_at 1 (some 41) (v := ?_) rfl rfl (by kernel_rfl) (by kernel_rfl) (by kernel_rfl) (fun _ _ _ h => h) ⟨by rfl, ?_⟩ hS ?_
      rotate_left
      · intro wq hSw; go_simp; try rfl
      simp only [Act.put, List.setIfInBounds_toArray, List.set_cons_zero, List.set_cons_succ]
      refine take_at 2 (some 42) (v := ?_) rfl rfl (by kernel_rfl) (by kernel_rfl) (by kernel_rfl) (fun _ _ _ h => h) ⟨by rfl, ?_⟩ hS ?_
      rotate_left
      · intro wq hSw; go_simp; try rfl
      simp only [Act.put, List.setIfInBounds_toArray, List.set_cons_zero, List.set_cons_succ]
      refine take_at 3 (some 43) (v := ?_) rfl rfl (by kernel_rfl) (by kernel_rfl) (by kernel_rfl) (fun _ _ _ h => h) ⟨by rfl, ?_⟩ hS ?_
      rotate_left
      · intro wq hSw; obtain ⟨r0, r1⟩ := hSw; have q := (r0.get 1 _ rfl).1; go_simp; try rfl
      simp only [Act.put, List.setIfInBounds_toArray, List.set_cons_zero, List.set_cons_succ]
      refine take_at 4 (some 44) (v := ?_) rfl rfl (by kernel_rfl) (by kernel_rfl) (by kernel_rfl) (fun _ _ _ h => h) ⟨by rfl, ?_⟩ hS ?_
      rotate_left
      · intro wq hSw; go_simp; try rfl
      simp only [Act.put, List.setIfInBounds_toArray, List.set_cons_zero, List.set_cons_succ]
      refine take_at 5 (some 45) (v := ?_) rfl rfl (by kernel_rfl) (by kernel_rfl) (by kernel_rfl) (fun _ _ _ h => h) ⟨by rfl, ?_⟩ hS ?_
      rotate_left
      · intro wq hSw; obtain ⟨r0, r1⟩ := hSw; have q := (r1.get 0 _ rfl).1; go_simp; try rfl
      simp only [Act.put, List.setIfInBounds_toArray, List.set_cons_zero, List.set_cons_succ]
      refine take_at 6 (some 46) (v := ?_) rfl rfl (by kernel_rfl) (by kernel_rfl) (by kernel_rfl) (fun _ _ _ h => h) ⟨by rfl, ?_⟩ hS ?_
      rotate_left
      · intro wq hSw; go_simp; try rfl
      simp only [Act.put, List.setIfInBounds_toArray, List.set_cons_zero, List.set_cons_succ]
      refine take_at 7 (some 47) (v := ?_) rfl rfl (by kernel_rfl) (by kernel_rfl) (by kernel_rfl) (fun _ _ _ h => h) ⟨by rfl, ?_⟩ hS ?_
      rotate_left
      · intro wq hSw; go_simp; try rfl
      simp only [Act.put, List.setIfInBounds_toArray, List.set_cons_zero, List.set_cons_succ]
      refine take_at 8 (some 48) (v := ?_) rfl rfl (by kernel_rfl) (by kernel_rfl) (by kernel_rfl) (fun _ _ _ h => h) ⟨by rfl, ?_⟩ hS ?_
      rotate_left
      · intro wq hSw; go_simp; try rfl
      simp only [Act.put, List.setIfInBounds_toArray, List.set_cons_zero, List.set_cons_succ]
      refine take_at 9 (some 49) (v := ?_) rfl rfl (by kernel_rfl) (by kernel_rfl) (by kernel_rfl) (fun _ _ _ h => h) ⟨by rfl, ?_⟩ hS ?_
      rotate_left
      · intro wq hSw; go_simp; try rfl
      simp only [Act.put, List.setIfInBounds_toArray, List.set_cons_zero, List.set_cons_succ]
      refine take_at 10 (some 50) (v := ?_) rfl rfl (by kernel_rfl) (by kernel_rfl) (by kernel_rfl) (fun _ _ _ h => h) ⟨by rfl, ?_⟩ hS ?_
      rotate_left
      · intro wq hSw; obtain ⟨r0, r1⟩ := hSw; have q := (r0.get 1 _ rfl).1; go_simp; try rfl
      simp only [Act.put, List.setIfInBounds_toArray, List.set_cons_zero, List.set_cons_succ]
      refine take_at 11 (some 51) (v := ?_) rfl rfl (by kernel_rfl) (by kernel_rfl) (by kernel_rfl) (fun _ _ _ h => h) ⟨by rfl, ?_⟩ hS ?_
      rotate_left
      · intro wq hSw; go_simp; try rfl
      simp only [Act.put, List.setIfInBounds_toArray, List.set_cons_zero, List.set_cons_succ]
      refine take_at 12 (some 52) (v := ?_) rfl rfl (by kernel_rfl) (by kernel_rfl) (by kernel_rfl) (fun _ _ _ h => h) ⟨by rfl, ?_⟩ hS ?_
      rotate_left
      · intro wq hSw; obtain ⟨r0, r1⟩ := hSw; have q := (r1.get 0 _ rfl).1; go_simp; try rfl
      simp only [Act.put, List.setIfInBounds_toArray, List.set_cons_zero, List.set_cons_succ]
      refine take_at 14 (some 54) (v := ?_) rfl rfl (by kernel_rfl) (by kernel_rfl) (by kernel_rfl) (fun _ _ _ h => h) ⟨by rfl, ?_⟩ hS ?_
      rotate_left
      · intro wq hSw; go_simp; try rfl
      simp only [Act.put, List.setIfInBounds_toArray, List.set_cons_zero, List.set_cons_succ]
      have la := any_run lawK Tryz.underlying105 zeroT Pa.out.gm (keyI hgI)
      rw [HAT xa Pa.out, m3] at la
      have H1 := hide la
      clear la HAT
      refine wpAnyH_ready (rs := [13]) (by kernel_rfl) (by simp) ?_
      refine AllReadyH.cons rfl (fun K hK => ?_) AllReadyH.nil
      refine wp_look 53 (.tmp 50) (.tmp 52) rfl rfl rfl rfl rfl H1.out ?_
      refine hK.out _ _ hS (fun hS => ?_)
      clear hK K H1
      (try simp only [Act.put, List.setIfInBounds_toArray, List.set_cons_zero, List.set_cons_succ])
      refine wpAnyH_ready (rs := [15]) (by kernel_rfl) (by simp) ?_
      refine AllReadyH.cons rfl (fun K hK => ?_) AllReadyH.nil
      go_simp
      go_wp2_with fail
      refine (KT _).mono ?_
      rintro r xb ⟨rfl, hh⟩
      have Pb := hide (Pa.out.below hh)
      have Eb := hide (Ea.out.below hh)
      have Kb := hide (Ka.out.then_below hh)
      have szb : eb < xb.heap.size := by have := hh.size; omega
      clear hh Pa Ea Ka sza KT hS
      go_wp2_with fail
      refine hK.out _ _ ⟨by have := Pb.out.box; rw [m1, m2, m3, m4] at this; exact this, Eb.out⟩ (fun hS => ?_)
      clear hK K
      (try simp only [Act.put, List.setIfInBounds_toArray, List.set_cons_zero, List.set_cons_succ])
      have Pa := Pb
      have Ka := Kb
      have gmb := Pb.out.gm
      rw [m3] at gmb
      obtain ⟨xf, hu, hmf, hg⟩ := any_upd lawK Tryz.underlying105 gmb ((up_map totV).2 Pb.out.gup) (keyI hgI) (by have := Pb.out.lenG; simp; omega) (tot v0 v1 v2)
      have kf : Keep (fun z => z = l.mg) xb xf := (Keep.refl (fun z => z = l.mg) xb).grown hg (by rintro g ⟨⟩ _; rfl)
      have Lf := Pb.out.box.keep kf (by rw [m1]; exact d1)
      rw [m1, m2, m3, m4] at Lf
      have Ef := hide (Eb.out.keep kf (by omega))
      have QF := hide ((Pb.out.esc _ hmem).keep kf d2 d3)
      have KF := hide kf
      have GF := hide hmf
      have H8 := hide hu
      clear hu hg kf hmf gmb Pb Kb Eb
      refine wpAnyH_ready (rs := [16]) (by kernel_rfl) (by simp) ?_
      refine AllReadyH.cons rfl (fun K hK => ?_) AllReadyH.nil
      refine wp_upd (.tmp 43) (.tmp 45) (.tmp 55) rfl rfl rfl rfl rfl H8.out ?_
      refine hK.out _ _ ⟨Lf, Ef.out⟩ (fun hS => ?_)
      clear hK K hS Lf H8
      (try simp only [Act.put, List.setIfInBounds_toArray, List.set_cons_zero, List.set_cons_succ])
      refine wpAnyH_done (by kernel_rfl) ?_ _
      obtain ⟨u1, _⟩ := Ef.out.get 1 _ rfl
      go_wp2_with fail
      refine (KO _ QF.out).mono ?_
      rintro r xz ⟨rfl, hkz, hpz⟩
      have fk : Keep (turnS LI x) xb xz := (KF.out.mono (T := turnS LI x) (fun z _ q => .inl (q.trans m3.symm))).trans hkz (fun z _ q => by rcases q with q | q; exact .inr (.inl q); exact .inr (.inr q))
      have g1 := anyAt_keep GF.out hkz (by rintro (q | q); exact d2 q.symm; exact d3 q.symm)
      have PZ := TURN xb xz Pa.out hpz fk (by rw [m3]; exact g1)
      rw [← NXT.out] at PZ
      have KZ : Keep (endS l) w xz := Ka.out.trans fk (fun z _ q => eS1 z q)
      have PZ := hide PZ
      have KZ := hide KZ
      clear hkz hpz fk g1 KO u1 QF GF KF Ef Pa Ka TURN NXT eS1 eS2
      go_wp2_with fail
      refine ⟨⟨i + 1, by simp, by omega, PZ.out, KZ.out⟩, ?_⟩
      simp [intOf]
      omega
    · have e : i = ids.length := by omega
      subst e
      rw [List.take_length] at pi
      clear HHO
      obtain ⟨m1, m2, m3, m4, m5⟩ := endK_same relN tx ids l
      obtain ⟨b2, _⟩ := pi.box.get 2 _ rfl
      rw [m1, m4] at b2
      have hmm := pi.hm
      rw [m4, m5] at hmm
      have HM := hide hmm
      have PI := hide pi
      have KP := hide kp
      have DROP := fun (y : World) (h0 : PL0 lab B wr (endK relN tx l (idsOf l.helds tx))) => PL0.drop (y := y) HP.out h0 (fun e j => hold_rel e tx j) (fun e q => relN_no q)
      rw [hids] at DROP
      clear pi kp hmm hIds HP hlt m1 m2 m3 m4 m5
      go_wp2_with (at_delete; refine wpList_delete_own _ rfl _ _ 106 3 rfl 117 lawK Tryz.underlying106 anyElem l.mh _ (mapE .held (l.D.map (fun (p : Int × Value × List Int) => (p.1, p.2.1)))) rfl HM.out _ _ rfl (keyI hx) ?_; intro v4 hown4 hturn4)
      go_ret
      have kk : Keep (fun z => z = l.mh) wr v4 := (Keep.refl (fun z => z = l.mh) wr).grown hturn4.grown (by rintro g ⟨⟩ _; rfl)
      refine ⟨rfl, DROP v4 PI.out kk (AnyAt.del hown4), (KP.out.mono (T := fun z => endS l z ∨ z = l.mh) (fun _ _ q => .inl q)).trans kk (fun _ _ q => .inr q)⟩
end Go.Proofs.YtaohdmaenplbpaaGreat
