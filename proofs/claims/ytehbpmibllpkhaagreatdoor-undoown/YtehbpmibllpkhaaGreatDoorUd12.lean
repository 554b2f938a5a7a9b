import Derived.Test.YtehbpmibllpkhaaGreatDoorUd11
set_option linter.all false
namespace Go.Proofs.YtehbpmibllpkhaaGreatDoor
open Go.RowKit Go.QK Go.Maps Go.QM Go.QU
set_option maxRecDepth 100000
theorem rzs_split (rs : List RZ) (k : Nat) : rzs rs = rzs (rs.take k) ++ rzs (rs.drop k) := by rw [← rzs_app, List.take_append_drop]
theorem lies_take {w : World} {a : Option Addr} {rs : List RZ} (h : Lies w a (rzs rs)) (k : Nat) : Lies w a (rzs (rs.take k)) := by
  have e := rzs_split rs k
  rcases h with q | ⟨b, off, ea, hb, hc⟩
  · rw [q] at e
    exact .inl (List.append_eq_nil_iff.1 e.symm).1
  · refine .inr ⟨b, off, ea, hb, fun i hi => ?_⟩
    have hi2 : i < (rzs rs).length := by rw [e, List.length_append]; omega
    rw [hc i hi2]
    congr 1
    have z : (rzs rs)[i]? = (rzs (rs.take k))[i]? := by rw [e, List.getElem?_append_left hi]
    rw [List.getElem?_eq_getElem hi2, List.getElem?_eq_getElem hi] at z
    exact Option.some.inj z
theorem tail22 {b off n c k : Nat} (hk : k ≤ n) (hn : n ≤ c) : ∃ ad : Addr, (∀ w : World, (Instr.slice 22 (.slice (some ⟨b, off, none⟩) n c) (some (.int .i64 (k : Int))) none none).run Tryz.prog w = .ok (.slice (some ad) (n - k) (c - k)) w) ∧ (k < n → ad = ⟨b, off + k * 17, none⟩) ∧ ad.block = b := by
  by_cases h : c = k
  · refine ⟨⟨b, off, none⟩, fun w => ?_, fun q => by omega, rfl⟩
    go_simp
    (try simp [h])
  · refine ⟨⟨b, off + k * 17, none⟩, fun w => ?_, fun _ => rfl, rfl⟩
    go_simp
    (try simp [h, Addr.add])
theorem lies_tail {w : World} {b off k : Nat} {ad : Addr} {rs : List RZ} (h : Lies w (some ⟨b, off, none⟩) (rzs rs)) (hk : k ≤ rs.length) (e : k < rs.length → ad = ⟨b, off + k * 17, none⟩) : Lies w (some ad) (rzs (rs.drop k)) := by
  by_cases hl : k < rs.length
  · obtain rfl := e hl
    have es := rzs_split rs k
    have ls : (rzs (rs.take k)).length = k * 17 := by rw [rzs_len, List.length_take, Nat.min_eq_left hk]
    rcases h with q | ⟨b', off', ea, hb, hc⟩
    · have := rzs_len rs
      rw [q] at this
      simp at this
      omega
    · cases ea
      refine .inr ⟨b, off + k * 17, rfl, hb, fun i hi => ?_⟩
      have hi2 : k * 17 + i < (rzs rs).length := by rw [es, List.length_append, ls]; omega
      have q := hc (k * 17 + i) hi2
      rw [Nat.add_assoc]
      rw [q]
      congr 1
      have z : (rzs rs)[k * 17 + i]? = (rzs (rs.drop k))[i]? := by
        rw [es, List.getElem?_append_right (by omega), ls]
        congr 1
        omega
      rw [List.getElem?_eq_getElem hi2, List.getElem?_eq_getElem hi] at z
      exact Option.some.inj z
  · have : rs.drop k = [] := List.drop_eq_nil_of_le (by omega)
    rw [this]
    exact .inl rfl
theorem cut_map (tx : Int) (D : Prs Hd) (k : Nat) : (D.map (undZ tx)).take k ++ (D.map (undZ tx)).drop (k + 1) = (cutAt D k).map (undZ tx) := by
  unfold cutAt
  rw [List.map_append, List.map_take, List.map_drop]
end Go.Proofs.YtehbpmibllpkhaaGreatDoor
