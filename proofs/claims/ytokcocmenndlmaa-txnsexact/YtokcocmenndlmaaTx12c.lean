import Derived.Test.YtokcocmenndlmaaTx12b
namespace Go.Proofs.Ytokcocmenndlmaa
open Go.RowKit Go.QK Go.Maps Go.QM Go.QT
set_option maxRecDepth 100000
abbrev m2 (p : Int × Int) : List Value := [.int .i64 p.1, .int .i64 p.2]
/-- A record as it comes in: its first four numbers, and whatever else. -/
structure RecN where
  lsn : Int
  k : Int
  tx : Int
  prev : Int
  r : Fin 13 → Value
abbrev recL (x : RecN) : List Value := .int .i64 x.lsn :: .int .i64 x.k :: .int .i64 x.tx :: .int .i64 x.prev :: List.ofFn x.r
theorem recL_len (x : RecN) : (recL x).length = 17 := by simp [recL]
theorem recL_rec (x : RecN) (h : I64 x.tx) : RecA (recL x).toArray x.lsn x.k x.tx x.prev := ⟨by simp [recL], rfl, rfl, rfl, rfl, h⟩
end Go.Proofs.Ytokcocmenndlmaa
