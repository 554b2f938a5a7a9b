/-
  No cell of these rows narrows 'for every input' (looked for: loops, veiled, ifaces, maps, wideKeys, modest, calm, conditions, laid).
  DERIVED. THE GIVEN ROWS OF THIS SEAT. 3 by the template 'for every input the law returns true; each argument reads behind the call as it read before'; 0 by the template 'total and deterministic' (their statements: YtokcocmenndlmaaTotals.lean).
  GIVEN WITH THE SEED: the statements are not yours to turn. If you find one false, say at which input.
  Laid BY PROGRAM, IN A SANDBOX (cutbox-rows.mjs): the forced cells as the released guide's own fill.sh prints them over the translation 032a46213e5cc86e… (all of the seat's roots in one cut). By AI agents, Wed Nov 11 2026. No macro, syntax, notation, axiom, sorry.
-/
import Derived.Test.YtokcocmenndlmaaChecked
import GoSem.Claim
import GoSem.ClaimJoined
import GoSem.ClaimMapViews
import Derived.JoinedTies
import Derived.KernelRfl
namespace Go.Proofs.Ytokcocmenndlmaa
/- THE CELL 'sum', in the pinned program and in every row, IS THE sha256 OF THE DUMP (.gsa) THAT YtokcocmenndlmaaProg.lean LOADS. Nothing in Lean hashes anything: it is a label: what it is worth is what the hold of that sum in a sandbox is worth. -/
noncomputable def Try.pinned : Pinned := { name := "ytokcocmenndlmaa", sum := "032a46213e5cc86e678c804245a9f86a6f9fb6d4fb92b7b5560934873a2516cc", checked := Try.checked }
namespace Rows
def none {H : Type} : Left H := { results := [], args := [] }

/-- 'quotalaw13.TxnsBack': WHATEVER THE INPUT: true; the input reads as it did. -/
def txnsBackSpec : ChangeSpec := { name := "txnsBack", fn := fun _ => fun
  | [d1, d2, d3, d4] => { results := [.lit (.bool true)], args := [d1, d2, d3, d4] }
  | _ => none }
def txnsBackRow : OpenClaim := { program := "ytokcocmenndlmaa", sum := "032a46213e5cc86e678c804245a9f86a6f9fb6d4fb92b7b5560934873a2516cc", func := "quota/quotalaw13.TxnsBack", spec := "txnsBack", unfollowed := true, recurses := true, apart := false }
def TxnsBackSaid : Prop := txnsBackRow.holds Try.pinned (OpenSpec.ofChange txnsBackSpec)

/-- ITS FALSE NEIGHBOUR: 'it returns false'. Refute it at one input. -/
def txnsBackWrong : ChangeSpec := { name := "txnsBack", fn := fun _ => fun
  | [d1, d2, d3, d4] => { results := [.lit (.bool false)], args := [d1, d2, d3, d4] }
  | _ => none }
def TxnsBackWrongFalsely : Prop := txnsBackRow.holds Try.pinned (OpenSpec.ofChange txnsBackWrong)

/-- 'quotalaw13.TxnsLife': WHATEVER THE INPUT: true; the input reads as it did. -/
def txnsLifeSpec : ChangeSpec := { name := "txnsLife", fn := fun _ => fun
  | [d] => { results := [.lit (.bool true)], args := [d] }
  | _ => none }
def txnsLifeRow : OpenClaim := { program := "ytokcocmenndlmaa", sum := "032a46213e5cc86e678c804245a9f86a6f9fb6d4fb92b7b5560934873a2516cc", func := "quota/quotalaw13.TxnsLife", spec := "txnsLife", unfollowed := true, recurses := true, apart := false }
def TxnsLifeSaid : Prop := txnsLifeRow.holds Try.pinned (OpenSpec.ofChange txnsLifeSpec)

/-- ITS FALSE NEIGHBOUR: 'it returns false'. Refute it at one input. -/
def txnsLifeWrong : ChangeSpec := { name := "txnsLife", fn := fun _ => fun
  | [d] => { results := [.lit (.bool false)], args := [d] }
  | _ => none }
def TxnsLifeWrongFalsely : Prop := txnsLifeRow.holds Try.pinned (OpenSpec.ofChange txnsLifeWrong)

/-- 'quotalaw13.TxnsExact': WHATEVER THE INPUT: true; the input reads as it did. -/
def txnsExactSpec : ChangeSpec := { name := "txnsExact", fn := fun _ => fun
  | [d] => { results := [.lit (.bool true)], args := [d] }
  | _ => none }
def txnsExactRow : OpenClaim := { program := "ytokcocmenndlmaa", sum := "032a46213e5cc86e678c804245a9f86a6f9fb6d4fb92b7b5560934873a2516cc", func := "quota/quotalaw13.TxnsExact", spec := "txnsExact", unfollowed := true, recurses := true, apart := false }
def TxnsExactSaid : Prop := txnsExactRow.holds Try.pinned (OpenSpec.ofChange txnsExactSpec)

/-- ITS FALSE NEIGHBOUR: 'it returns false'. Refute it at one input. -/
def txnsExactWrong : ChangeSpec := { name := "txnsExact", fn := fun _ => fun
  | [d] => { results := [.lit (.bool false)], args := [d] }
  | _ => none }
def TxnsExactWrongFalsely : Prop := txnsExactRow.holds Try.pinned (OpenSpec.ofChange txnsExactWrong)

/- THE SECOND FORM. 'bulk': how many values and letters a reading holds, each counted each time it is reached (what is shared counts as often as it is met; a slice's spare places count too). A statement '..UptoSaid' is the law's where the arguments, and the package variables that the reading takes, are together of bulk at most 1048576: NARROWER than '..Said'. Prove '..Said' where nothing that the law and all that it calls make is longer than what came in: it says more and counts as full. Else prove '..UptoSaid'. A law counts once. -/
mutual
def uptoBulk {H : Type} : DataW H → Nat
  | .lit (.string bytes) => bytes.length + 1
  | .lit _ => 1
  | .nil => 1
  | .ptr d => uptoBulk d + 1
  | .slice elems spare => uptoBulkAll elems + uptoBulkAll spare + 1
  | .agg parts => uptoBulkAll parts + 1
  | .iface _ d => uptoBulk d + 1
  | .map entries => uptoBulkEntries entries + 1
  | .held _ => 1
def uptoBulkAll {H : Type} : List (DataW H) → Nat
  | [] => 0
  | d :: r => uptoBulk d + uptoBulkAll r
def uptoBulkEntries {H : Type} : List (Lit × DataW H) → Nat
  | [] => 0
  | x :: r => uptoBulkEntry x + uptoBulkEntries r
def uptoBulkEntry {H : Type} : Lit × DataW H → Nat
  | (.string bytes, d) => bytes.length + uptoBulk d + 1
  | (_, d) => uptoBulk d + 1
 end
def uptoSmall : (H : Type) → List (DataW H) → Bool := fun _ ds => decide (uptoBulkAll ds ≤ 1048576)
def OpenSpec.upto (s : _root_.Go.ChangeSpec) : _root_.Go.OpenSpec := { _root_.Go.OpenSpec.ofChange s with cond := some uptoSmall }

/-- 'quotalaw13.TxnsBack', WHERE WHAT IT READS IS OF BULK AT MOST 1048576: true; the input reads as it did. -/
def txnsBackUptoRow : OpenClaim := { program := "ytokcocmenndlmaa", sum := "032a46213e5cc86e678c804245a9f86a6f9fb6d4fb92b7b5560934873a2516cc", func := "quota/quotalaw13.TxnsBack", spec := "txnsBack", unfollowed := true, recurses := true, apart := false, narrowed := true }
def TxnsBackUptoSaid : Prop := txnsBackUptoRow.holds Try.pinned (OpenSpec.upto txnsBackSpec)

/-- 'quotalaw13.TxnsLife', WHERE WHAT IT READS IS OF BULK AT MOST 1048576: true; the input reads as it did. -/
def txnsLifeUptoRow : OpenClaim := { program := "ytokcocmenndlmaa", sum := "032a46213e5cc86e678c804245a9f86a6f9fb6d4fb92b7b5560934873a2516cc", func := "quota/quotalaw13.TxnsLife", spec := "txnsLife", unfollowed := true, recurses := true, apart := false, narrowed := true }
def TxnsLifeUptoSaid : Prop := txnsLifeUptoRow.holds Try.pinned (OpenSpec.upto txnsLifeSpec)

/-- 'quotalaw13.TxnsExact', WHERE WHAT IT READS IS OF BULK AT MOST 1048576: true; the input reads as it did. -/
def txnsExactUptoRow : OpenClaim := { program := "ytokcocmenndlmaa", sum := "032a46213e5cc86e678c804245a9f86a6f9fb6d4fb92b7b5560934873a2516cc", func := "quota/quotalaw13.TxnsExact", spec := "txnsExact", unfollowed := true, recurses := true, apart := false, narrowed := true }
def TxnsExactUptoSaid : Prop := txnsExactUptoRow.holds Try.pinned (OpenSpec.upto txnsExactSpec)

end Rows
end Go.Proofs.Ytokcocmenndlmaa
