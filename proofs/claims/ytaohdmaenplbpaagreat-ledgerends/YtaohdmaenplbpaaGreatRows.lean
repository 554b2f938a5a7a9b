/-
  No cell of these rows narrows 'for every input' (looked for: loops, veiled, ifaces, maps, wideKeys, modest, calm, conditions, laid).
  DERIVED. THE GIVEN ROWS OF THIS SEAT. 6 by the template 'for every input the law returns true; each argument reads behind the call as it read before'; 0 by the template 'total and deterministic' (their statements: YtaohdmaenplbpaaGreatTotals.lean).
  GIVEN WITH THE SEED: the statements are not yours to turn. If you find one false, say at which input.
  Laid BY PROGRAM, IN A SANDBOX (cutbox-rows.mjs): the forced cells as the released guide's own fill.sh prints them over the translation 12e03d4f25bb6236… (all of the seat's roots in one cut). By AI agents, Wed Nov 11 2026. No macro, syntax, notation, axiom, sorry.
-/
import Derived.Test.YtaohdmaenplbpaaGreatChecked
import GoSem.Claim
import GoSem.ClaimJoined
import GoSem.ClaimMapViews
import Derived.JoinedTies
import Derived.KernelRfl
namespace Go.Proofs.YtaohdmaenplbpaaGreat
/- THE CELL 'sum', in the pinned program and in every row, IS THE sha256 OF THE DUMP (.gsa) THAT YtaohdmaenplbpaaGreatProg.lean LOADS. Nothing in Lean hashes anything: it is a label: what it is worth is what the hold of that sum in a sandbox is worth. -/
noncomputable def Tryz.pinned : Pinned := { name := "ytaohdmaenplbpaagreat", sum := "12e03d4f25bb6236df90d0c77461a777ddb4254563c9a58b06e494ef7fd27f52", checked := Tryz.checked }
namespace Rows
def none {H : Type} : Left H := { results := [], args := [] }

/-- 'quotalaw11.LedgerEscrows': WHATEVER THE INPUT: true; the input reads as it did. -/
def ledgerEscrowsSpec : ChangeSpec := { name := "ledgerEscrows", fn := fun _ => fun
  | [d1, d2] => { results := [.lit (.bool true)], args := [d1, d2] }
  | _ => none }
def ledgerEscrowsRow : OpenClaim := { program := "ytaohdmaenplbpaagreat", sum := "12e03d4f25bb6236df90d0c77461a777ddb4254563c9a58b06e494ef7fd27f52", func := "quota/quotalaw11.LedgerEscrows", spec := "ledgerEscrows", inPlace := ["math/bits.Add64", "maps.clone"], unfollowed := true, recurses := true, apart := false }
def LedgerEscrowsSaid : Prop := ledgerEscrowsRow.holds Tryz.pinned (OpenSpec.ofChange ledgerEscrowsSpec)

/-- ITS FALSE NEIGHBOUR: 'it returns false'. Refute it at one input. -/
def ledgerEscrowsWrong : ChangeSpec := { name := "ledgerEscrows", fn := fun _ => fun
  | [d1, d2] => { results := [.lit (.bool false)], args := [d1, d2] }
  | _ => none }
def LedgerEscrowsWrongFalsely : Prop := ledgerEscrowsRow.holds Tryz.pinned (OpenSpec.ofChange ledgerEscrowsWrong)

/-- 'quotalaw11.LedgerReasons': WHATEVER THE INPUT: true; the input reads as it did. -/
def ledgerReasonsSpec : ChangeSpec := { name := "ledgerReasons", fn := fun _ => fun
  | [d1, d2, d3, d4] => { results := [.lit (.bool true)], args := [d1, d2, d3, d4] }
  | _ => none }
def ledgerReasonsRow : OpenClaim := { program := "ytaohdmaenplbpaagreat", sum := "12e03d4f25bb6236df90d0c77461a777ddb4254563c9a58b06e494ef7fd27f52", func := "quota/quotalaw11.LedgerReasons", spec := "ledgerReasons", inPlace := ["math/bits.Add64", "maps.clone"], unfollowed := true, recurses := true, apart := false }
def LedgerReasonsSaid : Prop := ledgerReasonsRow.holds Tryz.pinned (OpenSpec.ofChange ledgerReasonsSpec)

/-- ITS FALSE NEIGHBOUR: 'it returns false'. Refute it at one input. -/
def ledgerReasonsWrong : ChangeSpec := { name := "ledgerReasons", fn := fun _ => fun
  | [d1, d2, d3, d4] => { results := [.lit (.bool false)], args := [d1, d2, d3, d4] }
  | _ => none }
def LedgerReasonsWrongFalsely : Prop := ledgerReasonsRow.holds Tryz.pinned (OpenSpec.ofChange ledgerReasonsWrong)

/-- 'quotalaw11.LedgerOwn': WHATEVER THE INPUT: true; the input reads as it did. -/
def ledgerOwnSpec : ChangeSpec := { name := "ledgerOwn", fn := fun _ => fun
  | [d1, d2] => { results := [.lit (.bool true)], args := [d1, d2] }
  | _ => none }
def ledgerOwnRow : OpenClaim := { program := "ytaohdmaenplbpaagreat", sum := "12e03d4f25bb6236df90d0c77461a777ddb4254563c9a58b06e494ef7fd27f52", func := "quota/quotalaw11.LedgerOwn", spec := "ledgerOwn", inPlace := ["math/bits.Add64", "maps.clone"], unfollowed := true, recurses := true, apart := false }
def LedgerOwnSaid : Prop := ledgerOwnRow.holds Tryz.pinned (OpenSpec.ofChange ledgerOwnSpec)

/-- ITS FALSE NEIGHBOUR: 'it returns false'. Refute it at one input. -/
def ledgerOwnWrong : ChangeSpec := { name := "ledgerOwn", fn := fun _ => fun
  | [d1, d2] => { results := [.lit (.bool false)], args := [d1, d2] }
  | _ => none }
def LedgerOwnWrongFalsely : Prop := ledgerOwnRow.holds Tryz.pinned (OpenSpec.ofChange ledgerOwnWrong)

/-- 'quotalaw11.LedgerSums': WHATEVER THE INPUT: true; the input reads as it did. -/
def ledgerSumsSpec : ChangeSpec := { name := "ledgerSums", fn := fun _ => fun
  | [d1, d2] => { results := [.lit (.bool true)], args := [d1, d2] }
  | _ => none }
def ledgerSumsRow : OpenClaim := { program := "ytaohdmaenplbpaagreat", sum := "12e03d4f25bb6236df90d0c77461a777ddb4254563c9a58b06e494ef7fd27f52", func := "quota/quotalaw11.LedgerSums", spec := "ledgerSums", inPlace := ["math/bits.Add64", "maps.clone"], unfollowed := true, recurses := true, apart := false }
def LedgerSumsSaid : Prop := ledgerSumsRow.holds Tryz.pinned (OpenSpec.ofChange ledgerSumsSpec)

/-- ITS FALSE NEIGHBOUR: 'it returns false'. Refute it at one input. -/
def ledgerSumsWrong : ChangeSpec := { name := "ledgerSums", fn := fun _ => fun
  | [d1, d2] => { results := [.lit (.bool false)], args := [d1, d2] }
  | _ => none }
def LedgerSumsWrongFalsely : Prop := ledgerSumsRow.holds Tryz.pinned (OpenSpec.ofChange ledgerSumsWrong)

/-- 'quotalaw11.LedgerEnds': WHATEVER THE INPUT: true; the input reads as it did. -/
def ledgerEndsSpec : ChangeSpec := { name := "ledgerEnds", fn := fun _ => fun
  | [d1, d2, d3, d4] => { results := [.lit (.bool true)], args := [d1, d2, d3, d4] }
  | _ => none }
def ledgerEndsRow : OpenClaim := { program := "ytaohdmaenplbpaagreat", sum := "12e03d4f25bb6236df90d0c77461a777ddb4254563c9a58b06e494ef7fd27f52", func := "quota/quotalaw11.LedgerEnds", spec := "ledgerEnds", inPlace := ["math/bits.Add64", "maps.clone"], unfollowed := true, recurses := true, apart := false }
def LedgerEndsSaid : Prop := ledgerEndsRow.holds Tryz.pinned (OpenSpec.ofChange ledgerEndsSpec)

/-- ITS FALSE NEIGHBOUR: 'it returns false'. Refute it at one input. -/
def ledgerEndsWrong : ChangeSpec := { name := "ledgerEnds", fn := fun _ => fun
  | [d1, d2, d3, d4] => { results := [.lit (.bool false)], args := [d1, d2, d3, d4] }
  | _ => none }
def LedgerEndsWrongFalsely : Prop := ledgerEndsRow.holds Tryz.pinned (OpenSpec.ofChange ledgerEndsWrong)

/-- 'quotalaw11.LedgerLoads': WHATEVER THE INPUT: true; the input reads as it did. -/
def ledgerLoadsSpec : ChangeSpec := { name := "ledgerLoads", fn := fun _ => fun
  | [d1, d2] => { results := [.lit (.bool true)], args := [d1, d2] }
  | _ => none }
def ledgerLoadsRow : OpenClaim := { program := "ytaohdmaenplbpaagreat", sum := "12e03d4f25bb6236df90d0c77461a777ddb4254563c9a58b06e494ef7fd27f52", func := "quota/quotalaw11.LedgerLoads", spec := "ledgerLoads", inPlace := ["math/bits.Add64", "maps.clone"], unfollowed := true, recurses := true, apart := false }
def LedgerLoadsSaid : Prop := ledgerLoadsRow.holds Tryz.pinned (OpenSpec.ofChange ledgerLoadsSpec)

/-- ITS FALSE NEIGHBOUR: 'it returns false'. Refute it at one input. -/
def ledgerLoadsWrong : ChangeSpec := { name := "ledgerLoads", fn := fun _ => fun
  | [d1, d2] => { results := [.lit (.bool false)], args := [d1, d2] }
  | _ => none }
def LedgerLoadsWrongFalsely : Prop := ledgerLoadsRow.holds Tryz.pinned (OpenSpec.ofChange ledgerLoadsWrong)

/- THE SECOND FORM. 'bulk': how many values and letters a reading holds, each counted each time it is reached (what is shared counts as often as it is met; a slice's spare places count too). A statement '..UptoSaid' is the law's where the arguments, and the package variables that the reading takes, are together of bulk at most 1048576: NARROWER than '..Said'. Prove '..Said' where nothing that the law and all that it calls make is longer than what came in: it says more and counts as full. Else prove '..UptoSaid'. A law counts once. -/
mutual
def uptoBulk {H : Type} : DataW H → Nat
  | .lit (.string bytes) => bytes.length + 1
  | .lit _ => 1
  | .nil => 1
  | .ptr d => uptoBulk d + 1
  | .slice elems spare => uptoBulkAll elems + uptoBulkAll spare + 1
  | .agg parts => uptoBulkAll parts + 1
  | .iface _ d => uptoBulk d + 1
  | .map entries => uptoBulkEntries entries + 1
  | .held _ => 1
def uptoBulkAll {H : Type} : List (DataW H) → Nat
  | [] => 0
  | d :: r => uptoBulk d + uptoBulkAll r
def uptoBulkEntries {H : Type} : List (Lit × DataW H) → Nat
  | [] => 0
  | x :: r => uptoBulkEntry x + uptoBulkEntries r
def uptoBulkEntry {H : Type} : Lit × DataW H → Nat
  | (.string bytes, d) => bytes.length + uptoBulk d + 1
  | (_, d) => uptoBulk d + 1
 end
def uptoSmall : (H : Type) → List (DataW H) → Bool := fun _ ds => decide (uptoBulkAll ds ≤ 1048576)
def OpenSpec.upto (s : _root_.Go.ChangeSpec) : _root_.Go.OpenSpec := { _root_.Go.OpenSpec.ofChange s with cond := some uptoSmall }

/-- 'quotalaw11.LedgerEscrows', WHERE WHAT IT READS IS OF BULK AT MOST 1048576: true; the input reads as it did. -/
def ledgerEscrowsUptoRow : OpenClaim := { program := "ytaohdmaenplbpaagreat", sum := "12e03d4f25bb6236df90d0c77461a777ddb4254563c9a58b06e494ef7fd27f52", func := "quota/quotalaw11.LedgerEscrows", spec := "ledgerEscrows", inPlace := ["math/bits.Add64", "maps.clone"], unfollowed := true, recurses := true, apart := false, narrowed := true }
def LedgerEscrowsUptoSaid : Prop := ledgerEscrowsUptoRow.holds Tryz.pinned (OpenSpec.upto ledgerEscrowsSpec)

/-- 'quotalaw11.LedgerReasons', WHERE WHAT IT READS IS OF BULK AT MOST 1048576: true; the input reads as it did. -/
def ledgerReasonsUptoRow : OpenClaim := { program := "ytaohdmaenplbpaagreat", sum := "12e03d4f25bb6236df90d0c77461a777ddb4254563c9a58b06e494ef7fd27f52", func := "quota/quotalaw11.LedgerReasons", spec := "ledgerReasons", inPlace := ["math/bits.Add64", "maps.clone"], unfollowed := true, recurses := true, apart := false, narrowed := true }
def LedgerReasonsUptoSaid : Prop := ledgerReasonsUptoRow.holds Tryz.pinned (OpenSpec.upto ledgerReasonsSpec)

/-- 'quotalaw11.LedgerOwn', WHERE WHAT IT READS IS OF BULK AT MOST 1048576: true; the input reads as it did. -/
def ledgerOwnUptoRow : OpenClaim := { program := "ytaohdmaenplbpaagreat", sum := "12e03d4f25bb6236df90d0c77461a777ddb4254563c9a58b06e494ef7fd27f52", func := "quota/quotalaw11.LedgerOwn", spec := "ledgerOwn", inPlace := ["math/bits.Add64", "maps.clone"], unfollowed := true, recurses := true, apart := false, narrowed := true }
def LedgerOwnUptoSaid : Prop := ledgerOwnUptoRow.holds Tryz.pinned (OpenSpec.upto ledgerOwnSpec)

/-- 'quotalaw11.LedgerSums', WHERE WHAT IT READS IS OF BULK AT MOST 1048576: true; the input reads as it did. -/
def ledgerSumsUptoRow : OpenClaim := { program := "ytaohdmaenplbpaagreat", sum := "12e03d4f25bb6236df90d0c77461a777ddb4254563c9a58b06e494ef7fd27f52", func := "quota/quotalaw11.LedgerSums", spec := "ledgerSums", inPlace := ["math/bits.Add64", "maps.clone"], unfollowed := true, recurses := true, apart := false, narrowed := true }
def LedgerSumsUptoSaid : Prop := ledgerSumsUptoRow.holds Tryz.pinned (OpenSpec.upto ledgerSumsSpec)

/-- 'quotalaw11.LedgerEnds', WHERE WHAT IT READS IS OF BULK AT MOST 1048576: true; the input reads as it did. -/
def ledgerEndsUptoRow : OpenClaim := { program := "ytaohdmaenplbpaagreat", sum := "12e03d4f25bb6236df90d0c77461a777ddb4254563c9a58b06e494ef7fd27f52", func := "quota/quotalaw11.LedgerEnds", spec := "ledgerEnds", inPlace := ["math/bits.Add64", "maps.clone"], unfollowed := true, recurses := true, apart := false, narrowed := true }
def LedgerEndsUptoSaid : Prop := ledgerEndsUptoRow.holds Tryz.pinned (OpenSpec.upto ledgerEndsSpec)

/-- 'quotalaw11.LedgerLoads', WHERE WHAT IT READS IS OF BULK AT MOST 1048576: true; the input reads as it did. -/
def ledgerLoadsUptoRow : OpenClaim := { program := "ytaohdmaenplbpaagreat", sum := "12e03d4f25bb6236df90d0c77461a777ddb4254563c9a58b06e494ef7fd27f52", func := "quota/quotalaw11.LedgerLoads", spec := "ledgerLoads", inPlace := ["math/bits.Add64", "maps.clone"], unfollowed := true, recurses := true, apart := false, narrowed := true }
def LedgerLoadsUptoSaid : Prop := ledgerLoadsUptoRow.holds Tryz.pinned (OpenSpec.upto ledgerLoadsSpec)

end Rows
end Go.Proofs.YtaohdmaenplbpaaGreat
