/-
  No cell of these rows narrows 'for every input' (looked for: loops, veiled, ifaces, maps, wideKeys, modest, calm, conditions, laid).
  DERIVED. THE GIVEN ROWS OF THIS SEAT. 4 by the template 'for every input the law returns true; each argument reads behind the call as it read before'; 0 by the template 'total and deterministic' (their statements: YtlloppalagddnaaTotals.lean).
  GIVEN WITH THE SEED: the statements are not yours to turn. If you find one false, say at which input.
  Laid BY PROGRAM, IN A SANDBOX (cutbox-rows.mjs): the forced cells as the released guide's own fill.sh prints them over the translation 4fb4d9d478ae932c… (all of the seat's roots in one cut). By AI agents, Wed Nov 11 2026. No macro, syntax, notation, axiom, sorry.
-/
import Derived.Test.YtlloppalagddnaaChecked
import GoSem.Claim
import GoSem.ClaimJoined
import GoSem.ClaimMapViews
import Derived.JoinedTies
import Derived.KernelRfl
namespace Go.Proofs.Ytlloppalagddnaa
/- THE CELL 'sum', in the pinned program and in every row, IS THE sha256 OF THE DUMP (.gsa) THAT YtlloppalagddnaaProg.lean LOADS. Nothing in Lean hashes anything: it is a label: what it is worth is what the hold of that sum in a sandbox is worth. -/
noncomputable def Try.pinned : Pinned := { name := "ytlloppalagddnaa", sum := "4fb4d9d478ae932c965fdb5c44a27d858e3814f750cd53e31f0cdc1e5fa70f5a", checked := Try.checked }
namespace Rows
def none {H : Type} : Left H := { results := [], args := [] }

/-- 'quotalaw21.SerialFront': WHATEVER THE INPUT: true; the input reads as it did. -/
def serialFrontSpec : ChangeSpec := { name := "serialFront", fn := fun _ => fun
  | [d1, d2] => { results := [.lit (.bool true)], args := [d1, d2] }
  | _ => none }
def serialFrontRow : OpenClaim := { program := "ytlloppalagddnaa", sum := "4fb4d9d478ae932c965fdb5c44a27d858e3814f750cd53e31f0cdc1e5fa70f5a", func := "quota/quotalaw21.SerialFront", spec := "serialFront", inPlace := ["math/bits.Add64"], unfollowed := true, recurses := true, plainKeys := false, apart := false }
def SerialFrontSaid : Prop := serialFrontRow.holds Try.pinned (OpenSpec.ofChange serialFrontSpec)

/-- ITS FALSE NEIGHBOUR: 'it returns false'. Refute it at one input. -/
def serialFrontWrong : ChangeSpec := { name := "serialFront", fn := fun _ => fun
  | [d1, d2] => { results := [.lit (.bool false)], args := [d1, d2] }
  | _ => none }
def SerialFrontWrongFalsely : Prop := serialFrontRow.holds Try.pinned (OpenSpec.ofChange serialFrontWrong)

/-- 'quotalaw21.SerialOrder': WHATEVER THE INPUT: true; the input reads as it did. -/
def serialOrderSpec : ChangeSpec := { name := "serialOrder", fn := fun _ => fun
  | [d1, d2, d3] => { results := [.lit (.bool true)], args := [d1, d2, d3] }
  | _ => none }
def serialOrderRow : OpenClaim := { program := "ytlloppalagddnaa", sum := "4fb4d9d478ae932c965fdb5c44a27d858e3814f750cd53e31f0cdc1e5fa70f5a", func := "quota/quotalaw21.SerialOrder", spec := "serialOrder", inPlace := ["math/bits.Add64"], unfollowed := true, recurses := true, plainKeys := false, apart := false }
def SerialOrderSaid : Prop := serialOrderRow.holds Try.pinned (OpenSpec.ofChange serialOrderSpec)

/-- ITS FALSE NEIGHBOUR: 'it returns false'. Refute it at one input. -/
def serialOrderWrong : ChangeSpec := { name := "serialOrder", fn := fun _ => fun
  | [d1, d2, d3] => { results := [.lit (.bool false)], args := [d1, d2, d3] }
  | _ => none }
def SerialOrderWrongFalsely : Prop := serialOrderRow.holds Try.pinned (OpenSpec.ofChange serialOrderWrong)

/-- 'quotalaw21.SerialLogs': WHATEVER THE INPUT: true; the input reads as it did. -/
def serialLogsSpec : ChangeSpec := { name := "serialLogs", fn := fun _ => fun
  | [d] => { results := [.lit (.bool true)], args := [d] }
  | _ => none }
def serialLogsRow : OpenClaim := { program := "ytlloppalagddnaa", sum := "4fb4d9d478ae932c965fdb5c44a27d858e3814f750cd53e31f0cdc1e5fa70f5a", func := "quota/quotalaw21.SerialLogs", spec := "serialLogs", inPlace := ["math/bits.Add64"], unfollowed := true, recurses := true, plainKeys := false, apart := false }
def SerialLogsSaid : Prop := serialLogsRow.holds Try.pinned (OpenSpec.ofChange serialLogsSpec)

/-- ITS FALSE NEIGHBOUR: 'it returns false'. Refute it at one input. -/
def serialLogsWrong : ChangeSpec := { name := "serialLogs", fn := fun _ => fun
  | [d] => { results := [.lit (.bool false)], args := [d] }
  | _ => none }
def SerialLogsWrongFalsely : Prop := serialLogsRow.holds Try.pinned (OpenSpec.ofChange serialLogsWrong)

/-- 'quotalaw21.SerialPlays': WHATEVER THE INPUT: true; the input reads as it did. -/
def serialPlaysSpec : ChangeSpec := { name := "serialPlays", fn := fun _ => fun
  | [d1, d2] => { results := [.lit (.bool true)], args := [d1, d2] }
  | _ => none }
def serialPlaysRow : OpenClaim := { program := "ytlloppalagddnaa", sum := "4fb4d9d478ae932c965fdb5c44a27d858e3814f750cd53e31f0cdc1e5fa70f5a", func := "quota/quotalaw21.SerialPlays", spec := "serialPlays", inPlace := ["math/bits.Add64"], unfollowed := true, recurses := true, plainKeys := false, apart := false }
def SerialPlaysSaid : Prop := serialPlaysRow.holds Try.pinned (OpenSpec.ofChange serialPlaysSpec)

/-- ITS FALSE NEIGHBOUR: 'it returns false'. Refute it at one input. -/
def serialPlaysWrong : ChangeSpec := { name := "serialPlays", fn := fun _ => fun
  | [d1, d2] => { results := [.lit (.bool false)], args := [d1, d2] }
  | _ => none }
def SerialPlaysWrongFalsely : Prop := serialPlaysRow.holds Try.pinned (OpenSpec.ofChange serialPlaysWrong)

/- THE SECOND FORM. 'bulk': how many values and letters a reading holds, each counted each time it is reached (what is shared counts as often as it is met; a slice's spare places count too). A statement '..UptoSaid' is the law's where the arguments, and the package variables that the reading takes, are together of bulk at most 1048576: NARROWER than '..Said'. Prove '..Said' where nothing that the law and all that it calls make is longer than what came in: it says more and counts as full. Else prove '..UptoSaid'. A law counts once. -/
mutual
def uptoBulk {H : Type} : DataW H → Nat
  | .lit (.string bytes) => bytes.length + 1
  | .lit _ => 1
  | .nil => 1
  | .ptr d => uptoBulk d + 1
  | .slice elems spare => uptoBulkAll elems + uptoBulkAll spare + 1
  | .agg parts => uptoBulkAll parts + 1
  | .iface _ d => uptoBulk d + 1
  | .map entries => uptoBulkEntries entries + 1
  | .held _ => 1
def uptoBulkAll {H : Type} : List (DataW H) → Nat
  | [] => 0
  | d :: r => uptoBulk d + uptoBulkAll r
def uptoBulkEntries {H : Type} : List (Lit × DataW H) → Nat
  | [] => 0
  | x :: r => uptoBulkEntry x + uptoBulkEntries r
def uptoBulkEntry {H : Type} : Lit × DataW H → Nat
  | (.string bytes, d) => bytes.length + uptoBulk d + 1
  | (_, d) => uptoBulk d + 1
 end
def uptoSmall : (H : Type) → List (DataW H) → Bool := fun _ ds => decide (uptoBulkAll ds ≤ 1048576)
def OpenSpec.upto (s : _root_.Go.ChangeSpec) : _root_.Go.OpenSpec := { _root_.Go.OpenSpec.ofChange s with cond := some uptoSmall }

/-- 'quotalaw21.SerialFront', WHERE WHAT IT READS IS OF BULK AT MOST 1048576: true; the input reads as it did. -/
def serialFrontUptoRow : OpenClaim := { program := "ytlloppalagddnaa", sum := "4fb4d9d478ae932c965fdb5c44a27d858e3814f750cd53e31f0cdc1e5fa70f5a", func := "quota/quotalaw21.SerialFront", spec := "serialFront", inPlace := ["math/bits.Add64"], unfollowed := true, recurses := true, plainKeys := false, apart := false, narrowed := true }
def SerialFrontUptoSaid : Prop := serialFrontUptoRow.holds Try.pinned (OpenSpec.upto serialFrontSpec)

/-- 'quotalaw21.SerialOrder', WHERE WHAT IT READS IS OF BULK AT MOST 1048576: true; the input reads as it did. -/
def serialOrderUptoRow : OpenClaim := { program := "ytlloppalagddnaa", sum := "4fb4d9d478ae932c965fdb5c44a27d858e3814f750cd53e31f0cdc1e5fa70f5a", func := "quota/quotalaw21.SerialOrder", spec := "serialOrder", inPlace := ["math/bits.Add64"], unfollowed := true, recurses := true, plainKeys := false, apart := false, narrowed := true }
def SerialOrderUptoSaid : Prop := serialOrderUptoRow.holds Try.pinned (OpenSpec.upto serialOrderSpec)

/-- 'quotalaw21.SerialLogs', WHERE WHAT IT READS IS OF BULK AT MOST 1048576: true; the input reads as it did. -/
def serialLogsUptoRow : OpenClaim := { program := "ytlloppalagddnaa", sum := "4fb4d9d478ae932c965fdb5c44a27d858e3814f750cd53e31f0cdc1e5fa70f5a", func := "quota/quotalaw21.SerialLogs", spec := "serialLogs", inPlace := ["math/bits.Add64"], unfollowed := true, recurses := true, plainKeys := false, apart := false, narrowed := true }
def SerialLogsUptoSaid : Prop := serialLogsUptoRow.holds Try.pinned (OpenSpec.upto serialLogsSpec)

/-- 'quotalaw21.SerialPlays', WHERE WHAT IT READS IS OF BULK AT MOST 1048576: true; the input reads as it did. -/
def serialPlaysUptoRow : OpenClaim := { program := "ytlloppalagddnaa", sum := "4fb4d9d478ae932c965fdb5c44a27d858e3814f750cd53e31f0cdc1e5fa70f5a", func := "quota/quotalaw21.SerialPlays", spec := "serialPlays", inPlace := ["math/bits.Add64"], unfollowed := true, recurses := true, plainKeys := false, apart := false, narrowed := true }
def SerialPlaysUptoSaid : Prop := serialPlaysUptoRow.holds Try.pinned (OpenSpec.upto serialPlaysSpec)

end Rows
end Go.Proofs.Ytlloppalagddnaa
