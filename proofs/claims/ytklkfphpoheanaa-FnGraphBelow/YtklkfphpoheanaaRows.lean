/-
  No cell of these rows narrows 'for every input' (looked for: loops, veiled, ifaces, maps, wideKeys, modest, calm, conditions, laid).
  DERIVED. THE GIVEN ROWS OF THIS SEAT. 3 by the template 'for every input the law returns true; each argument reads behind the call as it read before'; 0 by the template 'total and deterministic' (their statements: YtklkfphpoheanaaTotals.lean).
  GIVEN WITH THE SEED: the statements are not yours to turn. If you find one false, say at which input.
  Laid BY PROGRAM, IN A SANDBOX (cutbox-rows.mjs): the forced cells as the released guide's own fill.sh prints them over the translation d15735a3bf93dda5… (all of the seat's roots in one cut). By AI agents, Wed Nov 11 2026. No macro, syntax, notation, axiom, sorry.
-/
import Derived.Test.YtklkfphpoheanaaChecked
import GoSem.Claim
import GoSem.ClaimJoined
import GoSem.ClaimMapViews
import Derived.JoinedTies
import Derived.KernelRfl
namespace Go.Proofs.Ytklkfphpoheanaa
/- THE CELL 'sum', in the pinned program and in every row, IS THE sha256 OF THE DUMP (.gsa) THAT YtklkfphpoheanaaProg.lean LOADS. Nothing in Lean hashes anything: it is a label: what it is worth is what the hold of that sum in a sandbox is worth. -/
noncomputable def Try.pinned : Pinned := { name := "ytklkfphpoheanaa", sum := "d15735a3bf93dda5e7a715c649363511f02be5398fdd656a2053ef87937b235d", checked := Try.checked }
namespace Rows
def none {H : Type} : Left H := { results := [], args := [] }

/-- 'laws.FnGraphBelow': WHATEVER THE INPUT: true; the input reads as it did. -/
def fnGraphBelowSpec : ChangeSpec := { name := "fnGraphBelow", fn := fun _ => fun
  | [d] => { results := [.lit (.bool true)], args := [d] }
  | _ => none }
def fnGraphBelowRow : OpenClaim := { program := "ytklkfphpoheanaa", sum := "d15735a3bf93dda5e7a715c649363511f02be5398fdd656a2053ef87937b235d", func := "loop.example/portreeve/laws.FnGraphBelow", spec := "fnGraphBelow", unfollowed := true, recurses := true, apart := false }
def FnGraphBelowSaid : Prop := fnGraphBelowRow.holds Try.pinned (OpenSpec.ofChange fnGraphBelowSpec)

/-- ITS FALSE NEIGHBOUR: 'it returns false'. Refute it at one input. -/
def fnGraphBelowWrong : ChangeSpec := { name := "fnGraphBelow", fn := fun _ => fun
  | [d] => { results := [.lit (.bool false)], args := [d] }
  | _ => none }
def FnGraphBelowWrongFalsely : Prop := fnGraphBelowRow.holds Try.pinned (OpenSpec.ofChange fnGraphBelowWrong)

/-- 'laws.FnExactGraphOrder': WHATEVER THE INPUT: true; the input reads as it did. -/
def fnExactGraphOrderSpec : ChangeSpec := { name := "fnExactGraphOrder", fn := fun _ => fun
  | [d1, d2] => { results := [.lit (.bool true)], args := [d1, d2] }
  | _ => none }
def fnExactGraphOrderRow : OpenClaim := { program := "ytklkfphpoheanaa", sum := "d15735a3bf93dda5e7a715c649363511f02be5398fdd656a2053ef87937b235d", func := "loop.example/portreeve/laws.FnExactGraphOrder", spec := "fnExactGraphOrder", unfollowed := true, recurses := true, apart := false }
def FnExactGraphOrderSaid : Prop := fnExactGraphOrderRow.holds Try.pinned (OpenSpec.ofChange fnExactGraphOrderSpec)

/-- ITS FALSE NEIGHBOUR: 'it returns false'. Refute it at one input. -/
def fnExactGraphOrderWrong : ChangeSpec := { name := "fnExactGraphOrder", fn := fun _ => fun
  | [d1, d2] => { results := [.lit (.bool false)], args := [d1, d2] }
  | _ => none }
def FnExactGraphOrderWrongFalsely : Prop := fnExactGraphOrderRow.holds Try.pinned (OpenSpec.ofChange fnExactGraphOrderWrong)

/-- 'laws.FnExactGraphBelow': WHATEVER THE INPUT: true; the input reads as it did. -/
def fnExactGraphBelowSpec : ChangeSpec := { name := "fnExactGraphBelow", fn := fun _ => fun
  | [d1, d2, d3] => { results := [.lit (.bool true)], args := [d1, d2, d3] }
  | _ => none }
def fnExactGraphBelowRow : OpenClaim := { program := "ytklkfphpoheanaa", sum := "d15735a3bf93dda5e7a715c649363511f02be5398fdd656a2053ef87937b235d", func := "loop.example/portreeve/laws.FnExactGraphBelow", spec := "fnExactGraphBelow", unfollowed := true, recurses := true, apart := false }
def FnExactGraphBelowSaid : Prop := fnExactGraphBelowRow.holds Try.pinned (OpenSpec.ofChange fnExactGraphBelowSpec)

/-- ITS FALSE NEIGHBOUR: 'it returns false'. Refute it at one input. -/
def fnExactGraphBelowWrong : ChangeSpec := { name := "fnExactGraphBelow", fn := fun _ => fun
  | [d1, d2, d3] => { results := [.lit (.bool false)], args := [d1, d2, d3] }
  | _ => none }
def FnExactGraphBelowWrongFalsely : Prop := fnExactGraphBelowRow.holds Try.pinned (OpenSpec.ofChange fnExactGraphBelowWrong)

/- THE SECOND FORM. 'bulk': how many values and letters a reading holds, each counted each time it is reached (what is shared counts as often as it is met; a slice's spare places count too). A statement '..UptoSaid' is the law's where the arguments, and the package variables that the reading takes, are together of bulk at most 1048576: NARROWER than '..Said'. Prove '..Said' where nothing that the law and all that it calls make is longer than what came in: it says more and counts as full. Else prove '..UptoSaid'. A law counts once. -/
mutual
def uptoBulk {H : Type} : DataW H → Nat
  | .lit (.string bytes) => bytes.length + 1
  | .lit _ => 1
  | .nil => 1
  | .ptr d => uptoBulk d + 1
  | .slice elems spare => uptoBulkAll elems + uptoBulkAll spare + 1
  | .agg parts => uptoBulkAll parts + 1
  | .iface _ d => uptoBulk d + 1
  | .map entries => uptoBulkEntries entries + 1
  | .held _ => 1
def uptoBulkAll {H : Type} : List (DataW H) → Nat
  | [] => 0
  | d :: r => uptoBulk d + uptoBulkAll r
def uptoBulkEntries {H : Type} : List (Lit × DataW H) → Nat
  | [] => 0
  | x :: r => uptoBulkEntry x + uptoBulkEntries r
def uptoBulkEntry {H : Type} : Lit × DataW H → Nat
  | (.string bytes, d) => bytes.length + uptoBulk d + 1
  | (_, d) => uptoBulk d + 1
 end
def uptoSmall : (H : Type) → List (DataW H) → Bool := fun _ ds => decide (uptoBulkAll ds ≤ 1048576)
def OpenSpec.upto (s : _root_.Go.ChangeSpec) : _root_.Go.OpenSpec := { _root_.Go.OpenSpec.ofChange s with cond := some uptoSmall }

/-- 'laws.FnGraphBelow', WHERE WHAT IT READS IS OF BULK AT MOST 1048576: true; the input reads as it did. -/
def fnGraphBelowUptoRow : OpenClaim := { program := "ytklkfphpoheanaa", sum := "d15735a3bf93dda5e7a715c649363511f02be5398fdd656a2053ef87937b235d", func := "loop.example/portreeve/laws.FnGraphBelow", spec := "fnGraphBelow", unfollowed := true, recurses := true, apart := false, narrowed := true }
def FnGraphBelowUptoSaid : Prop := fnGraphBelowUptoRow.holds Try.pinned (OpenSpec.upto fnGraphBelowSpec)

/-- 'laws.FnExactGraphOrder', WHERE WHAT IT READS IS OF BULK AT MOST 1048576: true; the input reads as it did. -/
def fnExactGraphOrderUptoRow : OpenClaim := { program := "ytklkfphpoheanaa", sum := "d15735a3bf93dda5e7a715c649363511f02be5398fdd656a2053ef87937b235d", func := "loop.example/portreeve/laws.FnExactGraphOrder", spec := "fnExactGraphOrder", unfollowed := true, recurses := true, apart := false, narrowed := true }
def FnExactGraphOrderUptoSaid : Prop := fnExactGraphOrderUptoRow.holds Try.pinned (OpenSpec.upto fnExactGraphOrderSpec)

/-- 'laws.FnExactGraphBelow', WHERE WHAT IT READS IS OF BULK AT MOST 1048576: true; the input reads as it did. -/
def fnExactGraphBelowUptoRow : OpenClaim := { program := "ytklkfphpoheanaa", sum := "d15735a3bf93dda5e7a715c649363511f02be5398fdd656a2053ef87937b235d", func := "loop.example/portreeve/laws.FnExactGraphBelow", spec := "fnExactGraphBelow", unfollowed := true, recurses := true, apart := false, narrowed := true }
def FnExactGraphBelowUptoSaid : Prop := fnExactGraphBelowUptoRow.holds Try.pinned (OpenSpec.upto fnExactGraphBelowSpec)

end Rows
end Go.Proofs.Ytklkfphpoheanaa
