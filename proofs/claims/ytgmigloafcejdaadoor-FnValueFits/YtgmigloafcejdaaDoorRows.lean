/-
  NARROWER THAN 'FOR EVERY INPUT', by the rows' own cells (each row's printed sentence says how): FnValueFits: laid · FnExactValueOk: loops, laid · FnExactValueLess: loops, laid · FnExactValueKnown: loops, laid · FnExactValueFits: loops, laid.
  DERIVED. THE GIVEN ROWS OF THIS SEAT. 5 by the template 'for every input the law returns true; each argument reads behind the call as it read before'; 0 by the template 'total and deterministic' (their statements: YtgmigloafcejdaaDoorTotals.lean).
  GIVEN WITH THE SEED: the statements are not yours to turn. If you find one false, say at which input.
  Laid BY PROGRAM, IN A SANDBOX (cutbox-rows.mjs): the forced cells as the released guide's own fill.sh prints them over the translation 4c22615ab8887d43… (all of the seat's roots in one cut). By AI agents, Wed Nov 11 2026. No macro, syntax, notation, axiom, sorry.
-/
import Derived.Test.YtgmigloafcejdaaDoorChecked
import GoSem.Claim
import GoSem.ClaimJoined
import GoSem.ClaimMapViews
import Derived.JoinedTies
import Derived.KernelRfl
namespace Go.Proofs.YtgmigloafcejdaaDoor
/- THE CELL 'sum', in the pinned program and in every row, IS THE sha256 OF THE DUMP (.gsa) THAT YtgmigloafcejdaaDoorProg.lean LOADS. Nothing in Lean hashes anything: it is a label: what it is worth is what the hold of that sum in a sandbox is worth. -/
noncomputable def Tryd.pinned : Pinned := { name := "ytgmigloafcejdaadoor", sum := "4c22615ab8887d43dfd989b6d19ea8f7ef32cdd6bf6ff60029dcd1396c951f49", checked := Tryd.checked }
namespace Rows
def none {H : Type} : Left H := { results := [], args := [] }

/- WHAT THE LISTED PACKAGE-LEVEL VARIABLES READ AS WHEN THE CALL BEGINS. Each datum BY PROGRAM (the guide's laid-datum.mjs) off the statement by which the dump's own 'gosem.cut.vars' lays the variable. In a bare row this is a premise. The card (YtgmigloafcejdaaDoorCards.lean) ties it to the program's text. -/
def laid_errors_errorType {H : Type} : DataW H := .iface "internal/reflectlite.rtype" (.agg [.ptr (.lit (.string [101, 114, 114, 111, 114]))])
def laid_loop_example_portreeve_impl_valueHas {H : Type} : DataW H := .agg [.agg [.lit (.bool false), .lit (.bool false), .lit (.bool false), .lit (.bool false)], .agg [.lit (.bool false), .lit (.bool false), .lit (.bool false), .lit (.bool false)], .agg [.lit (.bool true), .lit (.bool false), .lit (.bool false), .lit (.bool false)], .agg [.lit (.bool true), .lit (.bool false), .lit (.bool false), .lit (.bool false)], .agg [.lit (.bool false), .lit (.bool true), .lit (.bool false), .lit (.bool false)], .agg [.lit (.bool false), .lit (.bool false), .lit (.bool false), .lit (.bool true)], .agg [.lit (.bool false), .lit (.bool false), .lit (.bool true), .lit (.bool true)], .agg [.lit (.bool false), .lit (.bool false), .lit (.bool false), .lit (.bool false)]]

/-- 'laws.FnValueFits': WHATEVER THE INPUT: true; the input reads as it did. -/
def fnValueFitsSpec : ChangeSpec := { name := "fnValueFits", vars := ["loop.example/portreeve/impl.valueHas"], fn := fun _ => fun
  | [d, g1] => { results := [.lit (.bool true)], args := [d], vars := [g1] }
  | _ => none }
def fnValueFitsRow : OpenClaim := { program := "ytgmigloafcejdaadoor", sum := "4c22615ab8887d43dfd989b6d19ea8f7ef32cdd6bf6ff60029dcd1396c951f49", func := "loop.example/portreeve/laws.FnValueFits", spec := "fnValueFits", inPlace := ["internal/bytealg.IndexByteString", "internal/bytealg.IndexString", "internal/reflectlite.ValueOf", "(internal/reflectlite.Value).Type", "(internal/reflectlite.Value).IsNil", "internal/reflectlite.TypeOf", "(internal/reflectlite.Value).Elem", "(internal/reflectlite.Value).Set"], unfollowed := true, recurses := true, named := ["loop.example/portreeve/impl.valueHas", "internal/bytealg.MaxLen", "errors.errorType"], apart := false, laid := [("errors.errorType", laid_errors_errorType), ("loop.example/portreeve/impl.valueHas", laid_loop_example_portreeve_impl_valueHas)] }
def FnValueFitsSaid : Prop := fnValueFitsRow.holds Tryd.pinned (OpenSpec.ofChange fnValueFitsSpec)

/-- ITS FALSE NEIGHBOUR: 'it returns false'. Refute it at one input. -/
def fnValueFitsWrong : ChangeSpec := { name := "fnValueFits", vars := ["loop.example/portreeve/impl.valueHas"], fn := fun _ => fun
  | [d, g1] => { results := [.lit (.bool false)], args := [d], vars := [g1] }
  | _ => none }
def FnValueFitsWrongFalsely : Prop := fnValueFitsRow.holds Tryd.pinned (OpenSpec.ofChange fnValueFitsWrong)

/-- 'laws.FnExactValueOk': WHATEVER THE INPUT: true; the input reads as it did. -/
def fnExactValueOkSpec : ChangeSpec := { name := "fnExactValueOk", vars := ["loop.example/portreeve/impl.valueHas"], fn := fun _ => fun
  | [d, g1] => { results := [.lit (.bool true)], args := [d], vars := [g1] }
  | _ => none }
def fnExactValueOkRow : OpenClaim := { program := "ytgmigloafcejdaadoor", sum := "4c22615ab8887d43dfd989b6d19ea8f7ef32cdd6bf6ff60029dcd1396c951f49", func := "loop.example/portreeve/laws.FnExactValueOk", spec := "fnExactValueOk", inPlace := ["internal/bytealg.IndexByteString", "internal/bytealg.IndexString", "internal/reflectlite.ValueOf", "(internal/reflectlite.Value).Type", "(internal/reflectlite.Value).IsNil", "internal/reflectlite.TypeOf", "(internal/reflectlite.Value).Elem", "(internal/reflectlite.Value).Set"], unfollowed := true, recurses := true, named := ["loop.example/portreeve/impl.valueHas", "internal/bytealg.MaxLen", "errors.errorType"], loops := true, apart := false, laid := [("errors.errorType", laid_errors_errorType), ("loop.example/portreeve/impl.valueHas", laid_loop_example_portreeve_impl_valueHas)] }
def FnExactValueOkSaid : Prop := fnExactValueOkRow.holds Tryd.pinned (OpenSpec.ofChange fnExactValueOkSpec)

/-- ITS FALSE NEIGHBOUR: 'it returns false'. Refute it at one input. -/
def fnExactValueOkWrong : ChangeSpec := { name := "fnExactValueOk", vars := ["loop.example/portreeve/impl.valueHas"], fn := fun _ => fun
  | [d, g1] => { results := [.lit (.bool false)], args := [d], vars := [g1] }
  | _ => none }
def FnExactValueOkWrongFalsely : Prop := fnExactValueOkRow.holds Tryd.pinned (OpenSpec.ofChange fnExactValueOkWrong)

/-- 'laws.FnExactValueLess': WHATEVER THE INPUT: true; the input reads as it did. -/
def fnExactValueLessSpec : ChangeSpec := { name := "fnExactValueLess", vars := ["loop.example/portreeve/impl.valueHas"], fn := fun _ => fun
  | [d1, d2, g1] => { results := [.lit (.bool true)], args := [d1, d2], vars := [g1] }
  | _ => none }
def fnExactValueLessRow : OpenClaim := { program := "ytgmigloafcejdaadoor", sum := "4c22615ab8887d43dfd989b6d19ea8f7ef32cdd6bf6ff60029dcd1396c951f49", func := "loop.example/portreeve/laws.FnExactValueLess", spec := "fnExactValueLess", inPlace := ["internal/bytealg.IndexByteString", "internal/bytealg.IndexString", "internal/reflectlite.ValueOf", "(internal/reflectlite.Value).Type", "(internal/reflectlite.Value).IsNil", "internal/reflectlite.TypeOf", "(internal/reflectlite.Value).Elem", "(internal/reflectlite.Value).Set", "internal/bytealg.abigen_runtime_cmpstring"], unfollowed := true, recurses := true, named := ["loop.example/portreeve/impl.valueHas", "internal/bytealg.MaxLen", "errors.errorType"], loops := true, apart := false, laid := [("errors.errorType", laid_errors_errorType), ("loop.example/portreeve/impl.valueHas", laid_loop_example_portreeve_impl_valueHas)] }
def FnExactValueLessSaid : Prop := fnExactValueLessRow.holds Tryd.pinned (OpenSpec.ofChange fnExactValueLessSpec)

/-- ITS FALSE NEIGHBOUR: 'it returns false'. Refute it at one input. -/
def fnExactValueLessWrong : ChangeSpec := { name := "fnExactValueLess", vars := ["loop.example/portreeve/impl.valueHas"], fn := fun _ => fun
  | [d1, d2, g1] => { results := [.lit (.bool false)], args := [d1, d2], vars := [g1] }
  | _ => none }
def FnExactValueLessWrongFalsely : Prop := fnExactValueLessRow.holds Tryd.pinned (OpenSpec.ofChange fnExactValueLessWrong)

/-- 'laws.FnExactValueKnown': WHATEVER THE INPUT: true; the input reads as it did. -/
def fnExactValueKnownSpec : ChangeSpec := { name := "fnExactValueKnown", vars := ["loop.example/portreeve/impl.valueHas"], fn := fun _ => fun
  | [d, g1] => { results := [.lit (.bool true)], args := [d], vars := [g1] }
  | _ => none }
def fnExactValueKnownRow : OpenClaim := { program := "ytgmigloafcejdaadoor", sum := "4c22615ab8887d43dfd989b6d19ea8f7ef32cdd6bf6ff60029dcd1396c951f49", func := "loop.example/portreeve/laws.FnExactValueKnown", spec := "fnExactValueKnown", inPlace := ["internal/bytealg.IndexByteString", "internal/bytealg.IndexString", "internal/reflectlite.ValueOf", "(internal/reflectlite.Value).Type", "(internal/reflectlite.Value).IsNil", "internal/reflectlite.TypeOf", "(internal/reflectlite.Value).Elem", "(internal/reflectlite.Value).Set"], unfollowed := true, recurses := true, named := ["loop.example/portreeve/impl.valueHas", "internal/bytealg.MaxLen", "errors.errorType"], loops := true, apart := false, laid := [("errors.errorType", laid_errors_errorType), ("loop.example/portreeve/impl.valueHas", laid_loop_example_portreeve_impl_valueHas)] }
def FnExactValueKnownSaid : Prop := fnExactValueKnownRow.holds Tryd.pinned (OpenSpec.ofChange fnExactValueKnownSpec)

/-- ITS FALSE NEIGHBOUR: 'it returns false'. Refute it at one input. -/
def fnExactValueKnownWrong : ChangeSpec := { name := "fnExactValueKnown", vars := ["loop.example/portreeve/impl.valueHas"], fn := fun _ => fun
  | [d, g1] => { results := [.lit (.bool false)], args := [d], vars := [g1] }
  | _ => none }
def FnExactValueKnownWrongFalsely : Prop := fnExactValueKnownRow.holds Tryd.pinned (OpenSpec.ofChange fnExactValueKnownWrong)

/-- 'laws.FnExactValueFits': WHATEVER THE INPUT: true; the input reads as it did. -/
def fnExactValueFitsSpec : ChangeSpec := { name := "fnExactValueFits", vars := ["loop.example/portreeve/impl.valueHas"], fn := fun _ => fun
  | [d1, d2, g1] => { results := [.lit (.bool true)], args := [d1, d2], vars := [g1] }
  | _ => none }
def fnExactValueFitsRow : OpenClaim := { program := "ytgmigloafcejdaadoor", sum := "4c22615ab8887d43dfd989b6d19ea8f7ef32cdd6bf6ff60029dcd1396c951f49", func := "loop.example/portreeve/laws.FnExactValueFits", spec := "fnExactValueFits", inPlace := ["internal/bytealg.IndexByteString", "internal/bytealg.IndexString", "internal/reflectlite.ValueOf", "(internal/reflectlite.Value).Type", "(internal/reflectlite.Value).IsNil", "internal/reflectlite.TypeOf", "(internal/reflectlite.Value).Elem", "(internal/reflectlite.Value).Set"], unfollowed := true, recurses := true, named := ["loop.example/portreeve/impl.valueHas", "internal/bytealg.MaxLen", "errors.errorType"], loops := true, apart := false, laid := [("errors.errorType", laid_errors_errorType), ("loop.example/portreeve/impl.valueHas", laid_loop_example_portreeve_impl_valueHas)] }
def FnExactValueFitsSaid : Prop := fnExactValueFitsRow.holds Tryd.pinned (OpenSpec.ofChange fnExactValueFitsSpec)

/-- ITS FALSE NEIGHBOUR: 'it returns false'. Refute it at one input. -/
def fnExactValueFitsWrong : ChangeSpec := { name := "fnExactValueFits", vars := ["loop.example/portreeve/impl.valueHas"], fn := fun _ => fun
  | [d1, d2, g1] => { results := [.lit (.bool false)], args := [d1, d2], vars := [g1] }
  | _ => none }
def FnExactValueFitsWrongFalsely : Prop := fnExactValueFitsRow.holds Tryd.pinned (OpenSpec.ofChange fnExactValueFitsWrong)

/- THE SECOND FORM. 'bulk': how many values and letters a reading holds, each counted each time it is reached (what is shared counts as often as it is met; a slice's spare places count too). A statement '..UptoSaid' is the law's where the arguments, and the package variables that the reading takes, are together of bulk at most 1048576: NARROWER than '..Said'. Prove '..Said' where nothing that the law and all that it calls make is longer than what came in: it says more and counts as full. Else prove '..UptoSaid'. A law counts once. -/
mutual
def uptoBulk {H : Type} : DataW H → Nat
  | .lit (.string bytes) => bytes.length + 1
  | .lit _ => 1
  | .nil => 1
  | .ptr d => uptoBulk d + 1
  | .slice elems spare => uptoBulkAll elems + uptoBulkAll spare + 1
  | .agg parts => uptoBulkAll parts + 1
  | .iface _ d => uptoBulk d + 1
  | .map entries => uptoBulkEntries entries + 1
  | .held _ => 1
def uptoBulkAll {H : Type} : List (DataW H) → Nat
  | [] => 0
  | d :: r => uptoBulk d + uptoBulkAll r
def uptoBulkEntries {H : Type} : List (Lit × DataW H) → Nat
  | [] => 0
  | x :: r => uptoBulkEntry x + uptoBulkEntries r
def uptoBulkEntry {H : Type} : Lit × DataW H → Nat
  | (.string bytes, d) => bytes.length + uptoBulk d + 1
  | (_, d) => uptoBulk d + 1
 end
def uptoSmall : (H : Type) → List (DataW H) → Bool := fun _ ds => decide (uptoBulkAll ds ≤ 1048576)
def OpenSpec.upto (s : _root_.Go.ChangeSpec) : _root_.Go.OpenSpec := { _root_.Go.OpenSpec.ofChange s with cond := some uptoSmall }

/-- 'laws.FnValueFits', WHERE WHAT IT READS IS OF BULK AT MOST 1048576: true; the input reads as it did. -/
def fnValueFitsUptoRow : OpenClaim := { program := "ytgmigloafcejdaadoor", sum := "4c22615ab8887d43dfd989b6d19ea8f7ef32cdd6bf6ff60029dcd1396c951f49", func := "loop.example/portreeve/laws.FnValueFits", spec := "fnValueFits", inPlace := ["internal/bytealg.IndexByteString", "internal/bytealg.IndexString", "internal/reflectlite.ValueOf", "(internal/reflectlite.Value).Type", "(internal/reflectlite.Value).IsNil", "internal/reflectlite.TypeOf", "(internal/reflectlite.Value).Elem", "(internal/reflectlite.Value).Set"], unfollowed := true, recurses := true, named := ["loop.example/portreeve/impl.valueHas", "internal/bytealg.MaxLen", "errors.errorType"], apart := false, laid := [("errors.errorType", laid_errors_errorType), ("loop.example/portreeve/impl.valueHas", laid_loop_example_portreeve_impl_valueHas)], narrowed := true }
def FnValueFitsUptoSaid : Prop := fnValueFitsUptoRow.holds Tryd.pinned (OpenSpec.upto fnValueFitsSpec)

/-- 'laws.FnExactValueOk', WHERE WHAT IT READS IS OF BULK AT MOST 1048576: true; the input reads as it did. -/
def fnExactValueOkUptoRow : OpenClaim := { program := "ytgmigloafcejdaadoor", sum := "4c22615ab8887d43dfd989b6d19ea8f7ef32cdd6bf6ff60029dcd1396c951f49", func := "loop.example/portreeve/laws.FnExactValueOk", spec := "fnExactValueOk", inPlace := ["internal/bytealg.IndexByteString", "internal/bytealg.IndexString", "internal/reflectlite.ValueOf", "(internal/reflectlite.Value).Type", "(internal/reflectlite.Value).IsNil", "internal/reflectlite.TypeOf", "(internal/reflectlite.Value).Elem", "(internal/reflectlite.Value).Set"], unfollowed := true, recurses := true, named := ["loop.example/portreeve/impl.valueHas", "internal/bytealg.MaxLen", "errors.errorType"], loops := true, apart := false, laid := [("errors.errorType", laid_errors_errorType), ("loop.example/portreeve/impl.valueHas", laid_loop_example_portreeve_impl_valueHas)], narrowed := true }
def FnExactValueOkUptoSaid : Prop := fnExactValueOkUptoRow.holds Tryd.pinned (OpenSpec.upto fnExactValueOkSpec)

/-- 'laws.FnExactValueLess', WHERE WHAT IT READS IS OF BULK AT MOST 1048576: true; the input reads as it did. -/
def fnExactValueLessUptoRow : OpenClaim := { program := "ytgmigloafcejdaadoor", sum := "4c22615ab8887d43dfd989b6d19ea8f7ef32cdd6bf6ff60029dcd1396c951f49", func := "loop.example/portreeve/laws.FnExactValueLess", spec := "fnExactValueLess", inPlace := ["internal/bytealg.IndexByteString", "internal/bytealg.IndexString", "internal/reflectlite.ValueOf", "(internal/reflectlite.Value).Type", "(internal/reflectlite.Value).IsNil", "internal/reflectlite.TypeOf", "(internal/reflectlite.Value).Elem", "(internal/reflectlite.Value).Set", "internal/bytealg.abigen_runtime_cmpstring"], unfollowed := true, recurses := true, named := ["loop.example/portreeve/impl.valueHas", "internal/bytealg.MaxLen", "errors.errorType"], loops := true, apart := false, laid := [("errors.errorType", laid_errors_errorType), ("loop.example/portreeve/impl.valueHas", laid_loop_example_portreeve_impl_valueHas)], narrowed := true }
def FnExactValueLessUptoSaid : Prop := fnExactValueLessUptoRow.holds Tryd.pinned (OpenSpec.upto fnExactValueLessSpec)

/-- 'laws.FnExactValueKnown', WHERE WHAT IT READS IS OF BULK AT MOST 1048576: true; the input reads as it did. -/
def fnExactValueKnownUptoRow : OpenClaim := { program := "ytgmigloafcejdaadoor", sum := "4c22615ab8887d43dfd989b6d19ea8f7ef32cdd6bf6ff60029dcd1396c951f49", func := "loop.example/portreeve/laws.FnExactValueKnown", spec := "fnExactValueKnown", inPlace := ["internal/bytealg.IndexByteString", "internal/bytealg.IndexString", "internal/reflectlite.ValueOf", "(internal/reflectlite.Value).Type", "(internal/reflectlite.Value).IsNil", "internal/reflectlite.TypeOf", "(internal/reflectlite.Value).Elem", "(internal/reflectlite.Value).Set"], unfollowed := true, recurses := true, named := ["loop.example/portreeve/impl.valueHas", "internal/bytealg.MaxLen", "errors.errorType"], loops := true, apart := false, laid := [("errors.errorType", laid_errors_errorType), ("loop.example/portreeve/impl.valueHas", laid_loop_example_portreeve_impl_valueHas)], narrowed := true }
def FnExactValueKnownUptoSaid : Prop := fnExactValueKnownUptoRow.holds Tryd.pinned (OpenSpec.upto fnExactValueKnownSpec)

/-- 'laws.FnExactValueFits', WHERE WHAT IT READS IS OF BULK AT MOST 1048576: true; the input reads as it did. -/
def fnExactValueFitsUptoRow : OpenClaim := { program := "ytgmigloafcejdaadoor", sum := "4c22615ab8887d43dfd989b6d19ea8f7ef32cdd6bf6ff60029dcd1396c951f49", func := "loop.example/portreeve/laws.FnExactValueFits", spec := "fnExactValueFits", inPlace := ["internal/bytealg.IndexByteString", "internal/bytealg.IndexString", "internal/reflectlite.ValueOf", "(internal/reflectlite.Value).Type", "(internal/reflectlite.Value).IsNil", "internal/reflectlite.TypeOf", "(internal/reflectlite.Value).Elem", "(internal/reflectlite.Value).Set"], unfollowed := true, recurses := true, named := ["loop.example/portreeve/impl.valueHas", "internal/bytealg.MaxLen", "errors.errorType"], loops := true, apart := false, laid := [("errors.errorType", laid_errors_errorType), ("loop.example/portreeve/impl.valueHas", laid_loop_example_portreeve_impl_valueHas)], narrowed := true }
def FnExactValueFitsUptoSaid : Prop := fnExactValueFitsUptoRow.holds Tryd.pinned (OpenSpec.upto fnExactValueFitsSpec)

end Rows
end Go.Proofs.YtgmigloafcejdaaDoor
