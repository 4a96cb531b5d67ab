/-
  No cell of these rows narrows 'for every input' (looked for: loops, veiled, ifaces, maps, wideKeys, modest, calm, conditions, laid).
  DERIVED. THE GIVEN ROWS OF THIS SEAT. 6 by the template 'for every input the law returns true; each argument reads behind the call as it read before'; 0 by the template 'total and deterministic' (their statements: YtpmjinlbfddmmaaTotals.lean).
  GIVEN WITH THE SEED: the statements are not yours to turn. If you find one false, say at which input.
  Laid BY PROGRAM, IN A SANDBOX (cutbox-rows.mjs): the forced cells as the released guide's own fill.sh prints them over the translation 19bd5c1b2dafdff1… (all of the seat's roots in one cut). By AI agents, Wed Nov 11 2026. No macro, syntax, notation, axiom, sorry.
-/
import Derived.Test.YtpmjinlbfddmmaaChecked
import GoSem.Claim
import GoSem.ClaimJoined
import GoSem.ClaimMapViews
import Derived.JoinedTies
import Derived.KernelRfl
namespace Go.Proofs.Ytpmjinlbfddmmaa
/- THE CELL 'sum', in the pinned program and in every row, IS THE sha256 OF THE DUMP (.gsa) THAT YtpmjinlbfddmmaaProg.lean LOADS. Nothing in Lean hashes anything: it is a label: what it is worth is what the hold of that sum in a sandbox is worth. -/
noncomputable def Try.pinned : Pinned := { name := "ytpmjinlbfddmmaa", sum := "19bd5c1b2dafdff1417c5cba992b6d939718056783f408e542095669d3a7e95f", checked := Try.checked }
namespace Rows
def none {H : Type} : Left H := { results := [], args := [] }

/-- 'laws.FnExactTapeSync': WHATEVER THE INPUT: true; the input reads as it did. -/
def fnExactTapeSyncSpec : ChangeSpec := { name := "fnExactTapeSync", fn := fun _ => fun
  | [d] => { results := [.lit (.bool true)], args := [d] }
  | _ => none }
def fnExactTapeSyncRow : OpenClaim := { program := "ytpmjinlbfddmmaa", sum := "19bd5c1b2dafdff1417c5cba992b6d939718056783f408e542095669d3a7e95f", func := "loop.example/portreeve/laws.FnExactTapeSync", spec := "fnExactTapeSync", apart := false }
def FnExactTapeSyncSaid : Prop := fnExactTapeSyncRow.holds Try.pinned (OpenSpec.ofChange fnExactTapeSyncSpec)

/-- ITS FALSE NEIGHBOUR: 'it returns false'. Refute it at one input. -/
def fnExactTapeSyncWrong : ChangeSpec := { name := "fnExactTapeSync", fn := fun _ => fun
  | [d] => { results := [.lit (.bool false)], args := [d] }
  | _ => none }
def FnExactTapeSyncWrongFalsely : Prop := fnExactTapeSyncRow.holds Try.pinned (OpenSpec.ofChange fnExactTapeSyncWrong)

/-- 'laws.FnExactTapeCrash': WHATEVER THE INPUT: true; the input reads as it did. -/
def fnExactTapeCrashSpec : ChangeSpec := { name := "fnExactTapeCrash", fn := fun _ => fun
  | [d1, d2, d3] => { results := [.lit (.bool true)], args := [d1, d2, d3] }
  | _ => none }
def fnExactTapeCrashRow : OpenClaim := { program := "ytpmjinlbfddmmaa", sum := "19bd5c1b2dafdff1417c5cba992b6d939718056783f408e542095669d3a7e95f", func := "loop.example/portreeve/laws.FnExactTapeCrash", spec := "fnExactTapeCrash", apart := false }
def FnExactTapeCrashSaid : Prop := fnExactTapeCrashRow.holds Try.pinned (OpenSpec.ofChange fnExactTapeCrashSpec)

/-- ITS FALSE NEIGHBOUR: 'it returns false'. Refute it at one input. -/
def fnExactTapeCrashWrong : ChangeSpec := { name := "fnExactTapeCrash", fn := fun _ => fun
  | [d1, d2, d3] => { results := [.lit (.bool false)], args := [d1, d2, d3] }
  | _ => none }
def FnExactTapeCrashWrongFalsely : Prop := fnExactTapeCrashRow.holds Try.pinned (OpenSpec.ofChange fnExactTapeCrashWrong)

/-- 'laws.FnExactTenantMay': WHATEVER THE INPUT: true; the input reads as it did. -/
def fnExactTenantMaySpec : ChangeSpec := { name := "fnExactTenantMay", fn := fun _ => fun
  | [d1, d2, d3] => { results := [.lit (.bool true)], args := [d1, d2, d3] }
  | _ => none }
def fnExactTenantMayRow : OpenClaim := { program := "ytpmjinlbfddmmaa", sum := "19bd5c1b2dafdff1417c5cba992b6d939718056783f408e542095669d3a7e95f", func := "loop.example/portreeve/laws.FnExactTenantMay", spec := "fnExactTenantMay", unfollowed := true, recurses := true, apart := false }
def FnExactTenantMaySaid : Prop := fnExactTenantMayRow.holds Try.pinned (OpenSpec.ofChange fnExactTenantMaySpec)

/-- ITS FALSE NEIGHBOUR: 'it returns false'. Refute it at one input. -/
def fnExactTenantMayWrong : ChangeSpec := { name := "fnExactTenantMay", fn := fun _ => fun
  | [d1, d2, d3] => { results := [.lit (.bool false)], args := [d1, d2, d3] }
  | _ => none }
def FnExactTenantMayWrongFalsely : Prop := fnExactTenantMayRow.holds Try.pinned (OpenSpec.ofChange fnExactTenantMayWrong)

/-- 'laws.FnExactUsersOk': WHATEVER THE INPUT: true; the input reads as it did. -/
def fnExactUsersOkSpec : ChangeSpec := { name := "fnExactUsersOk", fn := fun _ => fun
  | [d] => { results := [.lit (.bool true)], args := [d] }
  | _ => none }
def fnExactUsersOkRow : OpenClaim := { program := "ytpmjinlbfddmmaa", sum := "19bd5c1b2dafdff1417c5cba992b6d939718056783f408e542095669d3a7e95f", func := "loop.example/portreeve/laws.FnExactUsersOk", spec := "fnExactUsersOk", unfollowed := true, recurses := true, apart := false }
def FnExactUsersOkSaid : Prop := fnExactUsersOkRow.holds Try.pinned (OpenSpec.ofChange fnExactUsersOkSpec)

/-- ITS FALSE NEIGHBOUR: 'it returns false'. Refute it at one input. -/
def fnExactUsersOkWrong : ChangeSpec := { name := "fnExactUsersOk", fn := fun _ => fun
  | [d] => { results := [.lit (.bool false)], args := [d] }
  | _ => none }
def FnExactUsersOkWrongFalsely : Prop := fnExactUsersOkRow.holds Try.pinned (OpenSpec.ofChange fnExactUsersOkWrong)

/-- 'laws.FnExactReqOk': WHATEVER THE INPUT: true; the input reads as it did. -/
def fnExactReqOkSpec : ChangeSpec := { name := "fnExactReqOk", fn := fun _ => fun
  | [d] => { results := [.lit (.bool true)], args := [d] }
  | _ => none }
def fnExactReqOkRow : OpenClaim := { program := "ytpmjinlbfddmmaa", sum := "19bd5c1b2dafdff1417c5cba992b6d939718056783f408e542095669d3a7e95f", func := "loop.example/portreeve/laws.FnExactReqOk", spec := "fnExactReqOk", apart := false }
def FnExactReqOkSaid : Prop := fnExactReqOkRow.holds Try.pinned (OpenSpec.ofChange fnExactReqOkSpec)

/-- ITS FALSE NEIGHBOUR: 'it returns false'. Refute it at one input. -/
def fnExactReqOkWrong : ChangeSpec := { name := "fnExactReqOk", fn := fun _ => fun
  | [d] => { results := [.lit (.bool false)], args := [d] }
  | _ => none }
def FnExactReqOkWrongFalsely : Prop := fnExactReqOkRow.holds Try.pinned (OpenSpec.ofChange fnExactReqOkWrong)

/-- 'laws.FnExactAuditView': WHATEVER THE INPUT: true; the input reads as it did. -/
def fnExactAuditViewSpec : ChangeSpec := { name := "fnExactAuditView", fn := fun _ => fun
  | [d1, d2] => { results := [.lit (.bool true)], args := [d1, d2] }
  | _ => none }
def fnExactAuditViewRow : OpenClaim := { program := "ytpmjinlbfddmmaa", sum := "19bd5c1b2dafdff1417c5cba992b6d939718056783f408e542095669d3a7e95f", func := "loop.example/portreeve/laws.FnExactAuditView", spec := "fnExactAuditView", apart := false }
def FnExactAuditViewSaid : Prop := fnExactAuditViewRow.holds Try.pinned (OpenSpec.ofChange fnExactAuditViewSpec)

/-- ITS FALSE NEIGHBOUR: 'it returns false'. Refute it at one input. -/
def fnExactAuditViewWrong : ChangeSpec := { name := "fnExactAuditView", fn := fun _ => fun
  | [d1, d2] => { results := [.lit (.bool false)], args := [d1, d2] }
  | _ => none }
def FnExactAuditViewWrongFalsely : Prop := fnExactAuditViewRow.holds Try.pinned (OpenSpec.ofChange fnExactAuditViewWrong)

/- THE SECOND FORM. 'bulk': how many values and letters a reading holds, each counted each time it is reached (what is shared counts as often as it is met; a slice's spare places count too). A statement '..UptoSaid' is the law's where the arguments, and the package variables that the reading takes, are together of bulk at most 1048576: NARROWER than '..Said'. Prove '..Said' where nothing that the law and all that it calls make is longer than what came in: it says more and counts as full. Else prove '..UptoSaid'. A law counts once. -/
mutual
def uptoBulk {H : Type} : DataW H → Nat
  | .lit (.string bytes) => bytes.length + 1
  | .lit _ => 1
  | .nil => 1
  | .ptr d => uptoBulk d + 1
  | .slice elems spare => uptoBulkAll elems + uptoBulkAll spare + 1
  | .agg parts => uptoBulkAll parts + 1
  | .iface _ d => uptoBulk d + 1
  | .map entries => uptoBulkEntries entries + 1
  | .held _ => 1
def uptoBulkAll {H : Type} : List (DataW H) → Nat
  | [] => 0
  | d :: r => uptoBulk d + uptoBulkAll r
def uptoBulkEntries {H : Type} : List (Lit × DataW H) → Nat
  | [] => 0
  | x :: r => uptoBulkEntry x + uptoBulkEntries r
def uptoBulkEntry {H : Type} : Lit × DataW H → Nat
  | (.string bytes, d) => bytes.length + uptoBulk d + 1
  | (_, d) => uptoBulk d + 1
 end
def uptoSmall : (H : Type) → List (DataW H) → Bool := fun _ ds => decide (uptoBulkAll ds ≤ 1048576)
def OpenSpec.upto (s : _root_.Go.ChangeSpec) : _root_.Go.OpenSpec := { _root_.Go.OpenSpec.ofChange s with cond := some uptoSmall }

/-- 'laws.FnExactTapeSync', WHERE WHAT IT READS IS OF BULK AT MOST 1048576: true; the input reads as it did. -/
def fnExactTapeSyncUptoRow : OpenClaim := { program := "ytpmjinlbfddmmaa", sum := "19bd5c1b2dafdff1417c5cba992b6d939718056783f408e542095669d3a7e95f", func := "loop.example/portreeve/laws.FnExactTapeSync", spec := "fnExactTapeSync", apart := false, narrowed := true }
def FnExactTapeSyncUptoSaid : Prop := fnExactTapeSyncUptoRow.holds Try.pinned (OpenSpec.upto fnExactTapeSyncSpec)

/-- 'laws.FnExactTapeCrash', WHERE WHAT IT READS IS OF BULK AT MOST 1048576: true; the input reads as it did. -/
def fnExactTapeCrashUptoRow : OpenClaim := { program := "ytpmjinlbfddmmaa", sum := "19bd5c1b2dafdff1417c5cba992b6d939718056783f408e542095669d3a7e95f", func := "loop.example/portreeve/laws.FnExactTapeCrash", spec := "fnExactTapeCrash", apart := false, narrowed := true }
def FnExactTapeCrashUptoSaid : Prop := fnExactTapeCrashUptoRow.holds Try.pinned (OpenSpec.upto fnExactTapeCrashSpec)

/-- 'laws.FnExactTenantMay', WHERE WHAT IT READS IS OF BULK AT MOST 1048576: true; the input reads as it did. -/
def fnExactTenantMayUptoRow : OpenClaim := { program := "ytpmjinlbfddmmaa", sum := "19bd5c1b2dafdff1417c5cba992b6d939718056783f408e542095669d3a7e95f", func := "loop.example/portreeve/laws.FnExactTenantMay", spec := "fnExactTenantMay", unfollowed := true, recurses := true, apart := false, narrowed := true }
def FnExactTenantMayUptoSaid : Prop := fnExactTenantMayUptoRow.holds Try.pinned (OpenSpec.upto fnExactTenantMaySpec)

/-- 'laws.FnExactUsersOk', WHERE WHAT IT READS IS OF BULK AT MOST 1048576: true; the input reads as it did. -/
def fnExactUsersOkUptoRow : OpenClaim := { program := "ytpmjinlbfddmmaa", sum := "19bd5c1b2dafdff1417c5cba992b6d939718056783f408e542095669d3a7e95f", func := "loop.example/portreeve/laws.FnExactUsersOk", spec := "fnExactUsersOk", unfollowed := true, recurses := true, apart := false, narrowed := true }
def FnExactUsersOkUptoSaid : Prop := fnExactUsersOkUptoRow.holds Try.pinned (OpenSpec.upto fnExactUsersOkSpec)

/-- 'laws.FnExactReqOk', WHERE WHAT IT READS IS OF BULK AT MOST 1048576: true; the input reads as it did. -/
def fnExactReqOkUptoRow : OpenClaim := { program := "ytpmjinlbfddmmaa", sum := "19bd5c1b2dafdff1417c5cba992b6d939718056783f408e542095669d3a7e95f", func := "loop.example/portreeve/laws.FnExactReqOk", spec := "fnExactReqOk", apart := false, narrowed := true }
def FnExactReqOkUptoSaid : Prop := fnExactReqOkUptoRow.holds Try.pinned (OpenSpec.upto fnExactReqOkSpec)

/-- 'laws.FnExactAuditView', WHERE WHAT IT READS IS OF BULK AT MOST 1048576: true; the input reads as it did. -/
def fnExactAuditViewUptoRow : OpenClaim := { program := "ytpmjinlbfddmmaa", sum := "19bd5c1b2dafdff1417c5cba992b6d939718056783f408e542095669d3a7e95f", func := "loop.example/portreeve/laws.FnExactAuditView", spec := "fnExactAuditView", apart := false, narrowed := true }
def FnExactAuditViewUptoSaid : Prop := fnExactAuditViewUptoRow.holds Try.pinned (OpenSpec.upto fnExactAuditViewSpec)

end Rows
end Go.Proofs.Ytpmjinlbfddmmaa
