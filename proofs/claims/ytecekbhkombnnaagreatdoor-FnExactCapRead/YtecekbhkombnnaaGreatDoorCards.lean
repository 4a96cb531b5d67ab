/-
  DERIVED. GIVEN WITH THE SEED: THE CARDS: each row of YtecekbhkombnnaaGreatDoorRows.lean that lists a variable, with what it lists TIED to the program's text (the seventh form; the later family's looks); each row that meets fmt, with fmt's text TOLD by the authors' own Lean function (tested against real Go, not proved from fmt's source: count such statements apart). THE CARD IS WHAT COUNTS. Prove the row's statement (the work); the ties are given (YtecekbhkombnnaaGreatDoorTie.lean); close each card by the builder's one call (the guide's Derived/Test/ToyasCard.lean, 'card_holds'). Laid BY PROGRAM, IN A SANDBOX (cutbox-door.mjs). By AI agents, Wed Nov 11 2026. No macro, syntax, notation, axiom, sorry.
-/
import Derived.Test.YtecekbhkombnnaaGreatDoorRows
import GoSem.ClaimSeven
namespace Go.Proofs.YtecekbhkombnnaaGreatDoor
namespace Rows

/-- THE TIED CARD OF 'laws.FnExactCapNarrow'. -/
def fnExactCapNarrowCard : Claim7 := { stood := { row := fnExactCapNarrowRow, standIns := [], harness := (true, "50648b9ed2d07b35784e2b847b1682b6e69a0153af8bcbbcedd455ce237617ac"), looks := true }, kinds := [], alts := [], laidByText := true, laidKinds := [.data, .data, .data, .data, .sentinel, .sentinel, .data, .data, .pinned], laidTests := true, laidLooks := .later }
def FnExactCapNarrowCardSaid : Prop := Claim7.holds Tryz.pinned (.plain (OpenSpec.ofChange fnExactCapNarrowSpec)) fnExactCapNarrowCard

/-- THE TIED CARD OF 'laws.FnExactCapMay'. -/
def fnExactCapMayCard : Claim7 := { stood := { row := fnExactCapMayRow, standIns := [], harness := (true, "50648b9ed2d07b35784e2b847b1682b6e69a0153af8bcbbcedd455ce237617ac"), looks := true }, kinds := [], alts := [], laidByText := true, laidKinds := [.data, .data, .data, .data, .sentinel, .sentinel, .data, .data, .pinned], laidTests := true, laidLooks := .later }
def FnExactCapMayCardSaid : Prop := Claim7.holds Tryz.pinned (.plain (OpenSpec.ofChange fnExactCapMaySpec)) fnExactCapMayCard

/-- THE TIED CARD OF 'laws.FnExactCapWrite'. -/
def fnExactCapWriteCard : Claim7 := { stood := { row := fnExactCapWriteRow, standIns := [], harness := (true, "50648b9ed2d07b35784e2b847b1682b6e69a0153af8bcbbcedd455ce237617ac"), looks := true }, kinds := [], alts := [], laidByText := true, laidKinds := [.data, .data, .data, .data, .sentinel, .sentinel, .pinned], laidTests := true, laidLooks := .later }
def FnExactCapWriteCardSaid : Prop := Claim7.holds Tryz.pinned (.plain (OpenSpec.ofChange fnExactCapWriteSpec)) fnExactCapWriteCard

/-- THE TIED CARD OF 'laws.FnExactCapRead'. -/
def fnExactCapReadCard : Claim7 := { stood := { row := fnExactCapReadRow, standIns := [], harness := (true, "50648b9ed2d07b35784e2b847b1682b6e69a0153af8bcbbcedd455ce237617ac"), looks := true }, kinds := [], alts := [], laidByText := true, laidKinds := [.data, .data, .data, .data, .sentinel, .sentinel, .pinned], laidTests := true, laidLooks := .later }
def FnExactCapReadCardSaid : Prop := Claim7.holds Tryz.pinned (.plain (OpenSpec.ofChange fnExactCapReadSpec)) fnExactCapReadCard

/-- THE SECOND FORM's CARD OF 'laws.FnExactCapNarrow'. -/
def fnExactCapNarrowUptoCard : Claim7 := { stood := { row := fnExactCapNarrowUptoRow, standIns := [], harness := (true, "50648b9ed2d07b35784e2b847b1682b6e69a0153af8bcbbcedd455ce237617ac"), looks := true }, kinds := [], alts := [], laidByText := true, laidKinds := [.data, .data, .data, .data, .sentinel, .sentinel, .data, .data, .pinned], laidTests := true, laidLooks := .later }
def FnExactCapNarrowUptoCardSaid : Prop := Claim7.holds Tryz.pinned (.plain (OpenSpec.upto fnExactCapNarrowSpec)) fnExactCapNarrowUptoCard

/-- THE SECOND FORM's CARD OF 'laws.FnExactCapMay'. -/
def fnExactCapMayUptoCard : Claim7 := { stood := { row := fnExactCapMayUptoRow, standIns := [], harness := (true, "50648b9ed2d07b35784e2b847b1682b6e69a0153af8bcbbcedd455ce237617ac"), looks := true }, kinds := [], alts := [], laidByText := true, laidKinds := [.data, .data, .data, .data, .sentinel, .sentinel, .data, .data, .pinned], laidTests := true, laidLooks := .later }
def FnExactCapMayUptoCardSaid : Prop := Claim7.holds Tryz.pinned (.plain (OpenSpec.upto fnExactCapMaySpec)) fnExactCapMayUptoCard

/-- THE SECOND FORM's CARD OF 'laws.FnExactCapWrite'. -/
def fnExactCapWriteUptoCard : Claim7 := { stood := { row := fnExactCapWriteUptoRow, standIns := [], harness := (true, "50648b9ed2d07b35784e2b847b1682b6e69a0153af8bcbbcedd455ce237617ac"), looks := true }, kinds := [], alts := [], laidByText := true, laidKinds := [.data, .data, .data, .data, .sentinel, .sentinel, .pinned], laidTests := true, laidLooks := .later }
def FnExactCapWriteUptoCardSaid : Prop := Claim7.holds Tryz.pinned (.plain (OpenSpec.upto fnExactCapWriteSpec)) fnExactCapWriteUptoCard

/-- THE SECOND FORM's CARD OF 'laws.FnExactCapRead'. -/
def fnExactCapReadUptoCard : Claim7 := { stood := { row := fnExactCapReadUptoRow, standIns := [], harness := (true, "50648b9ed2d07b35784e2b847b1682b6e69a0153af8bcbbcedd455ce237617ac"), looks := true }, kinds := [], alts := [], laidByText := true, laidKinds := [.data, .data, .data, .data, .sentinel, .sentinel, .pinned], laidTests := true, laidLooks := .later }
def FnExactCapReadUptoCardSaid : Prop := Claim7.holds Tryz.pinned (.plain (OpenSpec.upto fnExactCapReadSpec)) fnExactCapReadUptoCard
end Rows
end Go.Proofs.YtecekbhkombnnaaGreatDoor
