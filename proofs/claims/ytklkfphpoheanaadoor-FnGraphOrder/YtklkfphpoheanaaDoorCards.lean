/-
  DERIVED. GIVEN WITH THE SEED: THE CARDS: each row of YtklkfphpoheanaaDoorRows.lean that lists a variable, with what it lists TIED to the program's text (the seventh form; the later family's looks); each row that meets fmt, with fmt's text TOLD by the authors' own Lean function (tested against real Go, not proved from fmt's source: count such statements apart). THE CARD IS WHAT COUNTS. Prove the row's statement (the work); the ties are given (YtklkfphpoheanaaDoorTie.lean); close each card by the builder's one call (the guide's Derived/Test/ToyasCard.lean, 'card_holds'). Laid BY PROGRAM, IN A SANDBOX (cutbox-door.mjs). By AI agents, Wed Nov 11 2026. No macro, syntax, notation, axiom, sorry.
-/
import Derived.Test.YtklkfphpoheanaaDoorRows
import GoSem.ClaimSeven
namespace Go.Proofs.YtklkfphpoheanaaDoor
namespace Rows

/-- THE TIED CARD OF 'laws.FnGraphOrder'. -/
def fnGraphOrderCard : Claim7 := { stood := { row := fnGraphOrderRow, standIns := [], harness := (true, "dcc5ed86f5a2e408d0f004e5bf192995c18500b26e06e1de68009fc8b164080c"), looks := true }, kinds := [], alts := [], laidByText := true, laidKinds := [.data], laidTests := true, laidLooks := .later }
def FnGraphOrderCardSaid : Prop := Claim7.holds Tryd.pinned (.plain (OpenSpec.ofChange fnGraphOrderSpec)) fnGraphOrderCard

/-- THE TIED CARD OF 'laws.FnGraphCycle'. -/
def fnGraphCycleCard : Claim7 := { stood := { row := fnGraphCycleRow, standIns := [], harness := (true, "dcc5ed86f5a2e408d0f004e5bf192995c18500b26e06e1de68009fc8b164080c"), looks := true }, kinds := [], alts := [], laidByText := true, laidKinds := [.data], laidTests := true, laidLooks := .later }
def FnGraphCycleCardSaid : Prop := Claim7.holds Tryd.pinned (.plain (OpenSpec.ofChange fnGraphCycleSpec)) fnGraphCycleCard

/-- THE TIED CARD OF 'laws.FnExactGraphCycle'. -/
def fnExactGraphCycleCard : Claim7 := { stood := { row := fnExactGraphCycleRow, standIns := [], harness := (true, "dcc5ed86f5a2e408d0f004e5bf192995c18500b26e06e1de68009fc8b164080c"), looks := true }, kinds := [], alts := [], laidByText := true, laidKinds := [.data], laidTests := true, laidLooks := .later }
def FnExactGraphCycleCardSaid : Prop := Claim7.holds Tryd.pinned (.plain (OpenSpec.ofChange fnExactGraphCycleSpec)) fnExactGraphCycleCard

/-- THE SECOND FORM's CARD OF 'laws.FnGraphOrder'. -/
def fnGraphOrderUptoCard : Claim7 := { stood := { row := fnGraphOrderUptoRow, standIns := [], harness := (true, "dcc5ed86f5a2e408d0f004e5bf192995c18500b26e06e1de68009fc8b164080c"), looks := true }, kinds := [], alts := [], laidByText := true, laidKinds := [.data], laidTests := true, laidLooks := .later }
def FnGraphOrderUptoCardSaid : Prop := Claim7.holds Tryd.pinned (.plain (OpenSpec.upto fnGraphOrderSpec)) fnGraphOrderUptoCard

/-- THE SECOND FORM's CARD OF 'laws.FnGraphCycle'. -/
def fnGraphCycleUptoCard : Claim7 := { stood := { row := fnGraphCycleUptoRow, standIns := [], harness := (true, "dcc5ed86f5a2e408d0f004e5bf192995c18500b26e06e1de68009fc8b164080c"), looks := true }, kinds := [], alts := [], laidByText := true, laidKinds := [.data], laidTests := true, laidLooks := .later }
def FnGraphCycleUptoCardSaid : Prop := Claim7.holds Tryd.pinned (.plain (OpenSpec.upto fnGraphCycleSpec)) fnGraphCycleUptoCard

/-- THE SECOND FORM's CARD OF 'laws.FnExactGraphCycle'. -/
def fnExactGraphCycleUptoCard : Claim7 := { stood := { row := fnExactGraphCycleUptoRow, standIns := [], harness := (true, "dcc5ed86f5a2e408d0f004e5bf192995c18500b26e06e1de68009fc8b164080c"), looks := true }, kinds := [], alts := [], laidByText := true, laidKinds := [.data], laidTests := true, laidLooks := .later }
def FnExactGraphCycleUptoCardSaid : Prop := Claim7.holds Tryd.pinned (.plain (OpenSpec.upto fnExactGraphCycleSpec)) fnExactGraphCycleUptoCard
end Rows
end Go.Proofs.YtklkfphpoheanaaDoor
