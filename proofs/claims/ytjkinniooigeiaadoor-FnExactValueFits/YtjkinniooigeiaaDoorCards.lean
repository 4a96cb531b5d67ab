/-
  DERIVED. GIVEN WITH THE SEED: THE CARDS: each row of YtjkinniooigeiaaDoorRows.lean that lists a variable, with what it lists TIED to the program's text (the seventh form; the later family's looks); each row that meets fmt, with fmt's text TOLD by the authors' own Lean function (tested against real Go, not proved from fmt's source: count such statements apart). THE CARD IS WHAT COUNTS. Prove the row's statement (the work); the ties are given (YtjkinniooigeiaaDoorTie.lean); close each card by the builder's one call (the guide's Derived/Test/ToyasCard.lean, 'card_holds'). Laid BY PROGRAM, IN A SANDBOX (cutbox-door.mjs). By AI agents, Wed Nov 11 2026. No macro, syntax, notation, axiom, sorry.
-/
import Derived.Test.YtjkinniooigeiaaDoorRows
import GoSem.ClaimSeven
namespace Go.Proofs.YtjkinniooigeiaaDoor
namespace Rows

/-- THE TIED CARD OF 'laws.FnExactValueOk'. -/
def fnExactValueOkCard : Claim7 := { stood := { row := fnExactValueOkRow, standIns := [], harness := (true, "881d837e9baa3349ae701d3decc45195b7c8bad5a473de4ea3b5a8a85147da8f"), looks := true }, kinds := [], alts := [], laidByText := true, laidKinds := [.handle, .data], laidTests := true, laidLooks := .later }
def FnExactValueOkCardSaid : Prop := Claim7.holds Tryd.pinned (.plain (OpenSpec.ofChange fnExactValueOkSpec)) fnExactValueOkCard

/-- THE TIED CARD OF 'laws.FnExactValueLess'. -/
def fnExactValueLessCard : Claim7 := { stood := { row := fnExactValueLessRow, standIns := [], harness := (true, "881d837e9baa3349ae701d3decc45195b7c8bad5a473de4ea3b5a8a85147da8f"), looks := true }, kinds := [], alts := [], laidByText := true, laidKinds := [.handle, .data], laidTests := true, laidLooks := .later }
def FnExactValueLessCardSaid : Prop := Claim7.holds Tryd.pinned (.plain (OpenSpec.ofChange fnExactValueLessSpec)) fnExactValueLessCard

/-- THE TIED CARD OF 'laws.FnExactValueKnown'. -/
def fnExactValueKnownCard : Claim7 := { stood := { row := fnExactValueKnownRow, standIns := [], harness := (true, "881d837e9baa3349ae701d3decc45195b7c8bad5a473de4ea3b5a8a85147da8f"), looks := true }, kinds := [], alts := [], laidByText := true, laidKinds := [.handle, .data], laidTests := true, laidLooks := .later }
def FnExactValueKnownCardSaid : Prop := Claim7.holds Tryd.pinned (.plain (OpenSpec.ofChange fnExactValueKnownSpec)) fnExactValueKnownCard

/-- THE TIED CARD OF 'laws.FnExactValueFits'. -/
def fnExactValueFitsCard : Claim7 := { stood := { row := fnExactValueFitsRow, standIns := [], harness := (true, "881d837e9baa3349ae701d3decc45195b7c8bad5a473de4ea3b5a8a85147da8f"), looks := true }, kinds := [], alts := [], laidByText := true, laidKinds := [.handle, .data], laidTests := true, laidLooks := .later }
def FnExactValueFitsCardSaid : Prop := Claim7.holds Tryd.pinned (.plain (OpenSpec.ofChange fnExactValueFitsSpec)) fnExactValueFitsCard

/-- THE SECOND FORM's CARD OF 'laws.FnExactValueOk'. -/
def fnExactValueOkUptoCard : Claim7 := { stood := { row := fnExactValueOkUptoRow, standIns := [], harness := (true, "881d837e9baa3349ae701d3decc45195b7c8bad5a473de4ea3b5a8a85147da8f"), looks := true }, kinds := [], alts := [], laidByText := true, laidKinds := [.handle, .data], laidTests := true, laidLooks := .later }
def FnExactValueOkUptoCardSaid : Prop := Claim7.holds Tryd.pinned (.plain (OpenSpec.upto fnExactValueOkSpec)) fnExactValueOkUptoCard

/-- THE SECOND FORM's CARD OF 'laws.FnExactValueLess'. -/
def fnExactValueLessUptoCard : Claim7 := { stood := { row := fnExactValueLessUptoRow, standIns := [], harness := (true, "881d837e9baa3349ae701d3decc45195b7c8bad5a473de4ea3b5a8a85147da8f"), looks := true }, kinds := [], alts := [], laidByText := true, laidKinds := [.handle, .data], laidTests := true, laidLooks := .later }
def FnExactValueLessUptoCardSaid : Prop := Claim7.holds Tryd.pinned (.plain (OpenSpec.upto fnExactValueLessSpec)) fnExactValueLessUptoCard

/-- THE SECOND FORM's CARD OF 'laws.FnExactValueKnown'. -/
def fnExactValueKnownUptoCard : Claim7 := { stood := { row := fnExactValueKnownUptoRow, standIns := [], harness := (true, "881d837e9baa3349ae701d3decc45195b7c8bad5a473de4ea3b5a8a85147da8f"), looks := true }, kinds := [], alts := [], laidByText := true, laidKinds := [.handle, .data], laidTests := true, laidLooks := .later }
def FnExactValueKnownUptoCardSaid : Prop := Claim7.holds Tryd.pinned (.plain (OpenSpec.upto fnExactValueKnownSpec)) fnExactValueKnownUptoCard

/-- THE SECOND FORM's CARD OF 'laws.FnExactValueFits'. -/
def fnExactValueFitsUptoCard : Claim7 := { stood := { row := fnExactValueFitsUptoRow, standIns := [], harness := (true, "881d837e9baa3349ae701d3decc45195b7c8bad5a473de4ea3b5a8a85147da8f"), looks := true }, kinds := [], alts := [], laidByText := true, laidKinds := [.handle, .data], laidTests := true, laidLooks := .later }
def FnExactValueFitsUptoCardSaid : Prop := Claim7.holds Tryd.pinned (.plain (OpenSpec.upto fnExactValueFitsSpec)) fnExactValueFitsUptoCard
end Rows
end Go.Proofs.YtjkinniooigeiaaDoor
