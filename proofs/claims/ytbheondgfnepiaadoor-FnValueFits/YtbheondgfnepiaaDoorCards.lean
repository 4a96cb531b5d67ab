/-
  DERIVED. GIVEN WITH THE SEED: THE CARDS: each row of YtbheondgfnepiaaDoorRows.lean that lists a variable, with what it lists TIED to the program's text (the seventh form; the later family's looks); each row that meets fmt, with fmt's text TOLD by the authors' own Lean function (tested against real Go, not proved from fmt's source: count such statements apart). THE CARD IS WHAT COUNTS. Prove the row's statement (the work); the ties are given (YtbheondgfnepiaaDoorTie.lean); close each card by the builder's one call (the guide's Derived/Test/ToyasCard.lean, 'card_holds'). Laid BY PROGRAM, IN A SANDBOX (cutbox-door.mjs). By AI agents, Wed Nov 11 2026. No macro, syntax, notation, axiom, sorry.
-/
import Derived.Test.YtbheondgfnepiaaDoorRows
import GoSem.ClaimSeven
namespace Go.Proofs.YtbheondgfnepiaaDoor
namespace Rows

/-- THE TIED CARD OF 'laws.FnValueFits'. -/
def fnValueFitsCard : Claim7 := { stood := { row := fnValueFitsRow, standIns := [], harness := (true, "87030abbb6a831203b58874cd9d12ab423fe391013f1b9d8e285ce8770b36848"), looks := true }, kinds := [], alts := [], laidByText := true, laidKinds := [.handle, .data], laidTests := true, laidLooks := .later }
def FnValueFitsCardSaid : Prop := Claim7.holds Tryd.pinned (.plain (OpenSpec.ofChange fnValueFitsSpec)) fnValueFitsCard

/-- THE TIED CARD OF 'laws.FnExactValueShow'. -/
def fnExactValueShowCard : Claim7 := { stood := { row := fnExactValueShowRow, standIns := [], harness := (true, "87030abbb6a831203b58874cd9d12ab423fe391013f1b9d8e285ce8770b36848"), looks := true }, kinds := [], alts := [], laidByText := true, laidKinds := [.data, .data, .data, .handle, .data], laidTests := true, laidLooks := .later }
def FnExactValueShowCardSaid : Prop := Claim7.holds Tryd.pinned (.plain (OpenSpec.ofChange fnExactValueShowSpec)) fnExactValueShowCard

/-- THE SECOND FORM's CARD OF 'laws.FnValueFits'. -/
def fnValueFitsUptoCard : Claim7 := { stood := { row := fnValueFitsUptoRow, standIns := [], harness := (true, "87030abbb6a831203b58874cd9d12ab423fe391013f1b9d8e285ce8770b36848"), looks := true }, kinds := [], alts := [], laidByText := true, laidKinds := [.handle, .data], laidTests := true, laidLooks := .later }
def FnValueFitsUptoCardSaid : Prop := Claim7.holds Tryd.pinned (.plain (OpenSpec.upto fnValueFitsSpec)) fnValueFitsUptoCard

/-- THE SECOND FORM's CARD OF 'laws.FnExactValueShow'. -/
def fnExactValueShowUptoCard : Claim7 := { stood := { row := fnExactValueShowUptoRow, standIns := [], harness := (true, "87030abbb6a831203b58874cd9d12ab423fe391013f1b9d8e285ce8770b36848"), looks := true }, kinds := [], alts := [], laidByText := true, laidKinds := [.data, .data, .data, .handle, .data], laidTests := true, laidLooks := .later }
def FnExactValueShowUptoCardSaid : Prop := Claim7.holds Tryd.pinned (.plain (OpenSpec.upto fnExactValueShowSpec)) fnExactValueShowUptoCard
end Rows
end Go.Proofs.YtbheondgfnepiaaDoor
