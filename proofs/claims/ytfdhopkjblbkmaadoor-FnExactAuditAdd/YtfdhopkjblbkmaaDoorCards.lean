/-
  DERIVED. GIVEN WITH THE SEED: THE CARDS: each row of YtfdhopkjblbkmaaDoorRows.lean that lists a variable, with what it lists TIED to the program's text (the seventh form; the later family's looks); each row that meets fmt, with fmt's text TOLD by the authors' own Lean function (tested against real Go, not proved from fmt's source: count such statements apart). THE CARD IS WHAT COUNTS. Prove the row's statement (the work); the ties are given (YtfdhopkjblbkmaaDoorTie.lean); close each card by the builder's one call (the guide's Derived/Test/ToyasCard.lean, 'card_holds'). Laid BY PROGRAM, IN A SANDBOX (cutbox-door.mjs). By AI agents, Wed Nov 11 2026. No macro, syntax, notation, axiom, sorry.
-/
import Derived.Test.YtfdhopkjblbkmaaDoorRows
import GoSem.ClaimSeven
namespace Go.Proofs.YtfdhopkjblbkmaaDoor
namespace Rows

/-- THE TIED CARD OF 'laws.FnExactAuditAdd'. -/
def fnExactAuditAddCard : Claim7 := { stood := { row := fnExactAuditAddRow, standIns := [], harness := (true, "81f7e2e078c20e32034eb001110ce855d99261bc782fa9be7101a8ca39afdfd8"), looks := true }, kinds := [], alts := [], laidByText := true, laidKinds := [.data, .data, .data, .data, .data, .sentinel], laidTests := true, laidLooks := .later }
def FnExactAuditAddCardSaid : Prop := Claim7.holds Tryd.pinned (.plain (OpenSpec.ofChange fnExactAuditAddSpec)) fnExactAuditAddCard

/-- THE TIED CARD OF 'laws.FnExactAuditOk'. -/
def fnExactAuditOkCard : Claim7 := { stood := { row := fnExactAuditOkRow, standIns := [], harness := (true, "81f7e2e078c20e32034eb001110ce855d99261bc782fa9be7101a8ca39afdfd8"), looks := true }, kinds := [], alts := [], laidByText := true, laidKinds := [.data, .data, .data, .data, .data, .sentinel], laidTests := true, laidLooks := .later }
def FnExactAuditOkCardSaid : Prop := Claim7.holds Tryd.pinned (.plain (OpenSpec.ofChange fnExactAuditOkSpec)) fnExactAuditOkCard

/-- THE TIED CARD OF 'laws.FnExactAuditWrite'. -/
def fnExactAuditWriteCard : Claim7 := { stood := { row := fnExactAuditWriteRow, standIns := [], harness := (true, "81f7e2e078c20e32034eb001110ce855d99261bc782fa9be7101a8ca39afdfd8"), looks := true }, kinds := [], alts := [], laidByText := true, laidKinds := [.data, .data, .data, .data, .data, .sentinel], laidTests := true, laidLooks := .later }
def FnExactAuditWriteCardSaid : Prop := Claim7.holds Tryd.pinned (.plain (OpenSpec.ofChange fnExactAuditWriteSpec)) fnExactAuditWriteCard

/-- THE SECOND FORM's CARD OF 'laws.FnExactAuditAdd'. -/
def fnExactAuditAddUptoCard : Claim7 := { stood := { row := fnExactAuditAddUptoRow, standIns := [], harness := (true, "81f7e2e078c20e32034eb001110ce855d99261bc782fa9be7101a8ca39afdfd8"), looks := true }, kinds := [], alts := [], laidByText := true, laidKinds := [.data, .data, .data, .data, .data, .sentinel], laidTests := true, laidLooks := .later }
def FnExactAuditAddUptoCardSaid : Prop := Claim7.holds Tryd.pinned (.plain (OpenSpec.upto fnExactAuditAddSpec)) fnExactAuditAddUptoCard

/-- THE SECOND FORM's CARD OF 'laws.FnExactAuditOk'. -/
def fnExactAuditOkUptoCard : Claim7 := { stood := { row := fnExactAuditOkUptoRow, standIns := [], harness := (true, "81f7e2e078c20e32034eb001110ce855d99261bc782fa9be7101a8ca39afdfd8"), looks := true }, kinds := [], alts := [], laidByText := true, laidKinds := [.data, .data, .data, .data, .data, .sentinel], laidTests := true, laidLooks := .later }
def FnExactAuditOkUptoCardSaid : Prop := Claim7.holds Tryd.pinned (.plain (OpenSpec.upto fnExactAuditOkSpec)) fnExactAuditOkUptoCard

/-- THE SECOND FORM's CARD OF 'laws.FnExactAuditWrite'. -/
def fnExactAuditWriteUptoCard : Claim7 := { stood := { row := fnExactAuditWriteUptoRow, standIns := [], harness := (true, "81f7e2e078c20e32034eb001110ce855d99261bc782fa9be7101a8ca39afdfd8"), looks := true }, kinds := [], alts := [], laidByText := true, laidKinds := [.data, .data, .data, .data, .data, .sentinel], laidTests := true, laidLooks := .later }
def FnExactAuditWriteUptoCardSaid : Prop := Claim7.holds Tryd.pinned (.plain (OpenSpec.upto fnExactAuditWriteSpec)) fnExactAuditWriteUptoCard
end Rows
end Go.Proofs.YtfdhopkjblbkmaaDoor
