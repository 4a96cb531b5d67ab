/-
  DERIVED. GIVEN WITH THE SEED: THE CARDS: each row of YtlnngamhjinpbaaDoorRows.lean that lists a variable, with what it lists TIED to the program's text (the seventh form; the later family's looks); each row that meets fmt, with fmt's text TOLD by the authors' own Lean function (tested against real Go, not proved from fmt's source: count such statements apart). THE CARD IS WHAT COUNTS. Prove the row's statement (the work); the ties are given (YtlnngamhjinpbaaDoorTie.lean); close each card by the builder's one call (the guide's Derived/Test/ToyasCard.lean, 'card_holds'). Laid BY PROGRAM, IN A SANDBOX (cutbox-door.mjs). By AI agents, Wed Nov 11 2026. No macro, syntax, notation, axiom, sorry.
-/
import Derived.Test.YtlnngamhjinpbaaDoorRows
import GoSem.ClaimSeven
namespace Go.Proofs.YtlnngamhjinpbaaDoor
namespace Rows

/-- THE TIED CARD OF 'laws.FnExactTapeAdd'. -/
def fnExactTapeAddCard : Claim7 := { stood := { row := fnExactTapeAddRow, standIns := [], harness := (true, "45755e3d84c8a9358f548c80c2daf9efa6cab78a8c90ade9498c12b4a325a8de"), looks := true }, kinds := [], alts := [], laidByText := true, laidKinds := [.data, .data, .data, .data, .data], laidTests := true, laidLooks := .later }
def FnExactTapeAddCardSaid : Prop := Claim7.holds Tryd.pinned (.plain (OpenSpec.ofChange fnExactTapeAddSpec)) fnExactTapeAddCard

/-- THE TIED CARD OF 'laws.FnExactTapeOpen'. -/
def fnExactTapeOpenCard : Claim7 := { stood := { row := fnExactTapeOpenRow, standIns := [], harness := (true, "45755e3d84c8a9358f548c80c2daf9efa6cab78a8c90ade9498c12b4a325a8de"), looks := true }, kinds := [], alts := [], laidByText := true, laidKinds := [.data, .data, .data, .data, .data], laidTests := true, laidLooks := .later }
def FnExactTapeOpenCardSaid : Prop := Claim7.holds Tryd.pinned (.plain (OpenSpec.ofChange fnExactTapeOpenSpec)) fnExactTapeOpenCard

/-- THE TIED CARD OF 'laws.FnExactReqWrite'. -/
def fnExactReqWriteCard : Claim7 := { stood := { row := fnExactReqWriteRow, standIns := [], harness := (true, "45755e3d84c8a9358f548c80c2daf9efa6cab78a8c90ade9498c12b4a325a8de"), looks := true }, kinds := [], alts := [], laidByText := true, laidKinds := [.data, .data, .data], laidTests := true, laidLooks := .later }
def FnExactReqWriteCardSaid : Prop := Claim7.holds Tryd.pinned (.plain (OpenSpec.ofChange fnExactReqWriteSpec)) fnExactReqWriteCard

/-- THE TIED CARD OF 'laws.FnExactReqRead'. -/
def fnExactReqReadCard : Claim7 := { stood := { row := fnExactReqReadRow, standIns := [], harness := (true, "45755e3d84c8a9358f548c80c2daf9efa6cab78a8c90ade9498c12b4a325a8de"), looks := true }, kinds := [], alts := [], laidByText := true, laidKinds := [.data, .data, .data, .sentinel, .sentinel], laidTests := true, laidLooks := .later }
def FnExactReqReadCardSaid : Prop := Claim7.holds Tryd.pinned (.plain (OpenSpec.ofChange fnExactReqReadSpec)) fnExactReqReadCard

/-- THE TIED CARD OF 'laws.FnExactHouseGiven'. -/
def fnExactHouseGivenCard : Claim7 := { stood := { row := fnExactHouseGivenRow, standIns := [], harness := (true, "45755e3d84c8a9358f548c80c2daf9efa6cab78a8c90ade9498c12b4a325a8de"), looks := true }, kinds := [], alts := [], laidByText := true, laidKinds := [.data, .data], laidTests := true, laidLooks := .later }
def FnExactHouseGivenCardSaid : Prop := Claim7.holds Tryd.pinned (.plain (OpenSpec.ofChange fnExactHouseGivenSpec)) fnExactHouseGivenCard

/-- THE SECOND FORM's CARD OF 'laws.FnExactTapeAdd'. -/
def fnExactTapeAddUptoCard : Claim7 := { stood := { row := fnExactTapeAddUptoRow, standIns := [], harness := (true, "45755e3d84c8a9358f548c80c2daf9efa6cab78a8c90ade9498c12b4a325a8de"), looks := true }, kinds := [], alts := [], laidByText := true, laidKinds := [.data, .data, .data, .data, .data], laidTests := true, laidLooks := .later }
def FnExactTapeAddUptoCardSaid : Prop := Claim7.holds Tryd.pinned (.plain (OpenSpec.upto fnExactTapeAddSpec)) fnExactTapeAddUptoCard

/-- THE SECOND FORM's CARD OF 'laws.FnExactTapeOpen'. -/
def fnExactTapeOpenUptoCard : Claim7 := { stood := { row := fnExactTapeOpenUptoRow, standIns := [], harness := (true, "45755e3d84c8a9358f548c80c2daf9efa6cab78a8c90ade9498c12b4a325a8de"), looks := true }, kinds := [], alts := [], laidByText := true, laidKinds := [.data, .data, .data, .data, .data], laidTests := true, laidLooks := .later }
def FnExactTapeOpenUptoCardSaid : Prop := Claim7.holds Tryd.pinned (.plain (OpenSpec.upto fnExactTapeOpenSpec)) fnExactTapeOpenUptoCard

/-- THE SECOND FORM's CARD OF 'laws.FnExactReqWrite'. -/
def fnExactReqWriteUptoCard : Claim7 := { stood := { row := fnExactReqWriteUptoRow, standIns := [], harness := (true, "45755e3d84c8a9358f548c80c2daf9efa6cab78a8c90ade9498c12b4a325a8de"), looks := true }, kinds := [], alts := [], laidByText := true, laidKinds := [.data, .data, .data], laidTests := true, laidLooks := .later }
def FnExactReqWriteUptoCardSaid : Prop := Claim7.holds Tryd.pinned (.plain (OpenSpec.upto fnExactReqWriteSpec)) fnExactReqWriteUptoCard

/-- THE SECOND FORM's CARD OF 'laws.FnExactReqRead'. -/
def fnExactReqReadUptoCard : Claim7 := { stood := { row := fnExactReqReadUptoRow, standIns := [], harness := (true, "45755e3d84c8a9358f548c80c2daf9efa6cab78a8c90ade9498c12b4a325a8de"), looks := true }, kinds := [], alts := [], laidByText := true, laidKinds := [.data, .data, .data, .sentinel, .sentinel], laidTests := true, laidLooks := .later }
def FnExactReqReadUptoCardSaid : Prop := Claim7.holds Tryd.pinned (.plain (OpenSpec.upto fnExactReqReadSpec)) fnExactReqReadUptoCard

/-- THE SECOND FORM's CARD OF 'laws.FnExactHouseGiven'. -/
def fnExactHouseGivenUptoCard : Claim7 := { stood := { row := fnExactHouseGivenUptoRow, standIns := [], harness := (true, "45755e3d84c8a9358f548c80c2daf9efa6cab78a8c90ade9498c12b4a325a8de"), looks := true }, kinds := [], alts := [], laidByText := true, laidKinds := [.data, .data], laidTests := true, laidLooks := .later }
def FnExactHouseGivenUptoCardSaid : Prop := Claim7.holds Tryd.pinned (.plain (OpenSpec.upto fnExactHouseGivenSpec)) fnExactHouseGivenUptoCard
end Rows
end Go.Proofs.YtlnngamhjinpbaaDoor
