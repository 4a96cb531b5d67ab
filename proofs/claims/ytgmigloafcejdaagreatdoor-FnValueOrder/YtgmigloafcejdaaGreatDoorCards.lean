/-
  DERIVED. GIVEN WITH THE SEED: THE CARDS: each row of YtgmigloafcejdaaGreatDoorRows.lean that lists a variable, with what it lists TIED to the program's text (the seventh form; the later family's looks); each row that meets fmt, with fmt's text TOLD by the authors' own Lean function (tested against real Go, not proved from fmt's source: count such statements apart). THE CARD IS WHAT COUNTS. Prove the row's statement (the work); the ties are given (YtgmigloafcejdaaGreatDoorTie.lean); close each card by the builder's one call (the guide's Derived/Test/ToyasCard.lean, 'card_holds'). Laid BY PROGRAM, IN A SANDBOX (cutbox-door.mjs). By AI agents, Wed Nov 11 2026. No macro, syntax, notation, axiom, sorry.
-/
import Derived.Test.YtgmigloafcejdaaGreatDoorRows
import GoSem.ClaimSeven
namespace Go.Proofs.YtgmigloafcejdaaGreatDoor
namespace Rows

/-- THE TIED CARD OF 'laws.FnValueText'. -/
def fnValueTextCard : Claim7 := { stood := { row := fnValueTextRow, standIns := [], harness := (true, "386ecc56519fa974678b0d1abbbaa0539efd242aad3ac5e959a9cb8804d4d902"), looks := true }, kinds := [], alts := [], laidByText := true, laidKinds := [.data, .data, .data, .data, .handle, .sentinel, .sentinel, .data, .pinned], laidTests := true, laidLooks := .later }
def FnValueTextCardSaid : Prop := Claim7.holds Tryz.pinned (.plain (OpenSpec.ofChange fnValueTextSpec)) fnValueTextCard

/-- THE TIED CARD OF 'laws.FnValueOrder'. -/
def fnValueOrderCard : Claim7 := { stood := { row := fnValueOrderRow, standIns := [], harness := (true, "386ecc56519fa974678b0d1abbbaa0539efd242aad3ac5e959a9cb8804d4d902"), looks := true }, kinds := [], alts := [], laidByText := true, laidKinds := [.data, .data, .data, .handle, .data], laidTests := true, laidLooks := .later }
def FnValueOrderCardSaid : Prop := Claim7.holds Tryz.pinned (.plain (OpenSpec.ofChange fnValueOrderSpec)) fnValueOrderCard

/-- THE TIED CARD OF 'laws.FnExactValueShow'. -/
def fnExactValueShowCard : Claim7 := { stood := { row := fnExactValueShowRow, standIns := [], harness := (true, "386ecc56519fa974678b0d1abbbaa0539efd242aad3ac5e959a9cb8804d4d902"), looks := true }, kinds := [], alts := [], laidByText := true, laidKinds := [.data, .data, .data, .handle, .data], laidTests := true, laidLooks := .later }
def FnExactValueShowCardSaid : Prop := Claim7.holds Tryz.pinned (.plain (OpenSpec.ofChange fnExactValueShowSpec)) fnExactValueShowCard

/-- THE TIED CARD OF 'laws.FnExactValueParse'. -/
def fnExactValueParseCard : Claim7 := { stood := { row := fnExactValueParseRow, standIns := [], harness := (true, "386ecc56519fa974678b0d1abbbaa0539efd242aad3ac5e959a9cb8804d4d902"), looks := true }, kinds := [], alts := [], laidByText := true, laidKinds := [.data, .data, .data, .data, .handle, .sentinel, .sentinel, .pinned], laidTests := true, laidLooks := .later }
def FnExactValueParseCardSaid : Prop := Claim7.holds Tryz.pinned (.plain (OpenSpec.ofChange fnExactValueParseSpec)) fnExactValueParseCard

/-- THE SECOND FORM's CARD OF 'laws.FnValueText'. -/
def fnValueTextUptoCard : Claim7 := { stood := { row := fnValueTextUptoRow, standIns := [], harness := (true, "386ecc56519fa974678b0d1abbbaa0539efd242aad3ac5e959a9cb8804d4d902"), looks := true }, kinds := [], alts := [], laidByText := true, laidKinds := [.data, .data, .data, .data, .handle, .sentinel, .sentinel, .data, .pinned], laidTests := true, laidLooks := .later }
def FnValueTextUptoCardSaid : Prop := Claim7.holds Tryz.pinned (.plain (OpenSpec.upto fnValueTextSpec)) fnValueTextUptoCard

/-- THE SECOND FORM's CARD OF 'laws.FnValueOrder'. -/
def fnValueOrderUptoCard : Claim7 := { stood := { row := fnValueOrderUptoRow, standIns := [], harness := (true, "386ecc56519fa974678b0d1abbbaa0539efd242aad3ac5e959a9cb8804d4d902"), looks := true }, kinds := [], alts := [], laidByText := true, laidKinds := [.data, .data, .data, .handle, .data], laidTests := true, laidLooks := .later }
def FnValueOrderUptoCardSaid : Prop := Claim7.holds Tryz.pinned (.plain (OpenSpec.upto fnValueOrderSpec)) fnValueOrderUptoCard

/-- THE SECOND FORM's CARD OF 'laws.FnExactValueShow'. -/
def fnExactValueShowUptoCard : Claim7 := { stood := { row := fnExactValueShowUptoRow, standIns := [], harness := (true, "386ecc56519fa974678b0d1abbbaa0539efd242aad3ac5e959a9cb8804d4d902"), looks := true }, kinds := [], alts := [], laidByText := true, laidKinds := [.data, .data, .data, .handle, .data], laidTests := true, laidLooks := .later }
def FnExactValueShowUptoCardSaid : Prop := Claim7.holds Tryz.pinned (.plain (OpenSpec.upto fnExactValueShowSpec)) fnExactValueShowUptoCard

/-- THE SECOND FORM's CARD OF 'laws.FnExactValueParse'. -/
def fnExactValueParseUptoCard : Claim7 := { stood := { row := fnExactValueParseUptoRow, standIns := [], harness := (true, "386ecc56519fa974678b0d1abbbaa0539efd242aad3ac5e959a9cb8804d4d902"), looks := true }, kinds := [], alts := [], laidByText := true, laidKinds := [.data, .data, .data, .data, .handle, .sentinel, .sentinel, .pinned], laidTests := true, laidLooks := .later }
def FnExactValueParseUptoCardSaid : Prop := Claim7.holds Tryz.pinned (.plain (OpenSpec.upto fnExactValueParseSpec)) fnExactValueParseUptoCard
end Rows
end Go.Proofs.YtgmigloafcejdaaGreatDoor
