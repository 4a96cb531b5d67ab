/-
  DERIVED. GIVEN WITH THE SEED: THE CARDS: each row of YtgmigloafcejdaaDoorRows.lean that lists a variable, with what it lists TIED to the program's text (the seventh form; the later family's looks); each row that meets fmt, with fmt's text TOLD by the authors' own Lean function (tested against real Go, not proved from fmt's source: count such statements apart). THE CARD IS WHAT COUNTS. Prove the row's statement (the work); the ties are given (YtgmigloafcejdaaDoorTie.lean); close each card by the builder's one call (the guide's Derived/Test/ToyasCard.lean, 'card_holds'). Laid BY PROGRAM, IN A SANDBOX (cutbox-door.mjs). By AI agents, Wed Nov 11 2026. No macro, syntax, notation, axiom, sorry.
-/
import Derived.Test.YtgmigloafcejdaaDoorRows
import GoSem.ClaimSeven
namespace Go.Proofs.YtgmigloafcejdaaDoor
namespace Rows

/-- THE TIED CARD OF 'laws.FnValueFits'. -/
def fnValueFitsCard : Claim7 := { stood := { row := fnValueFitsRow, standIns := [], harness := (true, "fce6bb9ab039b34c1e0c0a63cce96a3d3a0342f81d66ceb397807cb25944c54e"), looks := true }, kinds := [], alts := [], laidByText := true, laidKinds := [.handle, .data], laidTests := true, laidLooks := .later }
def FnValueFitsCardSaid : Prop := Claim7.holds Tryd.pinned (.plain (OpenSpec.ofChange fnValueFitsSpec)) fnValueFitsCard

/-- THE TIED CARD OF 'laws.FnExactValueOk'. -/
def fnExactValueOkCard : Claim7 := { stood := { row := fnExactValueOkRow, standIns := [], harness := (true, "fce6bb9ab039b34c1e0c0a63cce96a3d3a0342f81d66ceb397807cb25944c54e"), looks := true }, kinds := [], alts := [], laidByText := true, laidKinds := [.handle, .data], laidTests := true, laidLooks := .later }
def FnExactValueOkCardSaid : Prop := Claim7.holds Tryd.pinned (.plain (OpenSpec.ofChange fnExactValueOkSpec)) fnExactValueOkCard

/-- THE TIED CARD OF 'laws.FnExactValueLess'. -/
def fnExactValueLessCard : Claim7 := { stood := { row := fnExactValueLessRow, standIns := [], harness := (true, "fce6bb9ab039b34c1e0c0a63cce96a3d3a0342f81d66ceb397807cb25944c54e"), looks := true }, kinds := [], alts := [], laidByText := true, laidKinds := [.handle, .data], laidTests := true, laidLooks := .later }
def FnExactValueLessCardSaid : Prop := Claim7.holds Tryd.pinned (.plain (OpenSpec.ofChange fnExactValueLessSpec)) fnExactValueLessCard

/-- THE TIED CARD OF 'laws.FnExactValueKnown'. -/
def fnExactValueKnownCard : Claim7 := { stood := { row := fnExactValueKnownRow, standIns := [], harness := (true, "fce6bb9ab039b34c1e0c0a63cce96a3d3a0342f81d66ceb397807cb25944c54e"), looks := true }, kinds := [], alts := [], laidByText := true, laidKinds := [.handle, .data], laidTests := true, laidLooks := .later }
def FnExactValueKnownCardSaid : Prop := Claim7.holds Tryd.pinned (.plain (OpenSpec.ofChange fnExactValueKnownSpec)) fnExactValueKnownCard

/-- THE TIED CARD OF 'laws.FnExactValueFits'. -/
def fnExactValueFitsCard : Claim7 := { stood := { row := fnExactValueFitsRow, standIns := [], harness := (true, "fce6bb9ab039b34c1e0c0a63cce96a3d3a0342f81d66ceb397807cb25944c54e"), looks := true }, kinds := [], alts := [], laidByText := true, laidKinds := [.handle, .data], laidTests := true, laidLooks := .later }
def FnExactValueFitsCardSaid : Prop := Claim7.holds Tryd.pinned (.plain (OpenSpec.ofChange fnExactValueFitsSpec)) fnExactValueFitsCard

/-- THE SECOND FORM's CARD OF 'laws.FnValueFits'. -/
def fnValueFitsUptoCard : Claim7 := { stood := { row := fnValueFitsUptoRow, standIns := [], harness := (true, "fce6bb9ab039b34c1e0c0a63cce96a3d3a0342f81d66ceb397807cb25944c54e"), looks := true }, kinds := [], alts := [], laidByText := true, laidKinds := [.handle, .data], laidTests := true, laidLooks := .later }
def FnValueFitsUptoCardSaid : Prop := Claim7.holds Tryd.pinned (.plain (OpenSpec.upto fnValueFitsSpec)) fnValueFitsUptoCard

/-- THE SECOND FORM's CARD OF 'laws.FnExactValueOk'. -/
def fnExactValueOkUptoCard : Claim7 := { stood := { row := fnExactValueOkUptoRow, standIns := [], harness := (true, "fce6bb9ab039b34c1e0c0a63cce96a3d3a0342f81d66ceb397807cb25944c54e"), looks := true }, kinds := [], alts := [], laidByText := true, laidKinds := [.handle, .data], laidTests := true, laidLooks := .later }
def FnExactValueOkUptoCardSaid : Prop := Claim7.holds Tryd.pinned (.plain (OpenSpec.upto fnExactValueOkSpec)) fnExactValueOkUptoCard

/-- THE SECOND FORM's CARD OF 'laws.FnExactValueLess'. -/
def fnExactValueLessUptoCard : Claim7 := { stood := { row := fnExactValueLessUptoRow, standIns := [], harness := (true, "fce6bb9ab039b34c1e0c0a63cce96a3d3a0342f81d66ceb397807cb25944c54e"), looks := true }, kinds := [], alts := [], laidByText := true, laidKinds := [.handle, .data], laidTests := true, laidLooks := .later }
def FnExactValueLessUptoCardSaid : Prop := Claim7.holds Tryd.pinned (.plain (OpenSpec.upto fnExactValueLessSpec)) fnExactValueLessUptoCard

/-- THE SECOND FORM's CARD OF 'laws.FnExactValueKnown'. -/
def fnExactValueKnownUptoCard : Claim7 := { stood := { row := fnExactValueKnownUptoRow, standIns := [], harness := (true, "fce6bb9ab039b34c1e0c0a63cce96a3d3a0342f81d66ceb397807cb25944c54e"), looks := true }, kinds := [], alts := [], laidByText := true, laidKinds := [.handle, .data], laidTests := true, laidLooks := .later }
def FnExactValueKnownUptoCardSaid : Prop := Claim7.holds Tryd.pinned (.plain (OpenSpec.upto fnExactValueKnownSpec)) fnExactValueKnownUptoCard

/-- THE SECOND FORM's CARD OF 'laws.FnExactValueFits'. -/
def fnExactValueFitsUptoCard : Claim7 := { stood := { row := fnExactValueFitsUptoRow, standIns := [], harness := (true, "fce6bb9ab039b34c1e0c0a63cce96a3d3a0342f81d66ceb397807cb25944c54e"), looks := true }, kinds := [], alts := [], laidByText := true, laidKinds := [.handle, .data], laidTests := true, laidLooks := .later }
def FnExactValueFitsUptoCardSaid : Prop := Claim7.holds Tryd.pinned (.plain (OpenSpec.upto fnExactValueFitsSpec)) fnExactValueFitsUptoCard
end Rows
end Go.Proofs.YtgmigloafcejdaaDoor
