/-
  DERIVED. GIVEN WITH THE SEED: THE CARDS: each row of YtdelijobaebfnaaDoorRows.lean that lists a variable, with what it lists TIED to the program's text (the seventh form; the later family's looks); each row that meets fmt, with fmt's text TOLD by the authors' own Lean function (tested against real Go, not proved from fmt's source: count such statements apart). THE CARD IS WHAT COUNTS. Prove the row's statement (the work); the ties are given (YtdelijobaebfnaaDoorTie.lean); close each card by the builder's one call (the guide's Derived/Test/ToyasCard.lean, 'card_holds'). Laid BY PROGRAM, IN A SANDBOX (cutbox-door.mjs). By AI agents, Wed Nov 11 2026. No macro, syntax, notation, axiom, sorry.
-/
import Derived.Test.YtdelijobaebfnaaDoorRows
import GoSem.ClaimSeven
namespace Go.Proofs.YtdelijobaebfnaaDoor
namespace Rows

/-- THE TIED CARD OF 'laws.FnAuditTop'. -/
def fnAuditTopCard : Claim7 := { stood := { row := fnAuditTopRow, standIns := [], harness := (true, "d6fe3d8c9d0f438c6eeee569540cc6db4b0b8187475be4fe164aabc0c7baa20a"), looks := true }, kinds := [], alts := [], laidByText := true, laidKinds := [.data, .data, .data, .data, .data, .sentinel], laidTests := true, laidLooks := .later }
def FnAuditTopCardSaid : Prop := Claim7.holds Tryd.pinned (.plain (OpenSpec.ofChange fnAuditTopSpec)) fnAuditTopCard

/-- THE TIED CARD OF 'laws.FnAuditAdd'. -/
def fnAuditAddCard : Claim7 := { stood := { row := fnAuditAddRow, standIns := [], harness := (true, "d6fe3d8c9d0f438c6eeee569540cc6db4b0b8187475be4fe164aabc0c7baa20a"), looks := true }, kinds := [], alts := [], laidByText := true, laidKinds := [.data, .data, .data, .data, .data, .sentinel], laidTests := true, laidLooks := .later }
def FnAuditAddCardSaid : Prop := Claim7.holds Tryd.pinned (.plain (OpenSpec.ofChange fnAuditAddSpec)) fnAuditAddCard

/-- THE TIED CARD OF 'laws.FnAuditView'. -/
def fnAuditViewCard : Claim7 := { stood := { row := fnAuditViewRow, standIns := [], harness := (true, "d6fe3d8c9d0f438c6eeee569540cc6db4b0b8187475be4fe164aabc0c7baa20a"), looks := true }, kinds := [], alts := [], laidByText := true, laidKinds := [.data, .data, .data, .data, .data, .sentinel], laidTests := true, laidLooks := .later }
def FnAuditViewCardSaid : Prop := Claim7.holds Tryd.pinned (.plain (OpenSpec.ofChange fnAuditViewSpec)) fnAuditViewCard

/-- THE TIED CARD OF 'laws.FnAuditHead'. -/
def fnAuditHeadCard : Claim7 := { stood := { row := fnAuditHeadRow, standIns := [], harness := (true, "d6fe3d8c9d0f438c6eeee569540cc6db4b0b8187475be4fe164aabc0c7baa20a"), looks := true }, kinds := [], alts := [], laidByText := true, laidKinds := [.data, .data, .data, .data, .data, .sentinel], laidTests := true, laidLooks := .later }
def FnAuditHeadCardSaid : Prop := Claim7.holds Tryd.pinned (.plain (OpenSpec.ofChange fnAuditHeadSpec)) fnAuditHeadCard

/-- THE SECOND FORM's CARD OF 'laws.FnAuditTop'. -/
def fnAuditTopUptoCard : Claim7 := { stood := { row := fnAuditTopUptoRow, standIns := [], harness := (true, "d6fe3d8c9d0f438c6eeee569540cc6db4b0b8187475be4fe164aabc0c7baa20a"), looks := true }, kinds := [], alts := [], laidByText := true, laidKinds := [.data, .data, .data, .data, .data, .sentinel], laidTests := true, laidLooks := .later }
def FnAuditTopUptoCardSaid : Prop := Claim7.holds Tryd.pinned (.plain (OpenSpec.upto fnAuditTopSpec)) fnAuditTopUptoCard

/-- THE SECOND FORM's CARD OF 'laws.FnAuditAdd'. -/
def fnAuditAddUptoCard : Claim7 := { stood := { row := fnAuditAddUptoRow, standIns := [], harness := (true, "d6fe3d8c9d0f438c6eeee569540cc6db4b0b8187475be4fe164aabc0c7baa20a"), looks := true }, kinds := [], alts := [], laidByText := true, laidKinds := [.data, .data, .data, .data, .data, .sentinel], laidTests := true, laidLooks := .later }
def FnAuditAddUptoCardSaid : Prop := Claim7.holds Tryd.pinned (.plain (OpenSpec.upto fnAuditAddSpec)) fnAuditAddUptoCard

/-- THE SECOND FORM's CARD OF 'laws.FnAuditView'. -/
def fnAuditViewUptoCard : Claim7 := { stood := { row := fnAuditViewUptoRow, standIns := [], harness := (true, "d6fe3d8c9d0f438c6eeee569540cc6db4b0b8187475be4fe164aabc0c7baa20a"), looks := true }, kinds := [], alts := [], laidByText := true, laidKinds := [.data, .data, .data, .data, .data, .sentinel], laidTests := true, laidLooks := .later }
def FnAuditViewUptoCardSaid : Prop := Claim7.holds Tryd.pinned (.plain (OpenSpec.upto fnAuditViewSpec)) fnAuditViewUptoCard

/-- THE SECOND FORM's CARD OF 'laws.FnAuditHead'. -/
def fnAuditHeadUptoCard : Claim7 := { stood := { row := fnAuditHeadUptoRow, standIns := [], harness := (true, "d6fe3d8c9d0f438c6eeee569540cc6db4b0b8187475be4fe164aabc0c7baa20a"), looks := true }, kinds := [], alts := [], laidByText := true, laidKinds := [.data, .data, .data, .data, .data, .sentinel], laidTests := true, laidLooks := .later }
def FnAuditHeadUptoCardSaid : Prop := Claim7.holds Tryd.pinned (.plain (OpenSpec.upto fnAuditHeadSpec)) fnAuditHeadUptoCard
end Rows
end Go.Proofs.YtdelijobaebfnaaDoor
