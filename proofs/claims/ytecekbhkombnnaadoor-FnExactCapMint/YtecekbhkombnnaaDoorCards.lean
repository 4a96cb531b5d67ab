/-
  DERIVED. GIVEN WITH THE SEED: THE CARDS: each row of YtecekbhkombnnaaDoorRows.lean that lists a variable, with what it lists TIED to the program's text (the seventh form; the later family's looks); each row that meets fmt, with fmt's text TOLD by the authors' own Lean function (tested against real Go, not proved from fmt's source: count such statements apart). THE CARD IS WHAT COUNTS. Prove the row's statement (the work); the ties are given (YtecekbhkombnnaaDoorTie.lean); close each card by the builder's one call (the guide's Derived/Test/ToyasCard.lean, 'card_holds'). Laid BY PROGRAM, IN A SANDBOX (cutbox-door.mjs). By AI agents, Wed Nov 11 2026. No macro, syntax, notation, axiom, sorry.
-/
import Derived.Test.YtecekbhkombnnaaDoorRows
import GoSem.ClaimSeven
namespace Go.Proofs.YtecekbhkombnnaaDoor
namespace Rows

/-- THE TIED CARD OF 'laws.FnExactCapMint'. -/
def fnExactCapMintCard : Claim7 := { stood := { row := fnExactCapMintRow, standIns := [], harness := (true, "04c35bd03055658f030c6d6d5b36308e9942dcf241f451482332b984d8b071c2"), looks := true }, kinds := [], alts := [], laidByText := true, laidKinds := [.data, .data, .data, .data, .data], laidTests := true, laidLooks := .later }
def FnExactCapMintCardSaid : Prop := Claim7.holds Tryd.pinned (.plain (OpenSpec.ofChange fnExactCapMintSpec)) fnExactCapMintCard

/-- THE TIED CARD OF 'laws.FnExactReqRead'. -/
def fnExactReqReadCard : Claim7 := { stood := { row := fnExactReqReadRow, standIns := [], harness := (true, "04c35bd03055658f030c6d6d5b36308e9942dcf241f451482332b984d8b071c2"), looks := true }, kinds := [], alts := [], laidByText := true, laidKinds := [.data, .data, .data, .sentinel, .sentinel], laidTests := true, laidLooks := .later }
def FnExactReqReadCardSaid : Prop := Claim7.holds Tryd.pinned (.plain (OpenSpec.ofChange fnExactReqReadSpec)) fnExactReqReadCard

/-- THE SECOND FORM's CARD OF 'laws.FnExactCapMint'. -/
def fnExactCapMintUptoCard : Claim7 := { stood := { row := fnExactCapMintUptoRow, standIns := [], harness := (true, "04c35bd03055658f030c6d6d5b36308e9942dcf241f451482332b984d8b071c2"), looks := true }, kinds := [], alts := [], laidByText := true, laidKinds := [.data, .data, .data, .data, .data], laidTests := true, laidLooks := .later }
def FnExactCapMintUptoCardSaid : Prop := Claim7.holds Tryd.pinned (.plain (OpenSpec.upto fnExactCapMintSpec)) fnExactCapMintUptoCard

/-- THE SECOND FORM's CARD OF 'laws.FnExactReqRead'. -/
def fnExactReqReadUptoCard : Claim7 := { stood := { row := fnExactReqReadUptoRow, standIns := [], harness := (true, "04c35bd03055658f030c6d6d5b36308e9942dcf241f451482332b984d8b071c2"), looks := true }, kinds := [], alts := [], laidByText := true, laidKinds := [.data, .data, .data, .sentinel, .sentinel], laidTests := true, laidLooks := .later }
def FnExactReqReadUptoCardSaid : Prop := Claim7.holds Tryd.pinned (.plain (OpenSpec.upto fnExactReqReadSpec)) fnExactReqReadUptoCard
end Rows
end Go.Proofs.YtecekbhkombnnaaDoor
