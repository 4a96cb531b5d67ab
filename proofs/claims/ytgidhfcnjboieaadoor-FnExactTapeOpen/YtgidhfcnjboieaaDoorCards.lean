/-
  DERIVED. GIVEN WITH THE SEED: THE CARDS: each row of YtgidhfcnjboieaaDoorRows.lean that lists a variable, with what it lists TIED to the program's text (the seventh form; the later family's looks); each row that meets fmt, with fmt's text TOLD by the authors' own Lean function (tested against real Go, not proved from fmt's source: count such statements apart). THE CARD IS WHAT COUNTS. Prove the row's statement (the work); the ties are given (YtgidhfcnjboieaaDoorTie.lean); close each card by the builder's one call (the guide's Derived/Test/ToyasCard.lean, 'card_holds'). Laid BY PROGRAM, IN A SANDBOX (cutbox-door.mjs). By AI agents, Wed Nov 11 2026. No macro, syntax, notation, axiom, sorry.
-/
import Derived.Test.YtgidhfcnjboieaaDoorRows
import GoSem.ClaimSeven
namespace Go.Proofs.YtgidhfcnjboieaaDoor
namespace Rows

/-- THE TIED CARD OF 'laws.FnTapeOpen'. -/
def fnTapeOpenCard : Claim7 := { stood := { row := fnTapeOpenRow, standIns := [], harness := (true, "bd929edf4f0b8e69d143a7f549cc741d13787f1ef0feddfb77d54310f982b647"), looks := true }, kinds := [], alts := [], laidByText := true, laidKinds := [.data, .data, .data, .data, .data], laidTests := true, laidLooks := .later }
def FnTapeOpenCardSaid : Prop := Claim7.holds Tryd.pinned (.plain (OpenSpec.ofChange fnTapeOpenSpec)) fnTapeOpenCard

/-- THE TIED CARD OF 'laws.FnExactTapeOpen'. -/
def fnExactTapeOpenCard : Claim7 := { stood := { row := fnExactTapeOpenRow, standIns := [], harness := (true, "bd929edf4f0b8e69d143a7f549cc741d13787f1ef0feddfb77d54310f982b647"), looks := true }, kinds := [], alts := [], laidByText := true, laidKinds := [.data, .data, .data, .data, .data], laidTests := true, laidLooks := .later }
def FnExactTapeOpenCardSaid : Prop := Claim7.holds Tryd.pinned (.plain (OpenSpec.ofChange fnExactTapeOpenSpec)) fnExactTapeOpenCard

/-- THE TIED CARD OF 'laws.FnExactReqWrite'. -/
def fnExactReqWriteCard : Claim7 := { stood := { row := fnExactReqWriteRow, standIns := [], harness := (true, "bd929edf4f0b8e69d143a7f549cc741d13787f1ef0feddfb77d54310f982b647"), looks := true }, kinds := [], alts := [], laidByText := true, laidKinds := [.data, .data, .data], laidTests := true, laidLooks := .later }
def FnExactReqWriteCardSaid : Prop := Claim7.holds Tryd.pinned (.plain (OpenSpec.ofChange fnExactReqWriteSpec)) fnExactReqWriteCard

/-- THE TIED CARD OF 'laws.FnExactReqRead'. -/
def fnExactReqReadCard : Claim7 := { stood := { row := fnExactReqReadRow, standIns := [], harness := (true, "bd929edf4f0b8e69d143a7f549cc741d13787f1ef0feddfb77d54310f982b647"), looks := true }, kinds := [], alts := [], laidByText := true, laidKinds := [.data, .data, .data, .sentinel, .sentinel], laidTests := true, laidLooks := .later }
def FnExactReqReadCardSaid : Prop := Claim7.holds Tryd.pinned (.plain (OpenSpec.ofChange fnExactReqReadSpec)) fnExactReqReadCard

/-- THE SECOND FORM's CARD OF 'laws.FnTapeOpen'. -/
def fnTapeOpenUptoCard : Claim7 := { stood := { row := fnTapeOpenUptoRow, standIns := [], harness := (true, "bd929edf4f0b8e69d143a7f549cc741d13787f1ef0feddfb77d54310f982b647"), looks := true }, kinds := [], alts := [], laidByText := true, laidKinds := [.data, .data, .data, .data, .data], laidTests := true, laidLooks := .later }
def FnTapeOpenUptoCardSaid : Prop := Claim7.holds Tryd.pinned (.plain (OpenSpec.upto fnTapeOpenSpec)) fnTapeOpenUptoCard

/-- THE SECOND FORM's CARD OF 'laws.FnExactTapeOpen'. -/
def fnExactTapeOpenUptoCard : Claim7 := { stood := { row := fnExactTapeOpenUptoRow, standIns := [], harness := (true, "bd929edf4f0b8e69d143a7f549cc741d13787f1ef0feddfb77d54310f982b647"), looks := true }, kinds := [], alts := [], laidByText := true, laidKinds := [.data, .data, .data, .data, .data], laidTests := true, laidLooks := .later }
def FnExactTapeOpenUptoCardSaid : Prop := Claim7.holds Tryd.pinned (.plain (OpenSpec.upto fnExactTapeOpenSpec)) fnExactTapeOpenUptoCard

/-- THE SECOND FORM's CARD OF 'laws.FnExactReqWrite'. -/
def fnExactReqWriteUptoCard : Claim7 := { stood := { row := fnExactReqWriteUptoRow, standIns := [], harness := (true, "bd929edf4f0b8e69d143a7f549cc741d13787f1ef0feddfb77d54310f982b647"), looks := true }, kinds := [], alts := [], laidByText := true, laidKinds := [.data, .data, .data], laidTests := true, laidLooks := .later }
def FnExactReqWriteUptoCardSaid : Prop := Claim7.holds Tryd.pinned (.plain (OpenSpec.upto fnExactReqWriteSpec)) fnExactReqWriteUptoCard

/-- THE SECOND FORM's CARD OF 'laws.FnExactReqRead'. -/
def fnExactReqReadUptoCard : Claim7 := { stood := { row := fnExactReqReadUptoRow, standIns := [], harness := (true, "bd929edf4f0b8e69d143a7f549cc741d13787f1ef0feddfb77d54310f982b647"), looks := true }, kinds := [], alts := [], laidByText := true, laidKinds := [.data, .data, .data, .sentinel, .sentinel], laidTests := true, laidLooks := .later }
def FnExactReqReadUptoCardSaid : Prop := Claim7.holds Tryd.pinned (.plain (OpenSpec.upto fnExactReqReadSpec)) fnExactReqReadUptoCard
end Rows
end Go.Proofs.YtgidhfcnjboieaaDoor
