/-
  DERIVED. GIVEN WITH THE SEED: THE CARDS: each row of YtnpgdjckhkmiiaaDoorRows.lean that lists a variable, with what it lists TIED to the program's text (the seventh form; the later family's looks); each row that meets fmt, with fmt's text TOLD by the authors' own Lean function (tested against real Go, not proved from fmt's source: count such statements apart). THE CARD IS WHAT COUNTS. Prove the row's statement (the work); the ties are given (YtnpgdjckhkmiiaaDoorTie.lean); close each card by the builder's one call (the guide's Derived/Test/ToyasCard.lean, 'card_holds'). Laid BY PROGRAM, IN A SANDBOX (cutbox-door.mjs). By AI agents, Wed Nov 11 2026. No macro, syntax, notation, axiom, sorry.
-/
import Derived.Test.YtnpgdjckhkmiiaaDoorRows
import GoSem.ClaimSeven
namespace Go.Proofs.YtnpgdjckhkmiiaaDoor
namespace Rows

/-- THE TIED CARD OF 'laws.FnHashKnown'. -/
def fnHashKnownCard : Claim7 := { stood := { row := fnHashKnownRow, standIns := [], harness := (true, "45e5cad6923d66b4e9d9b3471eb753585769fc5c0eac6d791582aa06774ad7f1"), looks := false }, kinds := [], alts := [], laidByText := true, laidKinds := [.data, .data], laidTests := true, laidLooks := .later }
def FnHashKnownCardSaid : Prop := Claim7.holds Tryd.pinned (.plain (OpenSpec.ofChange fnHashKnownSpec)) fnHashKnownCard

/-- THE TIED CARD OF 'laws.FnHashMac'. -/
def fnHashMacCard : Claim7 := { stood := { row := fnHashMacRow, standIns := [], harness := (true, "45e5cad6923d66b4e9d9b3471eb753585769fc5c0eac6d791582aa06774ad7f1"), looks := false }, kinds := [], alts := [], laidByText := true, laidKinds := [.data, .data], laidTests := true, laidLooks := .later }
def FnHashMacCardSaid : Prop := Claim7.holds Tryd.pinned (.plain (OpenSpec.ofChange fnHashMacSpec)) fnHashMacCard

/-- THE TIED CARD OF 'laws.FnHashList'. -/
def fnHashListCard : Claim7 := { stood := { row := fnHashListRow, standIns := [], harness := (true, "45e5cad6923d66b4e9d9b3471eb753585769fc5c0eac6d791582aa06774ad7f1"), looks := false }, kinds := [], alts := [], laidByText := true, laidKinds := [.data, .data, .data, .data, .data], laidTests := true, laidLooks := .later }
def FnHashListCardSaid : Prop := Claim7.holds Tryd.pinned (.plain (OpenSpec.ofChange fnHashListSpec)) fnHashListCard

/-- THE TIED CARD OF 'laws.FnExactHashSum'. -/
def fnExactHashSumCard : Claim7 := { stood := { row := fnExactHashSumRow, standIns := [], harness := (true, "45e5cad6923d66b4e9d9b3471eb753585769fc5c0eac6d791582aa06774ad7f1"), looks := false }, kinds := [], alts := [], laidByText := true, laidKinds := [.data, .data], laidTests := true, laidLooks := .later }
def FnExactHashSumCardSaid : Prop := Claim7.holds Tryd.pinned (.plain (OpenSpec.ofChange fnExactHashSumSpec)) fnExactHashSumCard

/-- THE TIED CARD OF 'laws.FnExactHashMac'. -/
def fnExactHashMacCard : Claim7 := { stood := { row := fnExactHashMacRow, standIns := [], harness := (true, "45e5cad6923d66b4e9d9b3471eb753585769fc5c0eac6d791582aa06774ad7f1"), looks := false }, kinds := [], alts := [], laidByText := true, laidKinds := [.data, .data], laidTests := true, laidLooks := .later }
def FnExactHashMacCardSaid : Prop := Claim7.holds Tryd.pinned (.plain (OpenSpec.ofChange fnExactHashMacSpec)) fnExactHashMacCard

/-- THE TIED CARD OF 'laws.FnExactHashList'. -/
def fnExactHashListCard : Claim7 := { stood := { row := fnExactHashListRow, standIns := [], harness := (true, "45e5cad6923d66b4e9d9b3471eb753585769fc5c0eac6d791582aa06774ad7f1"), looks := false }, kinds := [], alts := [], laidByText := true, laidKinds := [.data, .data, .data, .data, .data], laidTests := true, laidLooks := .later }
def FnExactHashListCardSaid : Prop := Claim7.holds Tryd.pinned (.plain (OpenSpec.ofChange fnExactHashListSpec)) fnExactHashListCard

/-- THE SECOND FORM's CARD OF 'laws.FnHashKnown'. -/
def fnHashKnownUptoCard : Claim7 := { stood := { row := fnHashKnownUptoRow, standIns := [], harness := (true, "45e5cad6923d66b4e9d9b3471eb753585769fc5c0eac6d791582aa06774ad7f1"), looks := false }, kinds := [], alts := [], laidByText := true, laidKinds := [.data, .data], laidTests := true, laidLooks := .later }
def FnHashKnownUptoCardSaid : Prop := Claim7.holds Tryd.pinned (.plain (OpenSpec.upto fnHashKnownSpec)) fnHashKnownUptoCard

/-- THE SECOND FORM's CARD OF 'laws.FnHashMac'. -/
def fnHashMacUptoCard : Claim7 := { stood := { row := fnHashMacUptoRow, standIns := [], harness := (true, "45e5cad6923d66b4e9d9b3471eb753585769fc5c0eac6d791582aa06774ad7f1"), looks := false }, kinds := [], alts := [], laidByText := true, laidKinds := [.data, .data], laidTests := true, laidLooks := .later }
def FnHashMacUptoCardSaid : Prop := Claim7.holds Tryd.pinned (.plain (OpenSpec.upto fnHashMacSpec)) fnHashMacUptoCard

/-- THE SECOND FORM's CARD OF 'laws.FnHashList'. -/
def fnHashListUptoCard : Claim7 := { stood := { row := fnHashListUptoRow, standIns := [], harness := (true, "45e5cad6923d66b4e9d9b3471eb753585769fc5c0eac6d791582aa06774ad7f1"), looks := false }, kinds := [], alts := [], laidByText := true, laidKinds := [.data, .data, .data, .data, .data], laidTests := true, laidLooks := .later }
def FnHashListUptoCardSaid : Prop := Claim7.holds Tryd.pinned (.plain (OpenSpec.upto fnHashListSpec)) fnHashListUptoCard

/-- THE SECOND FORM's CARD OF 'laws.FnExactHashSum'. -/
def fnExactHashSumUptoCard : Claim7 := { stood := { row := fnExactHashSumUptoRow, standIns := [], harness := (true, "45e5cad6923d66b4e9d9b3471eb753585769fc5c0eac6d791582aa06774ad7f1"), looks := false }, kinds := [], alts := [], laidByText := true, laidKinds := [.data, .data], laidTests := true, laidLooks := .later }
def FnExactHashSumUptoCardSaid : Prop := Claim7.holds Tryd.pinned (.plain (OpenSpec.upto fnExactHashSumSpec)) fnExactHashSumUptoCard

/-- THE SECOND FORM's CARD OF 'laws.FnExactHashMac'. -/
def fnExactHashMacUptoCard : Claim7 := { stood := { row := fnExactHashMacUptoRow, standIns := [], harness := (true, "45e5cad6923d66b4e9d9b3471eb753585769fc5c0eac6d791582aa06774ad7f1"), looks := false }, kinds := [], alts := [], laidByText := true, laidKinds := [.data, .data], laidTests := true, laidLooks := .later }
def FnExactHashMacUptoCardSaid : Prop := Claim7.holds Tryd.pinned (.plain (OpenSpec.upto fnExactHashMacSpec)) fnExactHashMacUptoCard

/-- THE SECOND FORM's CARD OF 'laws.FnExactHashList'. -/
def fnExactHashListUptoCard : Claim7 := { stood := { row := fnExactHashListUptoRow, standIns := [], harness := (true, "45e5cad6923d66b4e9d9b3471eb753585769fc5c0eac6d791582aa06774ad7f1"), looks := false }, kinds := [], alts := [], laidByText := true, laidKinds := [.data, .data, .data, .data, .data], laidTests := true, laidLooks := .later }
def FnExactHashListUptoCardSaid : Prop := Claim7.holds Tryd.pinned (.plain (OpenSpec.upto fnExactHashListSpec)) fnExactHashListUptoCard
end Rows
end Go.Proofs.YtnpgdjckhkmiiaaDoor
