/-
  DERIVED. GIVEN WITH THE SEED: THE CARDS: each row of YthjcmgjmdjihnaaDoorRows.lean that lists a variable, with what it lists TIED to the program's text (the seventh form; the later family's looks); each row that meets fmt, with fmt's text TOLD by the authors' own Lean function (tested against real Go, not proved from fmt's source: count such statements apart). THE CARD IS WHAT COUNTS. Prove the row's statement (the work); the ties are given (YthjcmgjmdjihnaaDoorTie.lean); close each card by the builder's one call (the guide's Derived/Test/ToyasCard.lean, 'card_holds'). Laid BY PROGRAM, IN A SANDBOX (cutbox-door.mjs). By AI agents, Wed Nov 11 2026. No macro, syntax, notation, axiom, sorry.
-/
import Derived.Test.YthjcmgjmdjihnaaDoorRows
import GoSem.ClaimSeven
namespace Go.Proofs.YthjcmgjmdjihnaaDoor
namespace Rows

/-- THE TIED CARD OF 'intagliolaw19.RespParses'. -/
def respParsesCard : Claim7 := { stood := { row := respParsesRow, standIns := [], harness := (true, "63f38ed32f8ed42b6e6d6d8df960e26db3c1527e6ab35aac70cde86de967cb8f"), looks := true }, kinds := [], alts := [], laidByText := true, laidKinds := [.data, .data, .data, .sentinel, .sentinel], laidTests := true, laidLooks := .later }
def RespParsesCardSaid : Prop := Claim7.holds Tryd.pinned (.plain (OpenSpec.ofChange respParsesSpec)) respParsesCard

/-- THE TIED CARD OF 'intagliolaw19.RespPieces'. -/
def respPiecesCard : Claim7 := { stood := { row := respPiecesRow, standIns := [], harness := (true, "63f38ed32f8ed42b6e6d6d8df960e26db3c1527e6ab35aac70cde86de967cb8f"), looks := true }, kinds := [], alts := [], laidByText := true, laidKinds := [.data, .data, .data, .sentinel, .sentinel], laidTests := true, laidLooks := .later }
def RespPiecesCardSaid : Prop := Claim7.holds Tryd.pinned (.plain (OpenSpec.ofChange respPiecesSpec)) respPiecesCard

/-- THE TIED CARD OF 'intagliolaw19.RespCommands'. -/
def respCommandsCard : Claim7 := { stood := { row := respCommandsRow, standIns := [], harness := (true, "63f38ed32f8ed42b6e6d6d8df960e26db3c1527e6ab35aac70cde86de967cb8f"), looks := true }, kinds := [], alts := [], laidByText := true, laidKinds := [.data, .data, .data, .sentinel, .sentinel], laidTests := true, laidLooks := .later }
def RespCommandsCardSaid : Prop := Claim7.holds Tryd.pinned (.plain (OpenSpec.ofChange respCommandsSpec)) respCommandsCard

/-- THE TIED CARD OF 'intagliolaw19.RespNobody'. -/
def respNobodyCard : Claim7 := { stood := { row := respNobodyRow, standIns := [], harness := (true, "63f38ed32f8ed42b6e6d6d8df960e26db3c1527e6ab35aac70cde86de967cb8f"), looks := true }, kinds := [], alts := [], laidByText := true, laidKinds := [.data, .data, .data, .sentinel, .sentinel], laidTests := true, laidLooks := .later }
def RespNobodyCardSaid : Prop := Claim7.holds Tryd.pinned (.plain (OpenSpec.ofChange respNobodySpec)) respNobodyCard

/-- THE SECOND FORM's CARD OF 'intagliolaw19.RespParses'. -/
def respParsesUptoCard : Claim7 := { stood := { row := respParsesUptoRow, standIns := [], harness := (true, "63f38ed32f8ed42b6e6d6d8df960e26db3c1527e6ab35aac70cde86de967cb8f"), looks := true }, kinds := [], alts := [], laidByText := true, laidKinds := [.data, .data, .data, .sentinel, .sentinel], laidTests := true, laidLooks := .later }
def RespParsesUptoCardSaid : Prop := Claim7.holds Tryd.pinned (.plain (OpenSpec.upto respParsesSpec)) respParsesUptoCard

/-- THE SECOND FORM's CARD OF 'intagliolaw19.RespPieces'. -/
def respPiecesUptoCard : Claim7 := { stood := { row := respPiecesUptoRow, standIns := [], harness := (true, "63f38ed32f8ed42b6e6d6d8df960e26db3c1527e6ab35aac70cde86de967cb8f"), looks := true }, kinds := [], alts := [], laidByText := true, laidKinds := [.data, .data, .data, .sentinel, .sentinel], laidTests := true, laidLooks := .later }
def RespPiecesUptoCardSaid : Prop := Claim7.holds Tryd.pinned (.plain (OpenSpec.upto respPiecesSpec)) respPiecesUptoCard

/-- THE SECOND FORM's CARD OF 'intagliolaw19.RespCommands'. -/
def respCommandsUptoCard : Claim7 := { stood := { row := respCommandsUptoRow, standIns := [], harness := (true, "63f38ed32f8ed42b6e6d6d8df960e26db3c1527e6ab35aac70cde86de967cb8f"), looks := true }, kinds := [], alts := [], laidByText := true, laidKinds := [.data, .data, .data, .sentinel, .sentinel], laidTests := true, laidLooks := .later }
def RespCommandsUptoCardSaid : Prop := Claim7.holds Tryd.pinned (.plain (OpenSpec.upto respCommandsSpec)) respCommandsUptoCard

/-- THE SECOND FORM's CARD OF 'intagliolaw19.RespNobody'. -/
def respNobodyUptoCard : Claim7 := { stood := { row := respNobodyUptoRow, standIns := [], harness := (true, "63f38ed32f8ed42b6e6d6d8df960e26db3c1527e6ab35aac70cde86de967cb8f"), looks := true }, kinds := [], alts := [], laidByText := true, laidKinds := [.data, .data, .data, .sentinel, .sentinel], laidTests := true, laidLooks := .later }
def RespNobodyUptoCardSaid : Prop := Claim7.holds Tryd.pinned (.plain (OpenSpec.upto respNobodySpec)) respNobodyUptoCard
end Rows
end Go.Proofs.YthjcmgjmdjihnaaDoor
