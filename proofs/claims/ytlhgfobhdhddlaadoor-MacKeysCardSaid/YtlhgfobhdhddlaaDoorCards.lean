/-
  DERIVED. GIVEN WITH THE SEED: THE CARDS: each row of YtlhgfobhdhddlaaDoorRows.lean that lists a variable, with what it lists TIED to the program's text (the seventh form; the later family's looks); each row that meets fmt, with fmt's text TOLD by the authors' own Lean function (tested against real Go, not proved from fmt's source: count such statements apart). THE CARD IS WHAT COUNTS. Prove the row's statement (the work); the ties are given (YtlhgfobhdhddlaaDoorTie.lean); close each card by the builder's one call (the guide's Derived/Test/ToyasCard.lean, 'card_holds'). Laid BY PROGRAM, IN A SANDBOX (cutbox-door.mjs). By AI agents, Wed Nov 11 2026. No macro, syntax, notation, axiom, sorry.
-/
import Derived.Test.YtlhgfobhdhddlaaDoorRows
import GoSem.ClaimSeven
namespace Go.Proofs.YtlhgfobhdhddlaaDoor
namespace Rows

/-- THE TIED CARD OF 'intagliolaw05.ShaSum'. -/
def shaSumCard : Claim7 := { stood := { row := shaSumRow, standIns := [], harness := (true, "2a1334606687450c169f9de7db10f82ff4b51d6d76a28dc4fa85fcd7173bb2ba"), looks := false }, kinds := [], alts := [], laidByText := true, laidKinds := [.data, .data], laidTests := true, laidLooks := .later }
def ShaSumCardSaid : Prop := Claim7.holds Tryd.pinned (.plain (OpenSpec.ofChange shaSumSpec)) shaSumCard

/-- THE TIED CARD OF 'intagliolaw05.ShaPads'. -/
def shaPadsCard : Claim7 := { stood := { row := shaPadsRow, standIns := [], harness := (true, "2a1334606687450c169f9de7db10f82ff4b51d6d76a28dc4fa85fcd7173bb2ba"), looks := false }, kinds := [], alts := [], laidByText := true, laidKinds := [.data, .data], laidTests := true, laidLooks := .later }
def ShaPadsCardSaid : Prop := Claim7.holds Tryd.pinned (.plain (OpenSpec.ofChange shaPadsSpec)) shaPadsCard

/-- THE TIED CARD OF 'intagliolaw05.ShaHashes'. -/
def shaHashesCard : Claim7 := { stood := { row := shaHashesRow, standIns := [], harness := (true, "2a1334606687450c169f9de7db10f82ff4b51d6d76a28dc4fa85fcd7173bb2ba"), looks := false }, kinds := [], alts := [], laidByText := true, laidKinds := [.data, .data], laidTests := true, laidLooks := .later }
def ShaHashesCardSaid : Prop := Claim7.holds Tryd.pinned (.plain (OpenSpec.ofChange shaHashesSpec)) shaHashesCard

/-- THE TIED CARD OF 'intagliolaw05.ShaPieces'. -/
def shaPiecesCard : Claim7 := { stood := { row := shaPiecesRow, standIns := [], harness := (true, "2a1334606687450c169f9de7db10f82ff4b51d6d76a28dc4fa85fcd7173bb2ba"), looks := false }, kinds := [], alts := [], laidByText := true, laidKinds := [.data, .data], laidTests := true, laidLooks := .later }
def ShaPiecesCardSaid : Prop := Claim7.holds Tryd.pinned (.plain (OpenSpec.ofChange shaPiecesSpec)) shaPiecesCard

/-- THE TIED CARD OF 'intagliolaw05.ShaNobody'. -/
def shaNobodyCard : Claim7 := { stood := { row := shaNobodyRow, standIns := [], harness := (true, "2a1334606687450c169f9de7db10f82ff4b51d6d76a28dc4fa85fcd7173bb2ba"), looks := false }, kinds := [], alts := [], laidByText := true, laidKinds := [.data, .data], laidTests := true, laidLooks := .later }
def ShaNobodyCardSaid : Prop := Claim7.holds Tryd.pinned (.plain (OpenSpec.ofChange shaNobodySpec)) shaNobodyCard

/-- THE TIED CARD OF 'intagliolaw06.MacHmac'. -/
def macHmacCard : Claim7 := { stood := { row := macHmacRow, standIns := [], harness := (true, "2a1334606687450c169f9de7db10f82ff4b51d6d76a28dc4fa85fcd7173bb2ba"), looks := false }, kinds := [], alts := [], laidByText := true, laidKinds := [.data, .data], laidTests := true, laidLooks := .later }
def MacHmacCardSaid : Prop := Claim7.holds Tryd.pinned (.plain (OpenSpec.ofChange macHmacSpec)) macHmacCard

/-- THE TIED CARD OF 'intagliolaw06.MacExtract'. -/
def macExtractCard : Claim7 := { stood := { row := macExtractRow, standIns := [], harness := (true, "2a1334606687450c169f9de7db10f82ff4b51d6d76a28dc4fa85fcd7173bb2ba"), looks := false }, kinds := [], alts := [], laidByText := true, laidKinds := [.data, .data], laidTests := true, laidLooks := .later }
def MacExtractCardSaid : Prop := Claim7.holds Tryd.pinned (.plain (OpenSpec.ofChange macExtractSpec)) macExtractCard

/-- THE TIED CARD OF 'intagliolaw06.MacExpand'. -/
def macExpandCard : Claim7 := { stood := { row := macExpandRow, standIns := [], harness := (true, "2a1334606687450c169f9de7db10f82ff4b51d6d76a28dc4fa85fcd7173bb2ba"), looks := false }, kinds := [], alts := [], laidByText := true, laidKinds := [.data, .data], laidTests := true, laidLooks := .later }
def MacExpandCardSaid : Prop := Claim7.holds Tryd.pinned (.plain (OpenSpec.ofChange macExpandSpec)) macExpandCard

/-- THE TIED CARD OF 'intagliolaw06.MacFirst'. -/
def macFirstCard : Claim7 := { stood := { row := macFirstRow, standIns := [], harness := (true, "2a1334606687450c169f9de7db10f82ff4b51d6d76a28dc4fa85fcd7173bb2ba"), looks := false }, kinds := [], alts := [], laidByText := true, laidKinds := [.data, .data], laidTests := true, laidLooks := .later }
def MacFirstCardSaid : Prop := Claim7.holds Tryd.pinned (.plain (OpenSpec.ofChange macFirstSpec)) macFirstCard

/-- THE TIED CARD OF 'intagliolaw06.MacKeys'. -/
def macKeysCard : Claim7 := { stood := { row := macKeysRow, standIns := [], harness := (true, "2a1334606687450c169f9de7db10f82ff4b51d6d76a28dc4fa85fcd7173bb2ba"), looks := false }, kinds := [], alts := [], laidByText := true, laidKinds := [.data, .data], laidTests := true, laidLooks := .later }
def MacKeysCardSaid : Prop := Claim7.holds Tryd.pinned (.plain (OpenSpec.ofChange macKeysSpec)) macKeysCard

/-- THE SECOND FORM's CARD OF 'intagliolaw05.ShaSum'. -/
def shaSumUptoCard : Claim7 := { stood := { row := shaSumUptoRow, standIns := [], harness := (true, "2a1334606687450c169f9de7db10f82ff4b51d6d76a28dc4fa85fcd7173bb2ba"), looks := false }, kinds := [], alts := [], laidByText := true, laidKinds := [.data, .data], laidTests := true, laidLooks := .later }
def ShaSumUptoCardSaid : Prop := Claim7.holds Tryd.pinned (.plain (OpenSpec.upto shaSumSpec)) shaSumUptoCard

/-- THE SECOND FORM's CARD OF 'intagliolaw05.ShaPads'. -/
def shaPadsUptoCard : Claim7 := { stood := { row := shaPadsUptoRow, standIns := [], harness := (true, "2a1334606687450c169f9de7db10f82ff4b51d6d76a28dc4fa85fcd7173bb2ba"), looks := false }, kinds := [], alts := [], laidByText := true, laidKinds := [.data, .data], laidTests := true, laidLooks := .later }
def ShaPadsUptoCardSaid : Prop := Claim7.holds Tryd.pinned (.plain (OpenSpec.upto shaPadsSpec)) shaPadsUptoCard

/-- THE SECOND FORM's CARD OF 'intagliolaw05.ShaHashes'. -/
def shaHashesUptoCard : Claim7 := { stood := { row := shaHashesUptoRow, standIns := [], harness := (true, "2a1334606687450c169f9de7db10f82ff4b51d6d76a28dc4fa85fcd7173bb2ba"), looks := false }, kinds := [], alts := [], laidByText := true, laidKinds := [.data, .data], laidTests := true, laidLooks := .later }
def ShaHashesUptoCardSaid : Prop := Claim7.holds Tryd.pinned (.plain (OpenSpec.upto shaHashesSpec)) shaHashesUptoCard

/-- THE SECOND FORM's CARD OF 'intagliolaw05.ShaPieces'. -/
def shaPiecesUptoCard : Claim7 := { stood := { row := shaPiecesUptoRow, standIns := [], harness := (true, "2a1334606687450c169f9de7db10f82ff4b51d6d76a28dc4fa85fcd7173bb2ba"), looks := false }, kinds := [], alts := [], laidByText := true, laidKinds := [.data, .data], laidTests := true, laidLooks := .later }
def ShaPiecesUptoCardSaid : Prop := Claim7.holds Tryd.pinned (.plain (OpenSpec.upto shaPiecesSpec)) shaPiecesUptoCard

/-- THE SECOND FORM's CARD OF 'intagliolaw05.ShaNobody'. -/
def shaNobodyUptoCard : Claim7 := { stood := { row := shaNobodyUptoRow, standIns := [], harness := (true, "2a1334606687450c169f9de7db10f82ff4b51d6d76a28dc4fa85fcd7173bb2ba"), looks := false }, kinds := [], alts := [], laidByText := true, laidKinds := [.data, .data], laidTests := true, laidLooks := .later }
def ShaNobodyUptoCardSaid : Prop := Claim7.holds Tryd.pinned (.plain (OpenSpec.upto shaNobodySpec)) shaNobodyUptoCard

/-- THE SECOND FORM's CARD OF 'intagliolaw06.MacHmac'. -/
def macHmacUptoCard : Claim7 := { stood := { row := macHmacUptoRow, standIns := [], harness := (true, "2a1334606687450c169f9de7db10f82ff4b51d6d76a28dc4fa85fcd7173bb2ba"), looks := false }, kinds := [], alts := [], laidByText := true, laidKinds := [.data, .data], laidTests := true, laidLooks := .later }
def MacHmacUptoCardSaid : Prop := Claim7.holds Tryd.pinned (.plain (OpenSpec.upto macHmacSpec)) macHmacUptoCard

/-- THE SECOND FORM's CARD OF 'intagliolaw06.MacExtract'. -/
def macExtractUptoCard : Claim7 := { stood := { row := macExtractUptoRow, standIns := [], harness := (true, "2a1334606687450c169f9de7db10f82ff4b51d6d76a28dc4fa85fcd7173bb2ba"), looks := false }, kinds := [], alts := [], laidByText := true, laidKinds := [.data, .data], laidTests := true, laidLooks := .later }
def MacExtractUptoCardSaid : Prop := Claim7.holds Tryd.pinned (.plain (OpenSpec.upto macExtractSpec)) macExtractUptoCard

/-- THE SECOND FORM's CARD OF 'intagliolaw06.MacExpand'. -/
def macExpandUptoCard : Claim7 := { stood := { row := macExpandUptoRow, standIns := [], harness := (true, "2a1334606687450c169f9de7db10f82ff4b51d6d76a28dc4fa85fcd7173bb2ba"), looks := false }, kinds := [], alts := [], laidByText := true, laidKinds := [.data, .data], laidTests := true, laidLooks := .later }
def MacExpandUptoCardSaid : Prop := Claim7.holds Tryd.pinned (.plain (OpenSpec.upto macExpandSpec)) macExpandUptoCard

/-- THE SECOND FORM's CARD OF 'intagliolaw06.MacFirst'. -/
def macFirstUptoCard : Claim7 := { stood := { row := macFirstUptoRow, standIns := [], harness := (true, "2a1334606687450c169f9de7db10f82ff4b51d6d76a28dc4fa85fcd7173bb2ba"), looks := false }, kinds := [], alts := [], laidByText := true, laidKinds := [.data, .data], laidTests := true, laidLooks := .later }
def MacFirstUptoCardSaid : Prop := Claim7.holds Tryd.pinned (.plain (OpenSpec.upto macFirstSpec)) macFirstUptoCard

/-- THE SECOND FORM's CARD OF 'intagliolaw06.MacKeys'. -/
def macKeysUptoCard : Claim7 := { stood := { row := macKeysUptoRow, standIns := [], harness := (true, "2a1334606687450c169f9de7db10f82ff4b51d6d76a28dc4fa85fcd7173bb2ba"), looks := false }, kinds := [], alts := [], laidByText := true, laidKinds := [.data, .data], laidTests := true, laidLooks := .later }
def MacKeysUptoCardSaid : Prop := Claim7.holds Tryd.pinned (.plain (OpenSpec.upto macKeysSpec)) macKeysUptoCard
end Rows
end Go.Proofs.YtlhgfobhdhddlaaDoor
