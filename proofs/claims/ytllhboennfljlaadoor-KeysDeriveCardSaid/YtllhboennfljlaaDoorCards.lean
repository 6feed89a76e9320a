/-
  DERIVED. GIVEN WITH THE SEED: THE CARDS: each row of YtllhboennfljlaaDoorRows.lean that lists a variable, with what it lists TIED to the program's text (the seventh form; the later family's looks); each row that meets fmt, with fmt's text TOLD by the authors' own Lean function (tested against real Go, not proved from fmt's source: count such statements apart). THE CARD IS WHAT COUNTS. Prove the row's statement (the work); the ties are given (YtllhboennfljlaaDoorTie.lean); close each card by the builder's one call (the guide's Derived/Test/ToyasCard.lean, 'card_holds'). Laid BY PROGRAM, IN A SANDBOX (cutbox-door.mjs). By AI agents, Wed Nov 11 2026. No macro, syntax, notation, axiom, sorry.
-/
import Derived.Test.YtllhboennfljlaaDoorRows
import GoSem.ClaimSeven
namespace Go.Proofs.YtllhboennfljlaaDoor
namespace Rows

/-- THE TIED CARD OF 'intagliolaw07.KeysIds'. -/
def keysIdsCard : Claim7 := { stood := { row := keysIdsRow, standIns := [], harness := (true, "c5e6d4fba9d01d79537203324b4b20f015822582f19f4e8141ef0e0e286c03f5"), looks := false }, kinds := [], alts := [], laidByText := true, laidKinds := [.data], laidTests := true, laidLooks := .later }
def KeysIdsCardSaid : Prop := Claim7.holds Tryd.pinned (.plain (OpenSpec.ofChange keysIdsSpec)) keysIdsCard

/-- THE TIED CARD OF 'intagliolaw07.KeysParse'. -/
def keysParseCard : Claim7 := { stood := { row := keysParseRow, standIns := [], harness := (true, "c5e6d4fba9d01d79537203324b4b20f015822582f19f4e8141ef0e0e286c03f5"), looks := false }, kinds := [], alts := [], laidByText := true, laidKinds := [.data], laidTests := true, laidLooks := .later }
def KeysParseCardSaid : Prop := Claim7.holds Tryd.pinned (.plain (OpenSpec.ofChange keysParseSpec)) keysParseCard

/-- THE TIED CARD OF 'intagliolaw07.KeysUnlike'. -/
def keysUnlikeCard : Claim7 := { stood := { row := keysUnlikeRow, standIns := [], harness := (true, "c5e6d4fba9d01d79537203324b4b20f015822582f19f4e8141ef0e0e286c03f5"), looks := false }, kinds := [], alts := [], laidByText := true, laidKinds := [.data], laidTests := true, laidLooks := .later }
def KeysUnlikeCardSaid : Prop := Claim7.holds Tryd.pinned (.plain (OpenSpec.ofChange keysUnlikeSpec)) keysUnlikeCard

/-- THE TIED CARD OF 'intagliolaw07.KeysDerive'. -/
def keysDeriveCard : Claim7 := { stood := { row := keysDeriveRow, standIns := [], harness := (true, "c5e6d4fba9d01d79537203324b4b20f015822582f19f4e8141ef0e0e286c03f5"), looks := false }, kinds := [], alts := [], laidByText := true, laidKinds := [.data, .data, .data], laidTests := true, laidLooks := .later }
def KeysDeriveCardSaid : Prop := Claim7.holds Tryd.pinned (.plain (OpenSpec.ofChange keysDeriveSpec)) keysDeriveCard

/-- THE TIED CARD OF 'intagliolaw07.KeysNonces'. -/
def keysNoncesCard : Claim7 := { stood := { row := keysNoncesRow, standIns := [], harness := (true, "c5e6d4fba9d01d79537203324b4b20f015822582f19f4e8141ef0e0e286c03f5"), looks := false }, kinds := [], alts := [], laidByText := true, laidKinds := [.data], laidTests := true, laidLooks := .later }
def KeysNoncesCardSaid : Prop := Claim7.holds Tryd.pinned (.plain (OpenSpec.ofChange keysNoncesSpec)) keysNoncesCard

/-- THE TIED CARD OF 'intagliolaw07.KeysNext'. -/
def keysNextCard : Claim7 := { stood := { row := keysNextRow, standIns := [], harness := (true, "c5e6d4fba9d01d79537203324b4b20f015822582f19f4e8141ef0e0e286c03f5"), looks := false }, kinds := [], alts := [], laidByText := true, laidKinds := [.data], laidTests := true, laidLooks := .later }
def KeysNextCardSaid : Prop := Claim7.holds Tryd.pinned (.plain (OpenSpec.ofChange keysNextSpec)) keysNextCard

/-- THE SECOND FORM's CARD OF 'intagliolaw07.KeysIds'. -/
def keysIdsUptoCard : Claim7 := { stood := { row := keysIdsUptoRow, standIns := [], harness := (true, "c5e6d4fba9d01d79537203324b4b20f015822582f19f4e8141ef0e0e286c03f5"), looks := false }, kinds := [], alts := [], laidByText := true, laidKinds := [.data], laidTests := true, laidLooks := .later }
def KeysIdsUptoCardSaid : Prop := Claim7.holds Tryd.pinned (.plain (OpenSpec.upto keysIdsSpec)) keysIdsUptoCard

/-- THE SECOND FORM's CARD OF 'intagliolaw07.KeysParse'. -/
def keysParseUptoCard : Claim7 := { stood := { row := keysParseUptoRow, standIns := [], harness := (true, "c5e6d4fba9d01d79537203324b4b20f015822582f19f4e8141ef0e0e286c03f5"), looks := false }, kinds := [], alts := [], laidByText := true, laidKinds := [.data], laidTests := true, laidLooks := .later }
def KeysParseUptoCardSaid : Prop := Claim7.holds Tryd.pinned (.plain (OpenSpec.upto keysParseSpec)) keysParseUptoCard

/-- THE SECOND FORM's CARD OF 'intagliolaw07.KeysUnlike'. -/
def keysUnlikeUptoCard : Claim7 := { stood := { row := keysUnlikeUptoRow, standIns := [], harness := (true, "c5e6d4fba9d01d79537203324b4b20f015822582f19f4e8141ef0e0e286c03f5"), looks := false }, kinds := [], alts := [], laidByText := true, laidKinds := [.data], laidTests := true, laidLooks := .later }
def KeysUnlikeUptoCardSaid : Prop := Claim7.holds Tryd.pinned (.plain (OpenSpec.upto keysUnlikeSpec)) keysUnlikeUptoCard

/-- THE SECOND FORM's CARD OF 'intagliolaw07.KeysDerive'. -/
def keysDeriveUptoCard : Claim7 := { stood := { row := keysDeriveUptoRow, standIns := [], harness := (true, "c5e6d4fba9d01d79537203324b4b20f015822582f19f4e8141ef0e0e286c03f5"), looks := false }, kinds := [], alts := [], laidByText := true, laidKinds := [.data, .data, .data], laidTests := true, laidLooks := .later }
def KeysDeriveUptoCardSaid : Prop := Claim7.holds Tryd.pinned (.plain (OpenSpec.upto keysDeriveSpec)) keysDeriveUptoCard

/-- THE SECOND FORM's CARD OF 'intagliolaw07.KeysNonces'. -/
def keysNoncesUptoCard : Claim7 := { stood := { row := keysNoncesUptoRow, standIns := [], harness := (true, "c5e6d4fba9d01d79537203324b4b20f015822582f19f4e8141ef0e0e286c03f5"), looks := false }, kinds := [], alts := [], laidByText := true, laidKinds := [.data], laidTests := true, laidLooks := .later }
def KeysNoncesUptoCardSaid : Prop := Claim7.holds Tryd.pinned (.plain (OpenSpec.upto keysNoncesSpec)) keysNoncesUptoCard

/-- THE SECOND FORM's CARD OF 'intagliolaw07.KeysNext'. -/
def keysNextUptoCard : Claim7 := { stood := { row := keysNextUptoRow, standIns := [], harness := (true, "c5e6d4fba9d01d79537203324b4b20f015822582f19f4e8141ef0e0e286c03f5"), looks := false }, kinds := [], alts := [], laidByText := true, laidKinds := [.data], laidTests := true, laidLooks := .later }
def KeysNextUptoCardSaid : Prop := Claim7.holds Tryd.pinned (.plain (OpenSpec.upto keysNextSpec)) keysNextUptoCard
end Rows
end Go.Proofs.YtllhboennfljlaaDoor
