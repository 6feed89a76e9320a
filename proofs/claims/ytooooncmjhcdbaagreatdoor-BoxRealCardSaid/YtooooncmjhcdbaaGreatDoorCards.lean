/-
  DERIVED. GIVEN WITH THE SEED: THE CARDS: each row of YtooooncmjhcdbaaGreatDoorRows.lean that lists a variable, with what it lists TIED to the program's text (the seventh form; the later family's looks); each row that meets fmt, with fmt's text TOLD by the authors' own Lean function (tested against real Go, not proved from fmt's source: count such statements apart). THE CARD IS WHAT COUNTS. Prove the row's statement (the work); the ties are given (YtooooncmjhcdbaaGreatDoorTie.lean); close each card by the builder's one call (the guide's Derived/Test/ToyasCard.lean, 'card_holds'). Laid BY PROGRAM, IN A SANDBOX (cutbox-door.mjs). By AI agents, Wed Nov 11 2026. No macro, syntax, notation, axiom, sorry.
-/
import Derived.Test.YtooooncmjhcdbaaGreatDoorRows
import GoSem.ClaimSeven
namespace Go.Proofs.YtooooncmjhcdbaaGreatDoor
namespace Rows

/-- THE TIED CARD OF 'intagliolaw08.BoxForged'. -/
def boxForgedCard : Claim7 := { stood := { row := boxForgedRow, standIns := [], harness := (true, "a4e521d8f70eca98a07e36a6dd29b496ca03e3ca0ebfd55ad8c0a9911a3e1dd0"), looks := false }, kinds := [], alts := [], laidByText := true, laidKinds := [.data], laidTests := true, laidLooks := .later }
def BoxForgedCardSaid : Prop := Claim7.holds Tryz.pinned (.plain (OpenSpec.ofChange boxForgedSpec)) boxForgedCard

/-- THE TIED CARD OF 'intagliolaw08.BoxMarked'. -/
def boxMarkedCard : Claim7 := { stood := { row := boxMarkedRow, standIns := [], harness := (true, "a4e521d8f70eca98a07e36a6dd29b496ca03e3ca0ebfd55ad8c0a9911a3e1dd0"), looks := false }, kinds := [], alts := [], laidByText := true, laidKinds := [.data], laidTests := true, laidLooks := .later }
def BoxMarkedCardSaid : Prop := Claim7.holds Tryz.pinned (.plain (OpenSpec.ofChange boxMarkedSpec)) boxMarkedCard

/-- THE TIED CARD OF 'intagliolaw08.BoxReal'. -/
def boxRealCard : Claim7 := { stood := { row := boxRealRow, standIns := [], harness := (true, "a4e521d8f70eca98a07e36a6dd29b496ca03e3ca0ebfd55ad8c0a9911a3e1dd0"), looks := false }, kinds := [], alts := [], laidByText := true, laidKinds := [.data, .data, .data, .data, .data], laidTests := true, laidLooks := .later }
def BoxRealCardSaid : Prop := Claim7.holds Tryz.pinned (.plain (OpenSpec.ofChange boxRealSpec)) boxRealCard

/-- THE TIED CARD OF 'intagliolaw08.BoxNobody'. -/
def boxNobodyCard : Claim7 := { stood := { row := boxNobodyRow, standIns := [], harness := (true, "a4e521d8f70eca98a07e36a6dd29b496ca03e3ca0ebfd55ad8c0a9911a3e1dd0"), looks := false }, kinds := [], alts := [], laidByText := true, laidKinds := [.data], laidTests := true, laidLooks := .later }
def BoxNobodyCardSaid : Prop := Claim7.holds Tryz.pinned (.plain (OpenSpec.ofChange boxNobodySpec)) boxNobodyCard

/-- THE SECOND FORM's CARD OF 'intagliolaw08.BoxForged'. -/
def boxForgedUptoCard : Claim7 := { stood := { row := boxForgedUptoRow, standIns := [], harness := (true, "a4e521d8f70eca98a07e36a6dd29b496ca03e3ca0ebfd55ad8c0a9911a3e1dd0"), looks := false }, kinds := [], alts := [], laidByText := true, laidKinds := [.data], laidTests := true, laidLooks := .later }
def BoxForgedUptoCardSaid : Prop := Claim7.holds Tryz.pinned (.plain (OpenSpec.upto boxForgedSpec)) boxForgedUptoCard

/-- THE SECOND FORM's CARD OF 'intagliolaw08.BoxMarked'. -/
def boxMarkedUptoCard : Claim7 := { stood := { row := boxMarkedUptoRow, standIns := [], harness := (true, "a4e521d8f70eca98a07e36a6dd29b496ca03e3ca0ebfd55ad8c0a9911a3e1dd0"), looks := false }, kinds := [], alts := [], laidByText := true, laidKinds := [.data], laidTests := true, laidLooks := .later }
def BoxMarkedUptoCardSaid : Prop := Claim7.holds Tryz.pinned (.plain (OpenSpec.upto boxMarkedSpec)) boxMarkedUptoCard

/-- THE SECOND FORM's CARD OF 'intagliolaw08.BoxReal'. -/
def boxRealUptoCard : Claim7 := { stood := { row := boxRealUptoRow, standIns := [], harness := (true, "a4e521d8f70eca98a07e36a6dd29b496ca03e3ca0ebfd55ad8c0a9911a3e1dd0"), looks := false }, kinds := [], alts := [], laidByText := true, laidKinds := [.data, .data, .data, .data, .data], laidTests := true, laidLooks := .later }
def BoxRealUptoCardSaid : Prop := Claim7.holds Tryz.pinned (.plain (OpenSpec.upto boxRealSpec)) boxRealUptoCard

/-- THE SECOND FORM's CARD OF 'intagliolaw08.BoxNobody'. -/
def boxNobodyUptoCard : Claim7 := { stood := { row := boxNobodyUptoRow, standIns := [], harness := (true, "a4e521d8f70eca98a07e36a6dd29b496ca03e3ca0ebfd55ad8c0a9911a3e1dd0"), looks := false }, kinds := [], alts := [], laidByText := true, laidKinds := [.data], laidTests := true, laidLooks := .later }
def BoxNobodyUptoCardSaid : Prop := Claim7.holds Tryz.pinned (.plain (OpenSpec.upto boxNobodySpec)) boxNobodyUptoCard
end Rows
end Go.Proofs.YtooooncmjhcdbaaGreatDoor
