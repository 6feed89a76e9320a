/-
  DERIVED. GIVEN WITH THE SEED: THE CARDS: each row of YtpnlgmkkikmglabDoorRows.lean that lists a variable, with what it lists TIED to the program's text (the seventh form; the later family's looks); each row that meets fmt, with fmt's text TOLD by the authors' own Lean function (tested against real Go, not proved from fmt's source: count such statements apart). THE CARD IS WHAT COUNTS. Prove the row's statement (the work); the ties are given (YtpnlgmkkikmglabDoorTie.lean); close each card by the builder's one call (the guide's Derived/Test/ToyasCard.lean, 'card_holds'). Laid BY PROGRAM, IN A SANDBOX (cutbox-door.mjs). By AI agents, Wed Nov 11 2026. No macro, syntax, notation, axiom, sorry.
-/
import Derived.Test.YtpnlgmkkikmglabDoorRows
import GoSem.ClaimSeven
namespace Go.Proofs.YtpnlgmkkikmglabDoor
namespace Rows

/-- THE TIED CARD OF 'intagliolaw04.AeadSeals'. -/
def aeadSealsCard : Claim7 := { stood := { row := aeadSealsRow, standIns := [], harness := (true, "929ffb9c86c2c5e32c173f4681830d65d2b47886d3ac046a8cbbff80cf308d93"), looks := false }, kinds := [], alts := [], laidByText := true, laidKinds := [.data, .data], laidTests := true, laidLooks := .later }
def AeadSealsCardSaid : Prop := Claim7.holds Tryd.pinned (.plain (OpenSpec.ofChange aeadSealsSpec)) aeadSealsCard

/-- THE TIED CARD OF 'intagliolaw04.AeadOpens'. -/
def aeadOpensCard : Claim7 := { stood := { row := aeadOpensRow, standIns := [], harness := (true, "929ffb9c86c2c5e32c173f4681830d65d2b47886d3ac046a8cbbff80cf308d93"), looks := false }, kinds := [], alts := [], laidByText := true, laidKinds := [.data, .data], laidTests := true, laidLooks := .later }
def AeadOpensCardSaid : Prop := Claim7.holds Tryd.pinned (.plain (OpenSpec.ofChange aeadOpensSpec)) aeadOpensCard

/-- THE TIED CARD OF 'intagliolaw04.AeadMarks'. -/
def aeadMarksCard : Claim7 := { stood := { row := aeadMarksRow, standIns := [], harness := (true, "929ffb9c86c2c5e32c173f4681830d65d2b47886d3ac046a8cbbff80cf308d93"), looks := false }, kinds := [], alts := [], laidByText := true, laidKinds := [.data, .data], laidTests := true, laidLooks := .later }
def AeadMarksCardSaid : Prop := Claim7.holds Tryd.pinned (.plain (OpenSpec.ofChange aeadMarksSpec)) aeadMarksCard

/-- THE TIED CARD OF 'intagliolaw04.AeadBack'. -/
def aeadBackCard : Claim7 := { stood := { row := aeadBackRow, standIns := [], harness := (true, "929ffb9c86c2c5e32c173f4681830d65d2b47886d3ac046a8cbbff80cf308d93"), looks := false }, kinds := [], alts := [], laidByText := true, laidKinds := [.data, .data], laidTests := true, laidLooks := .later }
def AeadBackCardSaid : Prop := Claim7.holds Tryd.pinned (.plain (OpenSpec.ofChange aeadBackSpec)) aeadBackCard

/-- THE TIED CARD OF 'intagliolaw04.AeadSame'. -/
def aeadSameCard : Claim7 := { stood := { row := aeadSameRow, standIns := [], harness := (true, "929ffb9c86c2c5e32c173f4681830d65d2b47886d3ac046a8cbbff80cf308d93"), looks := false }, kinds := [], alts := [], laidByText := true, laidKinds := [.data, .data], laidTests := true, laidLooks := .later }
def AeadSameCardSaid : Prop := Claim7.holds Tryd.pinned (.plain (OpenSpec.ofChange aeadSameSpec)) aeadSameCard

/-- THE TIED CARD OF 'intagliolaw04.AeadLong'. -/
def aeadLongCard : Claim7 := { stood := { row := aeadLongRow, standIns := [], harness := (true, "929ffb9c86c2c5e32c173f4681830d65d2b47886d3ac046a8cbbff80cf308d93"), looks := false }, kinds := [], alts := [], laidByText := true, laidKinds := [.data, .data], laidTests := true, laidLooks := .later }
def AeadLongCardSaid : Prop := Claim7.holds Tryd.pinned (.plain (OpenSpec.ofChange aeadLongSpec)) aeadLongCard

/-- THE SECOND FORM's CARD OF 'intagliolaw04.AeadSeals'. -/
def aeadSealsUptoCard : Claim7 := { stood := { row := aeadSealsUptoRow, standIns := [], harness := (true, "929ffb9c86c2c5e32c173f4681830d65d2b47886d3ac046a8cbbff80cf308d93"), looks := false }, kinds := [], alts := [], laidByText := true, laidKinds := [.data, .data], laidTests := true, laidLooks := .later }
def AeadSealsUptoCardSaid : Prop := Claim7.holds Tryd.pinned (.plain (OpenSpec.upto aeadSealsSpec)) aeadSealsUptoCard

/-- THE SECOND FORM's CARD OF 'intagliolaw04.AeadOpens'. -/
def aeadOpensUptoCard : Claim7 := { stood := { row := aeadOpensUptoRow, standIns := [], harness := (true, "929ffb9c86c2c5e32c173f4681830d65d2b47886d3ac046a8cbbff80cf308d93"), looks := false }, kinds := [], alts := [], laidByText := true, laidKinds := [.data, .data], laidTests := true, laidLooks := .later }
def AeadOpensUptoCardSaid : Prop := Claim7.holds Tryd.pinned (.plain (OpenSpec.upto aeadOpensSpec)) aeadOpensUptoCard

/-- THE SECOND FORM's CARD OF 'intagliolaw04.AeadMarks'. -/
def aeadMarksUptoCard : Claim7 := { stood := { row := aeadMarksUptoRow, standIns := [], harness := (true, "929ffb9c86c2c5e32c173f4681830d65d2b47886d3ac046a8cbbff80cf308d93"), looks := false }, kinds := [], alts := [], laidByText := true, laidKinds := [.data, .data], laidTests := true, laidLooks := .later }
def AeadMarksUptoCardSaid : Prop := Claim7.holds Tryd.pinned (.plain (OpenSpec.upto aeadMarksSpec)) aeadMarksUptoCard

/-- THE SECOND FORM's CARD OF 'intagliolaw04.AeadBack'. -/
def aeadBackUptoCard : Claim7 := { stood := { row := aeadBackUptoRow, standIns := [], harness := (true, "929ffb9c86c2c5e32c173f4681830d65d2b47886d3ac046a8cbbff80cf308d93"), looks := false }, kinds := [], alts := [], laidByText := true, laidKinds := [.data, .data], laidTests := true, laidLooks := .later }
def AeadBackUptoCardSaid : Prop := Claim7.holds Tryd.pinned (.plain (OpenSpec.upto aeadBackSpec)) aeadBackUptoCard

/-- THE SECOND FORM's CARD OF 'intagliolaw04.AeadSame'. -/
def aeadSameUptoCard : Claim7 := { stood := { row := aeadSameUptoRow, standIns := [], harness := (true, "929ffb9c86c2c5e32c173f4681830d65d2b47886d3ac046a8cbbff80cf308d93"), looks := false }, kinds := [], alts := [], laidByText := true, laidKinds := [.data, .data], laidTests := true, laidLooks := .later }
def AeadSameUptoCardSaid : Prop := Claim7.holds Tryd.pinned (.plain (OpenSpec.upto aeadSameSpec)) aeadSameUptoCard

/-- THE SECOND FORM's CARD OF 'intagliolaw04.AeadLong'. -/
def aeadLongUptoCard : Claim7 := { stood := { row := aeadLongUptoRow, standIns := [], harness := (true, "929ffb9c86c2c5e32c173f4681830d65d2b47886d3ac046a8cbbff80cf308d93"), looks := false }, kinds := [], alts := [], laidByText := true, laidKinds := [.data, .data], laidTests := true, laidLooks := .later }
def AeadLongUptoCardSaid : Prop := Claim7.holds Tryd.pinned (.plain (OpenSpec.upto aeadLongSpec)) aeadLongUptoCard
end Rows
end Go.Proofs.YtpnlgmkkikmglabDoor
