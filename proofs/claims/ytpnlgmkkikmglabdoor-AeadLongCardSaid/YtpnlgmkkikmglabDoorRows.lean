/-
  NARROWER THAN 'FOR EVERY INPUT', by the rows' own cells (each row's printed sentence says how): AeadSeals: laid · AeadOpens: laid · AeadMarks: laid · AeadBack: laid · AeadSame: laid · AeadLong: laid.
  DERIVED. THE GIVEN ROWS OF THIS SEAT. 6 by the template 'for every input the law returns true; each argument reads behind the call as it read before'; 0 by the template 'total and deterministic' (their statements: YtpnlgmkkikmglabDoorTotals.lean).
  GIVEN WITH THE SEED: the statements are not yours to turn. If you find one false, say at which input.
  Laid BY PROGRAM, IN A SANDBOX (cutbox-rows.mjs): the forced cells as the released guide's own fill.sh prints them over the translation 0284c4b5b2cc0425… (all of the seat's roots in one cut). By AI agents, Wed Nov 11 2026. No macro, syntax, notation, axiom, sorry.
-/
import Derived.Test.YtpnlgmkkikmglabDoorChecked
import GoSem.Claim
import GoSem.ClaimJoined
import GoSem.ClaimMapViews
import Derived.JoinedTies
import Derived.KernelRfl
namespace Go.Proofs.YtpnlgmkkikmglabDoor
/- THE CELL 'sum', in the pinned program and in every row, IS THE sha256 OF THE DUMP (.gsa) THAT YtpnlgmkkikmglabDoorProg.lean LOADS. Nothing in Lean hashes anything: it is a label: what it is worth is what the hold of that sum in a sandbox is worth. -/
noncomputable def Tryd.pinned : Pinned := { name := "ytpnlgmkkikmglabdoor", sum := "0284c4b5b2cc0425c7a8738e30641771c206f6592d218ca153918400dc8bf25b", checked := Tryd.checked }
namespace Rows
def none {H : Type} : Left H := { results := [], args := [] }

/- WHAT THE LISTED PACKAGE-LEVEL VARIABLES READ AS WHEN THE CALL BEGINS. Each datum BY PROGRAM (the guide's laid-datum.mjs) off the statement by which the dump's own 'gosem.cut.vars' lays the variable. In a bare row this is a premise. The card (YtpnlgmkkikmglabDoorCards.lean) ties it to the program's text. -/
def laid_intaglio_chacha_head {H : Type} : DataW H := .agg [.lit (.int .u32 1634760805), .lit (.int .u32 857760878), .lit (.int .u32 2036477234), .lit (.int .u32 1797285236)]
def laid_intaglio_chacha_quarters {H : Type} : DataW H := .agg [.agg [.lit (.int .i64 0), .lit (.int .i64 4), .lit (.int .i64 8), .lit (.int .i64 12)], .agg [.lit (.int .i64 1), .lit (.int .i64 5), .lit (.int .i64 9), .lit (.int .i64 13)], .agg [.lit (.int .i64 2), .lit (.int .i64 6), .lit (.int .i64 10), .lit (.int .i64 14)], .agg [.lit (.int .i64 3), .lit (.int .i64 7), .lit (.int .i64 11), .lit (.int .i64 15)], .agg [.lit (.int .i64 0), .lit (.int .i64 5), .lit (.int .i64 10), .lit (.int .i64 15)], .agg [.lit (.int .i64 1), .lit (.int .i64 6), .lit (.int .i64 11), .lit (.int .i64 12)], .agg [.lit (.int .i64 2), .lit (.int .i64 7), .lit (.int .i64 8), .lit (.int .i64 13)], .agg [.lit (.int .i64 3), .lit (.int .i64 4), .lit (.int .i64 9), .lit (.int .i64 14)]]

/-- 'intagliolaw04.AeadSeals': WHATEVER THE INPUT: true; the input reads as it did. -/
def aeadSealsSpec : ChangeSpec := { name := "aeadSeals", fn := fun _ => fun
  | [d1, d2] => { results := [.lit (.bool true)], args := [d1, d2] }
  | _ => none }
def aeadSealsRow : OpenClaim := { program := "ytpnlgmkkikmglabdoor", sum := "0284c4b5b2cc0425c7a8738e30641771c206f6592d218ca153918400dc8bf25b", func := "intaglio/intagliolaw04.AeadSeals", spec := "aeadSeals", inPlace := ["math/bits.Add64"], named := ["intaglio/chacha.quarters", "intaglio/chacha.head"], apart := false, laid := [("intaglio/chacha.head", laid_intaglio_chacha_head), ("intaglio/chacha.quarters", laid_intaglio_chacha_quarters)] }
def AeadSealsSaid : Prop := aeadSealsRow.holds Tryd.pinned (OpenSpec.ofChange aeadSealsSpec)

/-- ITS FALSE NEIGHBOUR: 'it returns false'. Refute it at one input. -/
def aeadSealsWrong : ChangeSpec := { name := "aeadSeals", fn := fun _ => fun
  | [d1, d2] => { results := [.lit (.bool false)], args := [d1, d2] }
  | _ => none }
def AeadSealsWrongFalsely : Prop := aeadSealsRow.holds Tryd.pinned (OpenSpec.ofChange aeadSealsWrong)

/-- 'intagliolaw04.AeadOpens': WHATEVER THE INPUT: true; the input reads as it did. -/
def aeadOpensSpec : ChangeSpec := { name := "aeadOpens", fn := fun _ => fun
  | [d1, d2] => { results := [.lit (.bool true)], args := [d1, d2] }
  | _ => none }
def aeadOpensRow : OpenClaim := { program := "ytpnlgmkkikmglabdoor", sum := "0284c4b5b2cc0425c7a8738e30641771c206f6592d218ca153918400dc8bf25b", func := "intaglio/intagliolaw04.AeadOpens", spec := "aeadOpens", inPlace := ["math/bits.Add64"], named := ["intaglio/chacha.quarters", "intaglio/chacha.head"], apart := false, laid := [("intaglio/chacha.head", laid_intaglio_chacha_head), ("intaglio/chacha.quarters", laid_intaglio_chacha_quarters)] }
def AeadOpensSaid : Prop := aeadOpensRow.holds Tryd.pinned (OpenSpec.ofChange aeadOpensSpec)

/-- ITS FALSE NEIGHBOUR: 'it returns false'. Refute it at one input. -/
def aeadOpensWrong : ChangeSpec := { name := "aeadOpens", fn := fun _ => fun
  | [d1, d2] => { results := [.lit (.bool false)], args := [d1, d2] }
  | _ => none }
def AeadOpensWrongFalsely : Prop := aeadOpensRow.holds Tryd.pinned (OpenSpec.ofChange aeadOpensWrong)

/-- 'intagliolaw04.AeadMarks': WHATEVER THE INPUT: true; the input reads as it did. -/
def aeadMarksSpec : ChangeSpec := { name := "aeadMarks", fn := fun _ => fun
  | [d1, d2] => { results := [.lit (.bool true)], args := [d1, d2] }
  | _ => none }
def aeadMarksRow : OpenClaim := { program := "ytpnlgmkkikmglabdoor", sum := "0284c4b5b2cc0425c7a8738e30641771c206f6592d218ca153918400dc8bf25b", func := "intaglio/intagliolaw04.AeadMarks", spec := "aeadMarks", inPlace := ["math/bits.Add64"], named := ["intaglio/chacha.quarters", "intaglio/chacha.head"], apart := false, laid := [("intaglio/chacha.head", laid_intaglio_chacha_head), ("intaglio/chacha.quarters", laid_intaglio_chacha_quarters)] }
def AeadMarksSaid : Prop := aeadMarksRow.holds Tryd.pinned (OpenSpec.ofChange aeadMarksSpec)

/-- ITS FALSE NEIGHBOUR: 'it returns false'. Refute it at one input. -/
def aeadMarksWrong : ChangeSpec := { name := "aeadMarks", fn := fun _ => fun
  | [d1, d2] => { results := [.lit (.bool false)], args := [d1, d2] }
  | _ => none }
def AeadMarksWrongFalsely : Prop := aeadMarksRow.holds Tryd.pinned (OpenSpec.ofChange aeadMarksWrong)

/-- 'intagliolaw04.AeadBack': WHATEVER THE INPUT: true; the input reads as it did. -/
def aeadBackSpec : ChangeSpec := { name := "aeadBack", fn := fun _ => fun
  | [d1, d2] => { results := [.lit (.bool true)], args := [d1, d2] }
  | _ => none }
def aeadBackRow : OpenClaim := { program := "ytpnlgmkkikmglabdoor", sum := "0284c4b5b2cc0425c7a8738e30641771c206f6592d218ca153918400dc8bf25b", func := "intaglio/intagliolaw04.AeadBack", spec := "aeadBack", inPlace := ["math/bits.Add64"], named := ["intaglio/chacha.quarters", "intaglio/chacha.head"], apart := false, laid := [("intaglio/chacha.head", laid_intaglio_chacha_head), ("intaglio/chacha.quarters", laid_intaglio_chacha_quarters)] }
def AeadBackSaid : Prop := aeadBackRow.holds Tryd.pinned (OpenSpec.ofChange aeadBackSpec)

/-- ITS FALSE NEIGHBOUR: 'it returns false'. Refute it at one input. -/
def aeadBackWrong : ChangeSpec := { name := "aeadBack", fn := fun _ => fun
  | [d1, d2] => { results := [.lit (.bool false)], args := [d1, d2] }
  | _ => none }
def AeadBackWrongFalsely : Prop := aeadBackRow.holds Tryd.pinned (OpenSpec.ofChange aeadBackWrong)

/-- 'intagliolaw04.AeadSame': WHATEVER THE INPUT: true; the input reads as it did. -/
def aeadSameSpec : ChangeSpec := { name := "aeadSame", fn := fun _ => fun
  | [d1, d2] => { results := [.lit (.bool true)], args := [d1, d2] }
  | _ => none }
def aeadSameRow : OpenClaim := { program := "ytpnlgmkkikmglabdoor", sum := "0284c4b5b2cc0425c7a8738e30641771c206f6592d218ca153918400dc8bf25b", func := "intaglio/intagliolaw04.AeadSame", spec := "aeadSame", inPlace := ["math/bits.Add64"], named := ["intaglio/chacha.quarters", "intaglio/chacha.head"], apart := false, laid := [("intaglio/chacha.head", laid_intaglio_chacha_head), ("intaglio/chacha.quarters", laid_intaglio_chacha_quarters)] }
def AeadSameSaid : Prop := aeadSameRow.holds Tryd.pinned (OpenSpec.ofChange aeadSameSpec)

/-- ITS FALSE NEIGHBOUR: 'it returns false'. Refute it at one input. -/
def aeadSameWrong : ChangeSpec := { name := "aeadSame", fn := fun _ => fun
  | [d1, d2] => { results := [.lit (.bool false)], args := [d1, d2] }
  | _ => none }
def AeadSameWrongFalsely : Prop := aeadSameRow.holds Tryd.pinned (OpenSpec.ofChange aeadSameWrong)

/-- 'intagliolaw04.AeadLong': WHATEVER THE INPUT: true; the input reads as it did. -/
def aeadLongSpec : ChangeSpec := { name := "aeadLong", fn := fun _ => fun
  | [d1, d2] => { results := [.lit (.bool true)], args := [d1, d2] }
  | _ => none }
def aeadLongRow : OpenClaim := { program := "ytpnlgmkkikmglabdoor", sum := "0284c4b5b2cc0425c7a8738e30641771c206f6592d218ca153918400dc8bf25b", func := "intaglio/intagliolaw04.AeadLong", spec := "aeadLong", inPlace := ["math/bits.Add64"], named := ["intaglio/chacha.quarters", "intaglio/chacha.head"], apart := false, laid := [("intaglio/chacha.head", laid_intaglio_chacha_head), ("intaglio/chacha.quarters", laid_intaglio_chacha_quarters)] }
def AeadLongSaid : Prop := aeadLongRow.holds Tryd.pinned (OpenSpec.ofChange aeadLongSpec)

/-- ITS FALSE NEIGHBOUR: 'it returns false'. Refute it at one input. -/
def aeadLongWrong : ChangeSpec := { name := "aeadLong", fn := fun _ => fun
  | [d1, d2] => { results := [.lit (.bool false)], args := [d1, d2] }
  | _ => none }
def AeadLongWrongFalsely : Prop := aeadLongRow.holds Tryd.pinned (OpenSpec.ofChange aeadLongWrong)

/- THE SECOND FORM. 'bulk': how many values and letters a reading holds, each counted each time it is reached (what is shared counts as often as it is met; a slice's spare places count too). A statement '..UptoSaid' is the law's where the arguments, and the package variables that the reading takes, are together of bulk at most 1048576: NARROWER than '..Said'. Prove '..Said' where nothing that the law and all that it calls make is longer than what came in: it says more and counts as full. Else prove '..UptoSaid'. A law counts once. -/
mutual
def uptoBulk {H : Type} : DataW H → Nat
  | .lit (.string bytes) => bytes.length + 1
  | .lit _ => 1
  | .nil => 1
  | .ptr d => uptoBulk d + 1
  | .slice elems spare => uptoBulkAll elems + uptoBulkAll spare + 1
  | .agg parts => uptoBulkAll parts + 1
  | .iface _ d => uptoBulk d + 1
  | .map entries => uptoBulkEntries entries + 1
  | .held _ => 1
def uptoBulkAll {H : Type} : List (DataW H) → Nat
  | [] => 0
  | d :: r => uptoBulk d + uptoBulkAll r
def uptoBulkEntries {H : Type} : List (Lit × DataW H) → Nat
  | [] => 0
  | x :: r => uptoBulkEntry x + uptoBulkEntries r
def uptoBulkEntry {H : Type} : Lit × DataW H → Nat
  | (.string bytes, d) => bytes.length + uptoBulk d + 1
  | (_, d) => uptoBulk d + 1
 end
def uptoSmall : (H : Type) → List (DataW H) → Bool := fun _ ds => decide (uptoBulkAll ds ≤ 1048576)
def OpenSpec.upto (s : _root_.Go.ChangeSpec) : _root_.Go.OpenSpec := { _root_.Go.OpenSpec.ofChange s with cond := some uptoSmall }

/-- 'intagliolaw04.AeadSeals', WHERE WHAT IT READS IS OF BULK AT MOST 1048576: true; the input reads as it did. -/
def aeadSealsUptoRow : OpenClaim := { program := "ytpnlgmkkikmglabdoor", sum := "0284c4b5b2cc0425c7a8738e30641771c206f6592d218ca153918400dc8bf25b", func := "intaglio/intagliolaw04.AeadSeals", spec := "aeadSeals", inPlace := ["math/bits.Add64"], named := ["intaglio/chacha.quarters", "intaglio/chacha.head"], apart := false, laid := [("intaglio/chacha.head", laid_intaglio_chacha_head), ("intaglio/chacha.quarters", laid_intaglio_chacha_quarters)], narrowed := true }
def AeadSealsUptoSaid : Prop := aeadSealsUptoRow.holds Tryd.pinned (OpenSpec.upto aeadSealsSpec)

/-- 'intagliolaw04.AeadOpens', WHERE WHAT IT READS IS OF BULK AT MOST 1048576: true; the input reads as it did. -/
def aeadOpensUptoRow : OpenClaim := { program := "ytpnlgmkkikmglabdoor", sum := "0284c4b5b2cc0425c7a8738e30641771c206f6592d218ca153918400dc8bf25b", func := "intaglio/intagliolaw04.AeadOpens", spec := "aeadOpens", inPlace := ["math/bits.Add64"], named := ["intaglio/chacha.quarters", "intaglio/chacha.head"], apart := false, laid := [("intaglio/chacha.head", laid_intaglio_chacha_head), ("intaglio/chacha.quarters", laid_intaglio_chacha_quarters)], narrowed := true }
def AeadOpensUptoSaid : Prop := aeadOpensUptoRow.holds Tryd.pinned (OpenSpec.upto aeadOpensSpec)

/-- 'intagliolaw04.AeadMarks', WHERE WHAT IT READS IS OF BULK AT MOST 1048576: true; the input reads as it did. -/
def aeadMarksUptoRow : OpenClaim := { program := "ytpnlgmkkikmglabdoor", sum := "0284c4b5b2cc0425c7a8738e30641771c206f6592d218ca153918400dc8bf25b", func := "intaglio/intagliolaw04.AeadMarks", spec := "aeadMarks", inPlace := ["math/bits.Add64"], named := ["intaglio/chacha.quarters", "intaglio/chacha.head"], apart := false, laid := [("intaglio/chacha.head", laid_intaglio_chacha_head), ("intaglio/chacha.quarters", laid_intaglio_chacha_quarters)], narrowed := true }
def AeadMarksUptoSaid : Prop := aeadMarksUptoRow.holds Tryd.pinned (OpenSpec.upto aeadMarksSpec)

/-- 'intagliolaw04.AeadBack', WHERE WHAT IT READS IS OF BULK AT MOST 1048576: true; the input reads as it did. -/
def aeadBackUptoRow : OpenClaim := { program := "ytpnlgmkkikmglabdoor", sum := "0284c4b5b2cc0425c7a8738e30641771c206f6592d218ca153918400dc8bf25b", func := "intaglio/intagliolaw04.AeadBack", spec := "aeadBack", inPlace := ["math/bits.Add64"], named := ["intaglio/chacha.quarters", "intaglio/chacha.head"], apart := false, laid := [("intaglio/chacha.head", laid_intaglio_chacha_head), ("intaglio/chacha.quarters", laid_intaglio_chacha_quarters)], narrowed := true }
def AeadBackUptoSaid : Prop := aeadBackUptoRow.holds Tryd.pinned (OpenSpec.upto aeadBackSpec)

/-- 'intagliolaw04.AeadSame', WHERE WHAT IT READS IS OF BULK AT MOST 1048576: true; the input reads as it did. -/
def aeadSameUptoRow : OpenClaim := { program := "ytpnlgmkkikmglabdoor", sum := "0284c4b5b2cc0425c7a8738e30641771c206f6592d218ca153918400dc8bf25b", func := "intaglio/intagliolaw04.AeadSame", spec := "aeadSame", inPlace := ["math/bits.Add64"], named := ["intaglio/chacha.quarters", "intaglio/chacha.head"], apart := false, laid := [("intaglio/chacha.head", laid_intaglio_chacha_head), ("intaglio/chacha.quarters", laid_intaglio_chacha_quarters)], narrowed := true }
def AeadSameUptoSaid : Prop := aeadSameUptoRow.holds Tryd.pinned (OpenSpec.upto aeadSameSpec)

/-- 'intagliolaw04.AeadLong', WHERE WHAT IT READS IS OF BULK AT MOST 1048576: true; the input reads as it did. -/
def aeadLongUptoRow : OpenClaim := { program := "ytpnlgmkkikmglabdoor", sum := "0284c4b5b2cc0425c7a8738e30641771c206f6592d218ca153918400dc8bf25b", func := "intaglio/intagliolaw04.AeadLong", spec := "aeadLong", inPlace := ["math/bits.Add64"], named := ["intaglio/chacha.quarters", "intaglio/chacha.head"], apart := false, laid := [("intaglio/chacha.head", laid_intaglio_chacha_head), ("intaglio/chacha.quarters", laid_intaglio_chacha_quarters)], narrowed := true }
def AeadLongUptoSaid : Prop := aeadLongUptoRow.holds Tryd.pinned (OpenSpec.upto aeadLongSpec)

end Rows
end Go.Proofs.YtpnlgmkkikmglabDoor
