/-
  NARROWER THAN 'FOR EVERY INPUT', by the rows' own cells (each row's printed sentence says how): ShaSum: laid · ShaPads: laid · ShaHashes: laid · ShaPieces: laid · ShaNobody: laid · MacHmac: laid · MacExtract: laid · MacExpand: laid · MacFirst: laid · MacKeys: laid.
  DERIVED. THE GIVEN ROWS OF THIS SEAT. 10 by the template 'for every input the law returns true; each argument reads behind the call as it read before'; 0 by the template 'total and deterministic' (their statements: YtlhgfobhdhddlaaDoorTotals.lean).
  GIVEN WITH THE SEED: the statements are not yours to turn. If you find one false, say at which input.
  Laid BY PROGRAM, IN A SANDBOX (cutbox-rows.mjs): the forced cells as the released guide's own fill.sh prints them over the translation f450939e811d6e83… (all of the seat's roots in one cut). By AI agents, Wed Nov 11 2026. No macro, syntax, notation, axiom, sorry.
-/
import Derived.Test.YtlhgfobhdhddlaaDoorChecked
import GoSem.Claim
import GoSem.ClaimJoined
import GoSem.ClaimMapViews
import Derived.JoinedTies
import Derived.KernelRfl
namespace Go.Proofs.YtlhgfobhdhddlaaDoor
/- THE CELL 'sum', in the pinned program and in every row, IS THE sha256 OF THE DUMP (.gsa) THAT YtlhgfobhdhddlaaDoorProg.lean LOADS. Nothing in Lean hashes anything: it is a label: what it is worth is what the hold of that sum in a sandbox is worth. -/
noncomputable def Tryd.pinned : Pinned := { name := "ytlhgfobhdhddlaadoor", sum := "f450939e811d6e835b4815fa5d160e7fb69c9129197aac444ac671c1653035ac", checked := Tryd.checked }
namespace Rows
def none {H : Type} : Left H := { results := [], args := [] }

/- WHAT THE LISTED PACKAGE-LEVEL VARIABLES READ AS WHEN THE CALL BEGINS. Each datum BY PROGRAM (the guide's laid-datum.mjs) off the statement by which the dump's own 'gosem.cut.vars' lays the variable. In a bare row this is a premise. The card (YtlhgfobhdhddlaaDoorCards.lean) ties it to the program's text. -/
def laid_intaglio_sha_start {H : Type} : DataW H := .agg [.lit (.int .u32 1779033703), .lit (.int .u32 3144134277), .lit (.int .u32 1013904242), .lit (.int .u32 2773480762), .lit (.int .u32 1359893119), .lit (.int .u32 2600822924), .lit (.int .u32 528734635), .lit (.int .u32 1541459225)]
def laid_intaglio_sha_roots {H : Type} : DataW H := .agg [.lit (.int .u32 1116352408), .lit (.int .u32 1899447441), .lit (.int .u32 3049323471), .lit (.int .u32 3921009573), .lit (.int .u32 961987163), .lit (.int .u32 1508970993), .lit (.int .u32 2453635748), .lit (.int .u32 2870763221), .lit (.int .u32 3624381080), .lit (.int .u32 310598401), .lit (.int .u32 607225278), .lit (.int .u32 1426881987), .lit (.int .u32 1925078388), .lit (.int .u32 2162078206), .lit (.int .u32 2614888103), .lit (.int .u32 3248222580), .lit (.int .u32 3835390401), .lit (.int .u32 4022224774), .lit (.int .u32 264347078), .lit (.int .u32 604807628), .lit (.int .u32 770255983), .lit (.int .u32 1249150122), .lit (.int .u32 1555081692), .lit (.int .u32 1996064986), .lit (.int .u32 2554220882), .lit (.int .u32 2821834349), .lit (.int .u32 2952996808), .lit (.int .u32 3210313671), .lit (.int .u32 3336571891), .lit (.int .u32 3584528711), .lit (.int .u32 113926993), .lit (.int .u32 338241895), .lit (.int .u32 666307205), .lit (.int .u32 773529912), .lit (.int .u32 1294757372), .lit (.int .u32 1396182291), .lit (.int .u32 1695183700), .lit (.int .u32 1986661051), .lit (.int .u32 2177026350), .lit (.int .u32 2456956037), .lit (.int .u32 2730485921), .lit (.int .u32 2820302411), .lit (.int .u32 3259730800), .lit (.int .u32 3345764771), .lit (.int .u32 3516065817), .lit (.int .u32 3600352804), .lit (.int .u32 4094571909), .lit (.int .u32 275423344), .lit (.int .u32 430227734), .lit (.int .u32 506948616), .lit (.int .u32 659060556), .lit (.int .u32 883997877), .lit (.int .u32 958139571), .lit (.int .u32 1322822218), .lit (.int .u32 1537002063), .lit (.int .u32 1747873779), .lit (.int .u32 1955562222), .lit (.int .u32 2024104815), .lit (.int .u32 2227730452), .lit (.int .u32 2361852424), .lit (.int .u32 2428436474), .lit (.int .u32 2756734187), .lit (.int .u32 3204031479), .lit (.int .u32 3329325298)]

/-- 'intagliolaw05.ShaSum': WHATEVER THE INPUT: true; the input reads as it did. -/
def shaSumSpec : ChangeSpec := { name := "shaSum", fn := fun _ => fun
  | [d] => { results := [.lit (.bool true)], args := [d] }
  | _ => none }
def shaSumRow : OpenClaim := { program := "ytlhgfobhdhddlaadoor", sum := "f450939e811d6e835b4815fa5d160e7fb69c9129197aac444ac671c1653035ac", func := "intaglio/intagliolaw05.ShaSum", spec := "shaSum", named := ["intaglio/sha.start", "intaglio/sha.roots"], apart := false, laid := [("intaglio/sha.start", laid_intaglio_sha_start), ("intaglio/sha.roots", laid_intaglio_sha_roots)] }
def ShaSumSaid : Prop := shaSumRow.holds Tryd.pinned (OpenSpec.ofChange shaSumSpec)

/-- ITS FALSE NEIGHBOUR: 'it returns false'. Refute it at one input. -/
def shaSumWrong : ChangeSpec := { name := "shaSum", fn := fun _ => fun
  | [d] => { results := [.lit (.bool false)], args := [d] }
  | _ => none }
def ShaSumWrongFalsely : Prop := shaSumRow.holds Tryd.pinned (OpenSpec.ofChange shaSumWrong)

/-- 'intagliolaw05.ShaPads': WHATEVER THE INPUT: true; the input reads as it did. -/
def shaPadsSpec : ChangeSpec := { name := "shaPads", fn := fun _ => fun
  | [d] => { results := [.lit (.bool true)], args := [d] }
  | _ => none }
def shaPadsRow : OpenClaim := { program := "ytlhgfobhdhddlaadoor", sum := "f450939e811d6e835b4815fa5d160e7fb69c9129197aac444ac671c1653035ac", func := "intaglio/intagliolaw05.ShaPads", spec := "shaPads", named := ["intaglio/sha.start", "intaglio/sha.roots"], apart := false, laid := [("intaglio/sha.start", laid_intaglio_sha_start), ("intaglio/sha.roots", laid_intaglio_sha_roots)] }
def ShaPadsSaid : Prop := shaPadsRow.holds Tryd.pinned (OpenSpec.ofChange shaPadsSpec)

/-- ITS FALSE NEIGHBOUR: 'it returns false'. Refute it at one input. -/
def shaPadsWrong : ChangeSpec := { name := "shaPads", fn := fun _ => fun
  | [d] => { results := [.lit (.bool false)], args := [d] }
  | _ => none }
def ShaPadsWrongFalsely : Prop := shaPadsRow.holds Tryd.pinned (OpenSpec.ofChange shaPadsWrong)

/-- 'intagliolaw05.ShaHashes': WHATEVER THE INPUT: true; the input reads as it did. -/
def shaHashesSpec : ChangeSpec := { name := "shaHashes", fn := fun _ => fun
  | [d] => { results := [.lit (.bool true)], args := [d] }
  | _ => none }
def shaHashesRow : OpenClaim := { program := "ytlhgfobhdhddlaadoor", sum := "f450939e811d6e835b4815fa5d160e7fb69c9129197aac444ac671c1653035ac", func := "intaglio/intagliolaw05.ShaHashes", spec := "shaHashes", named := ["intaglio/sha.start", "intaglio/sha.roots"], apart := false, laid := [("intaglio/sha.start", laid_intaglio_sha_start), ("intaglio/sha.roots", laid_intaglio_sha_roots)] }
def ShaHashesSaid : Prop := shaHashesRow.holds Tryd.pinned (OpenSpec.ofChange shaHashesSpec)

/-- ITS FALSE NEIGHBOUR: 'it returns false'. Refute it at one input. -/
def shaHashesWrong : ChangeSpec := { name := "shaHashes", fn := fun _ => fun
  | [d] => { results := [.lit (.bool false)], args := [d] }
  | _ => none }
def ShaHashesWrongFalsely : Prop := shaHashesRow.holds Tryd.pinned (OpenSpec.ofChange shaHashesWrong)

/-- 'intagliolaw05.ShaPieces': WHATEVER THE INPUT: true; the input reads as it did. -/
def shaPiecesSpec : ChangeSpec := { name := "shaPieces", fn := fun _ => fun
  | [d1, d2] => { results := [.lit (.bool true)], args := [d1, d2] }
  | _ => none }
def shaPiecesRow : OpenClaim := { program := "ytlhgfobhdhddlaadoor", sum := "f450939e811d6e835b4815fa5d160e7fb69c9129197aac444ac671c1653035ac", func := "intaglio/intagliolaw05.ShaPieces", spec := "shaPieces", named := ["intaglio/sha.start", "intaglio/sha.roots"], apart := false, laid := [("intaglio/sha.start", laid_intaglio_sha_start), ("intaglio/sha.roots", laid_intaglio_sha_roots)] }
def ShaPiecesSaid : Prop := shaPiecesRow.holds Tryd.pinned (OpenSpec.ofChange shaPiecesSpec)

/-- ITS FALSE NEIGHBOUR: 'it returns false'. Refute it at one input. -/
def shaPiecesWrong : ChangeSpec := { name := "shaPieces", fn := fun _ => fun
  | [d1, d2] => { results := [.lit (.bool false)], args := [d1, d2] }
  | _ => none }
def ShaPiecesWrongFalsely : Prop := shaPiecesRow.holds Tryd.pinned (OpenSpec.ofChange shaPiecesWrong)

/-- 'intagliolaw05.ShaNobody': WHATEVER THE INPUT: true; the input reads as it did. -/
def shaNobodySpec : ChangeSpec := { name := "shaNobody", fn := fun _ => fun
  | [d] => { results := [.lit (.bool true)], args := [d] }
  | _ => none }
def shaNobodyRow : OpenClaim := { program := "ytlhgfobhdhddlaadoor", sum := "f450939e811d6e835b4815fa5d160e7fb69c9129197aac444ac671c1653035ac", func := "intaglio/intagliolaw05.ShaNobody", spec := "shaNobody", named := ["intaglio/sha.roots", "intaglio/sha.start"], apart := false, laid := [("intaglio/sha.start", laid_intaglio_sha_start), ("intaglio/sha.roots", laid_intaglio_sha_roots)] }
def ShaNobodySaid : Prop := shaNobodyRow.holds Tryd.pinned (OpenSpec.ofChange shaNobodySpec)

/-- ITS FALSE NEIGHBOUR: 'it returns false'. Refute it at one input. -/
def shaNobodyWrong : ChangeSpec := { name := "shaNobody", fn := fun _ => fun
  | [d] => { results := [.lit (.bool false)], args := [d] }
  | _ => none }
def ShaNobodyWrongFalsely : Prop := shaNobodyRow.holds Tryd.pinned (OpenSpec.ofChange shaNobodyWrong)

/-- 'intagliolaw06.MacHmac': WHATEVER THE INPUT: true; the input reads as it did. -/
def macHmacSpec : ChangeSpec := { name := "macHmac", fn := fun _ => fun
  | [d1, d2] => { results := [.lit (.bool true)], args := [d1, d2] }
  | _ => none }
def macHmacRow : OpenClaim := { program := "ytlhgfobhdhddlaadoor", sum := "f450939e811d6e835b4815fa5d160e7fb69c9129197aac444ac671c1653035ac", func := "intaglio/intagliolaw06.MacHmac", spec := "macHmac", named := ["intaglio/sha.start", "intaglio/sha.roots"], apart := false, laid := [("intaglio/sha.start", laid_intaglio_sha_start), ("intaglio/sha.roots", laid_intaglio_sha_roots)] }
def MacHmacSaid : Prop := macHmacRow.holds Tryd.pinned (OpenSpec.ofChange macHmacSpec)

/-- ITS FALSE NEIGHBOUR: 'it returns false'. Refute it at one input. -/
def macHmacWrong : ChangeSpec := { name := "macHmac", fn := fun _ => fun
  | [d1, d2] => { results := [.lit (.bool false)], args := [d1, d2] }
  | _ => none }
def MacHmacWrongFalsely : Prop := macHmacRow.holds Tryd.pinned (OpenSpec.ofChange macHmacWrong)

/-- 'intagliolaw06.MacExtract': WHATEVER THE INPUT: true; the input reads as it did. -/
def macExtractSpec : ChangeSpec := { name := "macExtract", fn := fun _ => fun
  | [d1, d2] => { results := [.lit (.bool true)], args := [d1, d2] }
  | _ => none }
def macExtractRow : OpenClaim := { program := "ytlhgfobhdhddlaadoor", sum := "f450939e811d6e835b4815fa5d160e7fb69c9129197aac444ac671c1653035ac", func := "intaglio/intagliolaw06.MacExtract", spec := "macExtract", named := ["intaglio/sha.start", "intaglio/sha.roots"], apart := false, laid := [("intaglio/sha.start", laid_intaglio_sha_start), ("intaglio/sha.roots", laid_intaglio_sha_roots)] }
def MacExtractSaid : Prop := macExtractRow.holds Tryd.pinned (OpenSpec.ofChange macExtractSpec)

/-- ITS FALSE NEIGHBOUR: 'it returns false'. Refute it at one input. -/
def macExtractWrong : ChangeSpec := { name := "macExtract", fn := fun _ => fun
  | [d1, d2] => { results := [.lit (.bool false)], args := [d1, d2] }
  | _ => none }
def MacExtractWrongFalsely : Prop := macExtractRow.holds Tryd.pinned (OpenSpec.ofChange macExtractWrong)

/-- 'intagliolaw06.MacExpand': WHATEVER THE INPUT: true; the input reads as it did. -/
def macExpandSpec : ChangeSpec := { name := "macExpand", fn := fun _ => fun
  | [d1, d2, d3] => { results := [.lit (.bool true)], args := [d1, d2, d3] }
  | _ => none }
def macExpandRow : OpenClaim := { program := "ytlhgfobhdhddlaadoor", sum := "f450939e811d6e835b4815fa5d160e7fb69c9129197aac444ac671c1653035ac", func := "intaglio/intagliolaw06.MacExpand", spec := "macExpand", named := ["intaglio/sha.start", "intaglio/sha.roots"], apart := false, laid := [("intaglio/sha.start", laid_intaglio_sha_start), ("intaglio/sha.roots", laid_intaglio_sha_roots)] }
def MacExpandSaid : Prop := macExpandRow.holds Tryd.pinned (OpenSpec.ofChange macExpandSpec)

/-- ITS FALSE NEIGHBOUR: 'it returns false'. Refute it at one input. -/
def macExpandWrong : ChangeSpec := { name := "macExpand", fn := fun _ => fun
  | [d1, d2, d3] => { results := [.lit (.bool false)], args := [d1, d2, d3] }
  | _ => none }
def MacExpandWrongFalsely : Prop := macExpandRow.holds Tryd.pinned (OpenSpec.ofChange macExpandWrong)

/-- 'intagliolaw06.MacFirst': WHATEVER THE INPUT: true; the input reads as it did. -/
def macFirstSpec : ChangeSpec := { name := "macFirst", fn := fun _ => fun
  | [d1, d2, d3] => { results := [.lit (.bool true)], args := [d1, d2, d3] }
  | _ => none }
def macFirstRow : OpenClaim := { program := "ytlhgfobhdhddlaadoor", sum := "f450939e811d6e835b4815fa5d160e7fb69c9129197aac444ac671c1653035ac", func := "intaglio/intagliolaw06.MacFirst", spec := "macFirst", named := ["intaglio/sha.start", "intaglio/sha.roots"], apart := false, laid := [("intaglio/sha.start", laid_intaglio_sha_start), ("intaglio/sha.roots", laid_intaglio_sha_roots)] }
def MacFirstSaid : Prop := macFirstRow.holds Tryd.pinned (OpenSpec.ofChange macFirstSpec)

/-- ITS FALSE NEIGHBOUR: 'it returns false'. Refute it at one input. -/
def macFirstWrong : ChangeSpec := { name := "macFirst", fn := fun _ => fun
  | [d1, d2, d3] => { results := [.lit (.bool false)], args := [d1, d2, d3] }
  | _ => none }
def MacFirstWrongFalsely : Prop := macFirstRow.holds Tryd.pinned (OpenSpec.ofChange macFirstWrong)

/-- 'intagliolaw06.MacKeys': WHATEVER THE INPUT: true; the input reads as it did. -/
def macKeysSpec : ChangeSpec := { name := "macKeys", fn := fun _ => fun
  | [d1, d2, d3] => { results := [.lit (.bool true)], args := [d1, d2, d3] }
  | _ => none }
def macKeysRow : OpenClaim := { program := "ytlhgfobhdhddlaadoor", sum := "f450939e811d6e835b4815fa5d160e7fb69c9129197aac444ac671c1653035ac", func := "intaglio/intagliolaw06.MacKeys", spec := "macKeys", named := ["intaglio/sha.start", "intaglio/sha.roots"], apart := false, laid := [("intaglio/sha.start", laid_intaglio_sha_start), ("intaglio/sha.roots", laid_intaglio_sha_roots)] }
def MacKeysSaid : Prop := macKeysRow.holds Tryd.pinned (OpenSpec.ofChange macKeysSpec)

/-- ITS FALSE NEIGHBOUR: 'it returns false'. Refute it at one input. -/
def macKeysWrong : ChangeSpec := { name := "macKeys", fn := fun _ => fun
  | [d1, d2, d3] => { results := [.lit (.bool false)], args := [d1, d2, d3] }
  | _ => none }
def MacKeysWrongFalsely : Prop := macKeysRow.holds Tryd.pinned (OpenSpec.ofChange macKeysWrong)

/- THE SECOND FORM. 'bulk': how many values and letters a reading holds, each counted each time it is reached (what is shared counts as often as it is met; a slice's spare places count too). A statement '..UptoSaid' is the law's where the arguments, and the package variables that the reading takes, are together of bulk at most 1048576: NARROWER than '..Said'. Prove '..Said' where nothing that the law and all that it calls make is longer than what came in: it says more and counts as full. Else prove '..UptoSaid'. A law counts once. -/
mutual
def uptoBulk {H : Type} : DataW H → Nat
  | .lit (.string bytes) => bytes.length + 1
  | .lit _ => 1
  | .nil => 1
  | .ptr d => uptoBulk d + 1
  | .slice elems spare => uptoBulkAll elems + uptoBulkAll spare + 1
  | .agg parts => uptoBulkAll parts + 1
  | .iface _ d => uptoBulk d + 1
  | .map entries => uptoBulkEntries entries + 1
  | .held _ => 1
def uptoBulkAll {H : Type} : List (DataW H) → Nat
  | [] => 0
  | d :: r => uptoBulk d + uptoBulkAll r
def uptoBulkEntries {H : Type} : List (Lit × DataW H) → Nat
  | [] => 0
  | x :: r => uptoBulkEntry x + uptoBulkEntries r
def uptoBulkEntry {H : Type} : Lit × DataW H → Nat
  | (.string bytes, d) => bytes.length + uptoBulk d + 1
  | (_, d) => uptoBulk d + 1
 end
def uptoSmall : (H : Type) → List (DataW H) → Bool := fun _ ds => decide (uptoBulkAll ds ≤ 1048576)
def OpenSpec.upto (s : _root_.Go.ChangeSpec) : _root_.Go.OpenSpec := { _root_.Go.OpenSpec.ofChange s with cond := some uptoSmall }

/-- 'intagliolaw05.ShaSum', WHERE WHAT IT READS IS OF BULK AT MOST 1048576: true; the input reads as it did. -/
def shaSumUptoRow : OpenClaim := { program := "ytlhgfobhdhddlaadoor", sum := "f450939e811d6e835b4815fa5d160e7fb69c9129197aac444ac671c1653035ac", func := "intaglio/intagliolaw05.ShaSum", spec := "shaSum", named := ["intaglio/sha.start", "intaglio/sha.roots"], apart := false, laid := [("intaglio/sha.start", laid_intaglio_sha_start), ("intaglio/sha.roots", laid_intaglio_sha_roots)], narrowed := true }
def ShaSumUptoSaid : Prop := shaSumUptoRow.holds Tryd.pinned (OpenSpec.upto shaSumSpec)

/-- 'intagliolaw05.ShaPads', WHERE WHAT IT READS IS OF BULK AT MOST 1048576: true; the input reads as it did. -/
def shaPadsUptoRow : OpenClaim := { program := "ytlhgfobhdhddlaadoor", sum := "f450939e811d6e835b4815fa5d160e7fb69c9129197aac444ac671c1653035ac", func := "intaglio/intagliolaw05.ShaPads", spec := "shaPads", named := ["intaglio/sha.start", "intaglio/sha.roots"], apart := false, laid := [("intaglio/sha.start", laid_intaglio_sha_start), ("intaglio/sha.roots", laid_intaglio_sha_roots)], narrowed := true }
def ShaPadsUptoSaid : Prop := shaPadsUptoRow.holds Tryd.pinned (OpenSpec.upto shaPadsSpec)

/-- 'intagliolaw05.ShaHashes', WHERE WHAT IT READS IS OF BULK AT MOST 1048576: true; the input reads as it did. -/
def shaHashesUptoRow : OpenClaim := { program := "ytlhgfobhdhddlaadoor", sum := "f450939e811d6e835b4815fa5d160e7fb69c9129197aac444ac671c1653035ac", func := "intaglio/intagliolaw05.ShaHashes", spec := "shaHashes", named := ["intaglio/sha.start", "intaglio/sha.roots"], apart := false, laid := [("intaglio/sha.start", laid_intaglio_sha_start), ("intaglio/sha.roots", laid_intaglio_sha_roots)], narrowed := true }
def ShaHashesUptoSaid : Prop := shaHashesUptoRow.holds Tryd.pinned (OpenSpec.upto shaHashesSpec)

/-- 'intagliolaw05.ShaPieces', WHERE WHAT IT READS IS OF BULK AT MOST 1048576: true; the input reads as it did. -/
def shaPiecesUptoRow : OpenClaim := { program := "ytlhgfobhdhddlaadoor", sum := "f450939e811d6e835b4815fa5d160e7fb69c9129197aac444ac671c1653035ac", func := "intaglio/intagliolaw05.ShaPieces", spec := "shaPieces", named := ["intaglio/sha.start", "intaglio/sha.roots"], apart := false, laid := [("intaglio/sha.start", laid_intaglio_sha_start), ("intaglio/sha.roots", laid_intaglio_sha_roots)], narrowed := true }
def ShaPiecesUptoSaid : Prop := shaPiecesUptoRow.holds Tryd.pinned (OpenSpec.upto shaPiecesSpec)

/-- 'intagliolaw05.ShaNobody', WHERE WHAT IT READS IS OF BULK AT MOST 1048576: true; the input reads as it did. -/
def shaNobodyUptoRow : OpenClaim := { program := "ytlhgfobhdhddlaadoor", sum := "f450939e811d6e835b4815fa5d160e7fb69c9129197aac444ac671c1653035ac", func := "intaglio/intagliolaw05.ShaNobody", spec := "shaNobody", named := ["intaglio/sha.roots", "intaglio/sha.start"], apart := false, laid := [("intaglio/sha.start", laid_intaglio_sha_start), ("intaglio/sha.roots", laid_intaglio_sha_roots)], narrowed := true }
def ShaNobodyUptoSaid : Prop := shaNobodyUptoRow.holds Tryd.pinned (OpenSpec.upto shaNobodySpec)

/-- 'intagliolaw06.MacHmac', WHERE WHAT IT READS IS OF BULK AT MOST 1048576: true; the input reads as it did. -/
def macHmacUptoRow : OpenClaim := { program := "ytlhgfobhdhddlaadoor", sum := "f450939e811d6e835b4815fa5d160e7fb69c9129197aac444ac671c1653035ac", func := "intaglio/intagliolaw06.MacHmac", spec := "macHmac", named := ["intaglio/sha.start", "intaglio/sha.roots"], apart := false, laid := [("intaglio/sha.start", laid_intaglio_sha_start), ("intaglio/sha.roots", laid_intaglio_sha_roots)], narrowed := true }
def MacHmacUptoSaid : Prop := macHmacUptoRow.holds Tryd.pinned (OpenSpec.upto macHmacSpec)

/-- 'intagliolaw06.MacExtract', WHERE WHAT IT READS IS OF BULK AT MOST 1048576: true; the input reads as it did. -/
def macExtractUptoRow : OpenClaim := { program := "ytlhgfobhdhddlaadoor", sum := "f450939e811d6e835b4815fa5d160e7fb69c9129197aac444ac671c1653035ac", func := "intaglio/intagliolaw06.MacExtract", spec := "macExtract", named := ["intaglio/sha.start", "intaglio/sha.roots"], apart := false, laid := [("intaglio/sha.start", laid_intaglio_sha_start), ("intaglio/sha.roots", laid_intaglio_sha_roots)], narrowed := true }
def MacExtractUptoSaid : Prop := macExtractUptoRow.holds Tryd.pinned (OpenSpec.upto macExtractSpec)

/-- 'intagliolaw06.MacExpand', WHERE WHAT IT READS IS OF BULK AT MOST 1048576: true; the input reads as it did. -/
def macExpandUptoRow : OpenClaim := { program := "ytlhgfobhdhddlaadoor", sum := "f450939e811d6e835b4815fa5d160e7fb69c9129197aac444ac671c1653035ac", func := "intaglio/intagliolaw06.MacExpand", spec := "macExpand", named := ["intaglio/sha.start", "intaglio/sha.roots"], apart := false, laid := [("intaglio/sha.start", laid_intaglio_sha_start), ("intaglio/sha.roots", laid_intaglio_sha_roots)], narrowed := true }
def MacExpandUptoSaid : Prop := macExpandUptoRow.holds Tryd.pinned (OpenSpec.upto macExpandSpec)

/-- 'intagliolaw06.MacFirst', WHERE WHAT IT READS IS OF BULK AT MOST 1048576: true; the input reads as it did. -/
def macFirstUptoRow : OpenClaim := { program := "ytlhgfobhdhddlaadoor", sum := "f450939e811d6e835b4815fa5d160e7fb69c9129197aac444ac671c1653035ac", func := "intaglio/intagliolaw06.MacFirst", spec := "macFirst", named := ["intaglio/sha.start", "intaglio/sha.roots"], apart := false, laid := [("intaglio/sha.start", laid_intaglio_sha_start), ("intaglio/sha.roots", laid_intaglio_sha_roots)], narrowed := true }
def MacFirstUptoSaid : Prop := macFirstUptoRow.holds Tryd.pinned (OpenSpec.upto macFirstSpec)

/-- 'intagliolaw06.MacKeys', WHERE WHAT IT READS IS OF BULK AT MOST 1048576: true; the input reads as it did. -/
def macKeysUptoRow : OpenClaim := { program := "ytlhgfobhdhddlaadoor", sum := "f450939e811d6e835b4815fa5d160e7fb69c9129197aac444ac671c1653035ac", func := "intaglio/intagliolaw06.MacKeys", spec := "macKeys", named := ["intaglio/sha.start", "intaglio/sha.roots"], apart := false, laid := [("intaglio/sha.start", laid_intaglio_sha_start), ("intaglio/sha.roots", laid_intaglio_sha_roots)], narrowed := true }
def MacKeysUptoSaid : Prop := macKeysUptoRow.holds Tryd.pinned (OpenSpec.upto macKeysSpec)

end Rows
end Go.Proofs.YtlhgfobhdhddlaaDoor
