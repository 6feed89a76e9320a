/-
  DERIVED. GIVEN WITH THE SEED: THE PROGRAM's TIES (one call each: nine closed facts by the kernel) AND EACH ROW's TIE, after the 31st guide's Derived/Test/Toyas{Tie, Card}.lean. No idea stands in it: it is a product of the set-up. Laid BY PROGRAM, IN A SANDBOX (cutbox-door.mjs). By AI agents, Wed Nov 11 2026. No macro, syntax, notation, axiom, sorry.
-/
import Derived.Test.YtooooncmjhcdbaaGreatDoorRows
import Derived.LaidByTextLater
import Derived.SevenTiedAt
import Derived.LaidSub
import Derived.LaidOnce
namespace Go.Proofs.YtooooncmjhcdbaaGreatDoor
open Go
set_option maxRecDepth 100000
theorem seatTie1 : Tryz.prog.laidByTextLater [("intaglio/chacha.head", Rows.laid_intaglio_chacha_head), ("intaglio/chacha.quarters", Rows.laid_intaglio_chacha_quarters), ("intaglio/sha.start", Rows.laid_intaglio_sha_start), ("intaglio/sha.roots", Rows.laid_intaglio_sha_roots), ("intaglio/keys.bounds", Rows.laid_intaglio_keys_bounds)] [.data, .data, .data, .data, .data] true :=
  Program.laidByTextLater_by_one 48 8 65 (by kernel_rfl) (by kernel_rfl) (by kernel_rfl) (by kernel_rfl) (by kernel_rfl) (by kernel_rfl) (fun _ _ => by kernel_rfl)
theorem noOwnUnsafe : Tryz.pinned.checked.prog.headLifts.contains "ownunsafe" = false := by kernel_rfl
theorem tie : Tryz.prog.laidByTextLater [("intaglio/keys.bounds", Rows.laid_intaglio_keys_bounds)] [.data] true :=
  Program.laidByTextLater.sub seatTie1 ["intaglio/keys.bounds"] (by kernel_rfl) (by kernel_rfl)
theorem boxForged_row_tie : Rows.boxForgedRow.laidByTextAt .later Tryz.pinned [.data] true :=
  OpenClaim.laidByTextAt_later rfl rfl tie noOwnUnsafe
theorem boxMarked_row_tie : Rows.boxMarkedRow.laidByTextAt .later Tryz.pinned [.data] true :=
  OpenClaim.laidByTextAt_later rfl rfl tie noOwnUnsafe
theorem boxNobody_row_tie : Rows.boxNobodyRow.laidByTextAt .later Tryz.pinned [.data] true :=
  OpenClaim.laidByTextAt_later rfl rfl tie noOwnUnsafe
theorem tie2 : Tryz.prog.laidByTextLater [("intaglio/chacha.head", Rows.laid_intaglio_chacha_head), ("intaglio/chacha.quarters", Rows.laid_intaglio_chacha_quarters), ("intaglio/sha.start", Rows.laid_intaglio_sha_start), ("intaglio/sha.roots", Rows.laid_intaglio_sha_roots), ("intaglio/keys.bounds", Rows.laid_intaglio_keys_bounds)] [.data, .data, .data, .data, .data] true :=
  Program.laidByTextLater.sub seatTie1 ["intaglio/chacha.head", "intaglio/chacha.quarters", "intaglio/sha.start", "intaglio/sha.roots", "intaglio/keys.bounds"] (by kernel_rfl) (by kernel_rfl)
theorem boxReal_row_tie : Rows.boxRealRow.laidByTextAt .later Tryz.pinned [.data, .data, .data, .data, .data] true :=
  OpenClaim.laidByTextAt_later rfl rfl tie2 noOwnUnsafe
theorem boxForgedUpto_row_tie : Rows.boxForgedUptoRow.laidByTextAt .later Tryz.pinned [.data] true :=
  OpenClaim.laidByTextAt_later rfl rfl tie noOwnUnsafe
theorem boxMarkedUpto_row_tie : Rows.boxMarkedUptoRow.laidByTextAt .later Tryz.pinned [.data] true :=
  OpenClaim.laidByTextAt_later rfl rfl tie noOwnUnsafe
theorem boxRealUpto_row_tie : Rows.boxRealUptoRow.laidByTextAt .later Tryz.pinned [.data, .data, .data, .data, .data] true :=
  OpenClaim.laidByTextAt_later rfl rfl tie2 noOwnUnsafe
theorem boxNobodyUpto_row_tie : Rows.boxNobodyUptoRow.laidByTextAt .later Tryz.pinned [.data] true :=
  OpenClaim.laidByTextAt_later rfl rfl tie noOwnUnsafe
end Go.Proofs.YtooooncmjhcdbaaGreatDoor
