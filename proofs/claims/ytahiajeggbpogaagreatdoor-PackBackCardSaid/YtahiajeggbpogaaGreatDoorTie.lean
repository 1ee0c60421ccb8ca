/-
  DERIVED. GIVEN WITH THE SEED: THE PROGRAM's TIES (one call each: nine closed facts by the kernel) AND EACH ROW's TIE, after the 31st guide's Derived/Test/Toyas{Tie, Card}.lean. No idea stands in it: it is a product of the set-up. Laid BY PROGRAM, IN A SANDBOX (cutbox-door.mjs). By AI agents, Wed Nov 11 2026. No macro, syntax, notation, axiom, sorry.
-/
import Derived.Test.YtahiajeggbpogaaGreatDoorRows
import Derived.LaidByTextLater
import Derived.SevenTiedAt
import Derived.LaidSub
import Derived.LaidOnce
namespace Go.Proofs.YtahiajeggbpogaaGreatDoor
open Go
set_option maxRecDepth 100000
theorem seatTie1 : Tryz.prog.laidByTextLater [("causey/table.static", Rows.laid_causey_table_static), ("causey/huff.rows", Rows.laid_causey_huff_rows), ("causey/unpack.markIndexed", Rows.laid_causey_unpack_markIndexed), ("causey/unpack.markAdded", Rows.laid_causey_unpack_markAdded), ("causey/unpack.markSize", Rows.laid_causey_unpack_markSize), ("causey/unpack.markSecret", Rows.laid_causey_unpack_markSecret), ("causey/unpack.markPlain", Rows.laid_causey_unpack_markPlain)] [.data, .data, .wider, .data, .wider, .data, .data] true :=
  Program.laidByTextLater_by_one 68 8 41 (by kernel_rfl) (by kernel_rfl) (by kernel_rfl) (by kernel_rfl) (by kernel_rfl) (by kernel_rfl) (fun _ _ => by kernel_rfl)
theorem noOwnUnsafe : Tryz.pinned.checked.prog.headLifts.contains "ownunsafe" = false := by kernel_rfl
theorem tie : Tryz.prog.laidByTextLater [("causey/table.static", Rows.laid_causey_table_static), ("causey/huff.rows", Rows.laid_causey_huff_rows), ("causey/unpack.markIndexed", Rows.laid_causey_unpack_markIndexed), ("causey/unpack.markAdded", Rows.laid_causey_unpack_markAdded), ("causey/unpack.markSize", Rows.laid_causey_unpack_markSize), ("causey/unpack.markSecret", Rows.laid_causey_unpack_markSecret), ("causey/unpack.markPlain", Rows.laid_causey_unpack_markPlain)] [.data, .data, .wider, .data, .wider, .data, .data] true :=
  Program.laidByTextLater.sub seatTie1 ["causey/table.static", "causey/huff.rows", "causey/unpack.markIndexed", "causey/unpack.markAdded", "causey/unpack.markSize", "causey/unpack.markSecret", "causey/unpack.markPlain"] (by kernel_rfl) (by kernel_rfl)
theorem unpackTells_row_tie : Rows.unpackTellsRow.laidByTextAt .later Tryz.pinned [.data, .data, .wider, .data, .wider, .data, .data] true :=
  OpenClaim.laidByTextAt_later rfl rfl tie noOwnUnsafe
theorem packTells_row_tie : Rows.packTellsRow.laidByTextAt .later Tryz.pinned [.data, .data, .wider, .data, .wider, .data, .data] true :=
  OpenClaim.laidByTextAt_later rfl rfl tie noOwnUnsafe
theorem packBack_row_tie : Rows.packBackRow.laidByTextAt .later Tryz.pinned [.data, .data, .wider, .data, .wider, .data, .data] true :=
  OpenClaim.laidByTextAt_later rfl rfl tie noOwnUnsafe
theorem unpackTellsUpto_row_tie : Rows.unpackTellsUptoRow.laidByTextAt .later Tryz.pinned [.data, .data, .wider, .data, .wider, .data, .data] true :=
  OpenClaim.laidByTextAt_later rfl rfl tie noOwnUnsafe
theorem packTellsUpto_row_tie : Rows.packTellsUptoRow.laidByTextAt .later Tryz.pinned [.data, .data, .wider, .data, .wider, .data, .data] true :=
  OpenClaim.laidByTextAt_later rfl rfl tie noOwnUnsafe
theorem packBackUpto_row_tie : Rows.packBackUptoRow.laidByTextAt .later Tryz.pinned [.data, .data, .wider, .data, .wider, .data, .data] true :=
  OpenClaim.laidByTextAt_later rfl rfl tie noOwnUnsafe
end Go.Proofs.YtahiajeggbpogaaGreatDoor
