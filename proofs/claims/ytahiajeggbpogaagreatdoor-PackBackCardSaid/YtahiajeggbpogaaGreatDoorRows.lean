/-
  NARROWER THAN 'FOR EVERY INPUT', by the rows' own cells (each row's printed sentence says how): UnpackTells: laid · PackTells: laid · PackBack: laid.
  DERIVED. THE GIVEN ROWS OF THIS SEAT. 3 by the template 'for every input the law returns true; each argument reads behind the call as it read before'; 0 by the template 'total and deterministic' (their statements: YtahiajeggbpogaaGreatDoorTotals.lean).
  GIVEN WITH THE SEED: the statements are not yours to turn. If you find one false, say at which input.
  Laid BY PROGRAM, IN A SANDBOX (cutbox-rows.mjs): the forced cells as the released guide's own fill.sh prints them over the translation 01ed4a36df8d2d9b… (all of the seat's roots in one cut). By AI agents, Wed Nov 11 2026. No macro, syntax, notation, axiom, sorry.
-/
import Derived.Test.YtahiajeggbpogaaGreatDoorChecked
import GoSem.Claim
import GoSem.ClaimJoined
import GoSem.ClaimMapViews
import Derived.JoinedTies
import Derived.KernelRfl
namespace Go.Proofs.YtahiajeggbpogaaGreatDoor
/- THE CELL 'sum', in the pinned program and in every row, IS THE sha256 OF THE DUMP (.gsa) THAT YtahiajeggbpogaaGreatDoorProg.lean LOADS. Nothing in Lean hashes anything: it is a label: what it is worth is what the hold of that sum in a sandbox is worth. -/
noncomputable def Tryz.pinned : Pinned := { name := "ytahiajeggbpogaagreatdoor", sum := "01ed4a36df8d2d9b9f78ba8a8ee0ce9c608a5463548a583fddea81a37ee51d45", checked := Tryz.checked }
namespace Rows
def none {H : Type} : Left H := { results := [], args := [] }

/- WHAT THE LISTED PACKAGE-LEVEL VARIABLES READ AS WHEN THE CALL BEGINS. Each datum BY PROGRAM (the guide's laid-datum.mjs) off the statement by which the dump's own 'gosem.cut.vars' lays the variable. In a bare row this is a premise. The card (YtahiajeggbpogaaGreatDoorCards.lean) ties it to the program's text. -/
def laid_causey_table_static {H : Type} : DataW H := .agg [.agg [.lit (.string [58, 109, 101, 116, 104, 111, 100]), .lit (.string [71, 69, 84])], .agg [.lit (.string [58, 109, 101, 116, 104, 111, 100]), .lit (.string [80, 79, 83, 84])], .agg [.lit (.string [58, 112, 97, 116, 104]), .lit (.string [47])], .agg [.lit (.string [58, 115, 99, 104, 101, 109, 101]), .lit (.string [104, 116, 116, 112])], .agg [.lit (.string [58, 115, 99, 104, 101, 109, 101]), .lit (.string [104, 116, 116, 112, 115])], .agg [.lit (.string [58, 115, 116, 97, 116, 117, 115]), .lit (.string [50, 48, 48])], .agg [.lit (.string [58, 115, 116, 97, 116, 117, 115]), .lit (.string [50, 48, 52])], .agg [.lit (.string [58, 115, 116, 97, 116, 117, 115]), .lit (.string [52, 48, 52])], .agg [.lit (.string [58, 115, 116, 97, 116, 117, 115]), .lit (.string [53, 48, 48])], .agg [.lit (.string [97, 99, 99, 101, 112, 116]), .lit (.string [])], .agg [.lit (.string [99, 111, 110, 116, 101, 110, 116, 45, 108, 101, 110, 103, 116, 104]), .lit (.string [])], .agg [.lit (.string [99, 111, 110, 116, 101, 110, 116, 45, 116, 121, 112, 101]), .lit (.string [])], .agg [.lit (.string [99, 111, 111, 107, 105, 101]), .lit (.string [])], .agg [.lit (.string [100, 97, 116, 101]), .lit (.string [])], .agg [.lit (.string [104, 111, 115, 116]), .lit (.string [])], .agg [.lit (.string [108, 111, 99, 97, 116, 105, 111, 110]), .lit (.string [])], .agg [.lit (.string [112, 114, 105, 111, 114, 105, 116, 121]), .lit (.string [])], .agg [.lit (.string [112, 114, 105, 111, 114, 105, 116, 121]), .lit (.string [117, 61, 49])], .agg [.lit (.string [115, 101, 114, 118, 101, 114]), .lit (.string [])], .agg [.lit (.string [117, 115, 101, 114, 45, 97, 103, 101, 110, 116]), .lit (.string [])]]
def laid_causey_huff_rows {H : Type} : DataW H := .agg [.agg [.lit (.int .i64 5), .lit (.int .i64 0), .lit (.string [45, 47, 48, 49, 50, 51, 97, 99, 101, 105, 110, 111, 114, 115, 116, 117])], .agg [.lit (.int .i64 6), .lit (.int .i64 32), .lit (.string [46, 52, 53, 54, 55, 56, 57, 58, 98, 100, 102, 103, 104, 108, 109, 112])], .agg [.lit (.int .i64 7), .lit (.int .i64 96), .lit (.string [65, 66, 67, 68, 69, 70, 71, 72, 106, 107, 113, 118, 119, 120, 121, 122])], .agg [.lit (.int .i64 11), .lit (.int .i64 1792), .lit (.string [0, 1, 2, 3, 4, 5, 6, 7, 8, 9, 10, 11, 12, 13, 14, 15, 16, 17, 18, 19, 20, 21, 22, 23, 24, 25, 26, 27, 28, 29, 30, 31, 32, 33, 34, 35, 36, 37, 38, 39, 40, 41, 42, 43, 44, 59, 60, 61, 62, 63, 64, 73, 74, 75, 76, 77, 78, 79, 80, 81, 82, 83, 84, 85, 86, 87, 88, 89, 90, 91, 92, 93, 94, 95, 96, 123, 124, 125, 126, 127, 128, 129, 130, 131, 132, 133, 134, 135, 136, 137, 138, 139, 140, 141, 142, 143, 144, 145, 146, 147, 148, 149, 150, 151, 152, 153, 154, 155, 156, 157, 158, 159, 160, 161, 162, 163, 164, 165, 166, 167, 168, 169, 170, 171, 172, 173, 174, 175, 176, 177, 178, 179, 180, 181, 182, 183, 184, 185, 186, 187, 188, 189, 190, 191, 192, 193, 194, 195, 196, 197, 198, 199, 200, 201, 202, 203, 204, 205, 206, 207, 208, 209, 210, 211, 212, 213, 214, 215, 216, 217, 218, 219, 220, 221, 222, 223, 224, 225, 226, 227, 228, 229, 230, 231, 232, 233, 234, 235, 236, 237, 238, 239, 240, 241, 242, 243, 244, 245, 246, 247, 248, 249, 250, 251, 252, 253, 254, 255])]]
def laid_causey_unpack_markIndexed {H : Type} : DataW H := .agg [.lit (.int .u8 1), .lit (.int .u8 1)]
def laid_causey_unpack_markAdded {H : Type} : DataW H := .agg [.lit (.int .u8 2), .lit (.int .u8 1)]
def laid_causey_unpack_markSize {H : Type} : DataW H := .agg [.lit (.int .u8 3), .lit (.int .u8 1)]
def laid_causey_unpack_markSecret {H : Type} : DataW H := .agg [.lit (.int .u8 4), .lit (.int .u8 1)]
def laid_causey_unpack_markPlain {H : Type} : DataW H := .agg [.lit (.int .u8 4), .lit (.int .u8 0)]

/-- 'causeylaw10.UnpackTells': WHATEVER THE INPUT: true; the input reads as it did. -/
def unpackTellsSpec : ChangeSpec := { name := "unpackTells", fn := fun _ => fun
  | [d1, d2, d3, d4, d5, d6, d7] => { results := [.lit (.bool true)], args := [d1, d2, d3, d4, d5, d6, d7] }
  | _ => none }
def unpackTellsRow : OpenClaim := { program := "ytahiajeggbpogaagreatdoor", sum := "01ed4a36df8d2d9b9f78ba8a8ee0ce9c608a5463548a583fddea81a37ee51d45", func := "causey/causeylaw10.UnpackTells", spec := "unpackTells", inPlace := ["internal/bytealg.IndexByteString"], unfollowed := true, recurses := true, named := ["causey/unpack.markIndexed", "causey/unpack.markAdded", "causey/unpack.markSize", "causey/unpack.markSecret", "causey/unpack.markPlain", "causey/table.static", "causey/huff.rows"], plainKeys := false, apart := false, laid := [("causey/table.static", laid_causey_table_static), ("causey/huff.rows", laid_causey_huff_rows), ("causey/unpack.markIndexed", laid_causey_unpack_markIndexed), ("causey/unpack.markAdded", laid_causey_unpack_markAdded), ("causey/unpack.markSize", laid_causey_unpack_markSize), ("causey/unpack.markSecret", laid_causey_unpack_markSecret), ("causey/unpack.markPlain", laid_causey_unpack_markPlain)] }
def UnpackTellsSaid : Prop := unpackTellsRow.holds Tryz.pinned (OpenSpec.ofChange unpackTellsSpec)

/-- ITS FALSE NEIGHBOUR: 'it returns false'. Refute it at one input. -/
def unpackTellsWrong : ChangeSpec := { name := "unpackTells", fn := fun _ => fun
  | [d1, d2, d3, d4, d5, d6, d7] => { results := [.lit (.bool false)], args := [d1, d2, d3, d4, d5, d6, d7] }
  | _ => none }
def UnpackTellsWrongFalsely : Prop := unpackTellsRow.holds Tryz.pinned (OpenSpec.ofChange unpackTellsWrong)

/-- 'causeylaw11.PackTells': WHATEVER THE INPUT: true; the input reads as it did. -/
def packTellsSpec : ChangeSpec := { name := "packTells", fn := fun _ => fun
  | [d1, d2, d3, d4] => { results := [.lit (.bool true)], args := [d1, d2, d3, d4] }
  | _ => none }
def packTellsRow : OpenClaim := { program := "ytahiajeggbpogaagreatdoor", sum := "01ed4a36df8d2d9b9f78ba8a8ee0ce9c608a5463548a583fddea81a37ee51d45", func := "causey/causeylaw11.PackTells", spec := "packTells", inPlace := ["internal/bytealg.IndexByteString"], unfollowed := true, recurses := true, named := ["causey/table.static", "causey/unpack.markIndexed", "causey/unpack.markAdded", "causey/unpack.markSecret", "causey/unpack.markPlain", "causey/huff.rows", "causey/unpack.markSize"], plainKeys := false, apart := false, laid := [("causey/table.static", laid_causey_table_static), ("causey/huff.rows", laid_causey_huff_rows), ("causey/unpack.markIndexed", laid_causey_unpack_markIndexed), ("causey/unpack.markAdded", laid_causey_unpack_markAdded), ("causey/unpack.markSize", laid_causey_unpack_markSize), ("causey/unpack.markSecret", laid_causey_unpack_markSecret), ("causey/unpack.markPlain", laid_causey_unpack_markPlain)] }
def PackTellsSaid : Prop := packTellsRow.holds Tryz.pinned (OpenSpec.ofChange packTellsSpec)

/-- ITS FALSE NEIGHBOUR: 'it returns false'. Refute it at one input. -/
def packTellsWrong : ChangeSpec := { name := "packTells", fn := fun _ => fun
  | [d1, d2, d3, d4] => { results := [.lit (.bool false)], args := [d1, d2, d3, d4] }
  | _ => none }
def PackTellsWrongFalsely : Prop := packTellsRow.holds Tryz.pinned (OpenSpec.ofChange packTellsWrong)

/-- 'causeylaw11.PackBack': WHATEVER THE INPUT: true; the input reads as it did. -/
def packBackSpec : ChangeSpec := { name := "packBack", fn := fun _ => fun
  | [d1, d2, d3] => { results := [.lit (.bool true)], args := [d1, d2, d3] }
  | _ => none }
def packBackRow : OpenClaim := { program := "ytahiajeggbpogaagreatdoor", sum := "01ed4a36df8d2d9b9f78ba8a8ee0ce9c608a5463548a583fddea81a37ee51d45", func := "causey/causeylaw11.PackBack", spec := "packBack", inPlace := ["internal/bytealg.IndexByteString"], unfollowed := true, recurses := true, named := ["causey/table.static", "causey/unpack.markIndexed", "causey/unpack.markAdded", "causey/unpack.markSecret", "causey/unpack.markPlain", "causey/huff.rows", "causey/unpack.markSize"], plainKeys := false, apart := false, laid := [("causey/table.static", laid_causey_table_static), ("causey/huff.rows", laid_causey_huff_rows), ("causey/unpack.markIndexed", laid_causey_unpack_markIndexed), ("causey/unpack.markAdded", laid_causey_unpack_markAdded), ("causey/unpack.markSize", laid_causey_unpack_markSize), ("causey/unpack.markSecret", laid_causey_unpack_markSecret), ("causey/unpack.markPlain", laid_causey_unpack_markPlain)] }
def PackBackSaid : Prop := packBackRow.holds Tryz.pinned (OpenSpec.ofChange packBackSpec)

/-- ITS FALSE NEIGHBOUR: 'it returns false'. Refute it at one input. -/
def packBackWrong : ChangeSpec := { name := "packBack", fn := fun _ => fun
  | [d1, d2, d3] => { results := [.lit (.bool false)], args := [d1, d2, d3] }
  | _ => none }
def PackBackWrongFalsely : Prop := packBackRow.holds Tryz.pinned (OpenSpec.ofChange packBackWrong)

/- THE SECOND FORM. 'bulk': how many values and letters a reading holds, each counted each time it is reached (what is shared counts as often as it is met; a slice's spare places count too). A statement '..UptoSaid' is the law's where the arguments, and the package variables that the reading takes, are together of bulk at most 1048576: NARROWER than '..Said'. Prove '..Said' where nothing that the law and all that it calls make is longer than what came in: it says more and counts as full. Else prove '..UptoSaid'. A law counts once. -/
mutual
def uptoBulk {H : Type} : DataW H → Nat
  | .lit (.string bytes) => bytes.length + 1
  | .lit _ => 1
  | .nil => 1
  | .ptr d => uptoBulk d + 1
  | .slice elems spare => uptoBulkAll elems + uptoBulkAll spare + 1
  | .agg parts => uptoBulkAll parts + 1
  | .iface _ d => uptoBulk d + 1
  | .map entries => uptoBulkEntries entries + 1
  | .held _ => 1
def uptoBulkAll {H : Type} : List (DataW H) → Nat
  | [] => 0
  | d :: r => uptoBulk d + uptoBulkAll r
def uptoBulkEntries {H : Type} : List (Lit × DataW H) → Nat
  | [] => 0
  | x :: r => uptoBulkEntry x + uptoBulkEntries r
def uptoBulkEntry {H : Type} : Lit × DataW H → Nat
  | (.string bytes, d) => bytes.length + uptoBulk d + 1
  | (_, d) => uptoBulk d + 1
 end
def uptoSmall : (H : Type) → List (DataW H) → Bool := fun _ ds => decide (uptoBulkAll ds ≤ 1048576)
def OpenSpec.upto (s : _root_.Go.ChangeSpec) : _root_.Go.OpenSpec := { _root_.Go.OpenSpec.ofChange s with cond := some uptoSmall }

/-- 'causeylaw10.UnpackTells', WHERE WHAT IT READS IS OF BULK AT MOST 1048576: true; the input reads as it did. -/
def unpackTellsUptoRow : OpenClaim := { program := "ytahiajeggbpogaagreatdoor", sum := "01ed4a36df8d2d9b9f78ba8a8ee0ce9c608a5463548a583fddea81a37ee51d45", func := "causey/causeylaw10.UnpackTells", spec := "unpackTells", inPlace := ["internal/bytealg.IndexByteString"], unfollowed := true, recurses := true, named := ["causey/unpack.markIndexed", "causey/unpack.markAdded", "causey/unpack.markSize", "causey/unpack.markSecret", "causey/unpack.markPlain", "causey/table.static", "causey/huff.rows"], plainKeys := false, apart := false, laid := [("causey/table.static", laid_causey_table_static), ("causey/huff.rows", laid_causey_huff_rows), ("causey/unpack.markIndexed", laid_causey_unpack_markIndexed), ("causey/unpack.markAdded", laid_causey_unpack_markAdded), ("causey/unpack.markSize", laid_causey_unpack_markSize), ("causey/unpack.markSecret", laid_causey_unpack_markSecret), ("causey/unpack.markPlain", laid_causey_unpack_markPlain)], narrowed := true }
def UnpackTellsUptoSaid : Prop := unpackTellsUptoRow.holds Tryz.pinned (OpenSpec.upto unpackTellsSpec)

/-- 'causeylaw11.PackTells', WHERE WHAT IT READS IS OF BULK AT MOST 1048576: true; the input reads as it did. -/
def packTellsUptoRow : OpenClaim := { program := "ytahiajeggbpogaagreatdoor", sum := "01ed4a36df8d2d9b9f78ba8a8ee0ce9c608a5463548a583fddea81a37ee51d45", func := "causey/causeylaw11.PackTells", spec := "packTells", inPlace := ["internal/bytealg.IndexByteString"], unfollowed := true, recurses := true, named := ["causey/table.static", "causey/unpack.markIndexed", "causey/unpack.markAdded", "causey/unpack.markSecret", "causey/unpack.markPlain", "causey/huff.rows", "causey/unpack.markSize"], plainKeys := false, apart := false, laid := [("causey/table.static", laid_causey_table_static), ("causey/huff.rows", laid_causey_huff_rows), ("causey/unpack.markIndexed", laid_causey_unpack_markIndexed), ("causey/unpack.markAdded", laid_causey_unpack_markAdded), ("causey/unpack.markSize", laid_causey_unpack_markSize), ("causey/unpack.markSecret", laid_causey_unpack_markSecret), ("causey/unpack.markPlain", laid_causey_unpack_markPlain)], narrowed := true }
def PackTellsUptoSaid : Prop := packTellsUptoRow.holds Tryz.pinned (OpenSpec.upto packTellsSpec)

/-- 'causeylaw11.PackBack', WHERE WHAT IT READS IS OF BULK AT MOST 1048576: true; the input reads as it did. -/
def packBackUptoRow : OpenClaim := { program := "ytahiajeggbpogaagreatdoor", sum := "01ed4a36df8d2d9b9f78ba8a8ee0ce9c608a5463548a583fddea81a37ee51d45", func := "causey/causeylaw11.PackBack", spec := "packBack", inPlace := ["internal/bytealg.IndexByteString"], unfollowed := true, recurses := true, named := ["causey/table.static", "causey/unpack.markIndexed", "causey/unpack.markAdded", "causey/unpack.markSecret", "causey/unpack.markPlain", "causey/huff.rows", "causey/unpack.markSize"], plainKeys := false, apart := false, laid := [("causey/table.static", laid_causey_table_static), ("causey/huff.rows", laid_causey_huff_rows), ("causey/unpack.markIndexed", laid_causey_unpack_markIndexed), ("causey/unpack.markAdded", laid_causey_unpack_markAdded), ("causey/unpack.markSize", laid_causey_unpack_markSize), ("causey/unpack.markSecret", laid_causey_unpack_markSecret), ("causey/unpack.markPlain", laid_causey_unpack_markPlain)], narrowed := true }
def PackBackUptoSaid : Prop := packBackUptoRow.holds Tryz.pinned (OpenSpec.upto packBackSpec)

end Rows
end Go.Proofs.YtahiajeggbpogaaGreatDoor
