/-
  NARROWER THAN 'FOR EVERY INPUT', by the rows' own cells (each row's printed sentence says how): TextTells: laid · TextBack: laid · TextOnly: laid · TextMany: laid.
  DERIVED. THE GIVEN ROWS OF THIS SEAT. 4 by the template 'for every input the law returns true; each argument reads behind the call as it read before'; 0 by the template 'total and deterministic' (their statements: YtdcbafddnegpaaaDoorTotals.lean).
  GIVEN WITH THE SEED: the statements are not yours to turn. If you find one false, say at which input.
  Laid BY PROGRAM, IN A SANDBOX (cutbox-rows.mjs): the forced cells as the released guide's own fill.sh prints them over the translation e0c2ca7ea2586be4… (all of the seat's roots in one cut). By AI agents, Wed Nov 11 2026. No macro, syntax, notation, axiom, sorry.
-/
import Derived.Test.YtdcbafddnegpaaaDoorChecked
import GoSem.Claim
import GoSem.ClaimJoined
import GoSem.ClaimMapViews
import Derived.JoinedTies
import Derived.KernelRfl
namespace Go.Proofs.YtdcbafddnegpaaaDoor
/- THE CELL 'sum', in the pinned program and in every row, IS THE sha256 OF THE DUMP (.gsa) THAT YtdcbafddnegpaaaDoorProg.lean LOADS. Nothing in Lean hashes anything: it is a label: what it is worth is what the hold of that sum in a sandbox is worth. -/
noncomputable def Tryd.pinned : Pinned := { name := "ytdcbafddnegpaaadoor", sum := "e0c2ca7ea2586be408f70c041cd7698c07e74b9452c8d064a954b0b638abea14", checked := Tryd.checked }
namespace Rows
def none {H : Type} : Left H := { results := [], args := [] }

/- WHAT THE LISTED PACKAGE-LEVEL VARIABLES READ AS WHEN THE CALL BEGINS. Each datum BY PROGRAM (the guide's laid-datum.mjs) off the statement by which the dump's own 'gosem.cut.vars' lays the variable. In a bare row this is a premise. The card (YtdcbafddnegpaaaDoorCards.lean) ties it to the program's text. -/
def laid_causey_huff_rows {H : Type} : DataW H := .agg [.agg [.lit (.int .i64 5), .lit (.int .i64 0), .lit (.string [45, 47, 48, 49, 50, 51, 97, 99, 101, 105, 110, 111, 114, 115, 116, 117])], .agg [.lit (.int .i64 6), .lit (.int .i64 32), .lit (.string [46, 52, 53, 54, 55, 56, 57, 58, 98, 100, 102, 103, 104, 108, 109, 112])], .agg [.lit (.int .i64 7), .lit (.int .i64 96), .lit (.string [65, 66, 67, 68, 69, 70, 71, 72, 106, 107, 113, 118, 119, 120, 121, 122])], .agg [.lit (.int .i64 11), .lit (.int .i64 1792), .lit (.string [0, 1, 2, 3, 4, 5, 6, 7, 8, 9, 10, 11, 12, 13, 14, 15, 16, 17, 18, 19, 20, 21, 22, 23, 24, 25, 26, 27, 28, 29, 30, 31, 32, 33, 34, 35, 36, 37, 38, 39, 40, 41, 42, 43, 44, 59, 60, 61, 62, 63, 64, 73, 74, 75, 76, 77, 78, 79, 80, 81, 82, 83, 84, 85, 86, 87, 88, 89, 90, 91, 92, 93, 94, 95, 96, 123, 124, 125, 126, 127, 128, 129, 130, 131, 132, 133, 134, 135, 136, 137, 138, 139, 140, 141, 142, 143, 144, 145, 146, 147, 148, 149, 150, 151, 152, 153, 154, 155, 156, 157, 158, 159, 160, 161, 162, 163, 164, 165, 166, 167, 168, 169, 170, 171, 172, 173, 174, 175, 176, 177, 178, 179, 180, 181, 182, 183, 184, 185, 186, 187, 188, 189, 190, 191, 192, 193, 194, 195, 196, 197, 198, 199, 200, 201, 202, 203, 204, 205, 206, 207, 208, 209, 210, 211, 212, 213, 214, 215, 216, 217, 218, 219, 220, 221, 222, 223, 224, 225, 226, 227, 228, 229, 230, 231, 232, 233, 234, 235, 236, 237, 238, 239, 240, 241, 242, 243, 244, 245, 246, 247, 248, 249, 250, 251, 252, 253, 254, 255])]]

/-- 'causeylaw08.TextTells': WHATEVER THE INPUT: true; the input reads as it did. -/
def textTellsSpec : ChangeSpec := { name := "textTells", fn := fun _ => fun
  | [d1, d2] => { results := [.lit (.bool true)], args := [d1, d2] }
  | _ => none }
def textTellsRow : OpenClaim := { program := "ytdcbafddnegpaaadoor", sum := "e0c2ca7ea2586be408f70c041cd7698c07e74b9452c8d064a954b0b638abea14", func := "causey/causeylaw08.TextTells", spec := "textTells", inPlace := ["internal/bytealg.IndexByteString"], unfollowed := true, recurses := true, named := ["causey/huff.rows"], plainKeys := false, apart := false, laid := [("causey/huff.rows", laid_causey_huff_rows)] }
def TextTellsSaid : Prop := textTellsRow.holds Tryd.pinned (OpenSpec.ofChange textTellsSpec)

/-- ITS FALSE NEIGHBOUR: 'it returns false'. Refute it at one input. -/
def textTellsWrong : ChangeSpec := { name := "textTells", fn := fun _ => fun
  | [d1, d2] => { results := [.lit (.bool false)], args := [d1, d2] }
  | _ => none }
def TextTellsWrongFalsely : Prop := textTellsRow.holds Tryd.pinned (OpenSpec.ofChange textTellsWrong)

/-- 'causeylaw08.TextBack': WHATEVER THE INPUT: true; the input reads as it did. -/
def textBackSpec : ChangeSpec := { name := "textBack", fn := fun _ => fun
  | [d1, d2] => { results := [.lit (.bool true)], args := [d1, d2] }
  | _ => none }
def textBackRow : OpenClaim := { program := "ytdcbafddnegpaaadoor", sum := "e0c2ca7ea2586be408f70c041cd7698c07e74b9452c8d064a954b0b638abea14", func := "causey/causeylaw08.TextBack", spec := "textBack", inPlace := ["internal/bytealg.IndexByteString"], unfollowed := true, recurses := true, named := ["causey/huff.rows"], plainKeys := false, apart := false, laid := [("causey/huff.rows", laid_causey_huff_rows)] }
def TextBackSaid : Prop := textBackRow.holds Tryd.pinned (OpenSpec.ofChange textBackSpec)

/-- ITS FALSE NEIGHBOUR: 'it returns false'. Refute it at one input. -/
def textBackWrong : ChangeSpec := { name := "textBack", fn := fun _ => fun
  | [d1, d2] => { results := [.lit (.bool false)], args := [d1, d2] }
  | _ => none }
def TextBackWrongFalsely : Prop := textBackRow.holds Tryd.pinned (OpenSpec.ofChange textBackWrong)

/-- 'causeylaw08.TextOnly': WHATEVER THE INPUT: true; the input reads as it did. -/
def textOnlySpec : ChangeSpec := { name := "textOnly", fn := fun _ => fun
  | [d] => { results := [.lit (.bool true)], args := [d] }
  | _ => none }
def textOnlyRow : OpenClaim := { program := "ytdcbafddnegpaaadoor", sum := "e0c2ca7ea2586be408f70c041cd7698c07e74b9452c8d064a954b0b638abea14", func := "causey/causeylaw08.TextOnly", spec := "textOnly", inPlace := ["internal/bytealg.IndexByteString"], unfollowed := true, recurses := true, named := ["causey/huff.rows"], plainKeys := false, apart := false, laid := [("causey/huff.rows", laid_causey_huff_rows)] }
def TextOnlySaid : Prop := textOnlyRow.holds Tryd.pinned (OpenSpec.ofChange textOnlySpec)

/-- ITS FALSE NEIGHBOUR: 'it returns false'. Refute it at one input. -/
def textOnlyWrong : ChangeSpec := { name := "textOnly", fn := fun _ => fun
  | [d] => { results := [.lit (.bool false)], args := [d] }
  | _ => none }
def TextOnlyWrongFalsely : Prop := textOnlyRow.holds Tryd.pinned (OpenSpec.ofChange textOnlyWrong)

/-- 'causeylaw08.TextMany': WHATEVER THE INPUT: true; the input reads as it did. -/
def textManySpec : ChangeSpec := { name := "textMany", fn := fun _ => fun
  | [d1, d2] => { results := [.lit (.bool true)], args := [d1, d2] }
  | _ => none }
def textManyRow : OpenClaim := { program := "ytdcbafddnegpaaadoor", sum := "e0c2ca7ea2586be408f70c041cd7698c07e74b9452c8d064a954b0b638abea14", func := "causey/causeylaw08.TextMany", spec := "textMany", inPlace := ["internal/bytealg.IndexByteString"], unfollowed := true, recurses := true, named := ["causey/huff.rows"], plainKeys := false, apart := false, laid := [("causey/huff.rows", laid_causey_huff_rows)] }
def TextManySaid : Prop := textManyRow.holds Tryd.pinned (OpenSpec.ofChange textManySpec)

/-- ITS FALSE NEIGHBOUR: 'it returns false'. Refute it at one input. -/
def textManyWrong : ChangeSpec := { name := "textMany", fn := fun _ => fun
  | [d1, d2] => { results := [.lit (.bool false)], args := [d1, d2] }
  | _ => none }
def TextManyWrongFalsely : Prop := textManyRow.holds Tryd.pinned (OpenSpec.ofChange textManyWrong)

/- THE SECOND FORM. 'bulk': how many values and letters a reading holds, each counted each time it is reached (what is shared counts as often as it is met; a slice's spare places count too). A statement '..UptoSaid' is the law's where the arguments, and the package variables that the reading takes, are together of bulk at most 1048576: NARROWER than '..Said'. Prove '..Said' where nothing that the law and all that it calls make is longer than what came in: it says more and counts as full. Else prove '..UptoSaid'. A law counts once. -/
mutual
def uptoBulk {H : Type} : DataW H → Nat
  | .lit (.string bytes) => bytes.length + 1
  | .lit _ => 1
  | .nil => 1
  | .ptr d => uptoBulk d + 1
  | .slice elems spare => uptoBulkAll elems + uptoBulkAll spare + 1
  | .agg parts => uptoBulkAll parts + 1
  | .iface _ d => uptoBulk d + 1
  | .map entries => uptoBulkEntries entries + 1
  | .held _ => 1
def uptoBulkAll {H : Type} : List (DataW H) → Nat
  | [] => 0
  | d :: r => uptoBulk d + uptoBulkAll r
def uptoBulkEntries {H : Type} : List (Lit × DataW H) → Nat
  | [] => 0
  | x :: r => uptoBulkEntry x + uptoBulkEntries r
def uptoBulkEntry {H : Type} : Lit × DataW H → Nat
  | (.string bytes, d) => bytes.length + uptoBulk d + 1
  | (_, d) => uptoBulk d + 1
 end
def uptoSmall : (H : Type) → List (DataW H) → Bool := fun _ ds => decide (uptoBulkAll ds ≤ 1048576)
def OpenSpec.upto (s : _root_.Go.ChangeSpec) : _root_.Go.OpenSpec := { _root_.Go.OpenSpec.ofChange s with cond := some uptoSmall }

/-- 'causeylaw08.TextTells', WHERE WHAT IT READS IS OF BULK AT MOST 1048576: true; the input reads as it did. -/
def textTellsUptoRow : OpenClaim := { program := "ytdcbafddnegpaaadoor", sum := "e0c2ca7ea2586be408f70c041cd7698c07e74b9452c8d064a954b0b638abea14", func := "causey/causeylaw08.TextTells", spec := "textTells", inPlace := ["internal/bytealg.IndexByteString"], unfollowed := true, recurses := true, named := ["causey/huff.rows"], plainKeys := false, apart := false, laid := [("causey/huff.rows", laid_causey_huff_rows)], narrowed := true }
def TextTellsUptoSaid : Prop := textTellsUptoRow.holds Tryd.pinned (OpenSpec.upto textTellsSpec)

/-- 'causeylaw08.TextBack', WHERE WHAT IT READS IS OF BULK AT MOST 1048576: true; the input reads as it did. -/
def textBackUptoRow : OpenClaim := { program := "ytdcbafddnegpaaadoor", sum := "e0c2ca7ea2586be408f70c041cd7698c07e74b9452c8d064a954b0b638abea14", func := "causey/causeylaw08.TextBack", spec := "textBack", inPlace := ["internal/bytealg.IndexByteString"], unfollowed := true, recurses := true, named := ["causey/huff.rows"], plainKeys := false, apart := false, laid := [("causey/huff.rows", laid_causey_huff_rows)], narrowed := true }
def TextBackUptoSaid : Prop := textBackUptoRow.holds Tryd.pinned (OpenSpec.upto textBackSpec)

/-- 'causeylaw08.TextOnly', WHERE WHAT IT READS IS OF BULK AT MOST 1048576: true; the input reads as it did. -/
def textOnlyUptoRow : OpenClaim := { program := "ytdcbafddnegpaaadoor", sum := "e0c2ca7ea2586be408f70c041cd7698c07e74b9452c8d064a954b0b638abea14", func := "causey/causeylaw08.TextOnly", spec := "textOnly", inPlace := ["internal/bytealg.IndexByteString"], unfollowed := true, recurses := true, named := ["causey/huff.rows"], plainKeys := false, apart := false, laid := [("causey/huff.rows", laid_causey_huff_rows)], narrowed := true }
def TextOnlyUptoSaid : Prop := textOnlyUptoRow.holds Tryd.pinned (OpenSpec.upto textOnlySpec)

/-- 'causeylaw08.TextMany', WHERE WHAT IT READS IS OF BULK AT MOST 1048576: true; the input reads as it did. -/
def textManyUptoRow : OpenClaim := { program := "ytdcbafddnegpaaadoor", sum := "e0c2ca7ea2586be408f70c041cd7698c07e74b9452c8d064a954b0b638abea14", func := "causey/causeylaw08.TextMany", spec := "textMany", inPlace := ["internal/bytealg.IndexByteString"], unfollowed := true, recurses := true, named := ["causey/huff.rows"], plainKeys := false, apart := false, laid := [("causey/huff.rows", laid_causey_huff_rows)], narrowed := true }
def TextManyUptoSaid : Prop := textManyUptoRow.holds Tryd.pinned (OpenSpec.upto textManySpec)

end Rows
end Go.Proofs.YtdcbafddnegpaaaDoor
