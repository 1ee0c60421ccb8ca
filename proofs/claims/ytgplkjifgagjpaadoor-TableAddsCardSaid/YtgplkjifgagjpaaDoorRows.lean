/-
  NARROWER THAN 'FOR EVERY INPUT', by the rows' own cells (each row's printed sentence says how): TableTells: laid · TableAdds: laid · TableSizes: laid · TableFinds: laid · TableOwn: laid.
  DERIVED. THE GIVEN ROWS OF THIS SEAT. 5 by the template 'for every input the law returns true; each argument reads behind the call as it read before'; 0 by the template 'total and deterministic' (their statements: YtgplkjifgagjpaaDoorTotals.lean).
  GIVEN WITH THE SEED: the statements are not yours to turn. If you find one false, say at which input.
  Laid BY PROGRAM, IN A SANDBOX (cutbox-rows.mjs): the forced cells as the released guide's own fill.sh prints them over the translation 677414105407e334… (all of the seat's roots in one cut). By AI agents, Wed Nov 11 2026. No macro, syntax, notation, axiom, sorry.
-/
import Derived.Test.YtgplkjifgagjpaaDoorChecked
import GoSem.Claim
import GoSem.ClaimJoined
import GoSem.ClaimMapViews
import Derived.JoinedTies
import Derived.KernelRfl
namespace Go.Proofs.YtgplkjifgagjpaaDoor
/- THE CELL 'sum', in the pinned program and in every row, IS THE sha256 OF THE DUMP (.gsa) THAT YtgplkjifgagjpaaDoorProg.lean LOADS. Nothing in Lean hashes anything: it is a label: what it is worth is what the hold of that sum in a sandbox is worth. -/
noncomputable def Tryd.pinned : Pinned := { name := "ytgplkjifgagjpaadoor", sum := "677414105407e3349f5c6511c1e166f8b5f6cde1d91d0aa454cd68274ec7d8d7", checked := Tryd.checked }
namespace Rows
def none {H : Type} : Left H := { results := [], args := [] }

/- WHAT THE LISTED PACKAGE-LEVEL VARIABLES READ AS WHEN THE CALL BEGINS. Each datum BY PROGRAM (the guide's laid-datum.mjs) off the statement by which the dump's own 'gosem.cut.vars' lays the variable. In a bare row this is a premise. The card (YtgplkjifgagjpaaDoorCards.lean) ties it to the program's text. -/
def laid_causey_table_static {H : Type} : DataW H := .agg [.agg [.lit (.string [58, 109, 101, 116, 104, 111, 100]), .lit (.string [71, 69, 84])], .agg [.lit (.string [58, 109, 101, 116, 104, 111, 100]), .lit (.string [80, 79, 83, 84])], .agg [.lit (.string [58, 112, 97, 116, 104]), .lit (.string [47])], .agg [.lit (.string [58, 115, 99, 104, 101, 109, 101]), .lit (.string [104, 116, 116, 112])], .agg [.lit (.string [58, 115, 99, 104, 101, 109, 101]), .lit (.string [104, 116, 116, 112, 115])], .agg [.lit (.string [58, 115, 116, 97, 116, 117, 115]), .lit (.string [50, 48, 48])], .agg [.lit (.string [58, 115, 116, 97, 116, 117, 115]), .lit (.string [50, 48, 52])], .agg [.lit (.string [58, 115, 116, 97, 116, 117, 115]), .lit (.string [52, 48, 52])], .agg [.lit (.string [58, 115, 116, 97, 116, 117, 115]), .lit (.string [53, 48, 48])], .agg [.lit (.string [97, 99, 99, 101, 112, 116]), .lit (.string [])], .agg [.lit (.string [99, 111, 110, 116, 101, 110, 116, 45, 108, 101, 110, 103, 116, 104]), .lit (.string [])], .agg [.lit (.string [99, 111, 110, 116, 101, 110, 116, 45, 116, 121, 112, 101]), .lit (.string [])], .agg [.lit (.string [99, 111, 111, 107, 105, 101]), .lit (.string [])], .agg [.lit (.string [100, 97, 116, 101]), .lit (.string [])], .agg [.lit (.string [104, 111, 115, 116]), .lit (.string [])], .agg [.lit (.string [108, 111, 99, 97, 116, 105, 111, 110]), .lit (.string [])], .agg [.lit (.string [112, 114, 105, 111, 114, 105, 116, 121]), .lit (.string [])], .agg [.lit (.string [112, 114, 105, 111, 114, 105, 116, 121]), .lit (.string [117, 61, 49])], .agg [.lit (.string [115, 101, 114, 118, 101, 114]), .lit (.string [])], .agg [.lit (.string [117, 115, 101, 114, 45, 97, 103, 101, 110, 116]), .lit (.string [])]]

/-- 'causeylaw09.TableTells': WHATEVER THE INPUT: true; the input reads as it did. -/
def tableTellsSpec : ChangeSpec := { name := "tableTells", fn := fun _ => fun
  | [d1, d2, d3, d4, d5] => { results := [.lit (.bool true)], args := [d1, d2, d3, d4, d5] }
  | _ => none }
def tableTellsRow : OpenClaim := { program := "ytgplkjifgagjpaadoor", sum := "677414105407e3349f5c6511c1e166f8b5f6cde1d91d0aa454cd68274ec7d8d7", func := "causey/causeylaw09.TableTells", spec := "tableTells", unfollowed := true, recurses := true, named := ["causey/table.static"], plainKeys := false, apart := false, laid := [("causey/table.static", laid_causey_table_static)] }
def TableTellsSaid : Prop := tableTellsRow.holds Tryd.pinned (OpenSpec.ofChange tableTellsSpec)

/-- ITS FALSE NEIGHBOUR: 'it returns false'. Refute it at one input. -/
def tableTellsWrong : ChangeSpec := { name := "tableTells", fn := fun _ => fun
  | [d1, d2, d3, d4, d5] => { results := [.lit (.bool false)], args := [d1, d2, d3, d4, d5] }
  | _ => none }
def TableTellsWrongFalsely : Prop := tableTellsRow.holds Tryd.pinned (OpenSpec.ofChange tableTellsWrong)

/-- 'causeylaw09.TableAdds': WHATEVER THE INPUT: true; the input reads as it did. -/
def tableAddsSpec : ChangeSpec := { name := "tableAdds", fn := fun _ => fun
  | [d1, d2] => { results := [.lit (.bool true)], args := [d1, d2] }
  | _ => none }
def tableAddsRow : OpenClaim := { program := "ytgplkjifgagjpaadoor", sum := "677414105407e3349f5c6511c1e166f8b5f6cde1d91d0aa454cd68274ec7d8d7", func := "causey/causeylaw09.TableAdds", spec := "tableAdds", unfollowed := true, recurses := true, named := ["causey/table.static"], plainKeys := false, apart := false, laid := [("causey/table.static", laid_causey_table_static)] }
def TableAddsSaid : Prop := tableAddsRow.holds Tryd.pinned (OpenSpec.ofChange tableAddsSpec)

/-- ITS FALSE NEIGHBOUR: 'it returns false'. Refute it at one input. -/
def tableAddsWrong : ChangeSpec := { name := "tableAdds", fn := fun _ => fun
  | [d1, d2] => { results := [.lit (.bool false)], args := [d1, d2] }
  | _ => none }
def TableAddsWrongFalsely : Prop := tableAddsRow.holds Tryd.pinned (OpenSpec.ofChange tableAddsWrong)

/-- 'causeylaw09.TableSizes': WHATEVER THE INPUT: true; the input reads as it did. -/
def tableSizesSpec : ChangeSpec := { name := "tableSizes", fn := fun _ => fun
  | [d1, d2] => { results := [.lit (.bool true)], args := [d1, d2] }
  | _ => none }
def tableSizesRow : OpenClaim := { program := "ytgplkjifgagjpaadoor", sum := "677414105407e3349f5c6511c1e166f8b5f6cde1d91d0aa454cd68274ec7d8d7", func := "causey/causeylaw09.TableSizes", spec := "tableSizes", unfollowed := true, recurses := true, named := ["causey/table.static"], plainKeys := false, apart := false, laid := [("causey/table.static", laid_causey_table_static)] }
def TableSizesSaid : Prop := tableSizesRow.holds Tryd.pinned (OpenSpec.ofChange tableSizesSpec)

/-- ITS FALSE NEIGHBOUR: 'it returns false'. Refute it at one input. -/
def tableSizesWrong : ChangeSpec := { name := "tableSizes", fn := fun _ => fun
  | [d1, d2] => { results := [.lit (.bool false)], args := [d1, d2] }
  | _ => none }
def TableSizesWrongFalsely : Prop := tableSizesRow.holds Tryd.pinned (OpenSpec.ofChange tableSizesWrong)

/-- 'causeylaw09.TableFinds': WHATEVER THE INPUT: true; the input reads as it did. -/
def tableFindsSpec : ChangeSpec := { name := "tableFinds", fn := fun _ => fun
  | [d1, d2] => { results := [.lit (.bool true)], args := [d1, d2] }
  | _ => none }
def tableFindsRow : OpenClaim := { program := "ytgplkjifgagjpaadoor", sum := "677414105407e3349f5c6511c1e166f8b5f6cde1d91d0aa454cd68274ec7d8d7", func := "causey/causeylaw09.TableFinds", spec := "tableFinds", unfollowed := true, recurses := true, named := ["causey/table.static"], plainKeys := false, apart := false, laid := [("causey/table.static", laid_causey_table_static)] }
def TableFindsSaid : Prop := tableFindsRow.holds Tryd.pinned (OpenSpec.ofChange tableFindsSpec)

/-- ITS FALSE NEIGHBOUR: 'it returns false'. Refute it at one input. -/
def tableFindsWrong : ChangeSpec := { name := "tableFinds", fn := fun _ => fun
  | [d1, d2] => { results := [.lit (.bool false)], args := [d1, d2] }
  | _ => none }
def TableFindsWrongFalsely : Prop := tableFindsRow.holds Tryd.pinned (OpenSpec.ofChange tableFindsWrong)

/-- 'causeylaw09.TableOwn': WHATEVER THE INPUT: true; the input reads as it did. -/
def tableOwnSpec : ChangeSpec := { name := "tableOwn", fn := fun _ => fun
  | [d1, d2, d3] => { results := [.lit (.bool true)], args := [d1, d2, d3] }
  | _ => none }
def tableOwnRow : OpenClaim := { program := "ytgplkjifgagjpaadoor", sum := "677414105407e3349f5c6511c1e166f8b5f6cde1d91d0aa454cd68274ec7d8d7", func := "causey/causeylaw09.TableOwn", spec := "tableOwn", unfollowed := true, recurses := true, named := ["causey/table.static"], plainKeys := false, apart := false, laid := [("causey/table.static", laid_causey_table_static)] }
def TableOwnSaid : Prop := tableOwnRow.holds Tryd.pinned (OpenSpec.ofChange tableOwnSpec)

/-- ITS FALSE NEIGHBOUR: 'it returns false'. Refute it at one input. -/
def tableOwnWrong : ChangeSpec := { name := "tableOwn", fn := fun _ => fun
  | [d1, d2, d3] => { results := [.lit (.bool false)], args := [d1, d2, d3] }
  | _ => none }
def TableOwnWrongFalsely : Prop := tableOwnRow.holds Tryd.pinned (OpenSpec.ofChange tableOwnWrong)

/- THE SECOND FORM. 'bulk': how many values and letters a reading holds, each counted each time it is reached (what is shared counts as often as it is met; a slice's spare places count too). A statement '..UptoSaid' is the law's where the arguments, and the package variables that the reading takes, are together of bulk at most 1048576: NARROWER than '..Said'. Prove '..Said' where nothing that the law and all that it calls make is longer than what came in: it says more and counts as full. Else prove '..UptoSaid'. A law counts once. -/
mutual
def uptoBulk {H : Type} : DataW H → Nat
  | .lit (.string bytes) => bytes.length + 1
  | .lit _ => 1
  | .nil => 1
  | .ptr d => uptoBulk d + 1
  | .slice elems spare => uptoBulkAll elems + uptoBulkAll spare + 1
  | .agg parts => uptoBulkAll parts + 1
  | .iface _ d => uptoBulk d + 1
  | .map entries => uptoBulkEntries entries + 1
  | .held _ => 1
def uptoBulkAll {H : Type} : List (DataW H) → Nat
  | [] => 0
  | d :: r => uptoBulk d + uptoBulkAll r
def uptoBulkEntries {H : Type} : List (Lit × DataW H) → Nat
  | [] => 0
  | x :: r => uptoBulkEntry x + uptoBulkEntries r
def uptoBulkEntry {H : Type} : Lit × DataW H → Nat
  | (.string bytes, d) => bytes.length + uptoBulk d + 1
  | (_, d) => uptoBulk d + 1
 end
def uptoSmall : (H : Type) → List (DataW H) → Bool := fun _ ds => decide (uptoBulkAll ds ≤ 1048576)
def OpenSpec.upto (s : _root_.Go.ChangeSpec) : _root_.Go.OpenSpec := { _root_.Go.OpenSpec.ofChange s with cond := some uptoSmall }

/-- 'causeylaw09.TableTells', WHERE WHAT IT READS IS OF BULK AT MOST 1048576: true; the input reads as it did. -/
def tableTellsUptoRow : OpenClaim := { program := "ytgplkjifgagjpaadoor", sum := "677414105407e3349f5c6511c1e166f8b5f6cde1d91d0aa454cd68274ec7d8d7", func := "causey/causeylaw09.TableTells", spec := "tableTells", unfollowed := true, recurses := true, named := ["causey/table.static"], plainKeys := false, apart := false, laid := [("causey/table.static", laid_causey_table_static)], narrowed := true }
def TableTellsUptoSaid : Prop := tableTellsUptoRow.holds Tryd.pinned (OpenSpec.upto tableTellsSpec)

/-- 'causeylaw09.TableAdds', WHERE WHAT IT READS IS OF BULK AT MOST 1048576: true; the input reads as it did. -/
def tableAddsUptoRow : OpenClaim := { program := "ytgplkjifgagjpaadoor", sum := "677414105407e3349f5c6511c1e166f8b5f6cde1d91d0aa454cd68274ec7d8d7", func := "causey/causeylaw09.TableAdds", spec := "tableAdds", unfollowed := true, recurses := true, named := ["causey/table.static"], plainKeys := false, apart := false, laid := [("causey/table.static", laid_causey_table_static)], narrowed := true }
def TableAddsUptoSaid : Prop := tableAddsUptoRow.holds Tryd.pinned (OpenSpec.upto tableAddsSpec)

/-- 'causeylaw09.TableSizes', WHERE WHAT IT READS IS OF BULK AT MOST 1048576: true; the input reads as it did. -/
def tableSizesUptoRow : OpenClaim := { program := "ytgplkjifgagjpaadoor", sum := "677414105407e3349f5c6511c1e166f8b5f6cde1d91d0aa454cd68274ec7d8d7", func := "causey/causeylaw09.TableSizes", spec := "tableSizes", unfollowed := true, recurses := true, named := ["causey/table.static"], plainKeys := false, apart := false, laid := [("causey/table.static", laid_causey_table_static)], narrowed := true }
def TableSizesUptoSaid : Prop := tableSizesUptoRow.holds Tryd.pinned (OpenSpec.upto tableSizesSpec)

/-- 'causeylaw09.TableFinds', WHERE WHAT IT READS IS OF BULK AT MOST 1048576: true; the input reads as it did. -/
def tableFindsUptoRow : OpenClaim := { program := "ytgplkjifgagjpaadoor", sum := "677414105407e3349f5c6511c1e166f8b5f6cde1d91d0aa454cd68274ec7d8d7", func := "causey/causeylaw09.TableFinds", spec := "tableFinds", unfollowed := true, recurses := true, named := ["causey/table.static"], plainKeys := false, apart := false, laid := [("causey/table.static", laid_causey_table_static)], narrowed := true }
def TableFindsUptoSaid : Prop := tableFindsUptoRow.holds Tryd.pinned (OpenSpec.upto tableFindsSpec)

/-- 'causeylaw09.TableOwn', WHERE WHAT IT READS IS OF BULK AT MOST 1048576: true; the input reads as it did. -/
def tableOwnUptoRow : OpenClaim := { program := "ytgplkjifgagjpaadoor", sum := "677414105407e3349f5c6511c1e166f8b5f6cde1d91d0aa454cd68274ec7d8d7", func := "causey/causeylaw09.TableOwn", spec := "tableOwn", unfollowed := true, recurses := true, named := ["causey/table.static"], plainKeys := false, apart := false, laid := [("causey/table.static", laid_causey_table_static)], narrowed := true }
def TableOwnUptoSaid : Prop := tableOwnUptoRow.holds Tryd.pinned (OpenSpec.upto tableOwnSpec)

end Rows
end Go.Proofs.YtgplkjifgagjpaaDoor
