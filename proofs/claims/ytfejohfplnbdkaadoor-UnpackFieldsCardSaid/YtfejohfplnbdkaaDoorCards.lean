/-
  DERIVED. GIVEN WITH THE SEED: THE CARDS: each row of YtfejohfplnbdkaaDoorRows.lean that lists a variable, with what it lists TIED to the program's text (the seventh form; the later family's looks); each row that meets fmt, with fmt's text TOLD by the authors' own Lean function (tested against real Go, not proved from fmt's source: count such statements apart). THE CARD IS WHAT COUNTS. Prove the row's statement (the work); the ties are given (YtfejohfplnbdkaaDoorTie.lean); close each card by the builder's one call (the guide's Derived/Test/ToyasCard.lean, 'card_holds'). Laid BY PROGRAM, IN A SANDBOX (cutbox-door.mjs). By AI agents, Wed Nov 11 2026. No macro, syntax, notation, axiom, sorry.
-/
import Derived.Test.YtfejohfplnbdkaaDoorRows
import GoSem.ClaimSeven
namespace Go.Proofs.YtfejohfplnbdkaaDoor
namespace Rows

/-- THE TIED CARD OF 'causeylaw10.UnpackParts'. -/
def unpackPartsCard : Claim7 := { stood := { row := unpackPartsRow, standIns := [], harness := (true, "8cd49ef9c4380dec0736852aaf32c95475e08f7c6e9ebd012c84267ba29f2039"), looks := false }, kinds := [], alts := [], laidByText := true, laidKinds := [.data, .data, .wider, .data, .wider, .data, .data], laidTests := true, laidLooks := .later }
def UnpackPartsCardSaid : Prop := Claim7.holds Tryd.pinned (.plain (OpenSpec.ofChange unpackPartsSpec)) unpackPartsCard

/-- THE TIED CARD OF 'causeylaw10.UnpackFields'. -/
def unpackFieldsCard : Claim7 := { stood := { row := unpackFieldsRow, standIns := [], harness := (true, "8cd49ef9c4380dec0736852aaf32c95475e08f7c6e9ebd012c84267ba29f2039"), looks := false }, kinds := [], alts := [], laidByText := true, laidKinds := [.data, .data, .wider, .data, .wider, .data, .data], laidTests := true, laidLooks := .later }
def UnpackFieldsCardSaid : Prop := Claim7.holds Tryd.pinned (.plain (OpenSpec.ofChange unpackFieldsSpec)) unpackFieldsCard

/-- THE TIED CARD OF 'causeylaw10.UnpackSizes'. -/
def unpackSizesCard : Claim7 := { stood := { row := unpackSizesRow, standIns := [], harness := (true, "8cd49ef9c4380dec0736852aaf32c95475e08f7c6e9ebd012c84267ba29f2039"), looks := false }, kinds := [], alts := [], laidByText := true, laidKinds := [.data, .data, .wider, .data, .wider, .data, .data], laidTests := true, laidLooks := .later }
def UnpackSizesCardSaid : Prop := Claim7.holds Tryd.pinned (.plain (OpenSpec.ofChange unpackSizesSpec)) unpackSizesCard

/-- THE SECOND FORM's CARD OF 'causeylaw10.UnpackParts'. -/
def unpackPartsUptoCard : Claim7 := { stood := { row := unpackPartsUptoRow, standIns := [], harness := (true, "8cd49ef9c4380dec0736852aaf32c95475e08f7c6e9ebd012c84267ba29f2039"), looks := false }, kinds := [], alts := [], laidByText := true, laidKinds := [.data, .data, .wider, .data, .wider, .data, .data], laidTests := true, laidLooks := .later }
def UnpackPartsUptoCardSaid : Prop := Claim7.holds Tryd.pinned (.plain (OpenSpec.upto unpackPartsSpec)) unpackPartsUptoCard

/-- THE SECOND FORM's CARD OF 'causeylaw10.UnpackFields'. -/
def unpackFieldsUptoCard : Claim7 := { stood := { row := unpackFieldsUptoRow, standIns := [], harness := (true, "8cd49ef9c4380dec0736852aaf32c95475e08f7c6e9ebd012c84267ba29f2039"), looks := false }, kinds := [], alts := [], laidByText := true, laidKinds := [.data, .data, .wider, .data, .wider, .data, .data], laidTests := true, laidLooks := .later }
def UnpackFieldsUptoCardSaid : Prop := Claim7.holds Tryd.pinned (.plain (OpenSpec.upto unpackFieldsSpec)) unpackFieldsUptoCard

/-- THE SECOND FORM's CARD OF 'causeylaw10.UnpackSizes'. -/
def unpackSizesUptoCard : Claim7 := { stood := { row := unpackSizesUptoRow, standIns := [], harness := (true, "8cd49ef9c4380dec0736852aaf32c95475e08f7c6e9ebd012c84267ba29f2039"), looks := false }, kinds := [], alts := [], laidByText := true, laidKinds := [.data, .data, .wider, .data, .wider, .data, .data], laidTests := true, laidLooks := .later }
def UnpackSizesUptoCardSaid : Prop := Claim7.holds Tryd.pinned (.plain (OpenSpec.upto unpackSizesSpec)) unpackSizesUptoCard
end Rows
end Go.Proofs.YtfejohfplnbdkaaDoor
