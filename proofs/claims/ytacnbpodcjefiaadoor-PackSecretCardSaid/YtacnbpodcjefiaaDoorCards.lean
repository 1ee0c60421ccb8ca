/-
  DERIVED. GIVEN WITH THE SEED: THE CARDS: each row of YtacnbpodcjefiaaDoorRows.lean that lists a variable, with what it lists TIED to the program's text (the seventh form; the later family's looks); each row that meets fmt, with fmt's text TOLD by the authors' own Lean function (tested against real Go, not proved from fmt's source: count such statements apart). THE CARD IS WHAT COUNTS. Prove the row's statement (the work); the ties are given (YtacnbpodcjefiaaDoorTie.lean); close each card by the builder's one call (the guide's Derived/Test/ToyasCard.lean, 'card_holds'). Laid BY PROGRAM, IN A SANDBOX (cutbox-door.mjs). By AI agents, Wed Nov 11 2026. No macro, syntax, notation, axiom, sorry.
-/
import Derived.Test.YtacnbpodcjefiaaDoorRows
import GoSem.ClaimSeven
namespace Go.Proofs.YtacnbpodcjefiaaDoor
namespace Rows

/-- THE TIED CARD OF 'causeylaw11.PackSecret'. -/
def packSecretCard : Claim7 := { stood := { row := packSecretRow, standIns := [], harness := (true, "9b7095f885abda1556d986d2019c564138f68de32eb9e4c1fb1aedcaceacaeec"), looks := false }, kinds := [], alts := [], laidByText := true, laidKinds := [.data, .data, .wider, .data, .wider, .data, .data], laidTests := true, laidLooks := .later }
def PackSecretCardSaid : Prop := Claim7.holds Tryd.pinned (.plain (OpenSpec.ofChange packSecretSpec)) packSecretCard

/-- THE TIED CARD OF 'causeylaw11.PackParts'. -/
def packPartsCard : Claim7 := { stood := { row := packPartsRow, standIns := [], harness := (true, "9b7095f885abda1556d986d2019c564138f68de32eb9e4c1fb1aedcaceacaeec"), looks := false }, kinds := [], alts := [], laidByText := true, laidKinds := [.data, .data, .wider, .data, .wider, .data, .data], laidTests := true, laidLooks := .later }
def PackPartsCardSaid : Prop := Claim7.holds Tryd.pinned (.plain (OpenSpec.ofChange packPartsSpec)) packPartsCard

/-- THE TIED CARD OF 'causeylaw11.PackOwn'. -/
def packOwnCard : Claim7 := { stood := { row := packOwnRow, standIns := [], harness := (true, "9b7095f885abda1556d986d2019c564138f68de32eb9e4c1fb1aedcaceacaeec"), looks := false }, kinds := [], alts := [], laidByText := true, laidKinds := [.data, .data, .wider, .data, .wider, .data, .data], laidTests := true, laidLooks := .later }
def PackOwnCardSaid : Prop := Claim7.holds Tryd.pinned (.plain (OpenSpec.ofChange packOwnSpec)) packOwnCard

/-- THE SECOND FORM's CARD OF 'causeylaw11.PackSecret'. -/
def packSecretUptoCard : Claim7 := { stood := { row := packSecretUptoRow, standIns := [], harness := (true, "9b7095f885abda1556d986d2019c564138f68de32eb9e4c1fb1aedcaceacaeec"), looks := false }, kinds := [], alts := [], laidByText := true, laidKinds := [.data, .data, .wider, .data, .wider, .data, .data], laidTests := true, laidLooks := .later }
def PackSecretUptoCardSaid : Prop := Claim7.holds Tryd.pinned (.plain (OpenSpec.upto packSecretSpec)) packSecretUptoCard

/-- THE SECOND FORM's CARD OF 'causeylaw11.PackParts'. -/
def packPartsUptoCard : Claim7 := { stood := { row := packPartsUptoRow, standIns := [], harness := (true, "9b7095f885abda1556d986d2019c564138f68de32eb9e4c1fb1aedcaceacaeec"), looks := false }, kinds := [], alts := [], laidByText := true, laidKinds := [.data, .data, .wider, .data, .wider, .data, .data], laidTests := true, laidLooks := .later }
def PackPartsUptoCardSaid : Prop := Claim7.holds Tryd.pinned (.plain (OpenSpec.upto packPartsSpec)) packPartsUptoCard

/-- THE SECOND FORM's CARD OF 'causeylaw11.PackOwn'. -/
def packOwnUptoCard : Claim7 := { stood := { row := packOwnUptoRow, standIns := [], harness := (true, "9b7095f885abda1556d986d2019c564138f68de32eb9e4c1fb1aedcaceacaeec"), looks := false }, kinds := [], alts := [], laidByText := true, laidKinds := [.data, .data, .wider, .data, .wider, .data, .data], laidTests := true, laidLooks := .later }
def PackOwnUptoCardSaid : Prop := Claim7.holds Tryd.pinned (.plain (OpenSpec.upto packOwnSpec)) packOwnUptoCard
end Rows
end Go.Proofs.YtacnbpodcjefiaaDoor
