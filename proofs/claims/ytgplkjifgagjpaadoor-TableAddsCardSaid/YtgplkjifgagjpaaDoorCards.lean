/-
  DERIVED. GIVEN WITH THE SEED: THE CARDS: each row of YtgplkjifgagjpaaDoorRows.lean that lists a variable, with what it lists TIED to the program's text (the seventh form; the later family's looks); each row that meets fmt, with fmt's text TOLD by the authors' own Lean function (tested against real Go, not proved from fmt's source: count such statements apart). THE CARD IS WHAT COUNTS. Prove the row's statement (the work); the ties are given (YtgplkjifgagjpaaDoorTie.lean); close each card by the builder's one call (the guide's Derived/Test/ToyasCard.lean, 'card_holds'). Laid BY PROGRAM, IN A SANDBOX (cutbox-door.mjs). By AI agents, Wed Nov 11 2026. No macro, syntax, notation, axiom, sorry.
-/
import Derived.Test.YtgplkjifgagjpaaDoorRows
import GoSem.ClaimSeven
namespace Go.Proofs.YtgplkjifgagjpaaDoor
namespace Rows

/-- THE TIED CARD OF 'causeylaw09.TableTells'. -/
def tableTellsCard : Claim7 := { stood := { row := tableTellsRow, standIns := [], harness := (true, "20519197f8b56b9ceb0f69f2132ee4b7cb4e4fcaaef3e3371fe264d8049a8744"), looks := false }, kinds := [], alts := [], laidByText := true, laidKinds := [.data], laidTests := true, laidLooks := .later }
def TableTellsCardSaid : Prop := Claim7.holds Tryd.pinned (.plain (OpenSpec.ofChange tableTellsSpec)) tableTellsCard

/-- THE TIED CARD OF 'causeylaw09.TableAdds'. -/
def tableAddsCard : Claim7 := { stood := { row := tableAddsRow, standIns := [], harness := (true, "20519197f8b56b9ceb0f69f2132ee4b7cb4e4fcaaef3e3371fe264d8049a8744"), looks := false }, kinds := [], alts := [], laidByText := true, laidKinds := [.data], laidTests := true, laidLooks := .later }
def TableAddsCardSaid : Prop := Claim7.holds Tryd.pinned (.plain (OpenSpec.ofChange tableAddsSpec)) tableAddsCard

/-- THE TIED CARD OF 'causeylaw09.TableSizes'. -/
def tableSizesCard : Claim7 := { stood := { row := tableSizesRow, standIns := [], harness := (true, "20519197f8b56b9ceb0f69f2132ee4b7cb4e4fcaaef3e3371fe264d8049a8744"), looks := false }, kinds := [], alts := [], laidByText := true, laidKinds := [.data], laidTests := true, laidLooks := .later }
def TableSizesCardSaid : Prop := Claim7.holds Tryd.pinned (.plain (OpenSpec.ofChange tableSizesSpec)) tableSizesCard

/-- THE TIED CARD OF 'causeylaw09.TableFinds'. -/
def tableFindsCard : Claim7 := { stood := { row := tableFindsRow, standIns := [], harness := (true, "20519197f8b56b9ceb0f69f2132ee4b7cb4e4fcaaef3e3371fe264d8049a8744"), looks := false }, kinds := [], alts := [], laidByText := true, laidKinds := [.data], laidTests := true, laidLooks := .later }
def TableFindsCardSaid : Prop := Claim7.holds Tryd.pinned (.plain (OpenSpec.ofChange tableFindsSpec)) tableFindsCard

/-- THE TIED CARD OF 'causeylaw09.TableOwn'. -/
def tableOwnCard : Claim7 := { stood := { row := tableOwnRow, standIns := [], harness := (true, "20519197f8b56b9ceb0f69f2132ee4b7cb4e4fcaaef3e3371fe264d8049a8744"), looks := false }, kinds := [], alts := [], laidByText := true, laidKinds := [.data], laidTests := true, laidLooks := .later }
def TableOwnCardSaid : Prop := Claim7.holds Tryd.pinned (.plain (OpenSpec.ofChange tableOwnSpec)) tableOwnCard

/-- THE SECOND FORM's CARD OF 'causeylaw09.TableTells'. -/
def tableTellsUptoCard : Claim7 := { stood := { row := tableTellsUptoRow, standIns := [], harness := (true, "20519197f8b56b9ceb0f69f2132ee4b7cb4e4fcaaef3e3371fe264d8049a8744"), looks := false }, kinds := [], alts := [], laidByText := true, laidKinds := [.data], laidTests := true, laidLooks := .later }
def TableTellsUptoCardSaid : Prop := Claim7.holds Tryd.pinned (.plain (OpenSpec.upto tableTellsSpec)) tableTellsUptoCard

/-- THE SECOND FORM's CARD OF 'causeylaw09.TableAdds'. -/
def tableAddsUptoCard : Claim7 := { stood := { row := tableAddsUptoRow, standIns := [], harness := (true, "20519197f8b56b9ceb0f69f2132ee4b7cb4e4fcaaef3e3371fe264d8049a8744"), looks := false }, kinds := [], alts := [], laidByText := true, laidKinds := [.data], laidTests := true, laidLooks := .later }
def TableAddsUptoCardSaid : Prop := Claim7.holds Tryd.pinned (.plain (OpenSpec.upto tableAddsSpec)) tableAddsUptoCard

/-- THE SECOND FORM's CARD OF 'causeylaw09.TableSizes'. -/
def tableSizesUptoCard : Claim7 := { stood := { row := tableSizesUptoRow, standIns := [], harness := (true, "20519197f8b56b9ceb0f69f2132ee4b7cb4e4fcaaef3e3371fe264d8049a8744"), looks := false }, kinds := [], alts := [], laidByText := true, laidKinds := [.data], laidTests := true, laidLooks := .later }
def TableSizesUptoCardSaid : Prop := Claim7.holds Tryd.pinned (.plain (OpenSpec.upto tableSizesSpec)) tableSizesUptoCard

/-- THE SECOND FORM's CARD OF 'causeylaw09.TableFinds'. -/
def tableFindsUptoCard : Claim7 := { stood := { row := tableFindsUptoRow, standIns := [], harness := (true, "20519197f8b56b9ceb0f69f2132ee4b7cb4e4fcaaef3e3371fe264d8049a8744"), looks := false }, kinds := [], alts := [], laidByText := true, laidKinds := [.data], laidTests := true, laidLooks := .later }
def TableFindsUptoCardSaid : Prop := Claim7.holds Tryd.pinned (.plain (OpenSpec.upto tableFindsSpec)) tableFindsUptoCard

/-- THE SECOND FORM's CARD OF 'causeylaw09.TableOwn'. -/
def tableOwnUptoCard : Claim7 := { stood := { row := tableOwnUptoRow, standIns := [], harness := (true, "20519197f8b56b9ceb0f69f2132ee4b7cb4e4fcaaef3e3371fe264d8049a8744"), looks := false }, kinds := [], alts := [], laidByText := true, laidKinds := [.data], laidTests := true, laidLooks := .later }
def TableOwnUptoCardSaid : Prop := Claim7.holds Tryd.pinned (.plain (OpenSpec.upto tableOwnSpec)) tableOwnUptoCard
end Rows
end Go.Proofs.YtgplkjifgagjpaaDoor
