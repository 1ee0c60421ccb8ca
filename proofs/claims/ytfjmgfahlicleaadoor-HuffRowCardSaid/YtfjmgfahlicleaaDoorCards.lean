/-
  DERIVED. GIVEN WITH THE SEED: THE CARDS: each row of YtfjmgfahlicleaaDoorRows.lean that lists a variable, with what it lists TIED to the program's text (the seventh form; the later family's looks); each row that meets fmt, with fmt's text TOLD by the authors' own Lean function (tested against real Go, not proved from fmt's source: count such statements apart). THE CARD IS WHAT COUNTS. Prove the row's statement (the work); the ties are given (YtfjmgfahlicleaaDoorTie.lean); close each card by the builder's one call (the guide's Derived/Test/ToyasCard.lean, 'card_holds'). Laid BY PROGRAM, IN A SANDBOX (cutbox-door.mjs). By AI agents, Wed Nov 11 2026. No macro, syntax, notation, axiom, sorry.
-/
import Derived.Test.YtfjmgfahlicleaaDoorRows
import GoSem.ClaimSeven
namespace Go.Proofs.YtfjmgfahlicleaaDoor
namespace Rows

/-- THE TIED CARD OF 'causeylaw07.HuffTells'. -/
def huffTellsCard : Claim7 := { stood := { row := huffTellsRow, standIns := [], harness := (true, "ddfb5236bd79fa363e62c9011ef6dcfb196b4ac124843686f84df40bfa42fd9c"), looks := false }, kinds := [], alts := [], laidByText := true, laidKinds := [.data], laidTests := true, laidLooks := .later }
def HuffTellsCardSaid : Prop := Claim7.holds Tryd.pinned (.plain (OpenSpec.ofChange huffTellsSpec)) huffTellsCard

/-- THE TIED CARD OF 'causeylaw07.HuffApart'. -/
def huffApartCard : Claim7 := { stood := { row := huffApartRow, standIns := [], harness := (true, "ddfb5236bd79fa363e62c9011ef6dcfb196b4ac124843686f84df40bfa42fd9c"), looks := false }, kinds := [], alts := [], laidByText := true, laidKinds := [.data], laidTests := true, laidLooks := .later }
def HuffApartCardSaid : Prop := Claim7.holds Tryd.pinned (.plain (OpenSpec.ofChange huffApartSpec)) huffApartCard

/-- THE TIED CARD OF 'causeylaw07.HuffBack'. -/
def huffBackCard : Claim7 := { stood := { row := huffBackRow, standIns := [], harness := (true, "ddfb5236bd79fa363e62c9011ef6dcfb196b4ac124843686f84df40bfa42fd9c"), looks := false }, kinds := [], alts := [], laidByText := true, laidKinds := [.data], laidTests := true, laidLooks := .later }
def HuffBackCardSaid : Prop := Claim7.holds Tryd.pinned (.plain (OpenSpec.ofChange huffBackSpec)) huffBackCard

/-- THE TIED CARD OF 'causeylaw07.HuffRow'. -/
def huffRowCard : Claim7 := { stood := { row := huffRowRow, standIns := [], harness := (true, "ddfb5236bd79fa363e62c9011ef6dcfb196b4ac124843686f84df40bfa42fd9c"), looks := false }, kinds := [], alts := [], laidByText := true, laidKinds := [.data], laidTests := true, laidLooks := .later }
def HuffRowCardSaid : Prop := Claim7.holds Tryd.pinned (.plain (OpenSpec.ofChange huffRowSpec)) huffRowCard

/-- THE TIED CARD OF 'causeylaw07.HuffMore'. -/
def huffMoreCard : Claim7 := { stood := { row := huffMoreRow, standIns := [], harness := (true, "ddfb5236bd79fa363e62c9011ef6dcfb196b4ac124843686f84df40bfa42fd9c"), looks := false }, kinds := [], alts := [], laidByText := true, laidKinds := [.data], laidTests := true, laidLooks := .later }
def HuffMoreCardSaid : Prop := Claim7.holds Tryd.pinned (.plain (OpenSpec.ofChange huffMoreSpec)) huffMoreCard

/-- THE SECOND FORM's CARD OF 'causeylaw07.HuffTells'. -/
def huffTellsUptoCard : Claim7 := { stood := { row := huffTellsUptoRow, standIns := [], harness := (true, "ddfb5236bd79fa363e62c9011ef6dcfb196b4ac124843686f84df40bfa42fd9c"), looks := false }, kinds := [], alts := [], laidByText := true, laidKinds := [.data], laidTests := true, laidLooks := .later }
def HuffTellsUptoCardSaid : Prop := Claim7.holds Tryd.pinned (.plain (OpenSpec.upto huffTellsSpec)) huffTellsUptoCard

/-- THE SECOND FORM's CARD OF 'causeylaw07.HuffApart'. -/
def huffApartUptoCard : Claim7 := { stood := { row := huffApartUptoRow, standIns := [], harness := (true, "ddfb5236bd79fa363e62c9011ef6dcfb196b4ac124843686f84df40bfa42fd9c"), looks := false }, kinds := [], alts := [], laidByText := true, laidKinds := [.data], laidTests := true, laidLooks := .later }
def HuffApartUptoCardSaid : Prop := Claim7.holds Tryd.pinned (.plain (OpenSpec.upto huffApartSpec)) huffApartUptoCard

/-- THE SECOND FORM's CARD OF 'causeylaw07.HuffBack'. -/
def huffBackUptoCard : Claim7 := { stood := { row := huffBackUptoRow, standIns := [], harness := (true, "ddfb5236bd79fa363e62c9011ef6dcfb196b4ac124843686f84df40bfa42fd9c"), looks := false }, kinds := [], alts := [], laidByText := true, laidKinds := [.data], laidTests := true, laidLooks := .later }
def HuffBackUptoCardSaid : Prop := Claim7.holds Tryd.pinned (.plain (OpenSpec.upto huffBackSpec)) huffBackUptoCard

/-- THE SECOND FORM's CARD OF 'causeylaw07.HuffRow'. -/
def huffRowUptoCard : Claim7 := { stood := { row := huffRowUptoRow, standIns := [], harness := (true, "ddfb5236bd79fa363e62c9011ef6dcfb196b4ac124843686f84df40bfa42fd9c"), looks := false }, kinds := [], alts := [], laidByText := true, laidKinds := [.data], laidTests := true, laidLooks := .later }
def HuffRowUptoCardSaid : Prop := Claim7.holds Tryd.pinned (.plain (OpenSpec.upto huffRowSpec)) huffRowUptoCard

/-- THE SECOND FORM's CARD OF 'causeylaw07.HuffMore'. -/
def huffMoreUptoCard : Claim7 := { stood := { row := huffMoreUptoRow, standIns := [], harness := (true, "ddfb5236bd79fa363e62c9011ef6dcfb196b4ac124843686f84df40bfa42fd9c"), looks := false }, kinds := [], alts := [], laidByText := true, laidKinds := [.data], laidTests := true, laidLooks := .later }
def HuffMoreUptoCardSaid : Prop := Claim7.holds Tryd.pinned (.plain (OpenSpec.upto huffMoreSpec)) huffMoreUptoCard
end Rows
end Go.Proofs.YtfjmgfahlicleaaDoor
