/- The document's Parse. -/
import Derived.Test.YtgkbjopgmbdnoaaFrH
import Derived.Deep.RegionHeld3
import Derived.BigRegion
namespace Go.Proofs.Ytgkbjopgmbdnoaa
open Go.RowKit Oct Fi Fm
set_option linter.unusedVariables false
set_option linter.unusedSimpArgs false
attribute [local go_sem] i64_and1 i64_and7 i64_and31

end Go.Proofs.Ytgkbjopgmbdnoaa
