/- The document's inner: what stands in a payload of as many bytes as its kind wants. -/
import Derived.Test.YtgkbjopgmbdnoaaFrE
namespace Go.Proofs.Ytgkbjopgmbdnoaa
open Go.RowKit Oct Fi Fm
set_option linter.unusedVariables false
set_option linter.unusedSimpArgs false
attribute [local go_sem] i64_and1 i64_and7 i64_and31

end Go.Proofs.Ytgkbjopgmbdnoaa
