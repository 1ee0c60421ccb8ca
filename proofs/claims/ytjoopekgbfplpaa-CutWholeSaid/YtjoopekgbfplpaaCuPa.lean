/- CutParts: region 5, which draws its order. -/
import Derived.Test.YtjoopekgbfplpaaCuWm
import Derived.Test.YtjoopekgbfplpaaCuP
namespace Go.Proofs.Ytjoopekgbfplpaa
open Go.RowKit Oct Cu Go.Shelf
end Go.Proofs.Ytjoopekgbfplpaa
