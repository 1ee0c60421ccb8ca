/- The document's Own: a frame in memory of its own. -/
import Derived.Test.YtbflhphjnmhjhaaGreatMi
namespace Go.Proofs.YtbflhphjnmhjhaaGreat
open Go.RowKit Oct Fi Fm
set_option linter.unusedVariables false
set_option linter.unusedSimpArgs false
attribute [local go_sem] i64_and1 i64_and7 i64_and31

end Go.Proofs.YtbflhphjnmhjhaaGreat
