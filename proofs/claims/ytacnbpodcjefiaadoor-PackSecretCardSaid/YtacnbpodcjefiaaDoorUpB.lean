/- Package unpack: texts of what is left. -/
import Derived.Test.YtacnbpodcjefiaaDoorUpA
namespace Go.Proofs.YtacnbpodcjefiaaDoor
open Go.RowKit Px Tx Tb Up
end Go.Proofs.YtacnbpodcjefiaaDoor
