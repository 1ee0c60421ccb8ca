import Derived.Test.YtahiajeggbpogaaGreatDoorUpL
namespace Go.Proofs.YtahiajeggbpogaaGreatDoor.Up
open Go.RowKit Px Tx Tb
set_option linter.unusedVariables false
set_option linter.unusedSimpArgs false
def FL(s:Sta)(k:Nat):List Fd:=(List.range k).map fun j=>qF (aft s j)
end Go.Proofs.YtahiajeggbpogaaGreatDoor.Up
