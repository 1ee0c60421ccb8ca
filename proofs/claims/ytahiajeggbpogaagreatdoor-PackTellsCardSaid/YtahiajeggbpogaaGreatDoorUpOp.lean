import Derived.Test.YtahiajeggbpogaaGreatDoorUpR
import Derived.Test.YtahiajeggbpogaaGreatDoorUpO
namespace Go.Proofs.YtahiajeggbpogaaGreatDoor.Up
open Go.RowKit Px Tx Tb
set_option linter.unusedVariables false
set_option linter.unusedSimpArgs false
def oZ(s:Sta)(L:List Fd):Prop:=kk (hd s.ls)=3∧L=[]
instance (s:Sta) (L:List Fd):Decidable (oZ s L):=by unfold oZ;infer_instance
def oL(s:Sta)(L:List Fd):List Fd:=if oZ s L then L else L++[qF s]
end Go.Proofs.YtahiajeggbpogaaGreatDoor.Up
