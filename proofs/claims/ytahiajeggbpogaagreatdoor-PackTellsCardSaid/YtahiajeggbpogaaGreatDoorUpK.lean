import Derived.Test.YtahiajeggbpogaaGreatDoorUpF
set_option maxRecDepth 100000
set_option maxHeartbeats 4000000
namespace Go.Proofs.YtahiajeggbpogaaGreatDoor
open Go.RowKit Px Tx Tb Up
set_option linter.unusedVariables false
set_option linter.unusedSimpArgs false
namespace Up
def lenAt(w:World)(g:Nat):Nat:=match w.cell? ⟨g,4,none⟩ with
 | some (.slice _ n _)=>n
 | _=>0
theorem Opn.lenAt{w:World}{fs:List Fact}{gs:List Bx}{i g K:Nat}{most:Int}{A:Option Addr}{n c:Nat}{LA:Option Addr}{ln lc:Nat}{s:Sta}(h:Opn w fs gs i g K most A n c LA ln lc s):lenAt w g=ln:=by
 have:w.cell? ⟨g,4,none⟩=some (.slice LA ln lc):=by rw[cell_of_row w g 4 _ _ (0,0) h.row];rfl
 unfold Up.lenAt
 rw[this]
end Up
end Go.Proofs.YtahiajeggbpogaaGreatDoor
