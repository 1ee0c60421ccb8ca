import Derived.Test.YtahiajeggbpogaaGreatDoorUpA
import Derived.Test.YtahiajeggbpogaaGreatDoorGRd
set_option maxRecDepth 100000
set_option maxHeartbeats 4000000
namespace Go.Proofs.YtahiajeggbpogaaGreatDoor
open Go.RowKit Px Tx Tb Up
set_option linter.unusedVariables false
set_option linter.unusedSimpArgs false
namespace Up
section
variable {w w':World}{fs fs':List Fact}{gs gs':List Bx}{i i' g K:Nat}{most:Int}{A:Option Addr}{n c:Nat}{LA:Option Addr}{ln lc:Nat}{s:Sta}
theorem Opn.boxg(h:Opn w fs gs i g K most A n c LA ln lc s)(t:TypeId)(cs:Array Value)(b:Nat)(hb:w.heap.size=b):Opn (w.alloc (.cells cs t)) fs ((b,cs,t)::gs) (i+1) g K most A n c LA ln lc s:=
 ⟨h.e.boxg t cs b hb,h.i,h.f,h.l,h.hl,h.hN,h.hA⟩
theorem Opn.turn(h:Opn w fs gs i g K most A n c LA ln lc s)(j:Nat){b:Nat}{old cs:Array Value}{t:TypeId}(hj:gs[j]? = some (b,old,t))(hne:j≠i)(hrow:w'.heap[b]? = some (.cells cs t))(hoth : ∀k,k≠b→w'.heap[k]? = w.heap[k]?)(hz:w'.heap.size=w.heap.size) :
  Opn w' fs (gs.set j (b,cs,t)) i g K most A n c LA ln lc s:=
 ⟨h.e.turn j hj hrow hoth hz,by rw[List.getElem?_set_ne hne];exact h.i,h.f,h.l,h.hl,h.hN,h.hA⟩
end
end Up
end Go.Proofs.YtahiajeggbpogaaGreatDoor
