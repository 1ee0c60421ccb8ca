import Derived.Test.YtahiajeggbpogaaGreatDoorUpK
import Derived.Test.YtahiajeggbpogaaGreatDoorGJoint
set_option maxRecDepth 100000
set_option maxHeartbeats 4000000
namespace Go.Proofs.YtahiajeggbpogaaGreatDoor
open Go.RowKit Go.Shelf Px Tx Tb Up
set_option linter.unusedVariables false
set_option linter.unusedSimpArgs false
attribute [local go_sem] Oper.semAt_some
namespace Up
def aft(s:Sta):Nat→Sta
 | 0=>s
 | k+1=>qS (aft s k)
def Acc(g K B1:Nat)(most:Int)(s:Sta)(W:World)(Kn:Sta→World→Prop):Prop:=
 ∃fs gs i A n c LA ln lc,Opn W fs gs i g K most A n c LA ln lc s∧kF K∈fs∧rwF∈fs∧stF∈fs∧(∃j:Nat,gs[j]? = some (B1,#[.pointer (some ⟨g,0,none⟩)],55)∧j≠i)∧∀s' W',W.grownBy W' (some g)→Cls W' fs gs i g K most s'→Kn s' W'
theorem Cls.on{w w':World}{fs:List Fact}{gs:List Bx}{i g K:Nat}{most:Int}{s:Sta}(h:Cls w fs gs i g K most s)(hb:Below w.heap.size w w'):Cls w' fs gs i g K most s:=by
 obtain⟨A,n,c,LA,ln,lc,h⟩:=h
 exact⟨A,n,c,LA,ln,lc,h.on hb⟩
def okS(s0:Sta)(k:Nat):Prop:=∀j,j<k→(aft s0 j).ls≠[]∧qE (aft s0 j)=0
end Up
end Go.Proofs.YtahiajeggbpogaaGreatDoor
