import Derived.Test.YtahiajeggbpogaaGreatDoorUpOp
import Derived.Test.YtahiajeggbpogaaGreatDoorUpO
import Derived.Test.YtahiajeggbpogaaGreatDoorUpR
import Derived.Test.YtahiajeggbpogaaGreatDoorTxG
set_option maxRecDepth 100000
set_option maxHeartbeats 4000000
namespace Go.Proofs.YtahiajeggbpogaaGreatDoor
open Go.RowKit Go.Shelf Px Tx Tb Up
set_option linter.unusedVariables false
set_option linter.unusedSimpArgs false
attribute [local go_sem] Oper.semAt_some
namespace Up
def opc(LA:Option Addr)(ln lc:Nat)(v:Value)(G:Bool)(M:Int)(A:Option Addr)(n c:Nat)(S:Nat)(Y:Bool):Array Value:=#[.slice LA ln lc,v,.bool G,.int .i64 M,.slice A n c,.int .i64 (S:Int),.bool Y]
structure OpL (w:World) (fs:List Fact) (gl:List Bx) (i g:Nat) (LA:Option Addr) (ln lc:Nat) (v:Value) (G:Bool) (M:Int) (A:Option Addr) (n c:Nat) (S:Nat) (Y:Bool) (xs:List Fd) (ls:List UInt8):Prop where
 e:EnvF w fs gl
 i:gl[i]? = some (g,opc LA ln lc v G M A n c S Y,67)
 f:fF A n xs∈fs
 l:bF LA ln ls∈fs
 hl:ln≤lc
 hN:LA=none→lc=0
 hA:A=none→c=0
theorem OpL.row{w:World}{fs:List Fact}{gl:List Bx}{i g:Nat}{LA:Option Addr}{ln lc:Nat}{v:Value}{G:Bool}{M:Int}{A:Option Addr}{n c S:Nat}{Y:Bool}{xs:List Fd}{ls:List UInt8}(h:OpL w fs gl i g LA ln lc v G M A n c S Y xs ls):w.heap[g]? = some (.cells (opc LA ln lc v G M A n c S Y) 67):=h.e.row i h.i
theorem OpL.on{w w':World}{fs:List Fact}{gl:List Bx}{i g:Nat}{LA:Option Addr}{ln lc:Nat}{v:Value}{G:Bool}{M:Int}{A:Option Addr}{n c S:Nat}{Y:Bool}{xs:List Fd}{ls:List UInt8}(h:OpL w fs gl i g LA ln lc v G M A n c S Y xs ls)(hb:Below w.heap.size w w'):OpL w' fs gl i g LA ln lc v G M A n c S Y xs ls:=⟨h.e.on hb,h.i,h.f,h.l,h.hl,h.hN,h.hA⟩
theorem OpL.lt{w:World}{fs:List Fact}{gl:List Bx}{i g:Nat}{LA:Option Addr}{ln lc:Nat}{v:Value}{G:Bool}{M:Int}{A:Option Addr}{n c S:Nat}{Y:Bool}{xs:List Fd}{ls:List UInt8}(h:OpL w fs gl i g LA ln lc v G M A n c S Y xs ls):g<w.heap.size:=(Array.getElem?_eq_some_iff.1 h.row).1
end Up
end Go.Proofs.YtahiajeggbpogaaGreatDoor
