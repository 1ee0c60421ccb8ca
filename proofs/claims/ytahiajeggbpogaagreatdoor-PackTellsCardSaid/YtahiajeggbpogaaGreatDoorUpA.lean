import Derived.Test.YtahiajeggbpogaaGreatDoorUpX
import Derived.Test.YtahiajeggbpogaaGreatDoorGRd
set_option maxRecDepth 100000
set_option maxHeartbeats 4000000
namespace Go.Proofs.YtahiajeggbpogaaGreatDoor
open Go.RowKit Px Tx Tb Up
set_option linter.unusedVariables false
set_option linter.unusedSimpArgs false
def Up.rdc(K:Nat)(most M:Int)(A:Option Addr)(n c:Nat)(LA:Option Addr)(ln lc:Nat):Array Value:=#[.map (some K),.int .i64 most,.int .i64 M,.slice A n c,.slice LA ln lc]
namespace Up
def rwF:Fact where
 on k:=k=6
 is w:=Hf.Rws w
 dep w w' h hz hk:=fun j v hj=>(World.cell?_of_block (hk 6 rfl)).trans (h j v hj)
theorem EnvF.rws{w:World}{fs:List Fact}{gs:List Bx}(h:EnvF w fs gs)(hm:rwF∈fs):Hf.Rws w:=(h.f _ hm).1
structure Opn (w:World) (fs:List Fact) (gs:List Bx) (i g K:Nat) (most:Int) (A:Option Addr) (n c:Nat) (LA:Option Addr) (ln lc:Nat) (s:Sta):Prop where
 e:EnvF w fs gs
 i:gs[i]? = some (g,rdc K most s.M A n c LA ln lc,64)
 f:fF A n s.xs∈fs
 l:bF LA ln s.ls∈fs
 hl:ln≤lc
 hN:LA=none→lc=0
 hA:A=none→c=0
def Cls(w:World)(fs:List Fact)(gs:List Bx)(i g K:Nat)(most:Int)(s:Sta):Prop:=
 ∃A n c LA ln lc,Opn w (fF A n s.xs::bF LA ln s.ls::fs) (gs.set i (g,rdc K most s.M A n c LA ln lc,64)) i g K most A n c LA ln lc s
section
variable {w w':World}{fs:List Fact}{gs:List Bx}{i g K:Nat}{most:Int}{A:Option Addr}{n c:Nat}{LA:Option Addr}{ln lc:Nat}{s:Sta}
theorem Opn.row(h:Opn w fs gs i g K most A n c LA ln lc s):w.heap[g]? = some (.cells (rdc K most s.M A n c LA ln lc) 64):=h.e.row i h.i
theorem Opn.bs(h:Opn w fs gs i g K most A n c LA ln lc s):Bs w w.heap.size LA ln s.ls:=h.e.bs h.l
theorem Opn.lt(h:Opn w fs gs i g K most A n c LA ln lc s):g<w.heap.size:=(Array.getElem?_eq_some_iff.1 h.row).1
theorem Opn.on(h:Opn w fs gs i g K most A n c LA ln lc s)(hb:Below w.heap.size w w'):Opn w' fs gs i g K most A n c LA ln lc s:=⟨h.e.on hb,h.i,h.f,h.l,h.hl,h.hN,h.hA⟩
theorem Opn.len(h:Opn w fs gs i g K most A n c LA ln lc s):s.ls.length=ln:=h.bs.1
end
end Up
theorem u_rest(a b:Nat)(w:World)(ha:a≤8) :
  Calls Tryz.prog 71 #[.agg #[.int .u8 (a:Int),.int .u8 (b:Int)]] w fun e w'=>e = .returned (.int .i64 ((8-a:Nat):Int))∧Below w.heap.size w w':=by
 have h1:IntKind.i64.wrap (a:Int)=(a:Int):=IntWalk.i64_in _ (by omega)
 have h2:(8:Int)-(a:Int)=((8-a:Nat):Int):=by omega
 have h3:IntKind.i64.wrap ((8:Int)-(a:Int))=((8-a:Nat):Int):=by rw[IntWalk.i64_in _ (by omega)];omega
 go_enter Tryz.func71,Tryz.ntmps71
 go_wp2
 go_ret
 exact⟨rfl,(Below.refl _ w).alloc (Nat.le_refl _) _⟩
end Go.Proofs.YtahiajeggbpogaaGreatDoor
