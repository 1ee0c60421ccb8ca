import Derived.Test.YtahiajeggbpogaaGreatDoorMTx
import Derived.Test.YtahiajeggbpogaaGreatDoorMTb
namespace Go.Proofs.YtahiajeggbpogaaGreatDoor.Up
open Go.RowKit Px Tx Tb
set_option linter.unusedVariables false
set_option linter.unusedSimpArgs false
def st(l:List UInt8):ByteArray:=⟨l.toArray⟩
def nC(ls:List UInt8)(k:Nat):Nat:=(takeN ls k).1
def nV(ls:List UInt8)(k:Nat):Nat:=(takeN ls k).2.1
def nU(ls:List UInt8)(k:Nat):Nat:=if nC ls k=0 then (takeN ls k).2.2 else min 7 ls.length
def nR(ls:List UInt8)(k:Nat):List UInt8:=ls.drop (nU ls k)
def tU(ls:List UInt8):Nat:=min ((takeN ls 7).2.2+nT ls) ls.length
def tRs(ls:List UInt8):List UInt8:=if cT ls=0 then ls.drop (tU ls) else ls
end Go.Proofs.YtahiajeggbpogaaGreatDoor.Up
namespace Go.Proofs.YtahiajeggbpogaaGreatDoor.Up
open Go.RowKit Px Tx Tb
structure Sta where
 M:Int
 xs:List Fd
 ls:List UInt8
def hd(ls:List UInt8):UInt8:=ls.headD 0
def kb(x:UInt8):Nat:=if 128≤x.toNat then 7 else if 64≤x.toNat then 6 else if 32≤x.toNat then 5 else 4
def kk(x:UInt8):Nat:=if 128≤x.toNat then 1 else if 64≤x.toNat then 2 else if 32≤x.toNat then 3 else 4
def owE(xs:List Fd)(ls:List UInt8)(i:Nat):Int:=if i=0 then (if tE ls=0 then tE (tRs ls) else tE ls) else if atE xs i=0 then tE ls else atE xs i
def owF(xs:List Fd)(ls:List UInt8)(i:Nat):Fd:=if i=0 then (st (tS ls),if tE ls=0 then st (tS (tRs ls)) else st []) else if atE xs i=0 then ((atV xs i).1,st (tS ls)) else atV xs i
def owR(xs:List Fd)(ls:List UInt8)(i:Nat):List UInt8:=if i=0 then (if tE ls=0 then tRs (tRs ls) else tRs ls) else if atE xs i=0 then tRs ls else ls
def qC(s:Sta):Nat:=nC s.ls (kb (hd s.ls))
def qV(s:Sta):Nat:=nV s.ls (kb (hd s.ls))
def qR(s:Sta):List UInt8:=nR s.ls (kb (hd s.ls))
def qE(s:Sta):Int:=
 if qC s≠0 then (qC s:Int) else if kk (hd s.ls)=1 then atE s.xs (qV s) else if kk (hd s.ls)=3 then 100 else
 if owE s.xs (qR s) (qV s)=0∧kk (hd s.ls)=2 then addE s.M s.xs else owE s.xs (qR s) (qV s)
def qF(s:Sta):Fd:=
 if qC s≠0 then fd0 else if kk (hd s.ls)=1 then atV s.xs (qV s) else if kk (hd s.ls)=3 then fd0 else owF s.xs (qR s) (qV s)
def qS(s:Sta):Sta:=
 if qC s≠0 then ⟨s.M,s.xs,qR s⟩ else if kk (hd s.ls)=1 then ⟨s.M,s.xs,qR s⟩ else if kk (hd s.ls)=3 then ⟨s.M,s.xs,qR s⟩ else
 if owE s.xs (qR s) (qV s)=0∧kk (hd s.ls)=2 then ⟨addM s.M s.xs,addL s.M s.xs (owF s.xs (qR s) (qV s)),owR s.xs (qR s) (qV s)⟩ else ⟨s.M,s.xs,owR s.xs (qR s) (qV s)⟩
def zE(most:Int)(s:Sta):Int:=if qC s≠0 then (qC s:Int) else if most<(qV s:Int) then 100 else resE s.M s.xs (qV s)
def zS(most:Int)(s:Sta):Sta:=if qC s≠0 then ⟨s.M,s.xs,qR s⟩ else if most<(qV s:Int) then ⟨s.M,s.xs,qR s⟩ else ⟨resM s.M s.xs (qV s),resL s.M s.xs (qV s),qR s⟩
def zs(most:Int):Nat→Sta→Int×Sta
 | 0,s=>(0,s)
 | k+1,s=>if s.ls=[]∨kk (hd s.ls)≠3 then (0,s) else if zE most s≠0 then (zE most s,zS most s) else zs most k (zS most s)
def rn:Nat→Sta→Int×List Fd×Sta
 | 0,s=>(0,[],s)
 | k+1,s=>if s.ls=[] then (0,[],s) else if qE s≠0 then (qE s,[],qS s) else ((rn k (qS s)).1,qF s::(rn k (qS s)).2.1,(rn k (qS s)).2.2)
def bZ(most:Int)(s:Sta):Int×Sta:=zs most s.ls.length s
def bN(most:Int)(s:Sta):Int×List Fd×Sta:=rn s.ls.length (bZ most s).2
def okA(M most:Int)(xs:List Fd):Bool:=rightB M xs&&okB most
def bE(M most:Int)(xs:List Fd)(ls:List UInt8):Int:=if okA M most xs=false then 2 else if (bZ most ⟨M,xs,ls⟩).1≠0 then (bZ most ⟨M,xs,ls⟩).1 else (bN most ⟨M,xs,ls⟩).1
def bAll(M most:Int)(xs:List Fd)(ls:List UInt8):List Fd:=(bN most ⟨M,xs,ls⟩).2.1
def bL(M most:Int)(xs:List Fd)(ls:List UInt8):List Fd:=if bE M most xs ls=0 then keep 2000 (bAll M most xs ls) else []
def bG(M most:Int)(xs:List Fd)(ls:List UInt8):Bool:=decide (bE M most xs ls=0)&&decide (2000<full (bAll M most xs ls))
def bM(M most:Int)(xs:List Fd)(ls:List UInt8):Int:=if bE M most xs ls=0 then (bN most ⟨M,xs,ls⟩).2.2.M else 0
def bX(M most:Int)(xs:List Fd)(ls:List UInt8):List Fd:=if bE M most xs ls=0 then (bN most ⟨M,xs,ls⟩).2.2.xs else []
end Go.Proofs.YtahiajeggbpogaaGreatDoor.Up
